import Derived.Test.YtccoobcggbbciamHJ2
namespace Go.Proofs.Ytccoobcggbbciam
open Go.ChangeShapes Go.WideShapes Go.ChangeAt Go.RowKit

/- Chapter 18, pure: how chains are played. -/
structure Pc where
  cm : Int
  si : Int
  lf : Int
def Pc.vals (x : Pc) : List Value := [.int .i64 x.cm, .int .i64 x.si, .int .i64 x.lf]
theorem Pc.len (x : Pc) : x.vals.length = 3 := rfl
theorem Pc.one {x : Pc} {u : Value} (h : u ∈ x.vals) : u.oneCell' = true := by
  simp only [Pc.vals, List.mem_cons, List.not_mem_nil, or_false] at h
  rcases h with rfl | rfl | rfl <;> rfl
structure Sc where
  jobs : List (List Pc)
  mail : List (List Pc)
  un : Int
  ends : List (List Int)

/-- How long the job of a part works for a coming. -/
def wkF (l : List Pa) (tk : List Int) (part cm : Nat) : Int :=
  if tk.length = 0 then (l.getD part paZ).c else 1 + tk.getD ((cm * l.length + part) % tk.length) 0 % (l.getD part paZ).c
def addJ (l : List Pa) (tk : List Int) (s : Sc) (part cm : Nat) (now : Int) : Sc := { s with jobs := s.jobs.set part (s.jobs.getD part [] ++ [⟨cm, now, wkF l tk part cm⟩]) }
def addM (l : List Pa) (s : Sc) (part cm : Nat) (now : Int) : Sc := { s with mail := s.mail.set part (s.mail.getD part [] ++ [⟨cm, now, (l.getD part paZ).se⟩]) }
/-- The first piece goes on for a tick. -/
def runQ : List Pc → List Pc
  | [] => []
  | p :: r => if 0 < p.lf - 1 then { p with lf := p.lf - 1 } :: r else r
def runC : List Pc → Nat
  | [] => 0
  | p :: _ => p.cm.toNat
def runD : List Pc → Bool
  | [] => false
  | p :: _ => !decide (0 < p.lf - 1)
def headS : List Pc → Int
  | [] => 0
  | p :: _ => p.si
def aheadQ (l : List Pa) (jobs : List (List Pc)) (a b : Nat) : Bool :=
  if (l.getD a paZ).p ≠ (l.getD b paZ).p then decide ((l.getD b paZ).p < (l.getD a paZ).p) else decide (headS (jobs.getD a []) < headS (jobs.getD b []))
def stepFirst (l : List Pa) (jobs : List (List Pc)) (fs : List Int) (part : Nat) : List Int :=
  if jobs.getD part [] ≠ [] ∧ (fs.getD (l.getD part paZ).co.toNat 0 = -1 ∨ aheadQ l jobs part (fs.getD (l.getD part paZ).co.toNat 0).toNat = true) then fs.set (l.getD part paZ).co.toNat part else fs
def firstsTo (l : List Pa) (jobs : List (List Pc)) : Nat → List Int
  | 0 => [-1, -1, -1, -1]
  | k + 1 => stepFirst l jobs (firstsTo l jobs k) k
/-- The part to which a message goes on. -/
def firstM : List (List Pc) → Nat → Int
  | [], _ => -1
  | q :: r, k => if q ≠ [] then k else firstM r (k + 1)
def sentF (s : Sc) : Int := if s.un = -1 then firstM s.mail 0 else s.un
def doneStep (l : List Pa) (tk : List Int) (part cm : Nat) (now : Int) (s : Sc) (k : Nat) : Sc :=
  if (l.getD k paZ).fr ≠ part then s else if (l.getD k paZ).se = 0 then addJ l tk s k cm now else addM l s k cm now
def doneTo (l : List Pa) (tk : List Int) (part cm : Nat) (now : Int) (s : Sc) : Nat → Sc
  | 0 => { s with ends := s.ends.set cm ((s.ends.getD cm []).set part now) }
  | k + 1 => doneStep l tk part cm now (doneTo l tk part cm now s k) k
def coreStep (l : List Pa) (tk : List Int) (now : Int) (s : Sc) (part : Int) : Sc :=
  if part = -1 then s
  else if runD (s.jobs.getD part.toNat []) = true then doneTo l tk part.toNat (runC (s.jobs.getD part.toNat [])) (now + 1) { s with jobs := s.jobs.set part.toNat (runQ (s.jobs.getD part.toNat [])) } l.length
  else { s with jobs := s.jobs.set part.toNat (runQ (s.jobs.getD part.toNat [])) }
def coresTo (l : List Pa) (tk : List Int) (now : Int) (fs : List Int) (s : Sc) : Nat → Sc
  | 0 => s
  | c + 1 => coreStep l tk now (coresTo l tk now fs s c) (fs.getD c 0)
def mailStep (l : List Pa) (tk : List Int) (now : Int) (s : Sc) (sent : Int) : Sc :=
  if sent = -1 then s
  else if runD (s.mail.getD sent.toNat []) = true then addJ l tk { s with mail := s.mail.set sent.toNat (runQ (s.mail.getD sent.toNat [])), un := -1 } sent.toNat (runC (s.mail.getD sent.toNat [])) (now + 1)
  else { s with mail := s.mail.set sent.toNat (runQ (s.mail.getD sent.toNat [])) }
def tickF (l : List Pa) (tk : List Int) (s : Sc) (now : Int) : Sc :=
  mailStep l tk now (coresTo l tk now (firstsTo l s.jobs l.length) { s with un := sentF s } 4) (sentF s)
def comeF (l : List Pa) (tk : List Int) (cs : List Co) (now : Int) : List Nat → Sc → List Nat × Sc
  | [], s => ([], s)
  | k :: r, s => if (cs.getD k ⟨0, 0⟩).a = now then comeF l tk cs now r (addJ l tk s (cs.getD k ⟨0, 0⟩).k.toNat k now) else (k :: r, s)
def scene0 (n m : Nat) : Sc := ⟨List.replicate n [], List.replicate n [], -1, List.replicate m (List.replicate n (-1))⟩
def playTo (l : List Pa) (tk : List Int) (cs : List Co) (ord : List Nat) : Nat → List Nat × Sc
  | 0 => (ord, scene0 l.length cs.length)
  | t + 1 => ((comeF l tk cs t (playTo l tk cs ord t).1 (playTo l tk cs ord t).2).1, tickF l tk (comeF l tk cs t (playTo l tk cs ord t).1 (playTo l tk cs ord t).2).2 t)

/-- What holds of a scene. -/
structure SOk (l : List Pa) (m K : Nat) (s : Sc) : Prop where
  lj : s.jobs.length = l.length
  lm : s.mail.length = l.length
  le : s.ends.length = m
  er : ∀ (i : Nat) (r : List Int), s.ends[i]? = some r → r.length = l.length
  pj : ∀ (i : Nat) (q : List Pc), s.jobs[i]? = some q → q.length ≤ K ∧ ∀ p ∈ q, 0 ≤ p.cm ∧ p.cm < m ∧ 1 ≤ p.lf ∧ p.lf ≤ 10000
  pm : ∀ (i : Nat) (q : List Pc), s.mail[i]? = some q → q.length ≤ K ∧ ∀ p ∈ q, 0 ≤ p.cm ∧ p.cm < m ∧ 1 ≤ p.lf ∧ p.lf ≤ 10000
  un : s.un = -1 ∨ ∃ u : Nat, s.un = u ∧ u < l.length ∧ s.mail.getD u [] ≠ []

theorem SOk.mono {l : List Pa} {m K K' : Nat} {s : Sc} (h : SOk l m K s) (hk : K ≤ K') : SOk l m K' s :=
  ⟨h.lj, h.lm, h.le, h.er, fun i q hq => ⟨Nat.le_trans (h.pj i q hq).1 hk, (h.pj i q hq).2⟩, fun i q hq => ⟨Nat.le_trans (h.pm i q hq).1 hk, (h.pm i q hq).2⟩, h.un⟩

theorem getD_some {α : Type} {a : List α} {i : Nat} {d x : α} (h : a[i]? = some x) : a.getD i d = x := by rw [List.getD_eq_getElem?_getD, h]; rfl
theorem some_getD {α : Type} {a : List α} {i : Nat} {d : α} (h : i < a.length) : a[i]? = some (a.getD i d) := by
  rw [List.getD_eq_getElem?_getD, List.getElem?_eq_getElem h]; rfl
theorem set_get {α : Type} {a : List α} {i j : Nat} {x y : α} (h : (a.set i x)[j]? = some y) : (j = i ∧ y = x) ∨ (j ≠ i ∧ a[j]? = some y) := by
  by_cases e : i = j
  · subst e
    have hl : i < a.length := by
      have := (List.getElem?_eq_some_iff.1 h).1
      rwa [List.length_set] at this
    rw [List.getElem?_set_self hl] at h
    exact .inl ⟨rfl, (Option.some.inj h).symm⟩
  · rw [List.getElem?_set_ne e] at h
    exact .inr ⟨fun e' => e e'.symm, h⟩

theorem wkF_ok {l : List Pa} {tk : List Int} {part : Nat} (hok : PsOk l) (hp : part < l.length) (cm : Nat) : 1 ≤ wkF l tk part cm ∧ wkF l tk part cm ≤ 10000 := by
  have h := hok.at_ part _ (some_getD (d := paZ) hp)
  have h1 := h.c
  have h2 := h.cd
  have h3 := h.dt
  have h4 := h.t
  unfold wkF
  generalize l.getD part paZ = x at *
  split
  · omega
  · have h5 := Int.emod_nonneg (tk.getD ((cm * l.length + part) % tk.length) 0) (show x.c ≠ 0 by omega)
    have h6 := Int.emod_lt_of_pos (tk.getD ((cm * l.length + part) % tk.length) 0) (show 0 < x.c by omega)
    omega

theorem SOk.addJ {l : List Pa} {tk : List Int} {m K part cm : Nat} {s : Sc} {now : Int} (h : SOk l m K s) (hok : PsOk l) (hp : part < l.length) (hc : cm < m) : SOk l m (K + 1) (addJ l tk s part cm now) := by
  refine ⟨by simp only [Ytccoobcggbbciam.addJ, List.length_set]; exact h.lj, h.lm, h.le, h.er, fun i q hq => ?_, (h.mono (Nat.le_succ K)).pm, h.un⟩
  rcases set_get hq with ⟨rfl, rfl⟩ | ⟨-, hq⟩
  · obtain ⟨h1, h2⟩ := h.pj i _ (some_getD (d := []) (by rw [h.lj]; exact hp))
    refine ⟨by rw [List.length_append, List.length_singleton]; omega, fun p hp2 => ?_⟩
    rcases List.mem_append.1 hp2 with hp2 | hp2
    · exact h2 p hp2
    · rw [List.mem_singleton.1 hp2]
      have := wkF_ok (tk := tk) hok hp cm
      exact ⟨by dsimp only; omega, by dsimp only; omega, this.1, this.2⟩
  · exact (h.mono (Nat.le_succ K)).pj i q hq
theorem SOk.addM {l : List Pa} {m K part cm : Nat} {s : Sc} {now : Int} (h : SOk l m K s) (hok : PsOk l) (hp : part < l.length) (hc : cm < m) (hs : (l.getD part paZ).se ≠ 0) : SOk l m (K + 1) (addM l s part cm now) := by
  refine ⟨h.lj, by simp only [Ytccoobcggbbciam.addM, List.length_set]; exact h.lm, h.le, h.er, (h.mono (Nat.le_succ K)).pj, fun i q hq => ?_, ?_⟩
  · rcases set_get hq with ⟨rfl, rfl⟩ | ⟨-, hq⟩
    · obtain ⟨h1, h2⟩ := h.pm i _ (some_getD (d := []) (by rw [h.lm]; exact hp))
      refine ⟨by rw [List.length_append, List.length_singleton]; omega, fun p hp2 => ?_⟩
      rcases List.mem_append.1 hp2 with hp2 | hp2
      · exact h2 p hp2
      · rw [List.mem_singleton.1 hp2]
        have := (hok.at_ i _ (some_getD (d := paZ) hp)).se
        refine ⟨by dsimp only; omega, by dsimp only; omega, ?_, ?_⟩ <;> (show _ ≤ _; dsimp only; omega)
    · exact (h.mono (Nat.le_succ K)).pm i q hq
  · rcases h.un with h1 | ⟨u, h1, h2, h3⟩
    · exact .inl h1
    · refine .inr ⟨u, h1, h2, ?_⟩
      show (s.mail.set part _).getD u [] ≠ []
      by_cases e : part = u
      · subst e
        rw [List.getD_eq_getElem?_getD, List.getElem?_set_self (by rw [h.lm]; exact h2)]
        simp
      · rw [List.getD_eq_getElem?_getD, List.getElem?_set_ne e, ← List.getD_eq_getElem?_getD]
        exact h3
theorem SOk.runJ {l : List Pa} {m K part : Nat} {s : Sc} (h : SOk l m K s) (hp : part < l.length) : SOk l m K { s with jobs := s.jobs.set part (runQ (s.jobs.getD part [])) } := by
  refine ⟨by simp only [List.length_set]; exact h.lj, h.lm, h.le, h.er, fun i q hq => ?_, h.pm, h.un⟩
  rcases set_get hq with ⟨rfl, rfl⟩ | ⟨-, hq⟩
  · obtain ⟨h1, h2⟩ := h.pj i _ (some_getD (d := []) (by rw [h.lj]; exact hp))
    generalize s.jobs.getD i [] = q0 at *
    cases q0 with
    | nil => exact ⟨h1, h2⟩
    | cons p r =>
      have h3 := h2 p List.mem_cons_self
      by_cases hlf : 0 < p.lf - 1
      · have e : runQ (p :: r) = { p with lf := p.lf - 1 } :: r := if_pos hlf
        rw [e]
        refine ⟨h1, fun x hx => ?_⟩
        rcases List.mem_cons.1 hx with rfl | hx
        · dsimp only; omega
        · exact h2 x (List.mem_cons_of_mem _ hx)
      · have e : runQ (p :: r) = r := if_neg hlf
        rw [e]
        exact ⟨by rw [List.length_cons] at h1; omega, fun x hx => h2 x (List.mem_cons_of_mem _ hx)⟩
  · exact h.pj i q hq
theorem runC_lt {m K : Nat} {q : List Pc} (hne : q ≠ []) (h : q.length ≤ K ∧ ∀ p ∈ q, 0 ≤ p.cm ∧ p.cm < m ∧ 1 ≤ p.lf ∧ p.lf ≤ 10000) : runC q < m := by
  cases q with
  | nil => exact absurd rfl hne
  | cons p r =>
    have := h.2 p List.mem_cons_self
    show p.cm.toNat < m
    omega
theorem firstM_at : ∀ (ms : List (List Pc)) (k : Nat), firstM ms k = -1 ∨ ∃ u : Nat, firstM ms k = ((k + u : Nat) : Int) ∧ u < ms.length ∧ ms.getD u [] ≠ []
  | [], _ => .inl rfl
  | q :: r, k => by
    unfold firstM
    by_cases e : q = []
    · rw [if_neg (by simp [e])]
      rcases firstM_at r (k + 1) with h | ⟨u, h1, h2, h3⟩
      · exact .inl h
      · exact .inr ⟨u + 1, by rw [h1]; congr 1; omega, by simp; omega, by simpa using h3⟩
    · rw [if_pos e]
      exact .inr ⟨0, by simp, by simp, by simpa using e⟩
theorem sentF_at {l : List Pa} {m K : Nat} {s : Sc} (h : SOk l m K s) : sentF s = -1 ∨ ∃ u : Nat, sentF s = u ∧ u < l.length ∧ s.mail.getD u [] ≠ [] := by
  unfold sentF
  split
  · rcases firstM_at s.mail 0 with h1 | ⟨u, h1, h2, h3⟩
    · exact .inl h1
    · exact .inr ⟨u, by rw [h1, Nat.zero_add], by rw [← h.lm]; exact h2, h3⟩
  · exact h.un
theorem SOk.sent {l : List Pa} {m K : Nat} {s : Sc} (h : SOk l m K s) : SOk l m K { s with un := sentF s } := ⟨h.lj, h.lm, h.le, h.er, h.pj, h.pm, sentF_at h⟩
theorem firstsTo_len (l : List Pa) (jobs : List (List Pc)) : ∀ k, (firstsTo l jobs k).length = 4
  | 0 => rfl
  | k + 1 => by
    unfold firstsTo stepFirst
    split
    · rw [List.length_set]; exact firstsTo_len l jobs k
    · exact firstsTo_len l jobs k
theorem firstsTo_at {l : List Pa} {jobs : List (List Pc)} : ∀ (k c : Nat) (z : Int), (firstsTo l jobs k)[c]? = some z → z = -1 ∨ ∃ u : Nat, z = u ∧ u < k ∧ jobs.getD u [] ≠ [] ∧ (l.getD u paZ).co.toNat = c
  | 0, c, z, h => by
    left
    have : z ∈ [(-1 : Int), -1, -1, -1] := List.mem_of_getElem? h
    simpa using this
  | k + 1, c, z, h => by
    unfold firstsTo stepFirst at h
    split at h
    · next hc =>
      rcases set_get h with ⟨rfl, rfl⟩ | ⟨-, h⟩
      · exact .inr ⟨k, rfl, by omega, hc.1, rfl⟩
      · rcases firstsTo_at k c z h with h | ⟨u, h1, h2, h3⟩
        · exact .inl h
        · exact .inr ⟨u, h1, by omega, h3⟩
    · rcases firstsTo_at k c z h with h | ⟨u, h1, h2, h3⟩
      · exact .inl h
      · exact .inr ⟨u, h1, by omega, h3⟩
end Go.Proofs.Ytccoobcggbbciam
namespace Go.Proofs.Ytccoobcggbbciam
open Go.ChangeShapes Go.WideShapes Go.ChangeAt Go.RowKit

/- Chapter 18, pure: what holds of a scene, tick by tick. -/
theorem getD_set_self {α : Type} {a : List α} {i : Nat} {x d : α} (h : i < a.length) : (a.set i x).getD i d = x := getD_some (List.getElem?_set_self h)
theorem getD_set_other {α : Type} {a : List α} {i j : Nat} {x d : α} (h : i ≠ j) : (a.set i x).getD j d = a.getD j d := by
  rw [List.getD_eq_getElem?_getD, List.getElem?_set_ne h, ← List.getD_eq_getElem?_getD]
/-- Lines are only added to. -/
def Gr2 (a b : List (List Pc)) : Prop := ∀ i, a.getD i [] ≠ [] → b.getD i [] ≠ []
theorem Gr2.refl (a : List (List Pc)) : Gr2 a a := fun _ h => h
theorem Gr2.trans {a b c : List (List Pc)} (h : Gr2 a b) (h' : Gr2 b c) : Gr2 a c := fun i hi => h' i (h i hi)
theorem gr2_app {a : List (List Pc)} {i : Nat} {x : Pc} : Gr2 a (a.set i (a.getD i [] ++ [x])) := fun j hj => by
  by_cases e : i = j
  · subst e
    by_cases hl : i < a.length
    · rw [getD_set_self hl]; simp
    · rw [List.set_eq_of_length_le (by omega)]; exact hj
  · rw [getD_set_other e]; exact hj

theorem doneStep_ok {l : List Pa} {tk : List Int} {m K part cm k : Nat} {s : Sc} {now : Int} (h : SOk l m K s) (hok : PsOk l) (hk : k < l.length) (hc : cm < m) : SOk l m (K + 1) (doneStep l tk part cm now s k) ∧ (doneStep l tk part cm now s k).un = s.un ∧ Gr2 s.jobs (doneStep l tk part cm now s k).jobs ∧ Gr2 s.mail (doneStep l tk part cm now s k).mail := by
  unfold doneStep
  split
  · exact ⟨h.mono (Nat.le_succ K), rfl, Gr2.refl _, Gr2.refl _⟩
  · split
    · exact ⟨h.addJ hok hk hc, rfl, gr2_app, Gr2.refl _⟩
    · next h9 => exact ⟨h.addM hok hk hc h9, rfl, Gr2.refl _, gr2_app⟩
theorem doneTo_ok {l : List Pa} {tk : List Int} {m K part cm : Nat} {s : Sc} {now : Int} (h : SOk l m K s) (hok : PsOk l) (hc : cm < m) : ∀ k, k ≤ l.length → SOk l m (K + k) (doneTo l tk part cm now s k) ∧ (doneTo l tk part cm now s k).un = s.un ∧ Gr2 s.jobs (doneTo l tk part cm now s k).jobs ∧ Gr2 s.mail (doneTo l tk part cm now s k).mail
  | 0, _ => by
    refine ⟨⟨h.lj, h.lm, by simp only [doneTo, List.length_set]; exact h.le, fun i r hr => ?_, h.pj, h.pm, h.un⟩, rfl, Gr2.refl _, Gr2.refl _⟩
    rcases set_get hr with ⟨rfl, rfl⟩ | ⟨-, hr⟩
    · rw [List.length_set]
      exact h.er i _ (some_getD (by rw [h.le]; exact hc))
    · exact h.er i r hr
  | k + 1, hk => by
    obtain ⟨h1, h2, h3, h4⟩ := doneTo_ok h hok hc k (by omega)
    obtain ⟨g1, g2, g3, g4⟩ := doneStep_ok (tk := tk) (part := part) (now := now) h1 hok (show k < l.length by omega) hc
    exact ⟨g1, g2.trans h2, h3.trans g3, h4.trans g4⟩

theorem coreStep_ok {l : List Pa} {tk : List Int} {m K : Nat} {s : Sc} {now z : Int} (h : SOk l m K s) (hok : PsOk l) (hz : z = -1 ∨ ∃ u : Nat, z = u ∧ u < l.length ∧ s.jobs.getD u [] ≠ []) : SOk l m (K + 8) (coreStep l tk now s z) ∧ (coreStep l tk now s z).un = s.un ∧ Gr2 s.mail (coreStep l tk now s z).mail ∧ ∀ u : Nat, z ≠ (u : Int) → s.jobs.getD u [] ≠ [] → (coreStep l tk now s z).jobs.getD u [] ≠ [] := by
  unfold coreStep
  rcases hz with rfl | ⟨u, rfl, hu, hne⟩
  · rw [if_pos rfl]
    exact ⟨h.mono (by omega), rfl, Gr2.refl _, fun _ _ h => h⟩
  · rw [if_neg (by omega), Int.toNat_natCast]
    have h8 := hok.most
    have h1 := h.runJ hu
    have hq := h.pj u _ (some_getD (d := []) (by rw [h.lj]; exact hu))
    have hc := runC_lt hne hq
    have hg : ∀ v : Nat, (u : Int) ≠ (v : Int) → s.jobs.getD v [] ≠ [] → (s.jobs.set u (runQ (s.jobs.getD u []))).getD v [] ≠ [] := fun v hv hn => by
      rw [getD_set_other (by omega)]; exact hn
    split
    · obtain ⟨g1, g2, g3, g4⟩ := doneTo_ok (tk := tk) (part := u) (now := now + 1) h1 hok hc l.length (Nat.le_refl _)
      exact ⟨g1.mono (by omega), g2, g4, fun v hv hn => g3 v (hg v hv hn)⟩
    · exact ⟨h1.mono (by omega), rfl, Gr2.refl _, hg⟩

/-- What is known of the parts that go first: each lies on its own core. -/
def Fst4 (l : List Pa) (fs : List Int) (jobs : List (List Pc)) (c : Nat) : Prop := ∀ (d : Nat) (z : Int), c ≤ d → fs[d]? = some z → z = -1 ∨ ∃ u : Nat, z = u ∧ u < l.length ∧ jobs.getD u [] ≠ [] ∧ (l.getD u paZ).co.toNat = d
theorem Fst4.start (l : List Pa) (jobs : List (List Pc)) : Fst4 l (firstsTo l jobs l.length) jobs 0 := fun d z _ h => by
  rcases firstsTo_at l.length d z h with h | ⟨u, h1, h2, h3, h4⟩
  · exact .inl h
  · exact .inr ⟨u, h1, h2, h3, h4⟩
theorem coresTo_ok {l : List Pa} {tk : List Int} {m K : Nat} {s : Sc} {now : Int} {fs : List Int} (h : SOk l m K s) (hok : PsOk l) (hl : fs.length = 4) (hf : Fst4 l fs s.jobs 0) : ∀ c, c ≤ 4 → SOk l m (K + 8 * c) (coresTo l tk now fs s c) ∧ (coresTo l tk now fs s c).un = s.un ∧ Gr2 s.mail (coresTo l tk now fs s c).mail ∧ Fst4 l fs (coresTo l tk now fs s c).jobs c
  | 0, _ => ⟨h, rfl, Gr2.refl _, hf⟩
  | c + 1, hc => by
    obtain ⟨h1, h2, h3, h4⟩ := coresTo_ok (tk := tk) (now := now) h hok hl hf c (by omega)
    have hz := h4 c _ (Nat.le_refl _) (some_getD (d := 0) (by omega))
    obtain ⟨g1, g2, g3, g4⟩ := coreStep_ok (tk := tk) (now := now) h1 hok (z := fs.getD c 0) (by
      rcases hz with hz | ⟨u, e1, e2, e3, -⟩
      · exact .inl hz
      · exact .inr ⟨u, e1, e2, e3⟩)
    refine ⟨g1.mono (by omega), g2.trans h2, h3.trans g3, fun d z hd hz2 => ?_⟩
    rcases h4 d z (by omega) hz2 with e | ⟨v, e1, e2, e3, e4⟩
    · exact .inl e
    · refine .inr ⟨v, e1, e2, g4 v (fun e => ?_) e3, e4⟩
      rcases hz with hz | ⟨u, k1, k2, k3, k4⟩
      · rw [hz] at e; omega
      · rw [k1] at e
        have : u = v := by omega
        subst this
        omega

theorem SOk.runM {l : List Pa} {m K part : Nat} {s : Sc} (h : SOk l m K s) (hp : part < l.length) (hu : s.un = -1 ∨ runD (s.mail.getD part []) = false) (z : Int) (hz : (z = s.un ∧ runD (s.mail.getD part []) = false) ∨ z = -1) : SOk l m K { s with mail := s.mail.set part (runQ (s.mail.getD part [])), un := z } := by
  refine ⟨h.lj, by simp only [List.length_set]; exact h.lm, h.le, h.er, h.pj, fun i q hq => ?_, ?_⟩
  · rcases set_get hq with ⟨rfl, rfl⟩ | ⟨-, hq⟩
    · obtain ⟨h1, h2⟩ := h.pm i _ (some_getD (d := []) (by rw [h.lm]; exact hp))
      generalize s.mail.getD i [] = q0 at *
      cases q0 with
      | nil => exact ⟨h1, h2⟩
      | cons p r =>
        have h3 := h2 p List.mem_cons_self
        by_cases hlf : 0 < p.lf - 1
        · have e : runQ (p :: r) = { p with lf := p.lf - 1 } :: r := if_pos hlf
          rw [e]
          refine ⟨h1, fun x hx => ?_⟩
          rcases List.mem_cons.1 hx with rfl | hx
          · dsimp only; omega
          · exact h2 x (List.mem_cons_of_mem _ hx)
        · have e : runQ (p :: r) = r := if_neg hlf
          rw [e]
          exact ⟨by rw [List.length_cons] at h1; omega, fun x hx => h2 x (List.mem_cons_of_mem _ hx)⟩
    · exact h.pm i q hq
  · rcases hz with ⟨rfl, hd⟩ | rfl
    · rcases h.un with h1 | ⟨u, h1, h2, h3⟩
      · exact .inl h1
      · refine .inr ⟨u, h1, h2, ?_⟩
        show (s.mail.set part _).getD u [] ≠ []
        by_cases e : part = u
        · subst e
          rw [getD_set_self (by rw [h.lm]; exact hp)]
          generalize s.mail.getD part [] = q0 at *
          cases q0 with
          | nil => exact absurd rfl h3
          | cons p r =>
            have hlf : 0 < p.lf - 1 := by
              by_cases hlf : 0 < p.lf - 1
              · exact hlf
              · have : runD (p :: r) = true := by show (!decide (0 < p.lf - 1)) = true; rw [decide_eq_false hlf]; rfl
                rw [this] at hd
                cases hd
            rw [show runQ (p :: r) = { p with lf := p.lf - 1 } :: r from if_pos hlf]
            simp
        · rw [getD_set_other e]; exact h3
    · exact .inl rfl
theorem mailStep_ok {l : List Pa} {tk : List Int} {m K : Nat} {s : Sc} {now z : Int} (h : SOk l m K s) (hok : PsOk l) (hz : z = -1 ∨ ∃ u : Nat, z = u ∧ u < l.length ∧ s.mail.getD u [] ≠ []) : SOk l m (K + 1) (mailStep l tk now s z) := by
  unfold mailStep
  rcases hz with rfl | ⟨u, rfl, hu, hne⟩
  · rw [if_pos rfl]
    exact h.mono (by omega)
  · rw [if_neg (by omega), Int.toNat_natCast]
    have hq := h.pm u _ (some_getD (d := []) (by rw [h.lm]; exact hu))
    have hc := runC_lt hne hq
    split
    · refine SOk.addJ ?_ hok hu hc
      refine ⟨h.lj, by simp only [List.length_set]; exact h.lm, h.le, h.er, h.pj, ?_, .inl rfl⟩
      exact (SOk.runM (s := { s with un := -1 }) ⟨h.lj, h.lm, h.le, h.er, h.pj, h.pm, .inl rfl⟩ hu (.inl rfl) (-1) (.inr rfl)).pm
    · next hd =>
      have hd' : runD (s.mail.getD u []) = false := by simpa using hd
      exact (h.runM hu (.inr hd') s.un (.inl ⟨rfl, hd'⟩)).mono (by omega)
theorem tickF_ok {l : List Pa} {tk : List Int} {m K : Nat} {s : Sc} {now : Int} (h : SOk l m K s) (hok : PsOk l) : SOk l m (K + 40) (tickF l tk s now) := by
  unfold tickF
  obtain ⟨h1, h2, h3, h4⟩ := coresTo_ok (tk := tk) (now := now) h.sent hok (firstsTo_len l s.jobs l.length) (Fst4.start l s.jobs) 4 (Nat.le_refl _)
  refine (mailStep_ok h1 hok ?_).mono (by omega)
  rcases sentF_at h with e | ⟨u, e1, e2, e3⟩
  · exact .inl e
  · exact .inr ⟨u, e1, e2, h3 u e3⟩
theorem comeF_ok {l : List Pa} {tk : List Int} {m : Nat} {now : Int} {cs : List Co} (hok : PsOk l) (hcs : ∀ k < cs.length, (cs.getD k ⟨0, 0⟩).k.toNat < l.length) (hm : cs.length = m) : ∀ (ws : List Nat) (K : Nat) (s : Sc), SOk l m K s → (∀ k ∈ ws, k < cs.length) → SOk l m (K + (ws.length - (comeF l tk cs now ws s).1.length)) (comeF l tk cs now ws s).2 ∧ (∀ k ∈ (comeF l tk cs now ws s).1, k < cs.length) ∧ (comeF l tk cs now ws s).1.length ≤ ws.length
  | [], K, s, h, _ => ⟨h.mono (by omega), (fun k hk => by simp [comeF] at hk), by simp [comeF]⟩
  | k :: r, K, s, h, hw => by
    unfold comeF
    by_cases e : (cs.getD k ⟨0, 0⟩).a = now
    · rw [if_pos e]
      have hk := hw k List.mem_cons_self
      obtain ⟨g1, g2, g3⟩ := comeF_ok (tk := tk) (now := now) hok hcs hm r (K + 1) _ (h.addJ (tk := tk) (now := now) hok (hcs k hk) (by rw [← hm]; exact hk)) (fun j hj => hw j (List.mem_cons_of_mem _ hj))
      refine ⟨g1.mono ?_, g2, by rw [List.length_cons]; omega⟩
      rw [List.length_cons]
      omega
    · rw [if_neg e]
      exact ⟨h.mono (by omega), hw, Nat.le_refl _⟩
end Go.Proofs.Ytccoobcggbbciam
