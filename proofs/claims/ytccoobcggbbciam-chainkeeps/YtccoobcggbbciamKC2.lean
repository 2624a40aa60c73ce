import Derived.Test.YtccoobcggbbciamHX0
namespace Go.Proofs.Ytccoobcggbbciam
open Go.ChangeShapes Go.WideShapes Go.ChangeAt Go.RowKit

/- Chapter 18, pure: what a tick does, line by line. -/
namespace Keep
def J (s : Sc) (k : Nat) : List Pc := s.jobs.getD k []
def M (s : Sc) (k : Nat) : List Pc := s.mail.getD k []
def En (s : Sc) (n k : Nat) : Int := (s.ends.getD n []).getD k (-1)
def fr (l : List Pa) (k : Nat) : Int := (l.getD k paZ).fr
def se (l : List Pa) (k : Nat) : Int := (l.getD k paZ).se
def co (l : List Pa) (k : Nat) : Nat := (l.getD k paZ).co.toNat

theorem getD_ge {α : Type} {a : List α} {i : Nat} {d : α} (h : a.length ≤ i) : a.getD i d = d := by
  rw [List.getD_eq_getElem?_getD, List.getElem?_eq_none h]; rfl

/-- What the end of a job adds: a job or a message of each part that hangs on it. -/
theorem doneTo_form {l : List Pa} {tk : List Int} {part cm : Nat} {now : Int} {s : Sc} (hj : s.jobs.length = l.length) (hm : s.mail.length = l.length) : ∀ K, K ≤ l.length →
    (doneTo l tk part cm now s K).un = s.un ∧ (doneTo l tk part cm now s K).ends = s.ends.set cm ((s.ends.getD cm []).set part now) ∧ (doneTo l tk part cm now s K).jobs.length = l.length ∧ (doneTo l tk part cm now s K).mail.length = l.length ∧
    ∀ k, k < l.length → J (doneTo l tk part cm now s K) k = J s k ++ (if k < K ∧ fr l k = part ∧ se l k = 0 then [⟨cm, now, wkF l tk k cm⟩] else []) ∧ M (doneTo l tk part cm now s K) k = M s k ++ (if k < K ∧ fr l k = part ∧ se l k ≠ 0 then [⟨cm, now, se l k⟩] else [])
  | 0, _ => ⟨rfl, rfl, hj, hm, fun k _ => by
      rw [if_neg (by omega), if_neg (by omega), List.append_nil, List.append_nil]
      exact ⟨rfl, rfl⟩⟩
  | K + 1, hK => by
    obtain ⟨h1, h2, h3, h4, h5⟩ := doneTo_form (tk := tk) (part := part) (cm := cm) (now := now) hj hm K (by omega)
    have e : doneTo l tk part cm now s (K + 1) = doneStep l tk part cm now (doneTo l tk part cm now s K) K := rfl
    rw [e]
    generalize doneTo l tk part cm now s K = s1 at *
    unfold doneStep
    by_cases hf : fr l K = part
    · rw [if_neg (by unfold fr at hf; exact fun h => h hf)]
      by_cases hs : se l K = 0
      · rw [if_pos (by unfold se at hs; exact hs)]
        refine ⟨h1, h2, by simp only [addJ, List.length_set]; exact h3, h4, fun k hk => ?_⟩
        obtain ⟨g1, g2⟩ := h5 k hk
        constructor
        · by_cases e : k = K
          · subst e
            have : J (addJ l tk s1 k cm now) k = J s1 k ++ [⟨cm, now, wkF l tk k cm⟩] := by
              unfold J addJ
              exact getD_set_self (by omega)
            rw [this, g1, if_neg (by omega), List.append_nil, if_pos ⟨by omega, hf, hs⟩]
          · have : J (addJ l tk s1 K cm now) k = J s1 k := by
              unfold J addJ
              exact getD_set_other (fun h => e h.symm)
            rw [this, g1]
            congr 1
            by_cases h : k < K ∧ fr l k = part ∧ se l k = 0
            · rw [if_pos h, if_pos ⟨by omega, h.2⟩]
            · rw [if_neg h, if_neg (fun h' => h ⟨by omega, h'.2⟩)]
        · have : M (addJ l tk s1 K cm now) k = M s1 k := rfl
          rw [this, g2]
          congr 1
          by_cases h : k < K ∧ fr l k = part ∧ se l k ≠ 0
          · rw [if_pos h, if_pos ⟨by omega, h.2⟩]
          · rw [if_neg h, if_neg (fun h' => h ⟨by
              rcases Nat.lt_or_ge k K with g | g
              · exact g
              · exact absurd (show se l k = 0 by rw [show k = K by omega]; exact hs) h'.2.2, h'.2⟩)]
      · rw [if_neg (by unfold se at hs; exact hs)]
        refine ⟨h1, h2, h3, by simp only [addM, List.length_set]; exact h4, fun k hk => ?_⟩
        obtain ⟨g1, g2⟩ := h5 k hk
        constructor
        · have : J (addM l s1 K cm now) k = J s1 k := rfl
          rw [this, g1]
          congr 1
          by_cases h : k < K ∧ fr l k = part ∧ se l k = 0
          · rw [if_pos h, if_pos ⟨by omega, h.2⟩]
          · rw [if_neg h, if_neg (fun h' => h ⟨by
              rcases Nat.lt_or_ge k K with g | g
              · exact g
              · exact absurd (show se l K = 0 by rw [← show k = K by omega]; exact h'.2.2) hs, h'.2⟩)]
        · by_cases e : k = K
          · subst e
            have : M (addM l s1 k cm now) k = M s1 k ++ [⟨cm, now, se l k⟩] := by
              unfold M addM
              exact getD_set_self (by omega)
            rw [this, g2, if_neg (by omega), List.append_nil, if_pos ⟨by omega, hf, hs⟩]
          · have : M (addM l s1 K cm now) k = M s1 k := by
              unfold M addM
              exact getD_set_other (fun h => e h.symm)
            rw [this, g2]
            congr 1
            by_cases h : k < K ∧ fr l k = part ∧ se l k ≠ 0
            · rw [if_pos h, if_pos ⟨by omega, h.2⟩]
            · rw [if_neg h, if_neg (fun h' => h ⟨by omega, h'.2⟩)]
    · rw [if_pos (by unfold fr at hf; exact hf)]
      refine ⟨h1, h2, h3, h4, fun k hk => ?_⟩
      obtain ⟨g1, g2⟩ := h5 k hk
      have hkK : k < K + 1 → fr l k = part → k < K := fun h1 h2 => by
        rcases Nat.lt_or_ge k K with g | g
        · exact g
        · exact absurd (show fr l K = part by rw [← show k = K by omega]; exact h2) hf
      constructor
      · rw [g1]
        congr 1
        by_cases h : k < K ∧ fr l k = part ∧ se l k = 0
        · rw [if_pos h, if_pos ⟨by omega, h.2⟩]
        · rw [if_neg h, if_neg (fun h' => h ⟨hkK h'.1 h'.2.1, h'.2⟩)]
      · rw [g2]
        congr 1
        by_cases h : k < K ∧ fr l k = part ∧ se l k ≠ 0
        · rw [if_pos h, if_pos ⟨by omega, h.2⟩]
        · rw [if_neg h, if_neg (fun h' => h ⟨hkK h'.1 h'.2.1, h'.2⟩)]

/-- A part's job is done in this tick. -/
def rD (s : Sc) (F : Nat → Bool) (u : Nat) : Bool := F u && runD (J s u)

/-- What the cores do in a tick; F: which parts run. -/
structure CoR (l : List Pa) (tk : List Int) (now : Int) (F : Nat → Bool) (s s' : Sc) : Prop where
  lj : s'.jobs.length = l.length
  lm : s'.mail.length = l.length
  le : s'.ends.length = s.ends.length
  er : ∀ n : Nat, (s'.ends.getD n []).length = (s.ends.getD n []).length
  un : s'.un = s.un
  j : ∀ k, k < l.length → J s' k = (if F k = true then runQ (J s k) else J s k) ++ (if fr l k ≠ -1 ∧ se l k = 0 ∧ rD s F (fr l k).toNat = true then [⟨runC (J s (fr l k).toNat), now + 1, wkF l tk k (runC (J s (fr l k).toNat))⟩] else [])
  m : ∀ k, k < l.length → M s' k = M s k ++ (if fr l k ≠ -1 ∧ se l k ≠ 0 ∧ rD s F (fr l k).toNat = true then [⟨runC (J s (fr l k).toNat), now + 1, se l k⟩] else [])
  e : ∀ n k, k < l.length → En s' n k = if rD s F k = true ∧ n = runC (J s k) then now + 1 else En s n k

theorem runQ_app {q r : List Pc} (h : q ≠ []) : runQ (q ++ r) = runQ q ++ r := by
  cases q with
  | nil => exact absurd rfl h
  | cons p t =>
    by_cases hl : 0 < p.lf - 1
    · rw [List.cons_append, show runQ (p :: (t ++ r)) = { p with lf := p.lf - 1 } :: (t ++ r) from if_pos hl, show runQ (p :: t) = { p with lf := p.lf - 1 } :: t from if_pos hl]; rfl
    · rw [List.cons_append, show runQ (p :: (t ++ r)) = t ++ r from if_neg hl, show runQ (p :: t) = t from if_neg hl]
theorem runC_app {q r : List Pc} (h : q ≠ []) : runC (q ++ r) = runC q := by
  cases q with
  | nil => exact absurd rfl h
  | cons p t => rfl
theorem runD_app {q r : List Pc} (h : q ≠ []) : runD (q ++ r) = runD q := by
  cases q with
  | nil => exact absurd rfl h
  | cons p t => rfl

/-- Which parts run, of those on the first c cores. -/
def Fc (l : List Pa) (fs : List Int) (c : Nat) (k : Nat) : Bool := decide (k < l.length) && decide (co l k < c) && decide (fs.getD (co l k) 0 = (k : Int))

theorem coresTo_form {l : List Pa} {tk : List Int} {now : Int} {fs : List Int} {s : Sc} (hok : PsOk l) (hj : s.jobs.length = l.length) (hm : s.mail.length = l.length)
    (hro : ∀ k, J s k ≠ [] → runC (J s k) < s.ends.length ∧ (s.ends.getD (runC (J s k)) []).length = l.length)
    (hfs : ∀ c, c < 4 → fs.getD c 0 = -1 ∨ ∃ u : Nat, fs.getD c 0 = u ∧ u < l.length ∧ J s u ≠ [] ∧ co l u = c) : ∀ c, c ≤ 4 → CoR l tk now (Fc l fs c) s (coresTo l tk now fs s c)
  | 0, _ => by
    have hF : ∀ k, Fc l fs 0 k = false := fun k => by unfold Fc; simp
    have hD : ∀ k, rD s (Fc l fs 0) k = false := fun k => by unfold rD; rw [hF]; rfl
    refine ⟨hj, hm, rfl, fun n => rfl, rfl, fun k hk => ?_, fun k hk => ?_, fun n k hk => ?_⟩
    · rw [hF, hD, if_neg (by simp), if_neg (by simp), List.append_nil]; rfl
    · rw [hD, if_neg (by simp), List.append_nil]; rfl
    · rw [hD, if_neg (by simp)]; rfl
  | c + 1, hc => by
    have ih := coresTo_form (tk := tk) (now := now) hok hj hm hro hfs c (by omega)
    have e0 : coresTo l tk now fs s (c + 1) = coreStep l tk now (coresTo l tk now fs s c) (fs.getD c 0) := rfl
    rw [e0]
    generalize coresTo l tk now fs s c = s1 at *
    rcases hfs c (by omega) with hz | ⟨u, hz, hu, hne, hcu⟩
    · have hF : Fc l fs (c + 1) = Fc l fs c := by
        funext k
        unfold Fc
        by_cases h : co l k = c
        · have h1 : decide (fs.getD (co l k) 0 = (k : Int)) = false := by rw [h, hz]; exact decide_eq_false (by omega)
          rw [h1, Bool.and_false, Bool.and_false]
        · have : decide (co l k < c + 1) = decide (co l k < c) := by
            by_cases g : co l k < c
            · rw [decide_eq_true g, decide_eq_true (by omega)]
            · rw [decide_eq_false g, decide_eq_false (by omega)]
          rw [this]
      rw [hF, hz]
      unfold coreStep
      rw [if_pos rfl]
      exact ih
    · have hFu : Fc l fs c u = false := by unfold Fc; simp [hcu]
      have hF : ∀ k, Fc l fs (c + 1) k = (Fc l fs c k || decide (k = u)) := fun k => by
        unfold Fc
        by_cases e : k = u
        · subst e
          rw [decide_eq_true hu, decide_eq_true (show co l k < c + 1 by omega), hcu, hz]
          simp
        · rw [decide_eq_false e, Bool.or_false]
          by_cases h : co l k = c
          · have h1 : decide (fs.getD (co l k) 0 = (k : Int)) = false := by rw [h, hz]; exact decide_eq_false (by omega)
            rw [h1, Bool.and_false, Bool.and_false]
          · have : decide (co l k < c + 1) = decide (co l k < c) := by
              by_cases g : co l k < c
              · rw [decide_eq_true g, decide_eq_true (by omega)]
              · rw [decide_eq_false g, decide_eq_false (by omega)]
            rw [this]
      have hrD : ∀ k, rD s (Fc l fs (c + 1)) k = (rD s (Fc l fs c) k || (decide (k = u) && runD (J s u))) := fun k => by
        unfold rD
        rw [hF]
        by_cases e : k = u
        · subst e
          rw [hFu, decide_eq_true rfl]; simp
        · rw [decide_eq_false e]; simp
      have hrDu : rD s (Fc l fs c) u = false := by unfold rD; rw [hFu]; rfl
      have hfru : fr l u ≠ (u : Int) := by
        rcases (hok.at_ u _ (some_getD (d := paZ) hu)).fr with h | ⟨h1, h2, -⟩
        · unfold fr; omega
        · unfold fr; omega
      have hfr0 : ∀ k, k < l.length → fr l k ≠ -1 → 0 ≤ fr l k := fun k hk hf1 => by
        rcases (hok.at_ k _ (some_getD (d := paZ) hk)).fr with h | ⟨h1, -⟩
        · exact absurd h.1 hf1
        · exact h1
      have hJu := ih.j u hu
      rw [hFu, if_neg (by simp)] at hJu
      generalize hex : (if fr l u ≠ -1 ∧ se l u = 0 ∧ rD s (Fc l fs c) (fr l u).toNat = true then [(⟨runC (J s (fr l u).toNat), now + 1, wkF l tk u (runC (J s (fr l u).toNat))⟩ : Pc)] else []) = ex at hJu
      have hq1 : runQ (J s1 u) = runQ (J s u) ++ ex := by rw [hJu]; exact runQ_app hne
      have hq2 : runC (J s1 u) = runC (J s u) := by rw [hJu]; exact runC_app hne
      have hq3 : runD (J s1 u) = runD (J s u) := by rw [hJu]; exact runD_app hne
      unfold coreStep
      rw [hz, if_neg (by omega), Int.toNat_natCast]
      rw [show s1.jobs.getD u [] = J s1 u from rfl, hq1, hq2, hq3]
      by_cases hd : runD (J s u) = true
      · rw [if_pos hd]
        obtain ⟨g1, g2, g3, g4, g5⟩ := doneTo_form (l := l) (tk := tk) (part := u) (cm := runC (J s u)) (now := now + 1) (s := { s1 with jobs := s1.jobs.set u (runQ (J s u) ++ ex) }) (by simp only [List.length_set]; exact ih.lj) ih.lm l.length (Nat.le_refl _)
        generalize doneTo l tk u (runC (J s u)) (now + 1) { s1 with jobs := s1.jobs.set u (runQ (J s u) ++ ex) } l.length = s2 at *
        have hends : s2.ends = s1.ends.set (runC (J s u)) ((s1.ends.getD (runC (J s u)) []).set u (now + 1)) := g2
        obtain ⟨ho1, ho2⟩ := hro u hne
        have hn1 : runC (J s u) < s1.ends.length := by rw [ih.le]; exact ho1
        refine ⟨g3, g4, by rw [hends, List.length_set]; exact ih.le, fun n => ?_, g1.trans ih.un, fun k hk => ?_, fun k hk => ?_, fun n k hk => ?_⟩
        · rw [hends]
          by_cases e : runC (J s u) = n
          · subst e
            rw [getD_set_self hn1, List.length_set]
            exact ih.er _
          · rw [getD_set_other e]
            exact ih.er n
        · have hJk : J { s1 with jobs := s1.jobs.set u (runQ (J s u) ++ ex) } k = if k = u then runQ (J s u) ++ ex else J s1 k := by
            unfold J
            by_cases e : k = u
            · subst e
              rw [if_pos rfl]
              exact getD_set_self (by rw [ih.lj]; exact hu)
            · rw [if_neg e]
              exact getD_set_other (fun h => e h.symm)
          rw [(g5 k hk).1, hJk]
          by_cases e : k = u
          · subst e
            rw [if_pos rfl, if_neg (fun h => hfru h.2.1), List.append_nil, hF, decide_eq_true rfl, Bool.or_true, if_pos rfl]
            congr 1
            rw [← hex]
            by_cases h : fr l k ≠ -1 ∧ se l k = 0 ∧ rD s (Fc l fs c) (fr l k).toNat = true
            · rw [if_pos h, if_pos ⟨h.1, h.2.1, by rw [hrD, h.2.2]; rfl⟩]
            · rw [if_neg h, if_neg (fun h' => h ⟨h'.1, h'.2.1, by
                have h9 := h'.2.2
                have := hfr0 k hk h'.1
                rw [hrD, decide_eq_false (by omega)] at h9
                simpa using h9⟩)]
          · rw [if_neg e, ih.j k hk, hF, decide_eq_false e, Bool.or_false, List.append_assoc]
            congr 1
            by_cases hf : fr l k = (u : Int)
            · have ht : (fr l k).toNat = u := by omega
              rw [ht, hrD, hrDu, decide_eq_true rfl, hd]
              rw [if_neg (by simp)]
              by_cases hs : se l k = 0
              · rw [if_pos ⟨hk, hf, hs⟩, if_pos ⟨by omega, hs, rfl⟩]; rfl
              · rw [if_neg (fun h => hs h.2.2), if_neg (fun h => hs h.2.1)]; rfl
            · rw [if_neg (c := k < l.length ∧ fr l k = (u : Int) ∧ se l k = 0) (fun h => hf h.2.1), List.append_nil]
              by_cases hf1 : fr l k = -1
              · rw [if_neg (fun h => h.1 hf1), if_neg (fun h => h.1 hf1)]
              · have hf0 : 0 ≤ fr l k := by
                  rcases (hok.at_ k _ (some_getD (d := paZ) hk)).fr with h | ⟨h1, -⟩
                  · exact absurd h.1 hf1
                  · exact h1
                rw [hrD, decide_eq_false (show ¬ (fr l k).toNat = u by omega)]
                simp
        · rw [(g5 k hk).2]
          have hMk : M { s1 with jobs := s1.jobs.set u (runQ (J s u) ++ ex) } k = M s1 k := rfl
          rw [hMk, ih.m k hk, List.append_assoc]
          congr 1
          by_cases hf : fr l k = (u : Int)
          · have ht : (fr l k).toNat = u := by omega
            rw [ht, hrD, hrDu, decide_eq_true rfl, hd]
            rw [if_neg (by simp)]
            by_cases hs : se l k = 0
            · rw [if_neg (fun h => h.2.2 hs), if_neg (fun h => h.2.1 hs)]; rfl
            · rw [if_pos ⟨hk, hf, hs⟩, if_pos ⟨by omega, hs, rfl⟩]; rfl
          · rw [if_neg (c := k < l.length ∧ fr l k = (u : Int) ∧ se l k ≠ 0) (fun h => hf h.2.1), List.append_nil]
            by_cases hf1 : fr l k = -1
            · rw [if_neg (fun h => h.1 hf1), if_neg (fun h => h.1 hf1)]
            · have hf0 : 0 ≤ fr l k := by
                rcases (hok.at_ k _ (some_getD (d := paZ) hk)).fr with h | ⟨h1, -⟩
                · exact absurd h.1 hf1
                · exact h1
              rw [hrD, decide_eq_false (show ¬ (fr l k).toNat = u by omega)]
              simp
        · have he1 := ih.e n k hk
          rw [hrD]
          unfold En at he1 ⊢
          rw [hends]
          by_cases e : n = runC (J s u)
          · subst e
            rw [getD_set_self hn1]
            by_cases ek : k = u
            · subst ek
              rw [getD_set_self (by rw [ih.er, ho2]; exact hk), decide_eq_true rfl, hd, if_pos ⟨by simp, rfl⟩]
            · rw [getD_set_other (fun h => ek h.symm), he1, decide_eq_false ek]
              simp
          · rw [getD_set_other (fun h => e h.symm), he1]
            by_cases ek : k = u
            · subst ek
              rw [if_neg (fun h => e h.2), if_neg (fun h => e h.2)]
            · rw [decide_eq_false ek]
              simp
      · rw [if_neg hd]
        have hd' : runD (J s u) = false := by simpa using hd
        have hrD2 : ∀ k, rD s (Fc l fs (c + 1)) k = rD s (Fc l fs c) k := fun k => by rw [hrD, hd']; simp
        refine ⟨by simp only [List.length_set]; exact ih.lj, ih.lm, ih.le, ih.er, ih.un, fun k hk => ?_, fun k hk => ?_, fun n k hk => ?_⟩
        · have hJk : J { s1 with jobs := s1.jobs.set u (runQ (J s u) ++ ex) } k = if k = u then runQ (J s u) ++ ex else J s1 k := by
            unfold J
            by_cases e : k = u
            · subst e
              rw [if_pos rfl]
              exact getD_set_self (by rw [ih.lj]; exact hu)
            · rw [if_neg e]
              exact getD_set_other (fun h => e h.symm)
          rw [hJk, hrD2]
          by_cases e : k = u
          · subst e
            rw [if_pos rfl, hF, decide_eq_true rfl, Bool.or_true, if_pos rfl, hex]
          · rw [if_neg e, ih.j k hk, hF, decide_eq_false e, Bool.or_false]
        · rw [hrD2]
          exact ih.m k hk
        · rw [hrD2]
          exact ih.e n k hk
end Keep
end Go.Proofs.Ytccoobcggbbciam
namespace Go.Proofs.Ytccoobcggbbciam
open Go.ChangeShapes Go.WideShapes Go.ChangeAt Go.RowKit

/- Chapter 18, pure: a whole tick, line by line. -/
namespace Keep
theorem firstsTo_best {l : List Pa} {jobs : List (List Pc)} (hco : ∀ k, k < l.length → co l k < 4) : ∀ K, K ≤ l.length → ∀ k, k < K → jobs.getD k [] ≠ [] → ∃ u : Nat, (firstsTo l jobs K).getD (co l k) 0 = u ∧ (l.getD k paZ).p ≤ (l.getD u paZ).p
  | 0, _, k, hk, _ => by omega
  | K + 1, hK, k, hk, hne => by
    have hl := firstsTo_len l jobs K
    have e0 : firstsTo l jobs (K + 1) = stepFirst l jobs (firstsTo l jobs K) K := rfl
    have hat : (firstsTo l jobs K)[co l K]? = some ((firstsTo l jobs K).getD (co l K) 0) := some_getD (by rw [hl]; exact hco K (by omega))
    have hat' := firstsTo_at K (co l K) _ hat
    have ih := fun h => firstsTo_best hco K (by omega) k h hne
    have hcK := hco K (by omega)
    rw [e0]
    generalize firstsTo l jobs K = fs at *
    unfold stepFirst
    by_cases hc : jobs.getD K [] ≠ [] ∧ (fs.getD (l.getD K paZ).co.toNat 0 = -1 ∨ aheadQ l jobs K (fs.getD (l.getD K paZ).co.toNat 0).toNat = true)
    · rw [if_pos hc]
      by_cases e : co l k = co l K
      · refine ⟨K, by rw [e]; exact getD_set_self (by rw [hl]; exact hcK), ?_⟩
        by_cases ek : k = K
        · subst ek; exact Int.le_refl _
        · obtain ⟨u, h1, h2⟩ := ih (by omega)
          rcases hc.2 with h | h
          · rw [e] at h1
            rw [show (l.getD K paZ).co.toNat = co l K from rfl, h1] at h
            omega
          · rw [e] at h1
            rw [show (l.getD K paZ).co.toNat = co l K from rfl, h1, Int.toNat_natCast] at h
            unfold aheadQ at h
            by_cases hp : (l.getD K paZ).p ≠ (l.getD u paZ).p
            · rw [if_pos hp] at h
              have := of_decide_eq_true h
              omega
            · omega
      · obtain ⟨u, h1, h2⟩ := ih (by
          rcases Nat.lt_or_ge k K with g | g
          · exact g
          · exact absurd (show co l k = co l K by rw [show k = K by omega]) e)
        exact ⟨u, by rw [show (l.getD K paZ).co.toNat = co l K from rfl, getD_set_other (fun h => e h.symm)]; exact h1, h2⟩
    · rw [if_neg hc]
      by_cases ek : k = K
      · subst ek
        have h1 : ¬ (fs.getD (l.getD k paZ).co.toNat 0 = -1 ∨ aheadQ l jobs k (fs.getD (l.getD k paZ).co.toNat 0).toNat = true) := fun h => hc ⟨hne, h⟩
        rcases hat' with h | ⟨u, h, hu, -⟩
        · exact absurd (.inl h) h1
        · refine ⟨u, h, ?_⟩
          have h2 : aheadQ l jobs k u ≠ true := fun g => h1 (.inr (by rw [show (l.getD k paZ).co.toNat = co l k from rfl, h, Int.toNat_natCast]; exact g))
          unfold aheadQ at h2
          by_cases hp : (l.getD k paZ).p ≠ (l.getD u paZ).p
          · rw [if_pos hp] at h2
            have : ¬ (l.getD u paZ).p < (l.getD k paZ).p := fun g => h2 (decide_eq_true g)
            omega
          · omega
      · exact ih (by omega)

/-- What a tick does; F: which parts run; z: to which part the message goes. -/
structure TkR (l : List Pa) (tk : List Int) (now : Int) (F : Nat → Bool) (z : Int) (s s' : Sc) : Prop where
  lj : s'.jobs.length = l.length
  lm : s'.mail.length = l.length
  le : s'.ends.length = s.ends.length
  er : ∀ n : Nat, (s'.ends.getD n []).length = (s.ends.getD n []).length
  un : s'.un = if z = -1 then -1 else if runD (M s z.toNat) = true then -1 else z
  j : ∀ k, k < l.length → J s' k = ((if F k = true then runQ (J s k) else J s k) ++ (if fr l k ≠ -1 ∧ se l k = 0 ∧ rD s F (fr l k).toNat = true then [⟨runC (J s (fr l k).toNat), now + 1, wkF l tk k (runC (J s (fr l k).toNat))⟩] else [])) ++ (if z = (k : Int) ∧ runD (M s k) = true then [⟨runC (M s k), now + 1, wkF l tk k (runC (M s k))⟩] else [])
  m : ∀ k, k < l.length → M s' k = (if z = (k : Int) then runQ (M s k) else M s k) ++ (if fr l k ≠ -1 ∧ se l k ≠ 0 ∧ rD s F (fr l k).toNat = true then [⟨runC (J s (fr l k).toNat), now + 1, se l k⟩] else [])
  e : ∀ n k, k < l.length → En s' n k = if rD s F k = true ∧ n = runC (J s k) then now + 1 else En s n k

theorem tick_form {l : List Pa} {tk : List Int} {now : Int} {s : Sc} (hok : PsOk l) (hj : s.jobs.length = l.length) (hm : s.mail.length = l.length)
    (hro : ∀ k, J s k ≠ [] → runC (J s k) < s.ends.length ∧ (s.ends.getD (runC (J s k)) []).length = l.length)
    (hz : sentF s = -1 ∨ ∃ u : Nat, sentF s = u ∧ u < l.length ∧ M s u ≠ []) :
    ∃ F : Nat → Bool, TkR l tk now F (sentF s) s (tickF l tk s now) ∧ (∀ k, F k = true → k < l.length ∧ J s k ≠ []) ∧ (∀ j k, F j = true → F k = true → co l j = co l k → j = k) ∧ (∀ k, k < l.length → J s k ≠ [] → ∃ u, F u = true ∧ co l u = co l k ∧ (l.getD k paZ).p ≤ (l.getD u paZ).p) := by
  have hco : ∀ k, k < l.length → co l k < 4 := fun k hk => by
    have := (hok.at_ k _ (some_getD (d := paZ) hk)).co
    unfold co
    omega
  have hfl := firstsTo_len l s.jobs l.length
  have hfs : ∀ c, c < 4 → (firstsTo l s.jobs l.length).getD c 0 = -1 ∨ ∃ u : Nat, (firstsTo l s.jobs l.length).getD c 0 = u ∧ u < l.length ∧ J s u ≠ [] ∧ co l u = c := fun c hc => firstsTo_at (l := l) (jobs := s.jobs) l.length c _ (some_getD (by rw [hfl]; exact hc))
  have hbest := firstsTo_best (l := l) (jobs := s.jobs) hco l.length (Nat.le_refl _)
  have hC := coresTo_form (l := l) (tk := tk) (now := now) (s := { s with un := sentF s }) hok hj hm hro hfs 4 (Nat.le_refl _)
  unfold tickF
  generalize firstsTo l s.jobs l.length = fs at *
  generalize sentF s = z at *
  generalize coresTo l tk now fs { s with un := z } 4 = s4 at *
  have hF1 : ∀ k, Fc l fs 4 k = true → k < l.length ∧ fs.getD (co l k) 0 = (k : Int) := fun k h => by
    unfold Fc at h
    simp only [Bool.and_eq_true, decide_eq_true_eq] at h
    exact ⟨h.1.1, h.2⟩
  refine ⟨Fc l fs 4, ?_, fun k h => ?_, fun j k h1 h2 he => ?_, fun k hk hne => ?_⟩
  · have hrd : ∀ u, rD { s with un := z } (Fc l fs 4) u = rD s (Fc l fs 4) u := fun _ => rfl
    unfold mailStep
    rcases hz with rfl | ⟨u, rfl, hu, hne⟩
    · rw [if_pos rfl]
      refine ⟨hC.lj, hC.lm, hC.le, hC.er, by rw [if_pos rfl]; exact hC.un, fun k hk => ?_, fun k hk => ?_, fun n k hk => hC.e n k hk⟩
      · rw [if_neg (c := (-1 : Int) = (k : Int) ∧ runD (M s k) = true) (fun h => by omega), List.append_nil]
        exact hC.j k hk
      · rw [if_neg (c := (-1 : Int) = (k : Int)) (by omega)]
        exact hC.m k hk
    · have hMu := hC.m u hu
      generalize hex : (if fr l u ≠ -1 ∧ se l u ≠ 0 ∧ rD { s with un := (u : Int) } (Fc l fs 4) (fr l u).toNat = true then [(⟨runC (J { s with un := (u : Int) } (fr l u).toNat), now + 1, se l u⟩ : Pc)] else []) = ex at hMu
      have hM0 : M { s with un := (u : Int) } u = M s u := rfl
      rw [hM0] at hMu
      have hq1 : runQ (M s4 u) = runQ (M s u) ++ ex := by rw [hMu]; exact runQ_app hne
      have hq2 : runC (M s4 u) = runC (M s u) := by rw [hMu]; exact runC_app hne
      have hq3 : runD (M s4 u) = runD (M s u) := by rw [hMu]; exact runD_app hne
      rw [if_neg (by omega), Int.toNat_natCast, show s4.mail.getD u [] = M s4 u from rfl, hq1, hq2, hq3]
      have hMk : ∀ k, k < l.length → (s4.mail.set u (runQ (M s u) ++ ex)).getD k [] = (if (u : Int) = (k : Int) then runQ (M s k) else M s k) ++ (if fr l k ≠ -1 ∧ se l k ≠ 0 ∧ rD s (Fc l fs 4) (fr l k).toNat = true then [⟨runC (J s (fr l k).toNat), now + 1, se l k⟩] else []) := fun k hk => by
        by_cases e : u = k
        · subst e
          rw [getD_set_self (by rw [hC.lm]; exact hu), if_pos rfl, ← hex]
          rfl
        · rw [getD_set_other e, if_neg (by omega)]
          exact hC.m k hk
      by_cases hd : runD (M s u) = true
      · rw [if_pos hd]
        refine ⟨by simp only [addJ, List.length_set]; exact hC.lj, by simp only [addJ, List.length_set]; exact hC.lm, hC.le, hC.er, ?_, fun k hk => ?_, hMk, fun n k hk => hC.e n k hk⟩
        · rw [if_neg (by omega), Int.toNat_natCast, if_pos hd]; rfl
        · unfold J addJ
          dsimp only
          by_cases e : u = k
          · subst e
            rw [getD_set_self (by rw [hC.lj]; exact hu), if_pos (c := (u : Int) = (u : Int) ∧ runD (M s u) = true) ⟨rfl, hd⟩]
            congr 1
            exact hC.j u hk
          · rw [getD_set_other e, if_neg (c := (u : Int) = (k : Int) ∧ runD (M s k) = true) (fun h => by omega), List.append_nil]
            exact hC.j k hk
      · rw [if_neg hd]
        refine ⟨hC.lj, by simp only [List.length_set]; exact hC.lm, hC.le, hC.er, ?_, fun k hk => ?_, hMk, fun n k hk => hC.e n k hk⟩
        · rw [if_neg (by omega), Int.toNat_natCast, if_neg hd]; exact hC.un
        · rw [if_neg (c := (u : Int) = (k : Int) ∧ runD (M s k) = true) (fun h => by
            have : u = k := by omega
            subst this
            exact hd h.2), List.append_nil]
          exact hC.j k hk
  · obtain ⟨h1, h2⟩ := hF1 k h
    refine ⟨h1, ?_⟩
    rcases hfs (co l k) (hco k h1) with g | ⟨u, g1, g2, g3, g4⟩
    · omega
    · have : u = k := by omega
      subst this
      exact g3
  · obtain ⟨a1, a2⟩ := hF1 j h1
    obtain ⟨b1, b2⟩ := hF1 k h2
    rw [he, b2] at a2
    omega
  · obtain ⟨u, h1, h2⟩ := hbest k hk hne
    rcases hfs (co l k) (hco k hk) with g | ⟨v, g1, g2, g3, g4⟩
    · omega
    · have : v = u := by omega
      subst this
      refine ⟨v, ?_, g4, h2⟩
      unfold Fc
      rw [decide_eq_true g2, g4, decide_eq_true (hco k hk), g1]
      simp
end Keep
end Go.Proofs.Ytccoobcggbbciam
namespace Go.Proofs.Ytccoobcggbbciam
open Go.ChangeShapes Go.WideShapes Go.ChangeAt Go.RowKit

/- Chapter 18, pure: what holds of a scene, and what a tick does to what is left. -/
namespace Keep
/-- The part with which the chain of a part begins. -/
def rtG (l : List Pa) : Nat → Nat → Nat
  | 0, k => k
  | f + 1, k => if fr l k = -1 then k else rtG l f (fr l k).toNat
def rt (l : List Pa) (k : Nat) : Nat := rtG l k k
theorem fr_at {l : List Pa} (hok : PsOk l) {k : Nat} (hk : k < l.length) : (fr l k = -1 ∧ se l k = 0) ∨ ∃ f : Nat, fr l k = f ∧ f < k ∧ (l.getD k paZ).t = (l.getD f paZ).t := by
  rcases (hok.at_ k _ (some_getD (d := paZ) hk)).fr with h | ⟨h1, h2, y, h3, h4⟩
  · exact .inl h
  · refine .inr ⟨(fr l k).toNat, by unfold fr; omega, by unfold fr; omega, ?_⟩
    rw [h4]
    unfold fr
    rw [List.getD_eq_getElem?_getD, List.getD_eq_getElem?_getD] at *
    rw [h3]; rfl
theorem rtG_same {l : List Pa} (hok : PsOk l) : ∀ (f g k : Nat), k < l.length → k ≤ f → k ≤ g → rtG l f k = rtG l g k
  | 0, g, k, hk, hf, _ => by
    have : k = 0 := by omega
    subst this
    rcases fr_at hok hk with ⟨h, -⟩ | ⟨f, -, h, -⟩
    · cases g with
      | zero => rfl
      | succ g => unfold rtG; rw [if_pos h]
    · omega
  | f + 1, 0, k, hk, _, hg => by
    have : k = 0 := by omega
    subst this
    rcases fr_at hok hk with ⟨h, -⟩ | ⟨f, -, h, -⟩
    · unfold rtG; rw [if_pos h]
    · omega
  | f + 1, g + 1, k, hk, hf, hg => by
    unfold rtG
    by_cases h : fr l k = -1
    · rw [if_pos h, if_pos h]
    · rw [if_neg h, if_neg h]
      rcases fr_at hok hk with ⟨h', -⟩ | ⟨e, h1, h2, -⟩
      · exact absurd h' h
      · rw [h1, Int.toNat_natCast]
        exact rtG_same hok f g e (by omega) (by omega) (by omega)
theorem rt_self {l : List Pa} {k : Nat} (h : fr l k = -1) : rt l k = k := by
  unfold rt
  cases k with
  | zero => rfl
  | succ k => unfold rtG; rw [if_pos h]
theorem rt_up {l : List Pa} (hok : PsOk l) {k f : Nat} (hk : k < l.length) (h : fr l k = (f : Int)) : rt l k = rt l f := by
  rcases fr_at hok hk with ⟨h', -⟩ | ⟨e, h1, h2, -⟩
  · omega
  · have : e = f := by omega
    subst this
    unfold rt
    cases k with
    | zero => omega
    | succ k =>
      show (if fr l (k + 1) = -1 then k + 1 else rtG l k (fr l (k + 1)).toNat) = _
      rw [if_neg (by omega), h1, Int.toNat_natCast]
      exact rtG_same hok k e e (by omega) (by omega) (Nat.le_refl _)
/-- Part k belongs to coming n. -/
def Real (l : List Pa) (cs : List Co) (n k : Nat) : Prop := n < cs.length ∧ k < l.length ∧ rt l k = (cs.getD n ⟨0, 0⟩).k.toNat
instance (l : List Pa) (cs : List Co) (n k : Nat) : Decidable (Real l cs n k) := inferInstanceAs (Decidable (_ ∧ _ ∧ _))
theorem Real.up {l : List Pa} {cs : List Co} {n k f : Nat} (hok : PsOk l) (hk : k < l.length) (h : fr l k = (f : Int)) (hr : Real l cs n f) : Real l cs n k := ⟨hr.1, hk, (rt_up hok hk h).trans hr.2.2⟩
theorem Real.down {l : List Pa} {cs : List Co} {n k f : Nat} (hok : PsOk l) (h : fr l k = (f : Int)) (hr : Real l cs n k) : Real l cs n f := by
  refine ⟨hr.1, ?_, (rt_up hok hr.2.1 h).symm.trans hr.2.2⟩
  rcases fr_at hok hr.2.1 with ⟨h', -⟩ | ⟨e, h1, h2, -⟩
  · omega
  · have := hr.2.1
    omega

def fnd (q : List Pc) (n : Nat) : Option Pc := q.find? (fun p => decide (p.cm = (n : Int)))
theorem fnd_none {q : List Pc} {n : Nat} : fnd q n = none ↔ ∀ p ∈ q, p.cm ≠ (n : Int) := by
  unfold fnd
  rw [List.find?_eq_none]
  simp
theorem fnd_some {q : List Pc} {n : Nat} {p : Pc} (h : fnd q n = some p) : p ∈ q ∧ p.cm = (n : Int) := by
  unfold fnd at h
  exact ⟨List.mem_of_find?_eq_some h, by simpa using List.find?_some h⟩
theorem fnd_app (q r : List Pc) (n : Nat) : fnd (q ++ r) n = (fnd q n).or (fnd r n) := by unfold fnd; exact List.find?_append
theorem fnd_hit {p : Pc} {q : List Pc} {n : Nat} (h : p.cm = (n : Int)) : fnd (p :: q) n = some p := by unfold fnd; rw [List.find?_cons_of_pos (by simpa using h)]
theorem fnd_miss {p : Pc} {q : List Pc} {n : Nat} (h : p.cm ≠ (n : Int)) : fnd (p :: q) n = fnd q n := by unfold fnd; rw [List.find?_cons_of_neg (by simpa using h)]
theorem fnd_isSome {q : List Pc} {p : Pc} {n : Nat} (hp : p ∈ q) (h : p.cm = (n : Int)) : (fnd q n).isSome = true := by
  cases e : fnd q n with
  | some x => rfl
  | none => exact absurd h (fnd_none.1 e p hp)
theorem fnd_if {c : Prop} [Decidable c] {x : Pc} {n : Nat} : fnd (if c then [x] else []) n = if c ∧ x.cm = (n : Int) then some x else none := by
  by_cases h : c
  · rw [if_pos h]
    by_cases g : x.cm = (n : Int)
    · rw [if_pos ⟨h, g⟩]; exact fnd_hit g
    · rw [if_neg (fun h' => g h'.2)]; exact fnd_miss g
  · rw [if_neg h, if_neg (fun h' => h h'.1)]; rfl

/-- Part k's job is there for coming n, or was. -/
def rlJ (s : Sc) (k n : Nat) : Bool := (fnd (J s k) n).isSome || decide (En s n k ≠ -1)
def rlM (s : Sc) (k n : Nat) : Bool := (fnd (M s k) n).isSome || rlJ s k n
def lfJ (l : List Pa) (tk : List Int) (s : Sc) (k n : Nat) : Int := match fnd (J s k) n with
  | some p => p.lf
  | none => if En s n k = -1 then wkF l tk k n else 0
def lfM (l : List Pa) (s : Sc) (k n : Nat) : Int := match fnd (M s k) n with
  | some p => p.lf
  | none => if rlJ s k n = true then 0 else se l k

/-- What holds of a scene. -/
structure Iv (l : List Pa) (tk : List Int) (cs : List Co) (Cm : Nat → Prop) (T : Int) (s : Sc) : Prop where
  lj : s.jobs.length = l.length
  lm : s.mail.length = l.length
  le : s.ends.length = cs.length
  er : ∀ n, n < cs.length → (s.ends.getD n []).length = l.length
  ev : ∀ n k, En s n k = -1 ∨ (0 ≤ En s n k ∧ En s n k ≤ T)
  j : ∀ k, k < l.length → ∀ p ∈ J s k, ∃ n : Nat, p.cm = n ∧ En s n k = -1 ∧ 1 ≤ p.lf ∧ p.lf ≤ wkF l tk k n
  jd : ∀ k, k < l.length → (J s k).Pairwise (fun a b => a.cm ≠ b.cm)
  m : ∀ k, k < l.length → ∀ p ∈ M s k, ∃ n f : Nat, p.cm = n ∧ fnd (J s k) n = none ∧ En s n k = -1 ∧ 1 ≤ p.lf ∧ p.lf ≤ se l k ∧ p.si ≤ T ∧ fr l k = f ∧ En s n f ≠ -1
  md : ∀ k, k < l.length → (M s k).Pairwise (fun a b => a.cm ≠ b.cm ∧ a.si < b.si)
  rl : ∀ k n, k < l.length → rlJ s k n = true → Real l cs n k ∧ (fr l k = -1 → Cm n) ∧ (∀ f : Nat, fr l k = f → En s n f ≠ -1)
  pr1 : ∀ k n, Real l cs n k → fr l k = -1 → Cm n → rlJ s k n = true
  pr2 : ∀ k n (f : Nat), Real l cs n k → fr l k = f → En s n f ≠ -1 → se l k = 0 → rlJ s k n = true
  pr3 : ∀ k n (f : Nat), Real l cs n k → fr l k = f → En s n f ≠ -1 → se l k ≠ 0 → rlM s k n = true
  un : s.un = -1 ∨ ∃ u : Nat, s.un = u ∧ u < l.length ∧ M s u ≠ []

/-- A tick under way. -/
structure Tc (l : List Pa) (tk : List Int) (cs : List Co) (Cm : Nat → Prop) (now : Int) (F : Nat → Bool) (z : Int) (s s' : Sc) : Prop where
  ok : PsOk l
  iv : Iv l tk cs Cm now s
  tr : TkR l tk now F z s s'
  now0 : 0 ≤ now
  hF : ∀ k, F k = true → k < l.length ∧ J s k ≠ []
  hz : z = -1 ∨ ∃ u : Nat, z = u ∧ u < l.length ∧ M s u ≠ []

section
variable {l : List Pa} {tk : List Int} {cs : List Co} {Cm : Nat → Prop} {now : Int} {F : Nat → Bool} {z : Int} {s s' : Sc}

theorem rlJ_no {k n : Nat} : rlJ s k n = false ↔ fnd (J s k) n = none ∧ En s n k = -1 := by
  unfold rlJ
  rw [Bool.or_eq_false_iff, decide_eq_false_iff_not, Option.isSome_eq_false_iff, Option.isNone_iff_eq_none]
  simp
theorem rlM_no {k n : Nat} : rlM s k n = false ↔ fnd (M s k) n = none ∧ rlJ s k n = false := by
  unfold rlM
  rw [Bool.or_eq_false_iff, Option.isSome_eq_false_iff, Option.isNone_iff_eq_none]

/-- The one that runs. -/
theorem Iv.head (h : Iv l tk cs Cm now s) {k : Nat} (hk : k < l.length) (hne : J s k ≠ []) : ∃ (n : Nat) (p : Pc) (r : List Pc), J s k = p :: r ∧ p.cm = n ∧ runC (J s k) = n ∧ En s n k = -1 ∧ 1 ≤ p.lf ∧ p.lf ≤ wkF l tk k n ∧ (∀ x ∈ r, x.cm ≠ (n : Int)) ∧ (runD (J s k) = true ↔ p.lf = 1) ∧ fnd (J s k) n = some p := by
  have h1 := h.j k hk
  have h2 := h.jd k hk
  generalize J s k = q at *
  cases q with
  | nil => exact absurd rfl hne
  | cons p r =>
    obtain ⟨n, g1, g2, g3, g4⟩ := h1 p List.mem_cons_self
    refine ⟨n, p, r, rfl, g1, by show p.cm.toNat = n; omega, g2, g3, g4, fun x hx e => (List.pairwise_cons.1 h2).1 x hx (by rw [e, g1]), ?_, fnd_hit g1⟩
    show (!decide (0 < p.lf - 1)) = true ↔ _
    by_cases e : 0 < p.lf - 1
    · rw [decide_eq_true e]; simp; omega
    · rw [decide_eq_false e]; simp; omega
theorem Iv.headM (h : Iv l tk cs Cm now s) {k : Nat} (hk : k < l.length) (hne : M s k ≠ []) : ∃ (n f : Nat) (p : Pc) (r : List Pc), M s k = p :: r ∧ p.cm = n ∧ runC (M s k) = n ∧ fnd (J s k) n = none ∧ En s n k = -1 ∧ 1 ≤ p.lf ∧ p.lf ≤ se l k ∧ (∀ x ∈ r, x.cm ≠ (n : Int) ∧ p.si < x.si) ∧ (runD (M s k) = true ↔ p.lf = 1) ∧ fnd (M s k) n = some p ∧ fr l k = f ∧ En s n f ≠ -1 := by
  have h1 := h.m k hk
  have h2 := h.md k hk
  generalize M s k = q at *
  cases q with
  | nil => exact absurd rfl hne
  | cons p r =>
    obtain ⟨n, f, g1, g2, g3, g4, g5, g6, g7, g8⟩ := h1 p List.mem_cons_self
    refine ⟨n, f, p, r, rfl, g1, by show p.cm.toNat = n; omega, g2, g3, g4, g5, fun x hx => ⟨fun e => ((List.pairwise_cons.1 h2).1 x hx).1 (by rw [e, g1]), ((List.pairwise_cons.1 h2).1 x hx).2⟩, ?_, fnd_hit g1, g7, g8⟩
    show (!decide (0 < p.lf - 1)) = true ↔ _
    by_cases e : 0 < p.lf - 1
    · rw [decide_eq_true e]; simp; omega
    · rw [decide_eq_false e]; simp; omega

/-- A job that begins to be there in this tick. -/
def nwJ (l : List Pa) (F : Nat → Bool) (z : Int) (s : Sc) (k n : Nat) : Prop := (fr l k ≠ -1 ∧ se l k = 0 ∧ rD s F (fr l k).toNat = true ∧ n = runC (J s (fr l k).toNat)) ∨ (z = (k : Int) ∧ runD (M s k) = true ∧ n = runC (M s k))
instance (k n : Nat) : Decidable (nwJ l F z s k n) := inferInstanceAs (Decidable (_ ∨ _))
def nwM (l : List Pa) (F : Nat → Bool) (s : Sc) (k n : Nat) : Prop := fr l k ≠ -1 ∧ se l k ≠ 0 ∧ rD s F (fr l k).toNat = true ∧ n = runC (J s (fr l k).toNat)
instance (k n : Nat) : Decidable (nwM l F s k n) := inferInstanceAs (Decidable (_ ∧ _))

theorem Tc.isD (h : Tc l tk cs Cm now F z s s') {f : Nat} (hd : rD s F f = true) : f < l.length ∧ F f = true ∧ ∃ (n : Nat) (p : Pc), runC (J s f) = n ∧ fnd (J s f) n = some p ∧ p.lf = 1 ∧ En s n f = -1 ∧ En s' n f ≠ -1 := by
  have hd0 := hd
  unfold rD at hd
  rw [Bool.and_eq_true] at hd
  obtain ⟨h1, h2⟩ := h.hF f hd.1
  obtain ⟨n, p, r, -, -, g3, g4, -, -, -, g7, g8⟩ := h.iv.head h1 h2
  refine ⟨h1, hd.1, n, p, g3, g8, g7.1 hd.2, g4, ?_⟩
  rw [h.tr.e n f h1, if_pos ⟨hd0, g3.symm⟩]
  have := h.now0
  omega

theorem Tc.from (h : Tc l tk cs Cm now F z s s') {k : Nat} (hk : k < l.length) (h1 : fr l k ≠ -1) : ∃ f : Nat, fr l k = f ∧ (fr l k).toNat = f ∧ f < k := by
  rcases fr_at h.ok hk with ⟨e, -⟩ | ⟨f, e1, e2, -⟩
  · exact absurd e h1
  · exact ⟨f, e1, by omega, e2⟩

/-- What comes out of an end wasn't there. -/
theorem Tc.hang (h : Tc l tk cs Cm now F z s s') {k n : Nat} (hk : k < l.length) (h1 : fr l k ≠ -1) (hd : rD s F (fr l k).toNat = true) (hn : n = runC (J s (fr l k).toNat)) : rlJ s k n = false ∧ (fnd (M s k) n = none) ∧ Real l cs n k ∧ ∀ f : Nat, fr l k = f → En s' n f ≠ -1 := by
  obtain ⟨f, e1, e2, e3⟩ := h.from hk h1
  rw [e2] at hd hn
  obtain ⟨g1, g2, n', p, g3, g4, g5, g6, g7⟩ := h.isD hd
  have : n = n' := by rw [hn, g3]
  subst this
  have hno : rlJ s k n = false := by
    rw [← Bool.not_eq_true]
    intro hr
    exact (h.iv.rl k n hk hr).2.2 f e1 g6
  refine ⟨hno, ?_, ?_, fun f' hf' => ?_⟩
  · rw [fnd_none]
    intro x hx ex
    obtain ⟨n2, f2, k1, -, -, -, -, -, k7, k8⟩ := h.iv.m k hk x hx
    have : n2 = n := by omega
    subst this
    have : f2 = f := by omega
    subst this
    exact k8 g6
  · have := (h.iv.rl f n g1 (by unfold rlJ; rw [g4]; rfl)).1
    exact this.up h.ok hk e1
  · have : f' = f := by omega
    subst this
    exact g7

theorem Tc.isNew (h : Tc l tk cs Cm now F z s s') {k n : Nat} (hk : k < l.length) (hn : nwJ l F z s k n) : rlJ s k n = false ∧ Real l cs n k ∧ ∃ f : Nat, fr l k = f ∧ En s' n f ≠ -1 := by
  rcases hn with ⟨h1, -, h3, h4⟩ | ⟨h1, h2, h3⟩
  · obtain ⟨g1, -, g3, g4⟩ := h.hang hk h1 h3 h4
    obtain ⟨f, e1, -, -⟩ := h.from hk h1
    exact ⟨g1, g3, f, e1, g4 f e1⟩
  · rcases h.hz with e | ⟨u, e, hu, hne⟩
    · omega
    · have : u = k := by omega
      subst this
      obtain ⟨n', f, p, r, k1, k2, k3, k4, k5, k6, k7, -, k9, k10, k11, k12⟩ := h.iv.headM hu hne
      have : n = n' := by omega
      subst this
      have hf : f < l.length := by
        obtain ⟨f', q1, -, q3⟩ := h.from hk (by omega)
        omega
      have hrf := (h.iv.rl f n hf (by unfold rlJ; rw [decide_eq_true k12]; simp)).1
      refine ⟨rlJ_no.2 ⟨k4, k5⟩, hrf.up h.ok hk k11, f, k11, ?_⟩
      rw [h.tr.e n f hf]
      split
      · have := h.now0; omega
      · exact k12

theorem fnd_runQ {p : Pc} {r : List Pc} {n0 n : Nat} (h1 : p.cm = (n0 : Int)) (h2 : ∀ x ∈ r, x.cm ≠ (n0 : Int)) : fnd (runQ (p :: r)) n = if n = n0 then (if p.lf = 1 ∨ p.lf ≤ 0 then none else some { p with lf := p.lf - 1 }) else fnd (p :: r) n := by
  by_cases hl : 0 < p.lf - 1
  · rw [show runQ (p :: r) = { p with lf := p.lf - 1 } :: r from if_pos hl]
    by_cases e : n = n0
    · subst e
      rw [if_pos rfl, if_neg (by omega)]
      exact fnd_hit h1
    · rw [if_neg e, fnd_miss (show p.cm ≠ (n : Int) by omega)]
      exact fnd_miss (show p.cm ≠ (n : Int) by omega)
  · rw [show runQ (p :: r) = r from if_neg hl]
    by_cases e : n = n0
    · subst e
      rw [if_pos rfl, if_pos (by omega)]
      exact fnd_none.2 h2
    · rw [if_neg e, fnd_miss (show p.cm ≠ (n : Int) by omega)]

/-- Who is found in a part's line behind the tick. -/
theorem Tc.fndJ (h : Tc l tk cs Cm now F z s s') {k : Nat} (hk : k < l.length) (n : Nat) : fnd (J s' k) n = (if F k = true ∧ n = runC (J s k) then (if rD s F k = true then none else (fnd (J s k) n).map (fun p => { p with lf := p.lf - 1 })) else fnd (J s k) n).or (if nwJ l F z s k n then some ⟨n, now + 1, wkF l tk k n⟩ else none) := by
  rw [h.tr.j k hk, fnd_app, fnd_app, fnd_if, fnd_if, Option.or_assoc]
  congr 1
  · by_cases hF : F k = true
    · obtain ⟨-, hne⟩ := h.hF k hF
      obtain ⟨n0, p, r, g1, g2, g3, g4, g5, g6, g7, g8, g9⟩ := h.iv.head hk hne
      rw [if_pos hF]
      have hrD : rD s F k = true ↔ p.lf = 1 := by unfold rD; rw [hF, Bool.true_and]; exact g8
      rw [g3]
      by_cases e : n = n0
      · subst e
        rw [if_pos ⟨hF, rfl⟩, g9, g1, fnd_runQ g2 g7, if_pos rfl]
        by_cases hd : p.lf = 1
        · rw [if_pos (.inl hd), if_pos (hrD.2 hd)]
        · rw [if_neg (by omega), if_neg (fun h => hd (hrD.1 h))]; rfl
      · rw [if_neg (fun h => e h.2), g1, fnd_runQ g2 g7, if_neg e]
    · rw [if_neg hF, if_neg (fun h => hF h.1)]
  · by_cases hn : nwJ l F z s k n
    · rw [if_pos hn]
      rcases hn with ⟨h1, h2, h3, h4⟩ | ⟨h1, h2, h3⟩
      · rw [if_pos ⟨⟨h1, h2, h3⟩, by dsimp only; omega⟩, ← h4]; rfl
      · rw [if_pos (c := (z = (k : Int) ∧ runD (M s k) = true) ∧ _) ⟨⟨h1, h2⟩, by dsimp only; omega⟩, ← h3]
        rw [if_neg]
        · rfl
        · rintro ⟨⟨a1, a2, -⟩, -⟩
          rcases h.hz with e | ⟨u, e, hu, hne⟩
          · omega
          · have : u = k := by omega
            subst this
            obtain ⟨-, -, p, -, -, -, -, -, -, b6, b7, -⟩ := h.iv.headM hu hne
            omega
    · rw [if_neg hn, if_neg (fun g => hn (.inl ⟨g.1.1, g.1.2.1, g.1.2.2, by have := g.2; dsimp only at this; omega⟩)), if_neg (fun g => hn (.inr ⟨g.1.1, g.1.2, by have := g.2; dsimp only at this; omega⟩))]
      rfl

theorem Tc.fndM (h : Tc l tk cs Cm now F z s s') {k : Nat} (hk : k < l.length) (n : Nat) : fnd (M s' k) n = (if z = (k : Int) ∧ n = runC (M s k) then (if runD (M s k) = true then none else (fnd (M s k) n).map (fun p => { p with lf := p.lf - 1 })) else fnd (M s k) n).or (if nwM l F s k n then some ⟨n, now + 1, se l k⟩ else none) := by
  rw [h.tr.m k hk, fnd_app, fnd_if]
  congr 1
  · by_cases hz : z = (k : Int)
    · rcases h.hz with e | ⟨u, e, hu, hne⟩
      · omega
      · have : u = k := by omega
        subst this
        obtain ⟨n0, f, p, r, g1, g2, g3, g4, g5, g6, g7, g8, g9, g10, -⟩ := h.iv.headM hu hne
        rw [if_pos hz, g3]
        by_cases e : n = n0
        · subst e
          rw [if_pos ⟨hz, rfl⟩, g10, g1, fnd_runQ g2 (fun x hx => (g8 x hx).1), if_pos rfl, ← g1]
          by_cases hd : p.lf = 1
          · rw [if_pos (.inl hd), if_pos (g9.2 hd)]
          · rw [if_neg (by omega), if_neg (fun h => hd (g9.1 h))]; rfl
        · rw [if_neg (fun h => e h.2), g1, fnd_runQ g2 (fun x hx => (g8 x hx).1), if_neg e]
    · rw [if_neg hz, if_neg (fun h => hz h.1)]
  · by_cases hn : nwM l F s k n
    · rw [if_pos hn]
      obtain ⟨h1, h2, h3, h4⟩ := hn
      rw [if_pos ⟨⟨h1, h2, h3⟩, by dsimp only; omega⟩, ← h4]
    · rw [if_neg hn, if_neg (fun g => hn ⟨g.1.1, g.1.2.1, g.1.2.2, by have := g.2; dsimp only at this; omega⟩)]

/-- What was done stays done. -/
theorem Tc.ends (h : Tc l tk cs Cm now F z s s') {k n : Nat} (hk : k < l.length) (he : En s n k ≠ -1) : En s' n k = En s n k := by
  rw [h.tr.e n k hk, if_neg]
  rintro ⟨h1, h2⟩
  obtain ⟨-, -, n', p, g3, -, -, g6, -⟩ := h.isD h1
  have : n = n' := by omega
  subst this
  exact he g6

/-- A tick of work. -/
theorem Tc.left (h : Tc l tk cs Cm now F z s s') {k : Nat} (hk : k < l.length) (n : Nat) : lfJ l tk s' k n = if F k = true ∧ n = runC (J s k) then lfJ l tk s k n - 1 else lfJ l tk s k n := by
  unfold lfJ
  rw [h.fndJ hk n]
  by_cases hr : F k = true ∧ n = runC (J s k)
  · rw [if_pos hr, if_pos hr]
    obtain ⟨hF, hn⟩ := hr
    obtain ⟨-, hne⟩ := h.hF k hF
    obtain ⟨n0, p, r, g1, g2, g3, g4, g5, g6, g7, g8, g9⟩ := h.iv.head hk hne
    have : n = n0 := by omega
    subst this
    have hnw : ¬ nwJ l F z s k n := fun g => by
      have := (rlJ_no.1 (h.isNew hk g).1).1
      rw [g9] at this
      cases this
    rw [if_neg hnw, g9]
    by_cases hd : rD s F k = true
    · rw [if_pos hd]
      have hl : p.lf = 1 := g8.1 (by unfold rD at hd; rw [Bool.and_eq_true] at hd; exact hd.2)
      show (if En s' n k = -1 then _ else (0 : Int)) = p.lf - 1
      rw [h.tr.e n k hk, if_pos (c := rD s F k = true ∧ _) ⟨hd, hn⟩, if_neg (by have := h.now0; omega)]
      omega
    · rw [if_neg hd]
      rfl
  · rw [if_neg hr, if_neg hr]
    have he : En s' n k = En s n k := by
      rw [h.tr.e n k hk, if_neg]
      rintro ⟨h1, h2⟩
      unfold rD at h1
      rw [Bool.and_eq_true] at h1
      exact hr ⟨h1.1, h2⟩
    cases e : fnd (J s k) n with
    | some p => rfl
    | none =>
      by_cases hn : nwJ l F z s k n
      · rw [if_pos hn]
        have := (rlJ_no.1 (h.isNew hk hn).1).2
        show wkF l tk k n = if En s n k = -1 then _ else _
        rw [if_pos this]
      · rw [if_neg hn]
        show (if En s' n k = -1 then _ else (0 : Int)) = _
        rw [he]

theorem Tc.grow (h : Tc l tk cs Cm now F z s s') {k n : Nat} (hk : k < l.length) : rlJ s' k n = true ↔ rlJ s k n = true ∨ nwJ l F z s k n := by
  constructor
  · intro hr
    by_cases hn : nwJ l F z s k n
    · exact .inr hn
    · left
      unfold rlJ at hr ⊢
      rw [h.fndJ hk n, if_neg hn, Option.or_none] at hr
      by_cases hc : F k = true ∧ n = runC (J s k)
      · obtain ⟨hF, e⟩ := hc
        obtain ⟨-, hne⟩ := h.hF k hF
        obtain ⟨n0, p, r, g1, g2, g3, g4, g5, g6, g7, g8, g9⟩ := h.iv.head hk hne
        have : n = n0 := by omega
        subst this
        rw [g9]; rfl
      · rw [if_neg hc] at hr
        have he : En s' n k = En s n k := by
          rw [h.tr.e n k hk, if_neg]
          rintro ⟨h1, h2⟩
          unfold rD at h1
          rw [Bool.and_eq_true] at h1
          exact hc ⟨h1.1, h2⟩
        rw [he] at hr
        exact hr
  · rintro (hr | hn)
    · unfold rlJ at hr ⊢
      by_cases he : En s n k = -1
      · rw [decide_eq_false (by simpa using he), Bool.or_false] at hr
        rw [h.fndJ hk n]
        by_cases hc : F k = true ∧ n = runC (J s k)
        · rw [if_pos hc]
          by_cases hd : rD s F k = true
          · rw [h.tr.e n k hk, if_pos (c := rD s F k = true ∧ _) ⟨hd, hc.2⟩, decide_eq_true (by have := h.now0; omega)]
            simp
          · rw [if_neg hd]
            cases e : fnd (J s k) n with
            | some p => rfl
            | none => rw [e] at hr; cases hr
        · rw [if_neg hc]
          cases e : fnd (J s k) n with
          | some p => rfl
          | none => rw [e] at hr; cases hr
      · rw [h.ends hk he, decide_eq_true he, Bool.or_true]
    · unfold rlJ
      rw [h.fndJ hk n, if_pos hn]
      have : ∀ a : Option Pc, (a.or (some ⟨n, now + 1, wkF l tk k n⟩)).isSome = true := fun a => by cases a <;> rfl
      rw [this]; rfl

theorem Tc.leftM (h : Tc l tk cs Cm now F z s s') {k : Nat} (hk : k < l.length) (hse : se l k ≠ 0) (n : Nat) : lfM l s' k n = if z = (k : Int) ∧ n = runC (M s k) then lfM l s k n - 1 else lfM l s k n := by
  unfold lfM
  rw [h.fndM hk n]
  by_cases hr : z = (k : Int) ∧ n = runC (M s k)
  · rw [if_pos hr, if_pos hr]
    rcases h.hz with e | ⟨u, e, hu, hne⟩
    · omega
    have : u = k := by omega
    subst this
    obtain ⟨n0, f, p, r, g1, g2, g3, g4, g5, g6, g7, g8, g9, g10, g11, g12⟩ := h.iv.headM hu hne
    have : n = n0 := by omega
    subst this
    have hnw : ¬ nwM l F s u n := fun g => by
      have := (h.hang hk g.1 g.2.2.1 g.2.2.2).2.1
      rw [g10] at this
      cases this
    rw [if_neg hnw, g10]
    by_cases hd : runD (M s u) = true
    · rw [if_pos hd]
      have hl : p.lf = 1 := g9.1 hd
      have : rlJ s' u n = true := (h.grow hk).2 (.inr (.inr ⟨e, hd, hr.2⟩))
      show (if rlJ s' u n = true then (0 : Int) else _) = p.lf - 1
      rw [if_pos this]
      omega
    · rw [if_neg hd]
      rfl
  · rw [if_neg hr, if_neg hr]
    cases e : fnd (M s k) n with
    | some p => rfl
    | none =>
      by_cases hn : nwM l F s k n
      · rw [if_pos hn]
        have := (h.hang hk hn.1 hn.2.2.1 hn.2.2.2).1
        show se l k = if rlJ s k n = true then _ else _
        rw [if_neg (by simp [this])]
      · rw [if_neg hn]
        show (if rlJ s' k n = true then (0 : Int) else _) = _
        have : rlJ s' k n = true ↔ rlJ s k n = true := by
          rw [h.grow hk]
          constructor
          · rintro (g | g)
            · exact g
            · exfalso
              rcases g with ⟨-, g2, -⟩ | g
              · exact hse g2
              · exact hr ⟨g.1, g.2.2⟩
          · exact fun g => .inl g
        by_cases hq : rlJ s k n = true
        · rw [if_pos hq, if_pos (this.2 hq)]
        · rw [if_neg hq, if_neg (fun g => hq (this.1 g))]
end
end Keep
end Go.Proofs.Ytccoobcggbbciam
