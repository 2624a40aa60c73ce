import Derived.Test.YtccoobcggbbciamHI0
namespace Go.Proofs.Ytccoobcggbbciam
open Go.ChangeShapes Go.WideShapes Go.ChangeAt Go.RowKit

/- Chapter 18, pure: what Check tells, and that later comings never make anything sooner. -/
structure PaOk (l : List Pa) (i : Nat) (x : Pa) : Prop where
  co : 0 ≤ x.co ∧ x.co ≤ 3
  se : 0 ≤ x.se ∧ x.se ≤ 1000
  c : 1 ≤ x.c
  cd : x.c ≤ x.d
  dt : x.d ≤ x.t
  t : x.t ≤ 10000
  p : 0 ≤ x.p ∧ x.p ≤ 1000
  fr : (x.fr = -1 ∧ x.se = 0) ∨ (0 ≤ x.fr ∧ x.fr < (i : Int) ∧ ∃ y, l[x.fr.toNat]? = some y ∧ x.t = y.t)
structure PsOk (l : List Pa) : Prop where
  one : 1 ≤ l.length
  most : l.length ≤ 8
  at_ : ∀ i x, l[i]? = some x → PaOk l i x

theorem wrongP_ok {x : Pa} {a : List Pa} (h : wrongP x a = 0) : PaOk (a ++ [x]) a.length x := by
  unfold wrongP at h
  by_cases h1 : mayP x = false
  · rw [if_pos h1] at h; cases h
  rw [if_neg h1] at h
  by_cases h2 : within x.fr (-1) ((a.length : Int) - 1) = false ∨ (x.fr = -1 ∧ x.se ≠ 0)
  · rw [if_pos h2] at h; cases h
  rw [if_neg h2] at h
  by_cases h3 : within x.d x.c x.t = false ∨ (x.fr ≠ -1 ∧ x.t ≠ (a.getD x.fr.toNat paZ).t)
  · rw [if_pos h3] at h; cases h
  simp only [mayP, within, Bool.and_eq_true, decide_eq_true_eq, Bool.not_eq_false] at h1
  rw [not_or] at h2 h3
  obtain ⟨h2, h2'⟩ := h2
  obtain ⟨h3, h3'⟩ := h3
  simp only [within, Bool.and_eq_true, decide_eq_true_eq, Bool.not_eq_false] at h2 h3
  refine ⟨by omega, by omega, by omega, by omega, by omega, by omega, by omega, ?_⟩
  by_cases hf : x.fr = -1
  · refine .inl ⟨hf, ?_⟩
    by_cases hs : x.se = 0
    · exact hs
    · exact absurd ⟨hf, hs⟩ h2'
  · refine .inr ⟨by omega, by omega, ?_⟩
    have hlt : x.fr.toNat < a.length := by omega
    refine ⟨a[x.fr.toNat], by rw [List.getElem?_append_left hlt]; exact List.getElem?_eq_getElem hlt, ?_⟩
    by_cases ht : x.t = (a.getD x.fr.toNat paZ).t
    · rw [ht, List.getD_eq_getElem?_getD, List.getElem?_eq_getElem hlt]; rfl
    · exact absurd ⟨hf, ht⟩ h3'

theorem PaOk.more {l r : List Pa} {i : Nat} {x : Pa} (h : PaOk l i x) : PaOk (l ++ r) i x := by
  refine ⟨h.co, h.se, h.c, h.cd, h.dt, h.t, h.p, ?_⟩
  rcases h.fr with h | ⟨h1, h2, y, h3, h4⟩
  · exact .inl h
  · exact .inr ⟨h1, h2, y, by rw [List.getElem?_append_left (List.getElem?_eq_some_iff.1 h3).1]; exact h3, h4⟩

theorem chkGo_ok : ∀ (r a : List Pa), (chkGo a r).1 = 0 → (∀ i x, a[i]? = some x → PaOk a i x) → ∀ i x, (a ++ r)[i]? = some x → PaOk (a ++ r) i x
  | [], a, _, ha => by simpa using ha
  | x :: r, a, h, ha => by
    rw [chkGo] at h
    by_cases hw : wrongP x a ≠ 0
    · rw [if_pos hw] at h; exact absurd h hw
    rw [if_neg hw] at h
    have hw0 : wrongP x a = 0 := by
      rcases Classical.em (wrongP x a = 0) with e | e
      · exact e
      · exact absurd e hw
    have := chkGo_ok r (a ++ [x]) h (fun i y hy => by
      by_cases hi : i < a.length
      · rw [List.getElem?_append_left hi] at hy
        exact (ha i y hy).more
      · have hi2 : i = a.length := by
          have := (List.getElem?_eq_some_iff.1 hy).1
          simp at this
          omega
        subst hi2
        simp at hy
        subst hy
        exact wrongP_ok hw0)
    rw [List.append_assoc] at this
    exact this

theorem chkP_ok {l : List Pa} (h : (chkP l).1 = 0) : PsOk l := by
  unfold chkP at h
  by_cases hw : within (l.length : Int) 1 8 = false
  · rw [if_pos hw] at h; cases h
  rw [if_neg hw] at h
  simp only [within, Bool.and_eq_true, decide_eq_true_eq, Bool.not_eq_false] at hw
  exact ⟨by omega, by omega, fun i x hx => chkGo_ok l [] h (fun i x hx => by simp at hx) i x hx⟩

/-- No entry is less. -/
def LeL (a b : List Int) : Prop := a.length = b.length ∧ ∀ (i : Nat) (x y : Int), a[i]? = some x → b[i]? = some y → x ≤ y

theorem LeL.refl (a : List Int) : LeL a a := ⟨rfl, fun i x y h h' => by rw [h] at h'; cases h'; exact Int.le_refl _⟩

theorem LeL.getD {a b : List Int} (h : LeL a b) (i : Nat) : a.getD i 0 ≤ b.getD i 0 := by
  rw [List.getD_eq_getElem?_getD, List.getD_eq_getElem?_getD]
  by_cases hi : i < a.length
  · have hi' : i < b.length := by rw [← h.1]; exact hi
    rw [List.getElem?_eq_getElem hi, List.getElem?_eq_getElem hi']
    exact h.2 i _ _ (List.getElem?_eq_getElem hi) (List.getElem?_eq_getElem hi')
  · rw [List.getElem?_eq_none (by omega), List.getElem?_eq_none (by have := h.1; omega)]
    exact Int.le_refl _

theorem LeL.set {a b : List Int} (h : LeL a b) (k : Nat) {u v : Int} (huv : u ≤ v) : LeL (a.set k u) (b.set k v) := by
  refine ⟨by rw [List.length_set, List.length_set]; exact h.1, fun i x y hx hy => ?_⟩
  rw [List.getElem?_set] at hx hy
  by_cases e : k = i
  · rw [if_pos e] at hx hy
    split at hx
    · split at hy
      · cases hx; cases hy; exact huv
      · cases hy
    · cases hx
  · rw [if_neg e] at hx hy
    exact h.2 i x y hx hy

theorem putAll_len : ∀ (is : List Nat) (ts a : List Int), (putAll a is ts).length = a.length
  | [], _, a => by simp [putAll]
  | _ :: _, [], a => by simp [putAll]
  | i :: r, t :: ts, a => by rw [putAll, putAll_len r ts]; simp

theorem putAll_le : ∀ (is : List Nat) (ts us a b : List Int), LeL ts us → LeL a b → LeL (putAll a is ts) (putAll b is us)
  | [], _, _, a, b, _, h => by simpa [putAll] using h
  | _ :: _, [], us, a, b, ht, h => by
    have : us = [] := List.eq_nil_of_length_eq_zero (by rw [← ht.1]; rfl)
    subst this
    simpa [putAll] using h
  | i :: r, t :: ts, [], a, b, ht, h => by have := ht.1; simp at this
  | i :: r, t :: ts, u :: us, a, b, ht, h => by
    rw [putAll, putAll]
    refine putAll_le r ts us _ _ ⟨by have := ht.1; simpa using this, fun k x y hx hy => ht.2 (k + 1) x y hx hy⟩ (h.set i (ht.2 0 t u rfl rfl))

/- Messages that may be later. -/
structure FrLe (a b : Fr) : Prop where
  c : a.c = b.c
  t : a.t = b.t
  d : a.d = b.d
  j : a.j ≤ b.j
inductive FsLe : List Fr → List Fr → Prop
  | nil : FsLe [] []
  | cons {a b : Fr} {r s : List Fr} : FrLe a b → FsLe r s → FsLe (a :: r) (b :: s)

theorem FsLe.len {a b : List Fr} (h : FsLe a b) : a.length = b.length := by
  induction h with
  | nil => rfl
  | cons _ _ ih => simp [ih]
theorem FsLe.take {a b : List Fr} (h : FsLe a b) : ∀ n, FsLe (a.take n) (b.take n) := by
  induction h with
  | nil => intro n; simp; exact .nil
  | cons h _ ih => intro n; cases n with
    | zero => exact .nil
    | succ n => exact .cons h (ih n)
theorem FsLe.drop {a b : List Fr} (h : FsLe a b) : ∀ n, FsLe (a.drop n) (b.drop n) := by
  induction h with
  | nil => intro n; simp; exact .nil
  | cons h hr ih => intro n; cases n with
    | zero => exact .cons h hr
    | succ n => exact ih n
theorem FsLe.at_ {a b : List Fr} (h : FsLe a b) : ∀ (i : Nat) (x y : Fr), a[i]? = some x → b[i]? = some y → FrLe x y := by
  induction h with
  | nil => intro i x y h; simp at h
  | cons h _ ih => intro i x y hx hy; cases i with
    | zero => cases hx; cases hy; exact h
    | succ i => exact ih i x y hx hy
theorem FsLe.held {a b : List Fr} (h : FsLe a b) : heldF a = heldF b := by
  induction h with
  | nil => rfl
  | cons h _ ih => simp only [heldF, ih, h.c]
theorem FsLe.snoc {a b : List Fr} {x y : Fr} (h : FsLe a b) (hx : FrLe x y) : FsLe (a ++ [x]) (b ++ [y]) := by
  induction h with
  | nil => exact .cons hx .nil
  | cons h _ ih => exact .cons h ih

theorem upF_le {a b : Fr} (h : FrLe a b) (ha : okFr a) (w : Int) : upF w a ≤ upF w b := by
  unfold upF
  rw [← h.c, ← h.t]
  have := h.j
  obtain ⟨h1, -, h3, -⟩ := ha
  exact Int.mul_le_mul_of_nonneg_right (Int.ediv_le_ediv (by omega) (by omega)) (by omega)
theorem dnF_le {a b : Fr} (h : FrLe a b) (ha : okFr a) (w : Int) : dnF w a ≤ dnF w b := by
  unfold dnF
  rw [← h.c, ← h.t]
  have := h.j
  obtain ⟨h1, -, h3, -⟩ := ha
  have h5 := Int.ediv_le_ediv (c := a.t) (a := w + a.j) (b := w + b.j) (by omega) (by omega)
  exact Int.mul_le_mul_of_nonneg_right (by omega) (by omega)
theorem sumF_le {f : Int → Fr → Int} {w : Int} (hf : ∀ a b, FrLe a b → okFr a → f w a ≤ f w b) {a b : List Fr} (h : FsLe a b) : (∀ x ∈ a, okFr x) → sumF f w a ≤ sumF f w b := by
  induction h with
  | nil => intro _; exact Int.le_refl _
  | cons h _ ih =>
    intro ho
    have h1 := hf _ _ h (ho _ List.mem_cons_self)
    have h2 := ih (fun x hx => ho x (List.mem_cons_of_mem _ hx))
    simp only [sumF]
    omega

theorem Fx.le {ask ask' : Int → Int} {a v v' : Int} (hm : Mo ask a) (ha : a ≤ ask a) (hle : ∀ w, a ≤ w → ask w ≤ ask' w) (h : Fx ask a (some v)) (h' : Fx ask' a (some v')) : v ≤ v' := by
  obtain ⟨g1, g2, g3, g4⟩ := h
  obtain ⟨e1, e2, e3, e4⟩ := h'
  have hp : ask v' ≤ v' := by have := hle v' e1; omega
  obtain ⟨u, u1, u2, u3⟩ := hm.pre ha (v' - a).toNat v' (Nat.le_refl _) e1 hp
  by_cases hc : u < v
  · exact absurd u3 (g4 u u1 hc)
  · omega

theorem Tm.le {b : Int} {hd hd' : List Fr} {m m' : Fr} (hb : 0 ≤ b) (hh : FsLe hd hd') (hm : FrLe m m') (ok : ∀ x ∈ hd, okFr x) (okm : okFr m) : ∀ {q' q : Nat} {v v' : Int}, q ≤ q' → Tm b hd m q (some v) → Tm b hd' m' q' (some v') → v ≤ v'
  | 0, q, v, v', hq, h, h' => by
    have : q = 0 := by omega
    subst this
    cases h; cases h'; exact Int.le_refl _
  | q' + 1, q, v, v', hq, h, h' => by
    cases h' with
    | next t' f' =>
      by_cases e : q = q' + 1
      · subst e
        cases h with
        | next t f =>
          have h1 := Tm.le hb hh hm ok okm (Nat.le_refl _) t t'
          have hmul : 0 ≤ (q' : Int) * m.c := Int.mul_nonneg (by omega) (by have := okm.1; omega)
          have h2 := Fx.le (qAsk_mo (b := b) (m := m) (q := (q' : Int)) ok) (by have := qAsk_low (b := b) (m := m) (q := (q' : Int)) (v := 0) ok (Int.le_refl _); omega) (fun w hw => by
            unfold qAsk
            rw [← hm.c]
            have := sumF_le (f := dnF) (w := w) (fun a b h ha => dnF_le h ha w) hh ok
            omega) f f'
          have h3 := hm.j
          rw [← hm.t, ← hm.c]
          omega
      · have h1 := Tm.le hb hh hm ok okm (show q ≤ q' by omega) h t'
        omega

theorem Wst.le {hd hd' tl tl' : List Fr} {m m' : Fr} {v v' : Int} (hh : FsLe hd hd') (hm : FrLe m m') (ht : FsLe tl tl') (ok : ∀ x ∈ hd, okFr x) (okm : okFr m) (h : Wst hd m tl (Option.some v)) (h' : Wst hd' m' tl' (Option.some v')) : v ≤ v' := by
  cases h with
  | some f t => cases h' with
    | some f' t' =>
      rw [← ht.held] at f' t'
      rename_i busy busy'
      have hb := heldF_nonneg tl
      have h1 : busy ≤ busy' := Fx.le (busyAsk_mo (b := heldF tl) ok okm) (by have := busyAsk_low (b := heldF tl) (v := 1) ok okm (Int.le_refl _); have := okm.1; omega) (fun w hw => by
        unfold busyAsk
        have := sumF_le (f := upF) (w := w) (fun a b h ha => upF_le h ha w) (hh.snoc hm) (fun x hx => by
          rcases List.mem_append.1 hx with hx | hx
          · exact ok x hx
          · simp at hx; exact hx ▸ okm)
        omega) f f'
      refine Tm.le hb hh hm ok okm ?_ t t'
      have hk : kinds m busy ≤ kinds m' busy' := by
        unfold kinds
        rw [← hm.t]
        have := hm.j
        exact Int.ediv_le_ediv (by have := okm.2.2.1; omega) (by omega)
      omega

theorem TmA.ok {l : List Fr} {ts : List Int} {e : Int × Int} (h : TmA l ts e) (h0 : e.1 = 0) : (∀ x ∈ l, okFr x) ∧ TmsTo l ts ∧ ts.length = l.length := by
  rcases h with ⟨h1, -, h2⟩ | ⟨h1, h2⟩
  · rw [h2] at h0; exact absurd h0 h1
  · refine ⟨(chkN_ok h1).2.2.1, ?_, h2.len h0⟩
    rcases h2 with ⟨h3, -⟩ | ⟨-, us, -, -, h3⟩
    · exact h3
    · rw [h3] at h0; cases h0

theorem TmA.le {l l' : List Fr} {ts ts' : List Int} {e e' : Int × Int} (hl : FsLe l l') (h : TmA l ts e) (h' : TmA l' ts' e') (h0 : e.1 = 0) (h0' : e'.1 = 0) : LeL ts ts' := by
  obtain ⟨ok, tm, len⟩ := h.ok h0
  obtain ⟨-, tm', len'⟩ := h'.ok h0'
  refine ⟨by rw [len, len', hl.len], fun i x y hx hy => ?_⟩
  have hi : i < l.length := by rw [← len]; exact (List.getElem?_eq_some_iff.1 hx).1
  have hi' : i < l'.length := by rw [← hl.len]; exact hi
  have w1 := (tm.2 i _ x (List.getElem?_eq_getElem hi) hx).1
  have w2 := (tm'.2 i _ y (List.getElem?_eq_getElem hi') hy).1
  exact Wst.le (hl.take i) (hl.at_ i _ _ (List.getElem?_eq_getElem hi) (List.getElem?_eq_getElem hi')) (hl.drop (i + 1)) (fun x hx => ok x (List.mem_of_mem_take hx)) (ok _ (List.getElem_mem hi)) w1 w2

theorem frFrom_le {tk tk' : List Int} (h : LeL tk tk') : ∀ (l : List Pa) (k : Nat), (frFrom l tk k).map (·.1) = (frFrom l tk' k).map (·.1) ∧ FsLe ((frFrom l tk k).map (·.2)) ((frFrom l tk' k).map (·.2))
  | [], k => ⟨rfl, .nil⟩
  | x :: r, k => by
    obtain ⟨h1, h2⟩ := frFrom_le h r (k + 1)
    unfold frFrom
    by_cases hx : x.fr ≠ -1 ∧ x.se ≠ 0
    · rw [if_pos hx, if_pos hx]
      refine ⟨by simp [h1], ?_⟩
      simp only [List.map_cons, List.cons_append, List.nil_append]
      exact .cons ⟨rfl, rfl, rfl, h.getD _⟩ h2
    · rw [if_neg hx, if_neg hx]
      exact ⟨by simpa using h1, by simpa using h2⟩

theorem lat0_le {tk tk' : List Int} (h : LeL tk tk') (l : List Pa) : LeL (lat0 l tk) (lat0 l tk') := by
  refine ⟨by rw [lat0_len, lat0_len], fun i x y hx hy => ?_⟩
  unfold lat0 at hx hy
  rw [List.getElem?_map] at hx hy
  cases e : l[i]? with
  | none => rw [e] at hx; cases hx
  | some z =>
    rw [e] at hx hy
    simp only [Option.map_some, Option.some.injEq] at hx hy
    rw [← hx, ← hy]
    split
    · exact Int.le_refl _
    · exact h.getD _

theorem LatR.le {l : List Pa} {tk tk' late late' : List Int} (h : LeL tk tk') (hl : LatR l tk (some late)) (hl' : LatR l tk' (some late')) : LeL late late' := by
  obtain ⟨hi, hf⟩ := frFrom_le h l 0
  have hlen : (frsP l tk).length = (frsP l tk').length := by
    have := congrArg List.length hi
    simpa [frsP] using this
  rcases hl with ⟨h1, h2⟩ | ⟨h1, ts, e, h2, ⟨-, h3⟩ | ⟨h3, h4⟩⟩
  · rcases hl' with ⟨g1, g2⟩ | ⟨g1, -⟩
    · cases h2; cases g2
      exact lat0_le h l
    · rw [h1] at hlen
      exact absurd (List.eq_nil_of_length_eq_zero hlen.symm) g1
  · cases h3
  · rcases hl' with ⟨g1, -⟩ | ⟨g1, us, f, g2, ⟨-, g3⟩ | ⟨g3, g4⟩⟩
    · rw [g1] at hlen
      exact absurd (List.eq_nil_of_length_eq_zero hlen) h1
    · cases g3
    · cases h4; cases g4
      have hi2 : (frsP l tk).map (·.1) = (frsP l tk').map (·.1) := hi
      rw [hi2]
      exact putAll_le _ _ _ _ _ (TmA.le hf h2 g2 h3 g3) (lat0_le h l)
end Go.Proofs.Ytccoobcggbbciam
namespace Go.Proofs.Ytccoobcggbbciam
open Go.ChangeShapes Go.WideShapes Go.ChangeAt Go.RowKit

/- Chapter 18, pure: how long each part takes, if each may be there so late. -/
def upP (w late : Int) (x : Pa) : Int := (w + late + x.t - 1) / x.t * x.c
/-- What goes ahead of part i, of the parts from the k-th on. -/
def sumP (i : Nat) (xi : Pa) (late : List Int) (w : Int) : List Pa → Nat → Int
  | [], _ => 0
  | x :: r, k => (if k ≠ i ∧ x.co = xi.co ∧ xi.p ≤ x.p then upP w (late.getD k 0) x else 0) + sumP i xi late w r (k + 1)
def wPx (l : List Pa) (late : List Int) (i : Nat) (x : Pa) : Int := wOf (fun w => x.c + sumP i x late w l 0) (late.getD i 0) x.d

theorem oth_sum {A : Nat → Bool} {k i : Nat} {xi : Pa} {late : List Int} {w : Int} : ∀ (r : List Pa) (j kk : Nat), (∀ (q : Nat) (y : Nat × Ta), (liesF r late xi.co j)[q]? = some y → (kk + q = k ↔ y.1 = i) ∧ (A (kk + q) = true ↔ xi.p ≤ y.2.p)) → sumO w (othF A k ((liesF r late xi.co j).map (·.2)) kk) = sumP i xi late w r j
  | [], j, kk, _ => rfl
  | x :: r, j, kk, h => by
    unfold liesF at h ⊢
    unfold sumP
    by_cases hc : x.co = xi.co
    · rw [if_pos hc] at h ⊢
      simp only [List.cons_append, List.nil_append, List.map_cons] at h ⊢
      obtain ⟨h1, h2⟩ := h 0 _ rfl
      rw [Nat.add_zero] at h1 h2
      dsimp only at h1 h2
      have ih := oth_sum (A := A) (k := k) (i := i) (w := w) r (j + 1) (kk + 1) (fun q y hq => by
        have := h (q + 1) y hq
        rwa [show kk + (q + 1) = kk + 1 + q by omega] at this)
      unfold othF
      by_cases hA : kk ≠ k ∧ A kk = true
      · rw [if_pos hA, if_pos ⟨fun e => hA.1 (h1.2 e), hc, h2.1 hA.2⟩]
        unfold sumO
        rw [ih]
        rfl
      · rw [if_neg hA, if_neg (fun ⟨e1, _, e3⟩ => hA ⟨fun e => e1 (h1.1 e), h2.2 e3⟩), ih]
        omega
    · rw [if_neg hc] at h ⊢
      rw [if_neg (fun ⟨_, e, _⟩ => hc e)]
      simp only [List.nil_append] at h ⊢
      rw [oth_sum (A := A) (k := k) (i := i) (w := w) r (j + 1) kk h]
      omega

theorem liesF_mem : ∀ (l : List Pa) (late : List Int) (co : Int) (k : Nat) (y : Nat × Ta), y ∈ liesF l late co k → ∃ q x, y.1 = k + q ∧ l[q]? = some x ∧ x.co = co ∧ y.2 = taP y.1 x (late.getD y.1 0)
  | [], _, _, _, y, hy => by simp [liesF] at hy
  | x :: r, late, co, k, y, hy => by
    rw [liesF, List.mem_append] at hy
    rcases hy with hy | hy
    · split at hy
      · next h =>
        rw [List.mem_singleton.1 hy]
        exact ⟨0, x, rfl, rfl, h, rfl⟩
      · simp at hy
    · obtain ⟨q, z, h1, h2, h3, h4⟩ := liesF_mem r late co (k + 1) y hy
      exact ⟨q + 1, z, by omega, h2, h3, h4⟩

theorem liesF_has : ∀ (l : List Pa) (late : List Int) (co : Int) (k i : Nat) (x : Pa), l[i]? = some x → x.co = co → (k + i, taP (k + i) x (late.getD (k + i) 0)) ∈ liesF l late co k
  | [], _, _, _, i, x, hx, _ => by simp at hx
  | z :: r, late, co, k, 0, x, hx, hc => by
    cases hx
    rw [liesF, if_pos hc]
    simp
  | z :: r, late, co, k, i + 1, x, hx, hc => by
    have := liesF_has r late co (k + 1) i x hx hc
    rw [liesF, List.mem_append]
    rw [show k + (i + 1) = k + 1 + i by omega]
    exact .inr this

theorem liesF_inc : ∀ (l : List Pa) (late : List Int) (co : Int) (k : Nat), (liesF l late co k).Pairwise (fun a b => a.1 < b.1)
  | [], _, _, _ => by simp [liesF]
  | x :: r, late, co, k => by
    have ih := liesF_inc r late co (k + 1)
    rw [liesF]
    split
    · refine List.pairwise_cons.2 ⟨fun y hy => ?_, ih⟩
      have := (liesF_idx r late co (k + 1) y hy).1
      show k < y.1
      omega
    · exact ih

theorem inc_pos {xs : List (Nat × Ta)} (h : xs.Pairwise (fun a b => a.1 < b.1)) {p q : Nat} {y z : Nat × Ta} (hy : xs[p]? = some y) (hz : xs[q]? = some z) : q = p ↔ z.1 = y.1 := by
  obtain ⟨hp, rfl⟩ := List.getElem?_eq_some_iff.1 hy
  obtain ⟨hq, rfl⟩ := List.getElem?_eq_some_iff.1 hz
  rw [List.pairwise_iff_getElem] at h
  constructor
  · rintro rfl; rfl
  · intro e
    rcases Nat.lt_trichotomy p q with hlt | hlt | hlt
    · have := h p q hp hq hlt; omega
    · exact hlt.symm
    · have := h q p hq hp hlt; omega

/-- What a core's answers are, one by one. -/
theorem resp_is {l : List Pa} {late : List Int} {co : Int} {k i : Nat} {x : Pa} {lt : Int} (hk : (liesF l late co 0)[k]? = some (i, taP i x lt)) (hc : x.co = co) (hl : late.getD i 0 = lt) : respR ((liesF l late co 0).map (·.2)) k 0 = wPx l late i x := by
  subst hc
  have hT : Tk ((liesF l late x.co 0).map (·.2)) k = taP i x lt := Tk_at (by rw [List.getElem?_map, hk]; rfl)
  unfold respR worstF wPx
  rw [hT, hl]
  have e : (askF ((taP i x lt).c + 0) (othF (aheadP ((liesF l late x.co 0).map (·.2)) k) k ((liesF l late x.co 0).map (·.2)) 0)) = fun w => x.c + sumP i x late w l 0 := by
    funext w
    unfold askF
    rw [oth_sum (i := i) (xi := x) (late := late) l 0 0 (fun q y hy => ?_)]
    · show x.c + 0 + _ = _
      omega
    · rw [Nat.zero_add]
      refine ⟨inc_pos (liesF_inc l late x.co 0) hk hy, ?_⟩
      unfold aheadP
      rw [hT, Tk_at (l := (liesF l late x.co 0).map (·.2)) (x := y.2) (by rw [List.getElem?_map, hy]; rfl), decide_eq_true_eq]
      rfl
  rw [e]
  rfl

theorem names_is : (List.range 8).all (fun a => isNm (nmP a) && (List.range 8).all (fun b => sameNm (nmP a) (nmP b) == decide (a = b))) = true := by kernel_rfl

theorem nm_ok {a : Nat} (h : a < 8) : isNm (nmP a) = true := by
  have := List.all_eq_true.1 names_is a (List.mem_range.2 h)
  simp only [Bool.and_eq_true] at this
  exact this.1
theorem nm_same {a b : Nat} (h : a < 8) (hb : b < 8) (e : sameNm (nmP a) (nmP b) = true) : a = b := by
  have := List.all_eq_true.1 names_is a (List.mem_range.2 h)
  simp only [Bool.and_eq_true] at this
  have := List.all_eq_true.1 this.2 b (List.mem_range.2 hb)
  rw [e] at this
  simpa using this

attribute [local irreducible] nmP
theorem taP_nm (k : Nat) (x : Pa) (lt : Int) : (taP k x lt).nm = nmP k := rfl
theorem taP_stands {k : Nat} {x : Pa} {lt : Int} (h : 1 ≤ x.c ∧ x.c ≤ 10000 ∧ 1 ≤ x.t ∧ x.t ≤ 10000 ∧ 1 ≤ x.d ∧ x.d ≤ 10000 ∧ 0 ≤ lt ∧ lt ≤ 10000 ∧ 0 ≤ x.p ∧ x.p ≤ 1000) : stands (taP k x lt) = true := by
  have e : stands (taP k x lt) = (within x.c 1 10000 && within x.t 1 10000 && within x.d 1 10000 && within lt 0 10000 && within 0 0 10000 && within x.p 0 1000) := rfl
  rw [e]
  unfold within
  simp
  omega

theorem chkFrom_all {l : List Ta} : ∀ (n k : Nat), k + n = l.length → (∀ (q : Nat) (x : Ta), l[q]? = some x → wrongF x (l.take q) = 0) → chkFrom l (l.drop k) k = (0, 0)
  | 0, k, hn, h => by rw [List.drop_eq_nil_of_le (by omega)]; rfl
  | n + 1, k, hn, h => by
    obtain ⟨x, hx, hd⟩ := drop_at (l := l) (k := k) (by omega)
    rw [chkFrom_at hd, if_pos (h k x hx)]
    exact chkFrom_all n (k + 1) (by omega) h

theorem ordFrom_none : ∀ (l : List Ta) (k : Nat), (∀ x ∈ l, x.d ≤ x.t) → ordFrom l k = -1
  | [], _, _ => rfl
  | x :: r, k, h => by
    rw [ordFrom, if_neg (by have := h x List.mem_cons_self; omega)]
    exact ordFrom_none r (k + 1) (fun y hy => h y (List.mem_cons_of_mem _ hy))

/-- How late parts may be there: not too late to be told. -/
def LtOk (l : List Pa) (late : List Int) : Prop := late.length = l.length ∧ ∀ i : Nat, 0 ≤ late.getD i 0 ∧ late.getD i 0 ≤ 10000

theorem chkX_lies {l : List Pa} {late : List Int} {co : Int} (hok : PsOk l) (hl : LtOk l late) (hne : liesF l late co 0 ≠ []) : (chkX ((liesF l late co 0).map (·.2))).1 = 0 := by
  have hlen : (liesF l late co 0).length ≤ 8 := Nat.le_trans (liesF_len _ _ _ _) hok.most
  have hpos : (liesF l late co 0).length ≠ 0 := fun e => hne (List.eq_nil_of_length_eq_zero e)
  have hinc := liesF_inc l late co 0
  have hm := liesF_mem l late co 0
  have hi := liesF_idx l late co 0
  generalize liesF l late co 0 = xs at *
  have hF : chkF (xs.map (·.2)) = (0, 0) := by
    unfold chkF
    rw [if_neg (by rw [List.length_map]; omega)]
    have := chkFrom_all (l := xs.map (·.2)) xs.length 0 (by simp) (fun q z hz => by
      rw [List.getElem?_map] at hz
      cases hy : xs[q]? with
      | none => rw [hy] at hz; cases hz
      | some y =>
        rw [hy] at hz
        simp only [Option.map_some, Option.some.injEq] at hz
        subst hz
        obtain ⟨i, x, h1, h2, h3, h4⟩ := hm y (List.mem_of_getElem? hy)
        have hy8 := hi y (List.mem_of_getElem? hy)
        have hx := hok.at_ i x h2
        have hj := hl.2 y.1
        rw [h4]
        unfold wrongF
        have hn : isNm (taP y.1 x (late.getD y.1 0)).nm = true := by
          have h9 := nm_ok (a := y.1) (by have := hok.most; omega)
          rw [taP_nm]
          exact h9
        rw [if_neg (by rw [hn]; simp)]
        have ha : ((xs.map (·.2)).take q).any (fun z => sameNm z.nm (taP y.1 x (late.getD y.1 0)).nm) ≠ true := by
          intro ha
          rw [List.any_eq_true] at ha
          obtain ⟨z, hz, hs⟩ := ha
          rw [← List.map_take, List.mem_map] at hz
          obtain ⟨u, hu, rfl⟩ := hz
          obtain ⟨p, hp⟩ := List.getElem?_of_mem hu
          have hpq : p < q := by
            have := (List.getElem?_eq_some_iff.1 hp).1
            rw [List.length_take] at this
            omega
          rw [List.getElem?_take_of_lt hpq] at hp
          obtain ⟨i', x', g1, g2, g3, g4⟩ := hm u (List.mem_of_getElem? hp)
          have hu8 := hi u (List.mem_of_getElem? hp)
          rw [g4] at hs
          have := nm_same (a := u.1) (b := y.1) (by have := hok.most; omega) (by have := hok.most; omega) (by rw [taP_nm, taP_nm] at hs; exact hs)
          have := (inc_pos hinc hy hp).2 this
          omega
        rw [if_neg ha]
        have hs : stands (taP y.1 x (late.getD y.1 0)) = true := by
          obtain ⟨a1, a2, a3, a4, a5, a6, a7, -⟩ := hx
          exact taP_stands (by omega)
        rw [if_neg (by rw [hs]; simp), if_neg (by have := hx.cd; show ¬ x.d < x.c; omega)])
    exact this
  unfold chkX
  rw [if_neg (by rw [hF]; simp), if_neg]
  rw [ordFrom_none]
  · omega
  · intro z hz
    rw [List.mem_map] at hz
    obtain ⟨y, hy, rfl⟩ := hz
    obtain ⟨i, x, h1, h2, h3, h4⟩ := hm y hy
    rw [h4]
    exact (hok.at_ i x h2).dt

theorem respF_at {l : List Ta} {k : Nat} (hk : k < l.length) : respF l (k : Int) 0 = if respR l k 0 = 0 then (0, (13, (k : Int))) else (respR l k 0, (0, 0)) := by
  unfold respF
  rw [if_neg (by omega), Int.toNat_natCast]

theorem resps_all {l : List Ta} : ∀ (n k : Nat) (acc : List Int), k + n = l.length → (∀ q, k ≤ q → q < l.length → respR l q 0 ≠ 0) → respsFrom l (List.replicate n 0) k acc = (acc ++ (List.range n).map (fun q => respR l (k + q) 0), (0, 0))
  | 0, k, acc, _, _ => by simp [respsFrom]
  | n + 1, k, acc, hn, h => by
    rw [List.replicate_succ, respsFrom, respF_at (by omega), if_neg (h k (Nat.le_refl _) (by omega)), if_neg (by simp), resps_all n (k + 1) _ (by omega) (fun q hq => h q (by omega)), List.range_succ_eq_map]
    simp [Function.comp_def, Nat.add_assoc, Nat.add_comm 1]

theorem resps_bad {l : List Ta} : ∀ (n k : Nat) (acc : List Int), k + n = l.length → (∃ q, k ≤ q ∧ q < l.length ∧ respR l q 0 = 0) → (respsFrom l (List.replicate n 0) k acc).2.1 ≠ 0
  | 0, k, acc, hn, ⟨q, h1, h2, _⟩ => by omega
  | n + 1, k, acc, hn, ⟨q, h1, h2, h3⟩ => by
    rw [List.replicate_succ, respsFrom, respF_at (by omega)]
    by_cases hr : respR l k 0 = 0
    · rw [if_pos hr, if_pos (by simp)]
      simp
    · rw [if_neg hr, if_neg (by simp)]
      refine resps_bad n (k + 1) _ (by omega) ⟨q, ?_, h2, h3⟩
      rcases Nat.lt_or_ge k q with h | h
      · exact h
      · exact absurd (show respR l k 0 = 0 by rw [show k = q by omega]; exact h3) hr

theorem putAll_out : ∀ (is : List Nat) (ts a : List Int) (j : Nat), j ∉ is → (putAll a is ts)[j]? = a[j]?
  | [], _, a, j, _ => by simp [putAll]
  | _ :: _, [], a, j, _ => by simp [putAll]
  | i :: r, t :: ts, a, j, h => by
    rw [putAll, putAll_out r ts _ j (fun e => h (List.mem_cons_of_mem _ e)), List.getElem?_set_ne (show i ≠ j from fun e => h (by rw [e]; exact List.mem_cons_self))]

theorem putAll_in : ∀ (is : List Nat) (ts a : List Int) (q j : Nat) (t : Int), is.Pairwise (· < ·) → is[q]? = some j → ts[q]? = some t → j < a.length → (putAll a is ts)[j]? = some t
  | [], _, a, q, j, t, _, h, _, _ => by simp at h
  | _ :: _, [], a, q, j, t, _, _, h, _ => by simp at h
  | i :: r, u :: ts, a, 0, j, t, hp, hi, ht, hj => by
    cases hi; cases ht
    rw [putAll, putAll_out r ts _ i (fun e => by have := (List.pairwise_cons.1 hp).1 i e; omega)]
    rw [List.getElem?_set_self hj]
  | i :: r, u :: ts, a, q + 1, j, t, hp, hi, ht, hj => by
    rw [putAll]
    exact putAll_in r ts _ q j t (List.pairwise_cons.1 hp).2 hi ht (by rw [List.length_set]; exact hj)

theorem coreF_ok {l : List Pa} {late all : List Int} {c : Nat} (hok : PsOk l) (hl : LtOk l late) (hlen : all.length = l.length) (h : ∀ (i : Nat) (x : Pa), l[i]? = some x → x.co = (c : Int) → wPx l late i x ≠ 0) : ∃ all', coreF l late c all = some all' ∧ all'.length = l.length ∧ ∀ (i : Nat) (x : Pa), l[i]? = some x → all'[i]? = if x.co = (c : Int) then some (wPx l late i x) else all[i]? := by
  unfold coreF
  by_cases hne : liesF l late (c : Int) 0 = []
  · rw [if_pos hne]
    refine ⟨all, rfl, hlen, fun i x hx => ?_⟩
    rw [if_neg]
    intro hc
    have := liesF_has l late (c : Int) 0 i x hx hc
    rw [hne] at this
    simp at this
  rw [if_neg hne]
  have hx0 := chkX_lies hok hl hne
  have hget : ∀ (q : Nat), q < (liesF l late (c : Int) 0).length → ∃ i x, (liesF l late (c : Int) 0)[q]? = some (i, taP i x (late.getD i 0)) ∧ l[i]? = some x ∧ x.co = (c : Int) ∧ respR ((liesF l late (c : Int) 0).map (·.2)) q 0 = wPx l late i x := fun q hq => by
    obtain ⟨i, x, h1, h2, h3, h4⟩ := liesF_mem l late (c : Int) 0 _ (List.getElem_mem hq)
    rw [Nat.zero_add] at h1
    rw [← h1] at h2
    have e : (liesF l late (c : Int) 0)[q]? = some ((liesF l late (c : Int) 0)[q].1, taP (liesF l late (c : Int) 0)[q].1 x (late.getD (liesF l late (c : Int) 0)[q].1 0)) := by
      rw [List.getElem?_eq_getElem hq, ← h4]
    exact ⟨_, x, e, h2, h3, resp_is e h3 rfl⟩
  have hr : responsesF ((liesF l late (c : Int) 0).map (·.2)) (List.replicate (liesF l late (c : Int) 0).length 0) = ((List.range (liesF l late (c : Int) 0).length).map (fun q => respR ((liesF l late (c : Int) 0).map (·.2)) q 0), (0, 0)) := by
    unfold responsesF
    rw [if_neg (by rw [hx0]; simp), if_neg (by simp), resps_all _ 0 [] (by simp) (fun q _ hq => ?_)]
    · simp
    · rw [List.length_map] at hq
      obtain ⟨i, x, -, h2, h3, h4⟩ := hget q hq
      rw [h4]
      exact h i x h2 h3
  rw [hr]
  dsimp only
  rw [if_pos rfl]
  refine ⟨_, rfl, by rw [putAll_len]; exact hlen, fun i x hx => ?_⟩
  by_cases hc : x.co = (c : Int)
  · rw [if_pos hc]
    have hm := liesF_has l late (c : Int) 0 i x hx hc
    rw [Nat.zero_add] at hm
    obtain ⟨q, hq⟩ := List.getElem?_of_mem hm
    have hql := (List.getElem?_eq_some_iff.1 hq).1
    refine putAll_in _ _ _ q i _ ?_ (by rw [List.getElem?_map, hq]; rfl) ?_ (by rw [hlen]; exact (List.getElem?_eq_some_iff.1 hx).1)
    · rw [List.pairwise_map]
      exact liesF_inc l late (c : Int) 0
    · rw [List.getElem?_map, List.getElem?_range hql, Option.map_some, resp_is hq hc rfl]
  · rw [if_neg hc]
    refine putAll_out _ _ _ _ (fun e => ?_)
    rw [List.mem_map] at e
    obtain ⟨y, hy, rfl⟩ := e
    obtain ⟨i', x', h1, h2, h3, -⟩ := liesF_mem l late (c : Int) 0 y hy
    rw [Nat.zero_add] at h1
    rw [h1, h2] at hx
    cases hx
    exact hc h3

theorem coreF_bad {l : List Pa} {late all : List Int} {c i : Nat} {x : Pa} (hok : PsOk l) (hl : LtOk l late) (hx : l[i]? = some x) (hc : x.co = (c : Int)) (h : wPx l late i x = 0) : coreF l late c all = none := by
  have hm := liesF_has l late (c : Int) 0 i x hx hc
  rw [Nat.zero_add] at hm
  have hne : liesF l late (c : Int) 0 ≠ [] := fun e => by rw [e] at hm; simp at hm
  obtain ⟨q, hq⟩ := List.getElem?_of_mem hm
  unfold coreF
  rw [if_neg hne, if_neg]
  unfold responsesF
  rw [if_neg (by rw [chkX_lies hok hl hne]; simp), if_neg (by simp)]
  exact resps_bad _ 0 [] (by simp) ⟨q, Nat.zero_le _, by rw [List.length_map]; exact (List.getElem?_eq_some_iff.1 hq).1, by rw [resp_is hq hc rfl]; exact h⟩

/-- What parts take that may be there so late: all of them, or nothing. -/
def RsR (l : List Pa) (late : List Int) (res : Option (List Int)) : Prop :=
  (res = none ∧ ∃ (i : Nat) (x : Pa), l[i]? = some x ∧ wPx l late i x = 0) ∨
  ∃ all, res = some all ∧ all.length = l.length ∧ ∀ (i : Nat) (x : Pa), l[i]? = some x → all[i]? = some (wPx l late i x) ∧ wPx l late i x ≠ 0

theorem RsR.one {l : List Pa} {late : List Int} {r s : Option (List Int)} (h : RsR l late r) (h' : RsR l late s) : r = s := by
  rcases h with ⟨rfl, i, x, h1, h2⟩ | ⟨all, rfl, h1, h2⟩
  · rcases h' with ⟨rfl, -⟩ | ⟨b, -, -, g2⟩
    · rfl
    · exact absurd h2 (g2 i x h1).2
  · rcases h' with ⟨-, i, x, g1, g2⟩ | ⟨b, rfl, g1, g2⟩
    · exact absurd g2 (h2 i x g1).2
    · congr 1
      refine List.ext_getElem? (fun i => ?_)
      by_cases hi : i < l.length
      · rw [(h2 i _ (List.getElem?_eq_getElem hi)).1, (g2 i _ (List.getElem?_eq_getElem hi)).1]
      · rw [List.getElem?_eq_none (by omega), List.getElem?_eq_none (by omega)]

theorem respC_is {l : List Pa} {late : List Int} (hok : PsOk l) (hl : LtOk l late) : RsR l late (respC l late 4) := by
  by_cases hb : ∃ (i : Nat) (x : Pa), l[i]? = some x ∧ wPx l late i x = 0
  · refine .inl ⟨?_, hb⟩
    obtain ⟨i, x, hx, h0⟩ := hb
    have hco := (hok.at_ i x hx).co
    obtain ⟨c, hc⟩ : ∃ c : Nat, x.co = (c : Int) := ⟨x.co.toNat, by omega⟩
    have h1 : respC l late (c + 1) = none := by
      rw [respC]
      cases respC l late c with
      | none => rfl
      | some all => exact coreF_bad hok hl hx hc h0
    have := respC_none h1 (3 - c)
    rwa [show c + 1 + (3 - c) = 4 by omega] at this
  · right
    have key : ∀ c : Nat, ∃ all, respC l late c = some all ∧ all.length = l.length ∧ ∀ (i : Nat) (x : Pa), l[i]? = some x → all[i]? = if x.co < (c : Int) then some (wPx l late i x) else some 0 := by
      intro c
      induction c with
      | zero =>
        refine ⟨_, rfl, List.length_replicate, fun i x hx => ?_⟩
        have := (hok.at_ i x hx).co
        rw [if_neg (by omega), List.getElem?_replicate, if_pos (List.getElem?_eq_some_iff.1 hx).1]
      | succ c ih =>
        obtain ⟨all, h1, h2, h3⟩ := ih
        obtain ⟨all', g1, g2, g3⟩ := coreF_ok (all := all) (c := c) hok hl h2 (fun i x hx _ e => hb ⟨i, x, hx, e⟩)
        refine ⟨all', by rw [respC, h1]; exact g1, g2, fun i x hx => ?_⟩
        rw [g3 i x hx]
        by_cases e : x.co = (c : Int)
        · rw [if_pos e, if_pos (by omega)]
        · rw [if_neg e, h3 i x hx]
          by_cases e2 : x.co < (c : Int)
          · rw [if_pos e2, if_pos (by omega)]
          · rw [if_neg e2, if_neg (by omega)]
    obtain ⟨all, h1, h2, h3⟩ := key 4
    refine ⟨all, h1, h2, fun i x hx => ⟨?_, fun e => hb ⟨i, x, hx, e⟩⟩⟩
    have := (hok.at_ i x hx).co
    rw [h3 i x hx, if_pos (by omega)]
end Go.Proofs.Ytccoobcggbbciam
namespace Go.Proofs.Ytccoobcggbbciam
open Go.ChangeShapes Go.WideShapes Go.ChangeAt Go.RowKit

/- Chapter 18, pure: the steps rise, and are bound: so they end. -/
theorem upP_le {w v a b : Int} {x : Pa} (ht : 1 ≤ x.t) (hc : 0 ≤ x.c) (hw : w ≤ v) (h : a ≤ b) : upP w a x ≤ upP v b x := by
  unfold upP
  exact Int.mul_le_mul_of_nonneg_right (Int.ediv_le_ediv (by omega) (by omega)) hc
theorem upP_nonneg {w a : Int} {x : Pa} (ht : 1 ≤ x.t) (hc : 0 ≤ x.c) (hw : 0 ≤ w) (ha : 0 ≤ a) : 0 ≤ upP w a x := by
  unfold upP
  exact Int.mul_nonneg (Int.ediv_nonneg (by omega) (by omega)) hc

theorem sumP_le {i : Nat} {xi : Pa} {la lb : List Int} {w v : Int} (hw : w ≤ v) (hl : LeL la lb) : ∀ (l : List Pa) (k : Nat), (∀ x ∈ l, 1 ≤ x.t ∧ 0 ≤ x.c) → sumP i xi la w l k ≤ sumP i xi lb v l k
  | [], _, _ => Int.le_refl _
  | x :: r, k, h => by
    have h1 := sumP_le (i := i) (xi := xi) hw hl r (k + 1) (fun y hy => h y (List.mem_cons_of_mem _ hy))
    have h2 := upP_le (h x List.mem_cons_self).1 (h x List.mem_cons_self).2 hw (hl.getD k)
    unfold sumP
    split <;> omega

theorem sumP_nonneg {i : Nat} {xi : Pa} {la : List Int} {w : Int} (hw : 0 ≤ w) (hl : ∀ i : Nat, 0 ≤ la.getD i 0) : ∀ (l : List Pa) (k : Nat), (∀ x ∈ l, 1 ≤ x.t ∧ 0 ≤ x.c) → 0 ≤ sumP i xi la w l k
  | [], _, _ => Int.le_refl _
  | x :: r, k, h => by
    have h1 := sumP_nonneg (i := i) (xi := xi) hw hl r (k + 1) (fun y hy => h y (List.mem_cons_of_mem _ hy))
    have h2 := upP_nonneg (h x List.mem_cons_self).1 (h x List.mem_cons_self).2 hw (hl k)
    unfold sumP
    split <;> omega

theorem PsOk.tc {l : List Pa} (h : PsOk l) : ∀ x ∈ l, 1 ≤ x.t ∧ 0 ≤ x.c := fun x hx => by
  obtain ⟨i, hi⟩ := List.getElem?_of_mem hx
  have := h.at_ i x hi
  have h1 := this.c
  have h2 := this.cd
  have h3 := this.dt
  omega

theorem wPx_le {l : List Pa} {la lb : List Int} {i : Nat} {x : Pa} (hok : PsOk l) (hx : l[i]? = some x) (ha : LtOk l la) (hl : LeL la lb) (h : wPx l la i x ≠ 0) (h' : wPx l lb i x ≠ 0) : wPx l la i x ≤ wPx l lb i x := by
  obtain ⟨w, g1, g2, g3, g4, g5⟩ := wOf_some h
  obtain ⟨v, e1, e2, e3, e4, e5⟩ := wOf_some h'
  unfold wPx
  rw [g5, e5]
  have htc := hok.tc
  have hxc := (hok.at_ i x hx).c
  have hm : Mo (fun w => x.c + sumP i x la w l 0) 1 := fun a b _ hab => by
    have := sumP_le (i := i) (xi := x) hab (LeL.refl la) l 0 htc
    show x.c + _ ≤ x.c + _
    omega
  have h1 : 1 ≤ (fun w => x.c + sumP i x la w l 0) 1 := by
    have := sumP_nonneg (i := i) (xi := x) (w := 1) (la := la) (by omega) (fun i => (ha.2 i).1) l 0 htc
    show 1 ≤ x.c + _
    omega
  have hp : (fun w => x.c + sumP i x la w l 0) v ≤ v := by
    have := sumP_le (i := i) (xi := x) (Int.le_refl v) hl l 0 htc
    dsimp only at e3 ⊢
    omega
  obtain ⟨u, u1, u2, u3⟩ := hm.pre h1 (v - 1).toNat v (Nat.le_refl _) e1 hp
  have hlt := hl.getD i
  by_cases hc : u < w
  · exact absurd u3 (g4 u u1 hc)
  · omega

theorem wPx_range {l : List Pa} {la : List Int} {i : Nat} {x : Pa} (ha : LtOk l la) (h : wPx l la i x ≠ 0) : 1 ≤ wPx l la i x ∧ wPx l la i x ≤ x.d := by
  obtain ⟨w, g1, g2, g3, g4, g5⟩ := wOf_some h
  unfold wPx
  rw [g5]
  have := (ha.2 i).1
  omega

theorem RsR.le {l : List Pa} {la lb r s : List Int} (hok : PsOk l) (ha : LtOk l la) (hl : LeL la lb) (h : RsR l la (some r)) (h' : RsR l lb (some s)) : LeL r s := by
  rcases h with ⟨h, -⟩ | ⟨_, h, h1, h2⟩
  · cases h
  cases h
  rcases h' with ⟨h, -⟩ | ⟨_, h, g1, g2⟩
  · cases h
  cases h
  refine ⟨by rw [h1, g1], fun i x y hx hy => ?_⟩
  have hi : i < l.length := by rw [← h1]; exact (List.getElem?_eq_some_iff.1 hx).1
  obtain ⟨a1, a2⟩ := h2 i _ (List.getElem?_eq_getElem hi)
  obtain ⟨b1, b2⟩ := g2 i _ (List.getElem?_eq_getElem hi)
  rw [a1] at hx
  rw [b1] at hy
  cases hx; cases hy
  exact wPx_le hok (List.getElem?_eq_getElem hi) ha hl a2 b2

/-- What parts take: never more than they may. -/
def TkOk (l : List Pa) (tk : List Int) : Prop := tk.length = l.length ∧ ∀ (i : Nat) (x : Pa), l[i]? = some x → 0 ≤ tk.getD i 0 ∧ tk.getD i 0 ≤ x.d

theorem RsR.ok {l : List Pa} {la r : List Int} (ha : LtOk l la) (h : RsR l la (some r)) : TkOk l r := by
  rcases h with ⟨h, -⟩ | ⟨_, h, h1, h2⟩
  · cases h
  cases h
  refine ⟨h1, fun i x hx => ?_⟩
  obtain ⟨a1, a2⟩ := h2 i x hx
  have := wPx_range ha a2
  rw [List.getD_eq_getElem?_getD, a1]
  show 0 ≤ wPx l la i x ∧ wPx l la i x ≤ x.d
  omega

theorem putAll_all {P : Int → Prop} : ∀ (is : List Nat) (ts a : List Int), (∀ v ∈ a, P v) → (∀ v ∈ ts, P v) → ∀ v ∈ putAll a is ts, P v
  | [], _, a, h, _ => by simpa [putAll] using h
  | _ :: _, [], a, h, _ => by simpa [putAll] using h
  | i :: r, t :: ts, a, h, ht => by
    rw [putAll]
    refine putAll_all r ts _ (fun v hv => ?_) (fun v hv => ht v (List.mem_cons_of_mem _ hv))
    rcases List.mem_or_eq_of_mem_set hv with hv | hv
    · exact h v hv
    · rw [hv]; exact ht t List.mem_cons_self

theorem LatR.ok {l : List Pa} {tk late : List Int} (hok : PsOk l) (ht : TkOk l tk) (h : LatR l tk (some late)) : LtOk l late := by
  have h0 : ∀ v ∈ lat0 l tk, 0 ≤ v ∧ v ≤ 10000 := fun v hv => by
    unfold lat0 at hv
    rw [List.mem_map] at hv
    obtain ⟨x, hx, rfl⟩ := hv
    obtain ⟨i, hi⟩ := List.getElem?_of_mem hx
    split
    · omega
    · next hf =>
      rcases (hok.at_ i x hi).fr with ⟨e, -⟩ | ⟨-, -, y, hy, -⟩
      · exact absurd e hf
      · have h1 := ht.2 _ y hy
        have h2 := hok.at_ _ y hy
        have h3 := h2.dt
        have h4 := h2.t
        omega
  have key : late.length = l.length ∧ ∀ v ∈ late, 0 ≤ v ∧ v ≤ 10000 := by
    rcases h with ⟨-, h2⟩ | ⟨-, ts, e, h2, ⟨-, h3⟩ | ⟨h3, h4⟩⟩
    · cases h2
      exact ⟨lat0_len l tk, h0⟩
    · cases h3
    · cases h4
      refine ⟨by rw [putAll_len, lat0_len], putAll_all _ _ _ h0 (fun v hv => ?_)⟩
      obtain ⟨ok, tm, len⟩ := h2.ok h3
      obtain ⟨q, hq⟩ := List.getElem?_of_mem hv
      have hql : q < ((frsP l tk).map (·.2)).length := by rw [← len]; exact (List.getElem?_eq_some_iff.1 hq).1
      obtain ⟨w1, w2⟩ := tm.2 q _ v (List.getElem?_eq_getElem hql) hq
      have okm := ok _ (List.getElem_mem hql)
      cases w1 with
      | some f t =>
        have := t.small okm
        obtain ⟨-, -, -, -, -, h6, -⟩ := okm
        omega
  refine ⟨key.1, fun i => ?_⟩
  rw [List.getD_eq_getElem?_getD]
  cases e : late[i]? with
  | none => simp
  | some v => exact key.2 v (List.mem_of_getElem? e)

/-- What follows of what parts take. -/
def StepR (l : List Pa) (tk : List Int) (res : Option (List Int)) : Prop := ∃ lt, LatR l tk lt ∧ ((lt = none ∧ res = none) ∨ ∃ late, lt = some late ∧ res = respC l late 4)

theorem StepR.one {l : List Pa} {tk : List Int} {r s : Option (List Int)} (h : StepR l tk r) (h' : StepR l tk s) : r = s := by
  obtain ⟨lt, h1, h2⟩ := h
  obtain ⟨lt', g1, g2⟩ := h'
  cases h1.one g1
  rcases h2 with ⟨rfl, rfl⟩ | ⟨late, rfl, rfl⟩
  · rcases g2 with ⟨-, rfl⟩ | ⟨_, e, -⟩
    · rfl
    · cases e
  · rcases g2 with ⟨e, -⟩ | ⟨_, e, rfl⟩
    · cases e
    · cases e; rfl

theorem StepR.ok {l : List Pa} {tk r : List Int} (hok : PsOk l) (ht : TkOk l tk) (h : StepR l tk (some r)) : TkOk l r := by
  obtain ⟨lt, h1, ⟨-, e⟩ | ⟨late, rfl, h2⟩⟩ := h
  · cases e
  have hl := h1.ok hok ht
  have := respC_is hok hl
  rw [← h2] at this
  exact this.ok hl

theorem StepR.le {l : List Pa} {tk tk' r r' : List Int} (hok : PsOk l) (ht : TkOk l tk) (ht' : TkOk l tk') (hle : LeL tk tk') (h : StepR l tk (some r)) (h' : StepR l tk' (some r')) : LeL r r' := by
  obtain ⟨lt, h1, ⟨-, e⟩ | ⟨late, rfl, h2⟩⟩ := h
  · cases e
  obtain ⟨lt', g1, ⟨-, e⟩ | ⟨late', rfl, g2⟩⟩ := h'
  · cases e
  have hl := h1.ok hok ht
  have hl' := g1.ok hok ht'
  have a := respC_is hok hl
  have b := respC_is hok hl'
  rw [← h2] at a
  rw [← g2] at b
  exact a.le hok hl (h1.le hle g1) b

/-- How far they may still rise. -/
def mz : List Pa → List Int → Nat
  | x :: r, t :: ts => (x.d - t).toNat + mz r ts
  | _, _ => 0

theorem mz_lt : ∀ (l : List Pa) (a b : List Int), TkOk l b → LeL a b → mz l b ≤ mz l a ∧ (b ≠ a → mz l b < mz l a)
  | [], a, b, hb, h => by
    have e1 : b = [] := List.eq_nil_of_length_eq_zero hb.1
    have e2 : a = [] := List.eq_nil_of_length_eq_zero (by rw [h.1, e1]; rfl)
    subst e1; subst e2
    exact ⟨Nat.le_refl _, fun e => absurd rfl e⟩
  | x :: r, [], b, hb, h => by have := h.1; rw [hb.1] at this; simp at this
  | x :: r, u :: us, [], hb, h => by have := hb.1; simp at this
  | x :: r, u :: us, v :: vs, hb, h => by
    have huv : u ≤ v := h.2 0 u v rfl rfl
    have hv : v ≤ x.d := (hb.2 0 x rfl).2
    obtain ⟨h1, h2⟩ := mz_lt r us vs ⟨by have := hb.1; simpa using this, fun i y hy => hb.2 (i + 1) y hy⟩ ⟨by have := h.1; simpa using this, fun i y z hy hz => h.2 (i + 1) y z hy hz⟩
    unfold mz
    refine ⟨by omega, fun e => ?_⟩
    by_cases e1 : u = v
    · have := h2 (fun e2 => e (by rw [e1, e2]))
      omega
    · omega

/-- What the steps come to. -/
inductive Sett (l : List Pa) : List Int → Option (List Int) → Prop
  | stop {tk : List Int} : StepR l tk none → Sett l tk none
  | fix {tk : List Int} : StepR l tk (some tk) → Sett l tk (some tk)
  | go {tk nx : List Int} {r : Option (List Int)} : StepR l tk (some nx) → nx ≠ tk → Sett l nx r → Sett l tk r

theorem Sett.one {l : List Pa} {tk : List Int} {r s : Option (List Int)} (h : Sett l tk r) (h' : Sett l tk s) : r = s := by
  induction h with
  | stop h => cases h' with
    | stop g => rfl
    | fix g => cases h.one g
    | go g _ _ => cases h.one g
  | fix h => cases h' with
    | stop g => cases h.one g
    | fix g => rfl
    | go g e _ => cases h.one g; exact absurd rfl e
  | go h e _ ih => cases h' with
    | stop g => cases h.one g
    | fix g => cases h.one g; exact absurd rfl e
    | go g _ k => cases h.one g; exact ih k

theorem zeros_ok {l : List Pa} (hok : PsOk l) : TkOk l (List.replicate l.length 0) := ⟨List.length_replicate, fun i x hx => by
  have h1 := (hok.at_ i x hx).c
  have h2 := (hok.at_ i x hx).cd
  have e : (List.replicate l.length (0 : Int)).getD i 0 = 0 := by
    rw [List.getD_eq_getElem?_getD, List.getElem?_replicate]
    split <;> rfl
  rw [e]
  omega⟩

theorem zeros_le {l : List Pa} {r : List Int} (h : TkOk l r) : LeL (List.replicate l.length 0) r := ⟨by rw [List.length_replicate, h.1], fun i x y hx hy => by
  rw [List.getElem?_replicate] at hx
  split at hx
  · next hi =>
    cases hx
    have := (h.2 i _ (List.getElem?_eq_getElem hi)).1
    rw [List.getD_eq_getElem?_getD, hy] at this
    exact this
  · cases hx⟩

/-- What settle holds: the steps so far rise. -/
structure Rise (l : List Pa) (tk : List Int) : Prop where
  ok : TkOk l tk
  up : ∀ nx, StepR l tk (some nx) → LeL tk nx
  tell : ∀ r, Sett l tk r → Sett l (List.replicate l.length 0) r

theorem Rise.start {l : List Pa} (hok : PsOk l) : Rise l (List.replicate l.length 0) := ⟨zeros_ok hok, fun _ h => zeros_le (h.ok hok (zeros_ok hok)), fun _ h => h⟩

theorem Rise.next {l : List Pa} {tk nx : List Int} (hok : PsOk l) (h : Rise l tk) (hs : StepR l tk (some nx)) (hne : nx ≠ tk) : Rise l nx ∧ mz l nx < mz l tk := by
  have hn := hs.ok hok h.ok
  exact ⟨⟨hn, fun n2 h2 => StepR.le hok h.ok hn (h.up nx hs) hs h2, fun r hr => h.tell r (.go hs hne hr)⟩, (mz_lt l tk nx hn (h.up nx hs)).2 hne⟩
end Go.Proofs.Ytccoobcggbbciam
