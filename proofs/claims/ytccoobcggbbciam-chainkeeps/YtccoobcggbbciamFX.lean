import Derived.Test.YtccoobcggbbciamTK
namespace Go.Proofs.Ytccoobcggbbciam
open Go.ChangeShapes Go.WideShapes Go.ChangeAt Go.RowKit

/-- A coming. -/
structure Co where
  k : Int
  a : Int

def Co.vals (x : Co) : List Value := [.int .i64 x.k, .int .i64 x.a]
def Co.val (x : Co) : Value := .agg #[.int .i64 x.k, .int .i64 x.a]
theorem Co.len (x : Co) : x.vals.length = 2 := rfl
theorem Co.one {x : Co} {u : Value} (h : u ∈ x.vals) : u.oneCell' = true := by
  simp only [Co.vals, List.mem_cons, List.not_mem_nil, or_false] at h
  rcases h with rfl | rfl <;> rfl
def CoAt (w : World) (b o : Nat) (x : Co) : Prop := w.cell? ⟨b, o, none⟩ = some (.int .i64 x.k) ∧ w.cell? ⟨b, o + 1, none⟩ = some (.int .i64 x.a)
theorem co_at {w : World} {l : List Co} {b o j : Nat} {x : Co} (h : ∀ q u, (l.flatMap Co.vals)[q]? = some u → w.cell? ⟨b, o + q, none⟩ = some u) (hj : l[j]? = some x) : CoAt w b (o + j * 2) x := by
  have key : ∀ k u, k < 2 → x.vals[k]? = some u → w.cell? ⟨b, o + j * 2 + k, none⟩ = some u := fun k u hk hu => by
    rw [Nat.add_assoc]
    exact h _ _ ((flat_at Co.vals 2 Co.len l j k x hj hk).trans hu)
  exact ⟨key 0 _ (by omega) rfl, key 1 _ (by omega) rfl⟩

/-- A number. -/
def nuV (z : Int) : List Value := [.int .i64 z]
theorem nuV_len (z : Int) : (nuV z).length = 1 := rfl
theorem nu_at {w : World} {l : List Int} {b o j : Nat} {z : Int} (h : ∀ q u, (l.flatMap nuV)[q]? = some u → w.cell? ⟨b, o + q, none⟩ = some u) (hj : l[j]? = some z) : w.cell? ⟨b, o + j, none⟩ = some (.int .i64 z) := by
  have := h _ _ ((flat_at nuV 1 nuV_len l j 0 z hj (by omega)).trans (rfl : (nuV z)[0]? = some (.int .i64 z)))
  simpa using this

/-- A job. -/
structure Jb where
  k : Int
  a : Int
  c : Int
  d : Int
  p : Int

def Jb.vals (x : Jb) : List Value := [.int .i64 x.k, .int .i64 x.a, .int .i64 x.c, .int .i64 x.d, .int .i64 x.p]
theorem Jb.len (x : Jb) : x.vals.length = 5 := rfl
theorem Jb.one {x : Jb} {u : Value} (h : u ∈ x.vals) : u.oneCell' = true := by
  simp only [Jb.vals, List.mem_cons, List.not_mem_nil, or_false] at h
  rcases h with rfl | rfl | rfl | rfl | rfl <;> rfl
def JbAt (w : World) (b o : Nat) (x : Jb) : Prop := w.cell? ⟨b, o, none⟩ = some (.int .i64 x.k) ∧ w.cell? ⟨b, o + 1, none⟩ = some (.int .i64 x.a) ∧ w.cell? ⟨b, o + 2, none⟩ = some (.int .i64 x.c) ∧ w.cell? ⟨b, o + 3, none⟩ = some (.int .i64 x.d) ∧ w.cell? ⟨b, o + 4, none⟩ = some (.int .i64 x.p)
theorem jb_at {w : World} {l : List Jb} {b o j : Nat} {x : Jb} (h : ∀ q u, (l.flatMap Jb.vals)[q]? = some u → w.cell? ⟨b, o + q, none⟩ = some u) (hj : l[j]? = some x) : JbAt w b (o + j * 5) x := by
  have key : ∀ k u, k < 5 → x.vals[k]? = some u → w.cell? ⟨b, o + j * 5 + k, none⟩ = some u := fun k u hk hu => by
    rw [Nat.add_assoc]
    exact h _ _ ((flat_at Jb.vals 5 Jb.len l j k x hj hk).trans hu)
  exact ⟨key 0 _ (by omega) rfl, key 1 _ (by omega) rfl, key 2 _ (by omega) rfl, key 3 _ (by omega) rfl, key 4 _ (by omega) rfl⟩

/- May tasks come so? -/
def ta0 : Ta := ⟨⟨#[]⟩, 0, 0, 0, 0, 0, 0⟩
def nowOf : List Co → Int
  | [] => 0
  | c :: _ => c.a
def lastOf (past : List Co) (k : Int) : Option Co := past.find? (fun c => decide (c.k = k))
def soonOf (l : List Ta) (past : List Co) (k : Int) : Int := match lastOf past k with
  | none => 0
  | some c => c.a + (l.getD k.toNat ta0).t
def legOne (l : List Ta) (past : List Co) (c : Co) : Int := if c.k < 0 ∨ (l.length : Int) ≤ c.k then 4 else if c.a < 0 ∨ 20000 < c.a then 3 else if c.a < nowOf past ∨ c.a < soonOf l past c.k then 12 else 0
def legFrom (l : List Ta) : List Co → List Co → Nat → Int × Int
  | _, [], _ => (0, 0)
  | past, c :: r, i => if legOne l past c = 0 then legFrom l (c :: past) r (i + 1) else (legOne l past c, (i : Int))
def legF (l : List Ta) (cs : List Co) : Int × Int := if (chkF l).1 ≠ 0 then chkF l else if 4000 < cs.length then (2, 0) else legFrom l [] cs 0

/-- What came so far may have come so. -/
def Past (l : List Ta) (past : List Co) : Prop := ∀ c ∈ past, 0 ≤ c.k ∧ c.k < (l.length : Int) ∧ 0 ≤ c.a ∧ c.a ≤ 20000

theorem legOne_ok {l : List Ta} {past : List Co} {c : Co} (h : legOne l past c = 0) : 0 ≤ c.k ∧ c.k < (l.length : Int) ∧ 0 ≤ c.a ∧ c.a ≤ 20000 := by
  unfold legOne at h
  by_cases h1 : c.k < 0 ∨ (l.length : Int) ≤ c.k
  · rw [if_pos h1] at h; cases h
  · rw [if_neg h1] at h
    by_cases h2 : c.a < 0 ∨ 20000 < c.a
    · rw [if_pos h2] at h; cases h
    · omega

theorem Past.cons {l : List Ta} {past : List Co} {c : Co} (h : Past l past) (hc : legOne l past c = 0) : Past l (c :: past) := by
  intro x hx
  rcases List.mem_cons.1 hx with rfl | hx
  · exact legOne_ok hc
  · exact h x hx

/-- What Check took: the numbers stand. -/
theorem chkFrom_ok {l : List Ta} : ∀ (r : List Ta) (k : Nat), (chkFrom l r k).1 = 0 → ∀ x ∈ r, stands x = true
  | [], _, _, x, hx => by simp at hx
  | y :: r, k, h, x, hx => by
    rw [chkFrom] at h
    by_cases hw : wrongF y (l.take k) = 0
    · rw [if_pos hw] at h
      rcases List.mem_cons.1 hx with rfl | hx
      · unfold wrongF at hw
        cases hs : stands x with
        | true => rfl
        | false =>
          exfalso
          rw [hs] at hw
          split at hw
          · cases hw
          · split at hw
            · cases hw
            · simp at hw
      · exact chkFrom_ok r (k + 1) h x hx
    · rw [if_neg hw] at h
      exact absurd h hw

theorem chkF_ok {l : List Ta} (h : (chkF l).1 = 0) : l.length ≠ 0 ∧ l.length ≤ 8 ∧ ∀ x ∈ l, stands x = true := by
  unfold chkF at h
  by_cases h1 : l.length = 0 ∨ 8 < l.length
  · rw [if_pos h1] at h; cases h
  · rw [if_neg h1] at h
    exact ⟨by omega, by omega, chkFrom_ok l 0 h⟩

theorem chkFrom_zero {l : List Ta} : ∀ (r : List Ta) (k : Nat), (chkFrom l r k).1 = 0 → chkFrom l r k = (0, 0)
  | [], _, _ => rfl
  | y :: r, k, h => by
    rw [chkFrom] at h ⊢
    by_cases hw : wrongF y (l.take k) = 0
    · rw [if_pos hw] at h ⊢
      exact chkFrom_zero r (k + 1) h
    · rw [if_neg hw] at h
      exact absurd h hw

theorem stands_t {x : Ta} (h : stands x = true) : 1 ≤ x.t ∧ x.t ≤ 10000 ∧ 1 ≤ x.c ∧ x.c ≤ 10000 ∧ 1 ≤ x.d ∧ x.d ≤ 10000 ∧ 0 ≤ x.j ∧ x.j ≤ 10000 ∧ 0 ≤ x.o ∧ x.o ≤ 10000 := by
  simp only [stands, within, Bool.and_eq_true, decide_eq_true_eq] at h
  omega

theorem soonOf_range {l : List Ta} {past : List Co} (hp : Past l past) (hl : ∀ x ∈ l, stands x = true) (k : Int) (hk : 0 ≤ k) (hkl : k < (l.length : Int)) : 0 ≤ soonOf l past k ∧ soonOf l past k ≤ 30000 := by
  unfold soonOf
  cases h : lastOf past k with
  | none => simp
  | some c =>
    have hc := hp c (List.mem_of_find?_eq_some h)
    have hx : l.getD k.toNat ta0 ∈ l := by
      have : k.toNat < l.length := by omega
      rw [List.getD_eq_getElem?_getD, List.getElem?_eq_getElem this]
      exact List.getElem_mem this
    have := stands_t (hl _ hx)
    dsimp only
    omega

theorem nowOf_range {l : List Ta} {past : List Co} (hp : Past l past) : 0 ≤ nowOf past ∧ nowOf past ≤ 20000 := by
  cases past with
  | nil => simp [nowOf]
  | cons c r =>
    have := hp c (by simp)
    simp [nowOf]
    omega

theorem soonOf_cons {l : List Ta} {past : List Co} {c : Co} (k : Int) : soonOf l (c :: past) k = if c.k = k then c.a + (l.getD k.toNat ta0).t else soonOf l past k := by
  unfold soonOf lastOf
  rw [List.find?_cons]
  by_cases h : c.k = k
  · simp [h]
  · simp [h]
end Go.Proofs.Ytccoobcggbbciam
namespace Go.Proofs.Ytccoobcggbbciam
open Go.ChangeShapes Go.WideShapes Go.ChangeAt Go.RowKit

def noT : Ta := ⟨⟨#[63]⟩, -9, 0, 0, 0, 0, 0⟩
def threeL : List Ta := [⟨⟨#[97]⟩, 1, 4, 4, 0, 0, 3⟩, ⟨⟨#[98]⟩, 2, 6, 6, 0, 0, 2⟩, ⟨⟨#[99]⟩, 3, 12, 12, 0, 0, 1⟩]

theorem chk_three : chkF threeL = (0, 0) := by kernel_rfl
theorem chk_nil : chkF [] = (2, 0) := by kernel_rfl

end Go.Proofs.Ytccoobcggbbciam
namespace Go.Proofs.Ytccoobcggbbciam
open Go.ChangeShapes Go.WideShapes Go.ChangeAt Go.RowKit

/- Responses: pure. -/
def isFix (ask : Int → Int) (jj d : Int) (n : Nat) : Bool := decide (1 ≤ n) && decide ((n : Int) + jj ≤ d) && decide (ask n = n)
/-- The least number that is what it asks for, and jj more; 0: there is none. -/
def wOf (ask : Int → Int) (jj d : Int) : Int := match (List.range (d + 1).toNat).find? (isFix ask jj d) with
  | some n => (n : Int) + jj
  | none => 0

theorem isFix_iff {ask : Int → Int} {jj d : Int} {n : Nat} : isFix ask jj d n = true ↔ 1 ≤ n ∧ (n : Int) + jj ≤ d ∧ ask n = n := by
  unfold isFix; simp [and_assoc]

theorem wOf_hit {ask : Int → Int} {jj d w : Int} (hj : 0 ≤ jj) (h1 : 1 ≤ w) (h2 : w + jj ≤ d) (h3 : ask w = w) (h4 : ∀ v, 1 ≤ v → v < w → ask v ≠ v) : wOf ask jj d = w + jj := by
  obtain ⟨n, rfl⟩ : ∃ n : Nat, w = (n : Int) := ⟨w.toNat, by omega⟩
  have h : (List.range (d + 1).toNat).find? (isFix ask jj d) = some n := by
    rw [List.find?_range_eq_some]
    refine ⟨isFix_iff.2 ⟨by omega, h2, h3⟩, List.mem_range.2 (by omega), fun k hk => ?_⟩
    rw [Bool.not_eq_true', Bool.eq_false_iff]
    intro hf
    obtain ⟨g1, g2, g3⟩ := isFix_iff.1 hf
    exact h4 k (by omega) (by omega) g3
  unfold wOf
  rw [h]

theorem wOf_none {ask : Int → Int} {jj d : Int} (h : ∀ w, 1 ≤ w → w + jj ≤ d → ask w ≠ w) : wOf ask jj d = 0 := by
  have h : (List.range (d + 1).toNat).find? (isFix ask jj d) = none := by
    rw [List.find?_range_eq_none]
    intro k hk
    rw [Bool.not_eq_true', Bool.eq_false_iff]
    intro hf
    obtain ⟨g1, g2, g3⟩ := isFix_iff.1 hf
    exact h k (by omega) g2 g3
  unfold wOf
  rw [h]

theorem wOf_some {ask : Int → Int} {jj d : Int} (h : wOf ask jj d ≠ 0) : ∃ w, 1 ≤ w ∧ w + jj ≤ d ∧ ask w = w ∧ (∀ v, 1 ≤ v → v < w → ask v ≠ v) ∧ wOf ask jj d = w + jj := by
  unfold wOf at h ⊢
  cases e : (List.range (d + 1).toNat).find? (isFix ask jj d) with
  | none => rw [e] at h; exact absurd rfl h
  | some n =>
    rw [List.find?_range_eq_some] at e
    obtain ⟨g1, g2, g3⟩ := isFix_iff.1 e.1
    refine ⟨n, by omega, g2, g3, fun v hv hlt hf => ?_, rfl⟩
    have := e.2.2 v.toNat (by omega)
    rw [Bool.not_eq_true', Bool.eq_false_iff] at this
    refine this (isFix_iff.2 ⟨by omega, by omega, ?_⟩)
    rw [show ((v.toNat : Nat) : Int) = v by omega]
    exact hf

theorem wOf_range {ask : Int → Int} {jj d : Int} (hj : 0 ≤ jj) (hd : 0 ≤ d) : 0 ≤ wOf ask jj d ∧ wOf ask jj d ≤ d := by
  by_cases h : wOf ask jj d = 0
  · omega
  · obtain ⟨w, h1, h2, -, -, h5⟩ := wOf_some h
    omega

def up1 (w : Int) (o : Ta) : Int := (w + o.j + o.t - 1) / o.t * o.c
def sumO (w : Int) : List Ta → Int
  | [] => 0
  | o :: r => up1 w o + sumO w r
def askF (own : Int) (oth : List Ta) (w : Int) : Int := own + sumO w oth
/-- Those that go ahead, of the ones from the k-th on. -/
def othF (A : Nat → Bool) (i : Nat) : List Ta → Nat → List Ta
  | [], _ => []
  | x :: r, k => if k ≠ i ∧ A k = true then x :: othF A i r (k + 1) else othF A i r (k + 1)
def Tk (l : List Ta) (n : Nat) : Ta := l.getD n ta0
def aheadP (l : List Ta) (i : Nat) (k : Nat) : Bool := decide ((Tk l i).p ≤ (Tk l k).p)
def worstF (A : Nat → Bool) (l : List Ta) (i : Nat) (block : Int) : Int := wOf (askF ((Tk l i).c + block) (othF A i l 0)) (Tk l i).j (Tk l i).d
def respR (l : List Ta) (i : Nat) (block : Int) : Int := worstF (aheadP l i) l i block

theorem Tk_at {l : List Ta} {k : Nat} {x : Ta} (h : l[k]? = some x) : Tk l k = x := by
  unfold Tk; rw [List.getD_eq_getElem?_getD, h]; rfl
theorem Tk_get {l : List Ta} {k : Nat} (h : k < l.length) : l[k]? = some (Tk l k) := by
  unfold Tk; rw [List.getD_eq_getElem?_getD]; simp [h]
theorem Tk_mem {l : List Ta} {k : Nat} (h : k < l.length) : Tk l k ∈ l := List.mem_of_getElem? (Tk_get h)

theorem othF_mem {A : Nat → Bool} {i : Nat} : ∀ (l : List Ta) (k : Nat), ∀ x ∈ othF A i l k, x ∈ l
  | [], _, x, hx => by simp [othF] at hx
  | y :: r, k, x, hx => by
    unfold othF at hx
    split at hx
    · rcases List.mem_cons.1 hx with rfl | hx
      · exact List.mem_cons_self
      · exact List.mem_cons_of_mem _ (othF_mem r (k + 1) x hx)
    · exact List.mem_cons_of_mem _ (othF_mem r (k + 1) x hx)

theorem othF_len {A : Nat → Bool} {i : Nat} : ∀ (l : List Ta) (k : Nat), (othF A i l k).length ≤ l.length
  | [], _ => by simp [othF]
  | y :: r, k => by
    have := othF_len (A := A) (i := i) r (k + 1)
    unfold othF
    split
    · simp; omega
    · simp; omega

theorem up1_range {w : Int} {o : Ta} (h : stands o = true) (h0 : 0 ≤ w) (h1 : w ≤ 10000) : 0 ≤ up1 w o ∧ up1 w o ≤ 200000000 ∧ 0 ≤ (w + o.j + o.t - 1) / o.t ∧ (w + o.j + o.t - 1) / o.t ≤ 20000 := by
  obtain ⟨a1, a2, a3, a4, a5, a6, a7, a8, a9, a10⟩ := stands_t h
  have q0 : 0 ≤ (w + o.j + o.t - 1) / o.t := Int.ediv_nonneg (by omega) (by omega)
  have q1 : (w + o.j + o.t - 1) / o.t ≤ 20000 := by
    apply Int.le_of_lt_add_one
    apply Int.ediv_lt_of_lt_mul (by omega)
    have : w + o.j ≤ (w + o.j) * o.t := by
      have := Int.mul_le_mul_of_nonneg_left (a := 1) (b := o.t) (c := w + o.j) (by omega) (by omega)
      omega
    have h3 : (20000 + 1) * o.t = 20000 * o.t + o.t := by rw [Int.add_mul]; omega
    omega
  unfold up1
  refine ⟨Int.mul_nonneg q0 (by omega), ?_, q0, q1⟩
  calc (w + o.j + o.t - 1) / o.t * o.c ≤ 20000 * o.c := Int.mul_le_mul_of_nonneg_right q1 (by omega)
    _ ≤ 20000 * 10000 := Int.mul_le_mul_of_nonneg_left (by omega) (by omega)
    _ = 200000000 := by rfl

theorem up1_mono {w v : Int} {o : Ta} (h : stands o = true) (hw : w ≤ v) : up1 w o ≤ up1 v o := by
  obtain ⟨a1, a2, a3, a4, a5, a6, a7, a8, a9, a10⟩ := stands_t h
  unfold up1
  exact Int.mul_le_mul_of_nonneg_right (Int.ediv_le_ediv (by omega) (by omega)) (by omega)

theorem sumO_mono {w v : Int} (hw : w ≤ v) : ∀ (l : List Ta), (∀ x ∈ l, stands x = true) → sumO w l ≤ sumO v l
  | [], _ => Int.le_refl _
  | x :: r, h => by
    have h1 := up1_mono (h x List.mem_cons_self) hw
    have h2 := sumO_mono hw r (fun y hy => h y (List.mem_cons_of_mem _ hy))
    unfold sumO
    omega

theorem sumO_range {w : Int} (h0 : 0 ≤ w) (h1 : w ≤ 10000) : ∀ (l : List Ta), (∀ x ∈ l, stands x = true) → 0 ≤ sumO w l ∧ sumO w l ≤ 200000000 * (l.length : Int)
  | [], _ => by simp [sumO]
  | x :: r, h => by
    have g1 := up1_range (h x List.mem_cons_self) h0 h1
    have g2 := sumO_range h0 h1 r (fun y hy => h y (List.mem_cons_of_mem _ hy))
    simp only [sumO, List.length_cons]
    omega

/-- Rounded up, the other way. -/
theorem up_eq {a b : Int} (hb : 0 < b) : (if a / b * b < a then a / b + 1 else a / b) = (a + b - 1) / b := by
  have e := Int.mul_ediv_add_emod a b
  have e1 := Int.emod_nonneg a (show b ≠ 0 by omega)
  have e2 := Int.emod_lt_of_pos a hb
  rw [Int.mul_comm] at e
  split
  · symm
    rw [Int.ediv_eq_iff_of_pos hb]
    rw [Int.add_mul]
    omega
  · symm
    rw [Int.ediv_eq_iff_of_pos hb]
    omega

/- What is wrong with a set of chapter 9. -/
def ordFrom : List Ta → Nat → Int
  | [], _ => -1
  | x :: r, k => if x.t < x.d then (k : Int) else ordFrom r (k + 1)
def chkX (l : List Ta) : Int × Int := if (chkF l).1 ≠ 0 then chkF l else if 0 ≤ ordFrom l 0 then (12, ordFrom l 0) else (0, 0)

theorem ordFrom_ok : ∀ (l : List Ta) (k : Nat), ordFrom l k < 0 → ∀ x ∈ l, x.d ≤ x.t
  | [], _, _, x, hx => by simp at hx
  | y :: r, k, h, x, hx => by
    unfold ordFrom at h
    split at h
    · omega
    · rcases List.mem_cons.1 hx with rfl | hx
      · omega
      · exact ordFrom_ok r (k + 1) h x hx

theorem chkX_ok {l : List Ta} (h : (chkX l).1 = 0) : (chkF l).1 = 0 ∧ (∀ x ∈ l, x.d ≤ x.t) ∧ l.length ≠ 0 ∧ l.length ≤ 8 ∧ (∀ x ∈ l, stands x = true) ∧ chkX l = (0, 0) := by
  unfold chkX at h ⊢
  by_cases h0 : (chkF l).1 ≠ 0
  · rw [if_pos h0] at h
    exact absurd h h0
  · rw [if_neg h0] at h ⊢
    by_cases h1 : 0 ≤ ordFrom l 0
    · rw [if_pos h1] at h; cases h
    · rw [if_neg h1] at h ⊢
      have g := chkF_ok (l := l) (by omega)
      exact ⟨by omega, ordFrom_ok l 0 (by omega), g.1, g.2.1, g.2.2, rfl⟩

def respF (l : List Ta) (i block : Int) : Int × (Int × Int) := if i < 0 ∨ (l.length : Int) ≤ i ∨ block < 0 ∨ 10000 < block then (0, (3, 0)) else if respR l i.toNat block = 0 then (0, (13, i)) else (respR l i.toNat block, (0, 0))
def responseF (l : List Ta) (i block : Int) : Int × (Int × Int) := if (chkX l).1 ≠ 0 then (0, chkX l) else respF l i block
/-- The answers from the k-th on, behind those that are there. -/
def respsFrom (l : List Ta) : List Int → Nat → List Int → List Int × (Int × Int)
  | [], _, acc => (acc, (0, 0))
  | b :: r, k, acc => if (respF l k b).2.1 ≠ 0 then ([], (respF l k b).2) else respsFrom l r (k + 1) (acc ++ [(respF l k b).1])
def responsesF (l : List Ta) (bs : List Int) : List Int × (Int × Int) := if (chkX l).1 ≠ 0 then ([], chkX l) else if bs.length ≠ l.length then ([], (2, 0)) else respsFrom l bs 0 []

theorem resps_three : responsesF threeL [0, 0, 0] = ([1, 3, 10], (0, 0)) := by kernel_rfl

theorem respsFrom_at {l : List Ta} {bs : List Int} {k : Nat} {b : Int} {acc : List Int} (h : bs.drop k = b :: bs.drop (k + 1)) : respsFrom l (bs.drop k) k acc = if (respF l k b).2.1 ≠ 0 then ([], (respF l k b).2) else respsFrom l (bs.drop (k + 1)) (k + 1) (acc ++ [(respF l k b).1]) := by
  rw [h]; rfl

theorem othF_at {A : Nat → Bool} {i k : Nat} {l : List Ta} {x : Ta} (h : l.drop k = x :: l.drop (k + 1)) : othF A i (l.drop k) k = if k ≠ i ∧ A k = true then x :: othF A i (l.drop (k + 1)) (k + 1) else othF A i (l.drop (k + 1)) (k + 1) := by
  rw [h]; rfl

theorem stands_mem {l : List Ta} (h : ∀ x ∈ l, stands x = true) {k : Nat} (hk : k < l.length) : stands (Tk l k) = true := h _ (Tk_mem hk)
end Go.Proofs.Ytccoobcggbbciam
