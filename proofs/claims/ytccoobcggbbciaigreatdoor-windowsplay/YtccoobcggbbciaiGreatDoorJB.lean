import Derived.Test.YtccoobcggbbciaiGreatDoorTK
namespace Go.Proofs.YtccoobcggbbciaiGreatDoor
open Go.ChangeShapes Go.WideShapes Go.ChangeAt Go.RowKit

/-- A coming. -/
structure Co where
  k : Int
  a : Int

def Co.vals (x : Co) : List Value := [.int .i64 x.k, .int .i64 x.a]
def Co.val (x : Co) : Value := .agg #[.int .i64 x.k, .int .i64 x.a]
theorem Co.len (x : Co) : x.vals.length = 2 := rfl
theorem Co.one {x : Co} {u : Value} (h : u ∈ x.vals) : u.oneCell' = true := by
  simp only [Co.vals, List.mem_cons, List.not_mem_nil, or_false] at h
  rcases h with rfl | rfl <;> rfl
def CoAt (w : World) (b o : Nat) (x : Co) : Prop := w.cell? ⟨b, o, none⟩ = some (.int .i64 x.k) ∧ w.cell? ⟨b, o + 1, none⟩ = some (.int .i64 x.a)
theorem co_at {w : World} {l : List Co} {b o j : Nat} {x : Co} (h : ∀ q u, (l.flatMap Co.vals)[q]? = some u → w.cell? ⟨b, o + q, none⟩ = some u) (hj : l[j]? = some x) : CoAt w b (o + j * 2) x := by
  have key : ∀ k u, k < 2 → x.vals[k]? = some u → w.cell? ⟨b, o + j * 2 + k, none⟩ = some u := fun k u hk hu => by
    rw [Nat.add_assoc]
    exact h _ _ ((flat_at Co.vals 2 Co.len l j k x hj hk).trans hu)
  exact ⟨key 0 _ (by omega) rfl, key 1 _ (by omega) rfl⟩

/-- A number. -/
def nuV (z : Int) : List Value := [.int .i64 z]
theorem nuV_len (z : Int) : (nuV z).length = 1 := rfl
theorem nu_at {w : World} {l : List Int} {b o j : Nat} {z : Int} (h : ∀ q u, (l.flatMap nuV)[q]? = some u → w.cell? ⟨b, o + q, none⟩ = some u) (hj : l[j]? = some z) : w.cell? ⟨b, o + j, none⟩ = some (.int .i64 z) := by
  have := h _ _ ((flat_at nuV 1 nuV_len l j 0 z hj (by omega)).trans (rfl : (nuV z)[0]? = some (.int .i64 z)))
  simpa using this

/-- A job. -/
structure Jb where
  k : Int
  a : Int
  c : Int
  d : Int
  p : Int

def Jb.vals (x : Jb) : List Value := [.int .i64 x.k, .int .i64 x.a, .int .i64 x.c, .int .i64 x.d, .int .i64 x.p]
theorem Jb.len (x : Jb) : x.vals.length = 5 := rfl
theorem Jb.one {x : Jb} {u : Value} (h : u ∈ x.vals) : u.oneCell' = true := by
  simp only [Jb.vals, List.mem_cons, List.not_mem_nil, or_false] at h
  rcases h with rfl | rfl | rfl | rfl | rfl <;> rfl
def JbAt (w : World) (b o : Nat) (x : Jb) : Prop := w.cell? ⟨b, o, none⟩ = some (.int .i64 x.k) ∧ w.cell? ⟨b, o + 1, none⟩ = some (.int .i64 x.a) ∧ w.cell? ⟨b, o + 2, none⟩ = some (.int .i64 x.c) ∧ w.cell? ⟨b, o + 3, none⟩ = some (.int .i64 x.d) ∧ w.cell? ⟨b, o + 4, none⟩ = some (.int .i64 x.p)
theorem jb_at {w : World} {l : List Jb} {b o j : Nat} {x : Jb} (h : ∀ q u, (l.flatMap Jb.vals)[q]? = some u → w.cell? ⟨b, o + q, none⟩ = some u) (hj : l[j]? = some x) : JbAt w b (o + j * 5) x := by
  have key : ∀ k u, k < 5 → x.vals[k]? = some u → w.cell? ⟨b, o + j * 5 + k, none⟩ = some u := fun k u hk hu => by
    rw [Nat.add_assoc]
    exact h _ _ ((flat_at Jb.vals 5 Jb.len l j k x hj hk).trans hu)
  exact ⟨key 0 _ (by omega) rfl, key 1 _ (by omega) rfl, key 2 _ (by omega) rfl, key 3 _ (by omega) rfl, key 4 _ (by omega) rfl⟩

/- May tasks come so? -/
def ta0 : Ta := ⟨⟨#[]⟩, 0, 0, 0, 0, 0, 0⟩
def nowOf : List Co → Int
  | [] => 0
  | c :: _ => c.a
def lastOf (past : List Co) (k : Int) : Option Co := past.find? (fun c => decide (c.k = k))
def soonOf (l : List Ta) (past : List Co) (k : Int) : Int := match lastOf past k with
  | none => 0
  | some c => c.a + (l.getD k.toNat ta0).t
def legOne (l : List Ta) (past : List Co) (c : Co) : Int := if c.k < 0 ∨ (l.length : Int) ≤ c.k then 4 else if c.a < 0 ∨ 20000 < c.a then 3 else if c.a < nowOf past ∨ c.a < soonOf l past c.k then 12 else 0
def legFrom (l : List Ta) : List Co → List Co → Nat → Int × Int
  | _, [], _ => (0, 0)
  | past, c :: r, i => if legOne l past c = 0 then legFrom l (c :: past) r (i + 1) else (legOne l past c, (i : Int))
def legF (l : List Ta) (cs : List Co) : Int × Int := if (chkF l).1 ≠ 0 then chkF l else if 4000 < cs.length then (2, 0) else legFrom l [] cs 0

/-- What came so far may have come so. -/
def Past (l : List Ta) (past : List Co) : Prop := ∀ c ∈ past, 0 ≤ c.k ∧ c.k < (l.length : Int) ∧ 0 ≤ c.a ∧ c.a ≤ 20000

theorem legOne_ok {l : List Ta} {past : List Co} {c : Co} (h : legOne l past c = 0) : 0 ≤ c.k ∧ c.k < (l.length : Int) ∧ 0 ≤ c.a ∧ c.a ≤ 20000 := by
  unfold legOne at h
  by_cases h1 : c.k < 0 ∨ (l.length : Int) ≤ c.k
  · rw [if_pos h1] at h; cases h
  · rw [if_neg h1] at h
    by_cases h2 : c.a < 0 ∨ 20000 < c.a
    · rw [if_pos h2] at h; cases h
    · omega

theorem Past.cons {l : List Ta} {past : List Co} {c : Co} (h : Past l past) (hc : legOne l past c = 0) : Past l (c :: past) := by
  intro x hx
  rcases List.mem_cons.1 hx with rfl | hx
  · exact legOne_ok hc
  · exact h x hx

/-- What Check took: the numbers stand. -/
theorem chkFrom_ok {l : List Ta} : ∀ (r : List Ta) (k : Nat), (chkFrom l r k).1 = 0 → ∀ x ∈ r, stands x = true
  | [], _, _, x, hx => by simp at hx
  | y :: r, k, h, x, hx => by
    rw [chkFrom] at h
    by_cases hw : wrongF y (l.take k) = 0
    · rw [if_pos hw] at h
      rcases List.mem_cons.1 hx with rfl | hx
      · unfold wrongF at hw
        cases hs : stands x with
        | true => rfl
        | false =>
          exfalso
          rw [hs] at hw
          split at hw
          · cases hw
          · split at hw
            · cases hw
            · simp at hw
      · exact chkFrom_ok r (k + 1) h x hx
    · rw [if_neg hw] at h
      exact absurd h hw

theorem chkF_ok {l : List Ta} (h : (chkF l).1 = 0) : l.length ≠ 0 ∧ l.length ≤ 8 ∧ ∀ x ∈ l, stands x = true := by
  unfold chkF at h
  by_cases h1 : l.length = 0 ∨ 8 < l.length
  · rw [if_pos h1] at h; cases h
  · rw [if_neg h1] at h
    exact ⟨by omega, by omega, chkFrom_ok l 0 h⟩

theorem chkFrom_zero {l : List Ta} : ∀ (r : List Ta) (k : Nat), (chkFrom l r k).1 = 0 → chkFrom l r k = (0, 0)
  | [], _, _ => rfl
  | y :: r, k, h => by
    rw [chkFrom] at h ⊢
    by_cases hw : wrongF y (l.take k) = 0
    · rw [if_pos hw] at h ⊢
      exact chkFrom_zero r (k + 1) h
    · rw [if_neg hw] at h
      exact absurd h hw

theorem stands_t {x : Ta} (h : stands x = true) : 1 ≤ x.t ∧ x.t ≤ 10000 ∧ 1 ≤ x.c ∧ x.c ≤ 10000 ∧ 1 ≤ x.d ∧ x.d ≤ 10000 ∧ 0 ≤ x.j ∧ x.j ≤ 10000 ∧ 0 ≤ x.o ∧ x.o ≤ 10000 := by
  simp only [stands, within, Bool.and_eq_true, decide_eq_true_eq] at h
  omega

theorem soonOf_range {l : List Ta} {past : List Co} (hp : Past l past) (hl : ∀ x ∈ l, stands x = true) (k : Int) (hk : 0 ≤ k) (hkl : k < (l.length : Int)) : 0 ≤ soonOf l past k ∧ soonOf l past k ≤ 30000 := by
  unfold soonOf
  cases h : lastOf past k with
  | none => simp
  | some c =>
    have hc := hp c (List.mem_of_find?_eq_some h)
    have hx : l.getD k.toNat ta0 ∈ l := by
      have : k.toNat < l.length := by omega
      rw [List.getD_eq_getElem?_getD, List.getElem?_eq_getElem this]
      exact List.getElem_mem this
    have := stands_t (hl _ hx)
    dsimp only
    omega

theorem nowOf_range {l : List Ta} {past : List Co} (hp : Past l past) : 0 ≤ nowOf past ∧ nowOf past ≤ 20000 := by
  cases past with
  | nil => simp [nowOf]
  | cons c r =>
    have := hp c (by simp)
    simp [nowOf]
    omega

theorem soonOf_cons {l : List Ta} {past : List Co} {c : Co} (k : Int) : soonOf l (c :: past) k = if c.k = k then c.a + (l.getD k.toNat ta0).t else soonOf l past k := by
  unfold soonOf lastOf
  rw [List.find?_cons]
  by_cases h : c.k = k
  · simp [h]
  · simp [h]
end Go.Proofs.YtccoobcggbbciaiGreatDoor
