import Derived.Test.YtfffpemgfddehaaDoorWrongE
namespace Go.Proofs.YtfffpemgfddehaaDoor
open Go.ChangeShapes Go.WideShapes Go.ChangeAt Go.RowKit

def exNone (k n : Int) (m : Nat) : Bool := decide (k = 0) && decide (n = 0) && decide (m = 0)

theorem emptyExpr_any (k n : Int) (ad : Option Addr) (m c : Nat) (w : World) :
    Calls Tryd.prog 25 #[.agg #[.int .i64 k, .int .i64 n, .slice ad m c]] w fun r w' => r = .returned (.bool (exNone k n m)) ∧ Below w.heap.size w w' := by
  have hb : ∀ o, Below w.heap.size w (w.alloc o) := fun o => (Below.refl _ _).alloc (Nat.le_refl _) o
  by_cases h1 : k = 0
  · by_cases h2 : n = 0
    · subst h1 h2
      have hx : Hid (exNone 0 0 m = ((m : Int) == 0)) := by unfold Hid exNone; rw [Bool.eq_iff_iff]; simp
      go_enter Tryd.func25, Tryd.ntmps25
      go_wp2
      go_ret
      exact ⟨ret_bool hx.out.symm, hb _⟩
    · have hx : Hid (exNone k n m = false) := by unfold Hid exNone; simp [h2]
      have h2' : (n == 0) = false := by simpa using h2
      subst h1
      go_enter Tryd.func25, Tryd.ntmps25
      go_wp2
      go_ret
      exact ⟨ret_bool hx.out.symm, hb _⟩
  · have hx : Hid (exNone k n m = false) := by unfold Hid exNone; simp [h1]
    have h1' : (k == 0) = false := by simpa using h1
    go_enter Tryd.func25, Tryd.ntmps25
    go_wp2
    go_ret
    exact ⟨ret_bool hx.out.symm, hb _⟩

theorem isNone_any (k n : Int) (ad : Option Addr) (m c : Nat) (w : World) :
    Calls Tryd.prog 37 #[.agg #[.int .i64 k, .int .i64 n, .slice ad m c]] w fun r w' => r = .returned (.bool (exNone k n m)) ∧ Below w.heap.size w w' := by
  have hb : ∀ o, Below w.heap.size w (w.alloc o) := fun o => (Below.refl _ _).alloc (Nat.le_refl _) o
  by_cases h1 : k = 0
  · by_cases h2 : n = 0
    · subst h1 h2
      have hx : Hid (exNone 0 0 m = ((m : Int) == 0)) := by unfold Hid exNone; rw [Bool.eq_iff_iff]; simp
      go_enter Tryd.func37, Tryd.ntmps37
      go_wp2
      go_ret
      exact ⟨ret_bool hx.out.symm, hb _⟩
    · have hx : Hid (exNone k n m = false) := by unfold Hid exNone; simp [h2]
      have h2' : (n == 0) = false := by simpa using h2
      subst h1
      go_enter Tryd.func37, Tryd.ntmps37
      go_wp2
      go_ret
      exact ⟨ret_bool hx.out.symm, hb _⟩
  · have hx : Hid (exNone k n m = false) := by unfold Hid exNone; simp [h1]
    have h1' : (k == 0) = false := by simpa using h1
    go_enter Tryd.func37, Tryd.ntmps37
    go_wp2
    go_ret
    exact ⟨ret_bool hx.out.symm, hb _⟩

theorem F_any (e k : Int) (w : World) : Calls Tryd.prog 6 #[.int .i64 e, .int .i64 k] w fun r w' => r = .returned (.agg #[.int .i64 e, .int .i64 k]) ∧ Below w.heap.size w w' := by
  go_enter Tryd.func6, Tryd.ntmps6
  go_wp2
  exact bodyPost_ret (v := .agg #[.int .i64 e, .int .i64 k]) (by simp [results, Tryd.results6, go_sem]) rfl ⟨rfl, (Below.refl _ _).alloc (Nat.le_refl _) _⟩
end Go.Proofs.YtfffpemgfddehaaDoor
