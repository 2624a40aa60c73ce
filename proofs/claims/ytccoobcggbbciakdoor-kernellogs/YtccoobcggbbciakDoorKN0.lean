import Derived.Test.YtccoobcggbbciakDoorKM0
namespace Go.Proofs.YtccoobcggbbciakDoor
open Go.ChangeShapes Go.WideShapes Go.ChangeAt Go.RowKit

theorem str_ne {a b : ByteArray} (h : ¬ a = b) : (a.toList == b.toList) = false := by
  rw [ByteArray.toList_eq, ByteArray.toList_eq]
  exact beq_eq_false_iff_ne.2 (fun e => h (bytes_same e))

theorem kind_hit {k : Nat} {b : ByteArray} (h : wordsB[k]? = some b) : kindE b.data.toList = (k : Int) := by
  have hk : k < 7 := (List.getElem?_eq_some_iff.1 h).1
  have h7 : k = 0 ∨ k = 1 ∨ k = 2 ∨ k = 3 ∨ k = 4 ∨ k = 5 ∨ k = 6 := by omega
  rcases h7 with rfl | rfl | rfl | rfl | rfl | rfl | rfl <;> (simp [wordsB] at h; subst h; decide)

theorem kind_none {b : ByteArray} (h : ∀ (k : Nat) (c : ByteArray), k < 7 → wordsB[k]? = some c → c ≠ b) : kindE b.data.toList = 0 := by
  have key : ∀ (k : Nat) (c : ByteArray), k < 7 → wordsB[k]? = some c → ¬ b.data.toList = c.data.toList := fun k c hk hc e => h k c hk hc (bytes_same e.symm)
  unfold kindE
  rw [if_neg (key 1 _ (by omega) rfl), if_neg (key 2 _ (by omega) rfl), if_neg (key 3 _ (by omega) rfl), if_neg (key 4 _ (by omega) rfl), if_neg (key 5 _ (by omega) rfl), if_neg (key 6 _ (by omega) rfl)]

def wordsV : Value := .agg #[.string ⟨#[]⟩, .string ⟨#[99, 111, 109, 101]⟩, .string ⟨#[114, 117, 110]⟩, .string ⟨#[100, 111, 110, 101]⟩, .string ⟨#[107, 105, 108, 108]⟩, .string ⟨#[108, 97, 116, 101]⟩, .string ⟨#[112, 117, 116]⟩]

theorem widx0 (W : World) : (Instr.index 95 wordsV (.int .i64 0)).run Tryd.prog W = .ok (.string ⟨#[]⟩) W := by kernel_rfl
theorem widx1 (W : World) : (Instr.index 95 wordsV (.int .i64 1)).run Tryd.prog W = .ok (.string ⟨#[99, 111, 109, 101]⟩) W := by kernel_rfl
theorem widx2 (W : World) : (Instr.index 95 wordsV (.int .i64 2)).run Tryd.prog W = .ok (.string ⟨#[114, 117, 110]⟩) W := by kernel_rfl
theorem widx3 (W : World) : (Instr.index 95 wordsV (.int .i64 3)).run Tryd.prog W = .ok (.string ⟨#[100, 111, 110, 101]⟩) W := by kernel_rfl
theorem widx4 (W : World) : (Instr.index 95 wordsV (.int .i64 4)).run Tryd.prog W = .ok (.string ⟨#[107, 105, 108, 108]⟩) W := by kernel_rfl
theorem widx5 (W : World) : (Instr.index 95 wordsV (.int .i64 5)).run Tryd.prog W = .ok (.string ⟨#[108, 97, 116, 101]⟩) W := by kernel_rfl
theorem widx6 (W : World) : (Instr.index 95 wordsV (.int .i64 6)).run Tryd.prog W = .ok (.string ⟨#[112, 117, 116]⟩) W := by kernel_rfl
theorem words_idx {k : Nat} {c : ByteArray} (hc : wordsB[k]? = some c) (W : World) : (Instr.index 95 wordsV (.int .i64 (k : Int))).run Tryd.prog W = .ok (.string c) W := by
  have hk : k < 7 := (List.getElem?_eq_some_iff.1 hc).1
  have h7 : k = 0 ∨ k = 1 ∨ k = 2 ∨ k = 3 ∨ k = 4 ∨ k = 5 ∨ k = 6 := by omega
  rcases h7 with rfl | rfl | rfl | rfl | rfl | rfl | rfl <;> (simp [wordsB] at hc; subst hc)
  · exact widx0 W
  · exact widx1 W
  · exact widx2 W
  · exact widx3 W
  · exact widx4 W
  · exact widx5 W
  · exact widx6 W

set_option maxRecDepth 20000 in
set_option maxHeartbeats 4000000 in
theorem kindOf_any (w : World) (b : ByteArray) (h : Gr w) : Calls Tryd.prog 42 #[.string b] w fun r w' => r = .returned (.int .i64 (kindE b.data.toList)) ∧ Below w.heap.size w w' := by
  have c0 := h.wd 0 _ rfl
  have c1 := h.wd 1 _ rfl
  have c2 := h.wd 2 _ rfl
  have c3 := h.wd 3 _ rfl
  have c4 := h.wd 4 _ rfl
  have c5 := h.wd 5 _ rfl
  have c6 := h.wd 6 _ rfl
  go_enter Tryd.func42, Tryd.ntmps42
  go_wp2_with fail
  clear c0 c1 c2 c3 c4 c5 c6
  have HX : Hid (Gr w) := h
  clear h
  go_loopw [6] (fun iv wr => ∃ i : Nat, i ≤ 7 ∧ iv = .int .i64 (i : Int) ∧ wr = w ∧ ∀ (k : Nat) (c : ByteArray), k < i → wordsB[k]? = some c → c ≠ b) (fun iv _ => 7 - (intOf iv).toNat)
  case atStart => exact ⟨0, by omega, rfl, rfl, fun k c hk _ => by omega⟩
  case round =>
    obtain ⟨i, hi, rfl, rfl, hall⟩ := hrel
    have HA : Hid (∀ (k : Nat) (c : ByteArray), k < i → wordsB[k]? = some c → c ≠ b) := hall
    clear hall
    by_cases hi7 : i < 7
    · have hii : (i : Int) < 7 := by omega
      obtain ⟨c, hc⟩ : ∃ c, wordsB[i]? = some c := ⟨wordsB[i]'hi7, List.getElem?_eq_getElem _⟩
      have hix := words_idx hc
      unfold wordsV at hix
      have HC : Hid (wordsB[i]? = some c) := hc
      clear hc
      by_cases e : c = b
      · subst e
        go_wp2_with fail
        go_ret
        exact ⟨by rw [kind_hit HC.out]; rfl, Below.refl _ _⟩
      · have hne := str_ne e
        go_wp2_with fail
        refine ⟨⟨i + 1, by omega, by simp, trivial, fun k d hk hd => ?_⟩, by simp [intOf]; omega⟩
        by_cases hki : k = i
        · subst hki
          have := HC.out
          rw [this] at hd
          cases hd
          exact e
        · exact HA.out k d (by omega) hd
    · have hie : i = 7 := by omega
      subst hie
      go_wp2_with fail
      go_ret
      exact ⟨by rw [kind_none HA.out]; rfl, Below.refl _ _⟩

def ptrsE (g : Nat) (k : Int) : List Value := if k = 6 then [.pointer (some ⟨g, 0, none⟩), .pointer (some ⟨g, 2, none⟩), .pointer (some ⟨g, 3, none⟩), .pointer (some ⟨g, 4, none⟩)] else [.pointer (some ⟨g, 0, none⟩), .pointer (some ⟨g, 2, none⟩), .pointer (some ⟨g, 4, none⟩)]

set_option maxRecDepth 20000 in
set_option maxHeartbeats 4000000 in
theorem numbersE_any (w : World) (g : Nat) (k : Int) (hc : w.cell? ⟨g, 1, none⟩ = some (.int .i64 k)) : Calls Tryd.prog 43 #[.pointer (some ⟨g, 0, none⟩)] w fun r w' => r = .returned (.slice (some ⟨w.heap.size, 0, none⟩) (ptrsE g k).length (ptrsE g k).length) ∧ w'.heap[w.heap.size]? = some (.cells (ptrsE g k).toArray 93 (0, 0)) ∧ Below w.heap.size w w' := by
  unfold ptrsE
  by_cases h : k = 6
  · subst h
    rw [if_pos rfl]
    go_enter Tryd.func43, Tryd.ntmps43
    go_upto_region 2 with fail
    go_region_held3 (fun _ : World => True)
      (first | assumption | exact trivial)
      (first | fail)
    all_goals
      go_wp2_with fail
      go_ret
      exact ⟨rfl, heap_alloc_new _ _, (below_new _ _).drew⟩
  · rw [if_neg h]
    have h' : (k == 6) = false := by simpa using h
    go_enter Tryd.func43, Tryd.ntmps43
    go_upto_region 3 with fail
    go_region_held3 (fun _ : World => True)
      (first | assumption | exact trivial)
      (first | fail)
    all_goals
      go_wp2_with fail
      go_ret
      exact ⟨rfl, heap_alloc_new _ _, (below_new _ _).drew⟩
end Go.Proofs.YtccoobcggbbciakDoor
