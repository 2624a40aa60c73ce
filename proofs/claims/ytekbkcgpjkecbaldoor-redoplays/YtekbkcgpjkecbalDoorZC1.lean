import Derived.Test.YtekbkcgpjkecbalDoorSPI
import Derived.Test.YtekbkcgpjkecbalDoorZA
namespace Go.Proofs.YtekbkcgpjkecbalDoor.S8
open Go.ChangeShapes Go.WideShapes Go.ChangeAt Go.RowKit

set_option maxRecDepth 20000 in
theorem Search_empty (W : World) (ad : Option Addr) (c : Nat) (p : Int) : Calls Tryd.prog 40 #[.slice ad 0 c, .int .i64 p] W fun r W' => r = .returned (.tuple #[.int .i64 0, .bool false]) ∧ ∃ q, W' = W.drewN q := by
  go_enter Tryd.func40, Tryd.ntmps40
  go_wp2_with fail
  go_loopw [7, 8] (fun i j wr => i = .int .i64 0 ∧ j = .int .i64 0 ∧ ∃ q, wr = W.drewN q) (fun _ _ _ => 0)
  case atStart => exact ⟨rfl, rfl, 0, rfl⟩
  case round =>
    obtain ⟨rfl, rfl, q, rfl⟩ := hrel
    go_wp2_with fail
    go_ret2
    exact ⟨rfl, _, rfl⟩

theorem nuV_at {w : World} {l : List Int} {b o : Nat} (h : ∀ q u, (l.flatMap nuV)[q]? = some u → w.cell? ⟨b, o + q, none⟩ = some u) {j : Nat} {x : Int} (hj : l[j]? = some x) : w.cell? ⟨b, o + j, none⟩ = some (.int .i64 x) :=
  h j _ (by rw [zI_flat, List.getElem?_map, hj]; rfl)

/-- Is it one of those, which rise? -/
theorem SearchF_any (W : World) (fs : List Int) (vf : Value) (t : Int) (h : RowSl nuV W fs vf) (ha : fs.Pairwise (· < ·)) (hl : fs.length ≤ 1000000) :
    Calls Tryd.prog 40 #[vf, .int .i64 t] W fun r W' => (∃ i, r = .returned (.tuple #[.int .i64 i, .bool (fs.contains t)])) ∧ ∃ q, W' = W.drewN q := by
  obtain ⟨ad, c, rfl, -, hcap, hrow⟩ := h
  rcases hrow with rfl | ⟨b, o, rfl, hrow⟩
  · refine (Search_empty W ad c t).mono ?_
    rintro r W' ⟨rfl, hq⟩
    exact ⟨⟨0, rfl⟩, hq⟩
  · have hs : (fs.take fs.length).Pairwise (· ≤ ·) := by
      rw [List.take_length]
      exact ha.imp (fun h => by omega)
    have hc := Any.slices_BinarySearch_int lay_search b o fs.length c fs t W (Nat.le_refl _) (by omega) (fun j hj => by
      rw [nuV_at hrow (x := fs.getD j 0) (by rw [List.getD_eq_getElem?_getD, List.getElem?_eq_getElem hj]; rfl)]) hs
    change Calls Tryd.prog 40 _ _ _ at hc
    refine hc.mono ?_
    rintro r W' ⟨rfl, hq⟩
    rw [List.take_length]
    exact ⟨⟨_, rfl⟩, hq⟩

set_option maxRecDepth 20000 in
theorem struck_any (W : World) (fs : List Int) (vf : Value) (g : Nat) (t : Int) (h : RowSl nuV W fs vf) (hx : W.cell? ⟨g, 0, none⟩ = some vf) (ha : fs.Pairwise (· < ·)) (hl : fs.length ≤ 1000000) :
    Calls Tryd.prog 39 #[.int .i64 t, .pointer (some ⟨g, 0, none⟩)] W fun r W' => r = .returned (.bool (decide (t ∈ fs))) ∧ Below W.heap.size W W' := by
  have HB := SearchF_any W fs vf t h ha hl
  obtain ⟨ad, c, rfl⟩ := h.len
  go_enter Tryd.func39, Tryd.ntmps39
  go_wp2_with (go_at_call 40; refine HB.mono ?_; rintro r w1 ⟨⟨i, rfl⟩, q, rfl⟩)
  go_ret
  exact ⟨rfl, below_drewN' (n := q)⟩
end Go.Proofs.YtekbkcgpjkecbalDoor.S8
