import Derived.Test.YtcgncdpohaoejafDoorRE
import Derived.Test.YtcgncdpohaoejafDoorRC
namespace Go.Proofs.YtcgncdpohaoejafDoor
open Go.ChangeShapes Go.WideShapes Go.ChangeAt Go.RowKit

set_option maxRecDepth 20000 in
set_option maxHeartbeats 4000000 in
/-- Same, of two lists of the same tasks. -/
theorem SameTa_any (w : World) (l : List Ta) (v v' : Value) (hl : l.length ≤ 4194304) (h : RowSl Ta.vals w l v) (h' : RowSl Ta.vals w l v') :
    Calls Tryd.prog 10 #[v, v'] w fun r w' => r = .returned (.bool true) ∧ Below w.heap.size w w' := by
  obtain ⟨ad, c, rfl, -, -, hc⟩ := h
  obtain ⟨ad', c', rfl, -, -, hc'⟩ := h'
  have HR : Hid (_ ∧ _) := ⟨hc, hc'⟩
  clear hc hc'
  go_enter Tryd.func10, Tryd.ntmps10
  go_wp2_with fail
  go_loopw [13] (fun x wr => ∃ j : Nat, j ≤ l.length ∧ x = .int .i64 j ∧ Below w.heap.size w wr) (fun x _ => l.length - (intOf x).toNat)
  case atStart => exact ⟨0, Nat.zero_le _, rfl, Below.refl _ _⟩
  case round =>
    obtain ⟨j, hj, rfl, hb⟩ := hrel
    have HB : Hid (Below w.heap.size w wr) := hb
    by_cases hlt : j < l.length
    · obtain ⟨x, hx, -⟩ := drop_at hlt
      rcases HR.out.1 with h | ⟨b1, o1, rfl, hrow1⟩
      · rw [h] at hlt; simp at hlt
      rcases HR.out.2 with h | ⟨b2, o2, rfl, hrow2⟩
      · rw [h] at hlt; simp at hlt
      obtain ⟨c0, c1, c2, c3, c4, c5, c6⟩ := ta_at (fun q u hq => below_cell hb (hrow1 q u hq)) hx
      obtain ⟨d0, d1, d2, d3, d4, d5, d6⟩ := ta_at (fun q u hq => below_cell hb (hrow2 q u hq)) hx
      obtain ⟨xnm, xc, xt, xd, xj, xo, xp⟩ := x
      dsimp only at c0 c1 c2 c3 c4 c5 c6 d0 d1 d2 d3 d4 d5 d6
      clear hrow1 hrow2 hb hx
      go_wp2_with fail
      go_quiet (fail)
      go_wp2_with fail
      go_roundw
      case rel => exact ⟨j + 1, by omega, by go_num, below_seq HB.out (below_drewN' (n := nq))⟩
      case measure => simp [intOf]; omega
    · have hje : j = l.length := by omega
      subst hje
      go_wp2_with fail
      go_ret
      exact ⟨rfl, hb⟩

theorem below_setCells {M b : Nat} (hb : M ≤ b) : ∀ (l : List Value) (o : Nat) (w : World), Below M w (w.setCells b o l)
  | [], _, _ => Below.refl _ _
  | v :: r, o, w => by
    refine Below.trans ?_ (below_setCells hb r (o + 1) _)
    exact (Below.refl _ w).setCell (p := ⟨b, o, none⟩) hb v

theorem zero_cells7 (n : Nat) : ∀ u ∈ (Builtin.zeroCells #[.string ⟨#[]⟩, .int .i64 0, .int .i64 0, .int .i64 0, .int .i64 0, .int .i64 0, .int .i64 0] n).toList, u.oneCell' = true := by
  intro u hu
  simp only [Builtin.zeroCells, Array.toList_map, List.mem_map] at hu
  obtain ⟨i, -, rfl⟩ := hu
  have : i % (#[.string ⟨#[]⟩, .int .i64 0, .int .i64 0, .int .i64 0, .int .i64 0, .int .i64 0, .int .i64 0] : Array Value).size = 0 ∨ i % (#[.string ⟨#[]⟩, .int .i64 0, .int .i64 0, .int .i64 0, .int .i64 0, .int .i64 0, .int .i64 0] : Array Value).size = 1 ∨ i % (#[.string ⟨#[]⟩, .int .i64 0, .int .i64 0, .int .i64 0, .int .i64 0, .int .i64 0, .int .i64 0] : Array Value).size = 2 ∨ i % (#[.string ⟨#[]⟩, .int .i64 0, .int .i64 0, .int .i64 0, .int .i64 0, .int .i64 0, .int .i64 0] : Array Value).size = 3 ∨ i % (#[.string ⟨#[]⟩, .int .i64 0, .int .i64 0, .int .i64 0, .int .i64 0, .int .i64 0, .int .i64 0] : Array Value).size = 4 ∨ i % (#[.string ⟨#[]⟩, .int .i64 0, .int .i64 0, .int .i64 0, .int .i64 0, .int .i64 0, .int .i64 0] : Array Value).size = 5 ∨ i % (#[.string ⟨#[]⟩, .int .i64 0, .int .i64 0, .int .i64 0, .int .i64 0, .int .i64 0, .int .i64 0] : Array Value).size = 6 := by
    show i % 7 = 0 ∨ i % 7 = 1 ∨ i % 7 = 2 ∨ i % 7 = 3 ∨ i % 7 = 4 ∨ i % 7 = 5 ∨ i % 7 = 6
    omega
  rcases this with e | e | e | e | e | e | e <;> rw [e] <;> rfl

theorem clear_seven (w : World) (t e ty : TypeId) (ht : Tryd.prog.underlying t = some (.slice e)) (hv : ∀ w, (zeroValue e).run Tryd.prog w = .ok (.agg #[.string ⟨#[]⟩, .int .i64 0, .int .i64 0, .int .i64 0, .int .i64 0, .int .i64 0, .int .i64 0]) w) (b n c : Nat) (hn : 0 < n)
    (hc : ∀ j, j < n * 7 → (w.cell? ⟨b, 0 + j, none⟩).isSome = true) (hf : ∀ j, j < n * 7 → w.frozen? ⟨b, 0 + j, none⟩ = false) :
    ∃ l, (Builtin.clear_ #[t] ty #[.slice (some ⟨b, 0, none⟩) n c]).run Tryd.prog w = .ok (.tuple #[]) (w.setCells b 0 l) := by
  have hcell : (Value.agg #[.string ⟨#[]⟩, .int .i64 0, .int .i64 0, .int .i64 0, .int .i64 0, .int .i64 0, .int .i64 0]).cells = #[.string ⟨#[]⟩, .int .i64 0, .int .i64 0, .int .i64 0, .int .i64 0, .int .i64 0, .int .i64 0] := by
    simp [Value.cells]
  have hlen : (Builtin.zeroCells #[.string ⟨#[]⟩, .int .i64 0, .int .i64 0, .int .i64 0, .int .i64 0, .int .i64 0, .int .i64 0] n).toList.length = n * 7 := by simp [Builtin.zeroCells]
  have hst := run_storeCells_cells (P := Tryd.prog) b 0 (Builtin.zeroCells #[.string ⟨#[]⟩, .int .i64 0, .int .i64 0, .int .i64 0, .int .i64 0, .int .i64 0, .int .i64 0] n).toList 0 w (by rw [hlen]; simpa using hc) (by rw [hlen]; simpa using hf) (zero_cells7 n)
  refine ⟨(Builtin.zeroCells #[.string ⟨#[]⟩, .int .i64 0, .int .i64 0, .int .i64 0, .int .i64 0, .int .i64 0, .int .i64 0] n).toList, ?_⟩
  obtain ⟨m, rfl⟩ : ∃ m, n = m + 1 := ⟨n - 1, by omega⟩
  simp only [Nat.add_zero] at hst
  simp [Builtin.clear_, run_underlying ht, hv, hcell, hst]

set_option maxRecDepth 20000 in
set_option maxHeartbeats 4000000 in
/-- Spoil, of tasks that are one's own: it changes their block alone. -/
theorem SpoilTa_own (w : World) (B : Nat) (v : Value) (m : Nat) (xs : List Value) (h : w.ownsRow B 30 7 v m xs) :
    Calls Tryd.prog 11 #[v] w fun r w' => r = .returned (.tuple #[]) ∧ Below B w w' := by
  obtain ⟨i0, hi0, hz0, hz1, hz2⟩ := info_parts infoTa
  obtain ⟨-, ⟨e, -⟩ | ⟨g, cap, cur, e, hB, hg, hn, hm, hs, -⟩⟩ := h
  · subst e
    have hcl : ∀ ty, (Builtin.clear_ #[22] ty #[.slice none 0 0]).run Tryd.prog w = .ok (.tuple #[]) w := fun ty => by simp [Builtin.clear_, run_underlying Tryd.underlying22]
    go_enter Tryd.func11, Tryd.ntmps11
    go_wp2
    go_end0
    exact ⟨rfl, Below.refl _ _⟩
  · subst e
    have hz : ∀ w, (zeroValue 30).run Tryd.prog w = .ok (.agg #[.string ⟨#[]⟩, .int .i64 0, .int .i64 0, .int .i64 0, .int .i64 0, .int .i64 0, .int .i64 0]) w := fun w => by simp [zeroValue, typeInfo, hi0, hz0]
    have hcl' : ∃ w1, (∀ ty, (Builtin.clear_ #[22] ty #[.slice (some ⟨g, 0, none⟩) cap cap]).run Tryd.prog w = .ok (.tuple #[]) w1) ∧ Below B w w1 := by
      by_cases hc : cap = 0
      · subst hc
        exact ⟨w, fun ty => by simp [Builtin.clear_, run_underlying Tryd.underlying22], Below.refl _ _⟩
      · obtain ⟨l, hl⟩ := clear_seven w 22 30 22 Tryd.underlying22 hz g cap cap (by omega) (fun j hj => by unfold World.cell?; rw [hg]; simp; omega) (fun j hj => by unfold World.frozen?; rw [hg]; simp)
        exact ⟨_, fun ty => hl, below_setCells hB l 0 w⟩
    obtain ⟨w1, hcl, hb1⟩ := hcl'
    have HB : Hid (Below B w w1) := hb1
    unfold maxLen at hm
    clear hg hz hb1 hs
    go_enter Tryd.func11, Tryd.ntmps11
    go_wp2
    go_end0
    exact ⟨rfl, HB.out⟩
end Go.Proofs.YtcgncdpohaoejafDoor
