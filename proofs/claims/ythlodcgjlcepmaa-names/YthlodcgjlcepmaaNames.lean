import Derived.Test.YthlodcgjlcepmaaSame
namespace Go.Proofs.Ythlodcgjlcepmaa.names
open Go.ChangeShapes Go.WideShapes Go.ChangeAt Go.RowKit

theorem cells_at (w : World) (c : Array Value) (t : TypeId) (j : Nat) : (w.alloc (.cells c t)).cell? ⟨w.heap.size, j, none⟩ = c[j]? := World.cell?_alloc_at c t _ j rfl

theorem upTo (n m : Nat) (h : m < n) : (((List.range n).map fun i : Nat => Value.int .i64 ((i : Int) + 1)).toArray)[m]? = some (.int .i64 (m + 1)) := by simp [h]

theorem asList (l : List Int) (m : Nat) (h : m < l.length) : ((l.map fun i => Value.int .i64 i).toArray)[m]? = some (.int .i64 (l.getD m 0)) := by simp [h]

set_option maxHeartbeats 2000000 in
theorem walk  (w : World) :
    Calls Try.prog 3 #[] w fun e w' => e = .returned (.bool true) ∧ Grown w w' := by
  go_enter Try.func3, Try.ntmps3
  go_wp2
  go_loopw [2, 3, 13] (fun _ _ i wr => ∃ k : Nat, k ≤ 14 ∧ i = .int .i64 k ∧ (∀ j, j < 14 → wr.cell? ⟨w.heap.size, j, none⟩ = some (.int .i64 j)) ∧ Grown w wr ∧ wr.heap.size = w.heap.size + 1) (fun _ _ i _ => 14 - (intOf i).toNat)
  case atStart =>
    refine ⟨0, Nat.zero_le _, rfl, ?_, (Grown.refl _).alloc _ _, by simp⟩
    intro j hj
    rw [cells_at]
    match j, hj with
    | 0, _ | 1, _ | 2, _ | 3, _ | 4, _ | 5, _ | 6, _ | 7, _ | 8, _ | 9, _ | 10, _ | 11, _ | 12, _ | 13, _ => rfl
  case round =>
    obtain ⟨k, hk, rfl, hc, hg, hs⟩ := hrel
    by_cases hlt : k < 14
    · have h1 := hc k hlt
      have hd : Hid (∀ j, j < 14 → wr.cell? ⟨w.heap.size, j, none⟩ = some (.int .i64 j)) := hc
      clear hc
      go_wp2
      go_roundw
      case rel => exact ⟨k + 1, by omega, by go_num, hd.out, hg, hs⟩
      case measure => simp [intOf]; omega
    · clear hc
      go_wp2_with (go_at_call 4; refine (same_eq _ 16 (by omega) (fun k => ([20000, 200, 6, 1000, 1000, 2000, 20, 20000, 8, 10000, 20000, 4000, 1000000, 4, 20, 10] : List Int).getD k 0) _ _ ?hx ?hy).mono ?_; rotate_left 2; rintro e w' ⟨rfl, m, rfl⟩)
      case hx =>
        intro k hk
        rw [World.cell?_alloc_past _ _ _ (by simp; omega), World.cell?_alloc_at _ _ _ _ (by omega)]
        exact asList [20000, 200, 6, 1000, 1000, 2000, 20, 20000, 8, 10000, 20000, 4000, 1000000, 4, 20, 10] k hk
      case hy =>
        intro k hk
        rw [World.cell?_alloc_at _ _ _ _ (by simp; omega)]
        exact asList [20000, 200, 6, 1000, 1000, 2000, 20, 20000, 8, 10000, 20000, 4000, 1000000, 4, 20, 10] k hk
      go_loopw [7, 8, 9, 39] (fun _ _ _ i wv => ∃ k : Nat, k ≤ 9 ∧ i = .int .i64 k ∧ (∀ j, j < 9 → ∃ b n : Nat, n ≤ 20 ∧ wv.cell? ⟨w.heap.size + 12, j, none⟩ = some (.slice (some ⟨b, 0, none⟩) n n) ∧ ∀ m, m < n → wv.cell? ⟨b, m, none⟩ = some (.int .i64 (m + 1))) ∧ Grown w wv) (fun _ _ _ i _ => 9 - (intOf i).toNat)
      case atStart => 
        refine ⟨0, Nat.zero_le _, rfl, ?_, ?_⟩
        · intro j hj
          rw [World.cell?_alloc_at _ _ _ _ (by simp; omega)]
          match j, hj with
          | 0, _ => 
            refine ⟨_, 7, by omega, rfl, fun m hm => ?_⟩
            iterate 9 rw [World.cell?_alloc_past _ _ _ (by simp; omega)]
            rw [World.cell?_alloc_at _ _ _ _ (by simp; omega)]
            exact upTo 7 m hm
          | 1, _ => 
            refine ⟨_, 4, by omega, rfl, fun m hm => ?_⟩
            iterate 8 rw [World.cell?_alloc_past _ _ _ (by simp; omega)]
            rw [World.cell?_alloc_at _ _ _ _ (by simp; omega)]
            exact upTo 4 m hm
          | 2, _ => 
            refine ⟨_, 7, by omega, rfl, fun m hm => ?_⟩
            iterate 7 rw [World.cell?_alloc_past _ _ _ (by simp; omega)]
            rw [World.cell?_alloc_at _ _ _ _ (by simp; omega)]
            exact upTo 7 m hm
          | 3, _ => 
            refine ⟨_, 18, by omega, rfl, fun m hm => ?_⟩
            iterate 6 rw [World.cell?_alloc_past _ _ _ (by simp; omega)]
            rw [World.cell?_alloc_at _ _ _ _ (by simp; omega)]
            exact upTo 18 m hm
          | 4, _ => 
            refine ⟨_, 2, by omega, rfl, fun m hm => ?_⟩
            iterate 5 rw [World.cell?_alloc_past _ _ _ (by simp; omega)]
            rw [World.cell?_alloc_at _ _ _ _ (by simp; omega)]
            exact upTo 2 m hm
          | 5, _ => 
            refine ⟨_, 3, by omega, rfl, fun m hm => ?_⟩
            iterate 4 rw [World.cell?_alloc_past _ _ _ (by simp; omega)]
            rw [World.cell?_alloc_at _ _ _ _ (by simp; omega)]
            exact upTo 3 m hm
          | 6, _ => 
            refine ⟨_, 3, by omega, rfl, fun m hm => ?_⟩
            iterate 3 rw [World.cell?_alloc_past _ _ _ (by simp; omega)]
            rw [World.cell?_alloc_at _ _ _ _ (by simp; omega)]
            exact upTo 3 m hm
          | 7, _ => 
            refine ⟨_, 3, by omega, rfl, fun m hm => ?_⟩
            iterate 2 rw [World.cell?_alloc_past _ _ _ (by simp; omega)]
            rw [World.cell?_alloc_at _ _ _ _ (by simp; omega)]
            exact upTo 3 m hm
          | 8, _ => 
            refine ⟨_, 6, by omega, rfl, fun m hm => ?_⟩
            iterate 1 rw [World.cell?_alloc_past _ _ _ (by simp; omega)]
            rw [World.cell?_alloc_at _ _ _ _ (by simp; omega)]
            exact upTo 6 m hm
        · refine Grown.alloc (Grown.alloc (Grown.alloc (Grown.alloc (Grown.alloc (Grown.alloc (Grown.alloc (Grown.alloc (Grown.alloc (Grown.alloc ?_ _ _) _ _) _ _) _ _) _ _) _ _) _ _) _ _) _ _) _ _
          exact ((hg.alloc _ _).alloc _ _)
      case round =>
        obtain ⟨k, hk, rfl, hc, hg2⟩ := hrel
        clear hg hs hk hlt
        by_cases hlt : k < 9
        · obtain ⟨b, n, hn, h1, h2⟩ := hc k hlt
          have hd : Hid (∀ j, j < 9 → ∃ b n : Nat, n ≤ 20 ∧ wr.cell? ⟨w.heap.size + 12, j, none⟩ = some (.slice (some ⟨b, 0, none⟩) n n) ∧ ∀ m, m < n → wr.cell? ⟨b, m, none⟩ = some (.int .i64 (m + 1))) := hc
          have he : Hid (∀ m, m < n → wr.cell? ⟨b, m, none⟩ = some (.int .i64 (m + 1))) := h2
          clear hc h2
          go_wp2
          go_loop [8, 9, 45] (fun _ _ i => ∃ m : Nat, m ≤ n ∧ i = .int .i64 m) (fun _ _ i => n - (intOf i).toNat)
          case atStart => exact ⟨0, Nat.zero_le _, rfl⟩
          case round =>
            obtain ⟨m, hm, rfl⟩ := hrel
            by_cases hmn : m < n
            · have h3 := he.out m hmn
              go_wp2
              go_round
              case rel => exact ⟨m + 1, by omega, by go_num⟩
              case measure => simp [intOf]; omega
            · go_wp2
              go_roundw
              case rel => exact ⟨k + 1, by omega, by go_num, hd.out, hg2⟩
              case measure => simp [intOf]; omega
        · clear hc
          go_wp2
          go_ret
          exact ⟨rfl, hg2⟩
end Go.Proofs.Ythlodcgjlcepmaa.names
