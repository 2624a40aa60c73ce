import Derived.Test.YtgemadoieielcacDoorGNestB
import Derived.Test.YtgemadoieielcacDoorGNestC
namespace Go.Proofs.YtgemadoieielcacDoor
open Go.ChangeShapes Go.WideShapes Go.ChangeAt Go.RowKit

/-- nested: the look at regions, of one instruction. -/
theorem nested_any (w0 wF w : World) (rb wb B : Nat) (l : List In) (iv : Value) (os : List Nat) (ov : Value) (ws : List Int) (k : Nat) (x : In) (h : NS w0 wF w rb wb B l iv os ov ws) (hk : k < l.length) (hl : l.length ≤ 2000) (ho : os.length ≤ 2000) :
    Calls Tryd.prog 68 #[.pointer (some ⟨rb, 0, none⟩), .int .i64 k, x.val] w fun r w' => r = .returned (.int .i64 (nestOf l k x os).1) ∧ ∃ ov', NS w0 wF w' rb wb B l iv (nestOf l k x os).2 ov' (ws.set k (beginOf os.getLast?)) := by
  obtain ⟨op, a, b⟩ := x
  show Calls Tryd.prog 68 #[.pointer (some ⟨rb, 0, none⟩), .int .i64 k, .agg #[.int .i64 op, .int .i64 a, .int .i64 b]] w _
  unfold nestOf
  dsimp only
  by_cases h13 : op = 13
  · subst h13
    rw [if_pos (.inl rfl)]
    cases hq : opens l os 13 a with
    | none => exact nested_13_open w0 wF w rb wb B l iv os ov ws k a b h hk hl ho hq
    | some q => exact nested_13_twice w0 wF w rb wb B l iv os ov ws k a b h hk hl ho q hq
  by_cases h16 : op = 16
  · subst h16
    rw [if_pos (.inr rfl)]
    cases hq : opens l os 16 a with
    | none => exact nested_16_open w0 wF w rb wb B l iv os ov ws k a b h hk hl ho hq
    | some q => exact nested_16_twice w0 wF w rb wb B l iv os ov ws k a b h hk hl ho q hq
  rw [if_neg (fun e => e.elim h13 h16)]
  by_cases h14 : op = 14
  · subst h14
    rw [if_pos rfl]
    by_cases he : os = []
    · rw [if_pos (.inl he)]
      exact nested_14_empty w0 wF w rb wb B l iv os ov ws k a b h hk hl ho he
    · by_cases hq : beginOf (opens l os 13 a) = beginOf os.getLast?
      · by_cases hbb : b = beginOf os.getLast?
        · rw [if_neg (by simp [he, hq, hbb])]
          exact nested_14_close w0 wF w rb wb B l iv os ov ws k a b h hk hl ho he hq hbb
        · rw [if_pos (.inr (.inr hbb))]
          exact nested_14_back w0 wF w rb wb B l iv os ov ws k a b h hk hl ho he hq hbb
      · rw [if_pos (.inr (.inl hq))]
        exact nested_14_bad w0 wF w rb wb B l iv os ov ws k a b h hk hl ho _ he rfl hq
  rw [if_neg h14]
  by_cases h17 : op = 17
  · subst h17
    rw [if_pos rfl]
    by_cases he : os = []
    · rw [if_pos (.inl he)]
      exact nested_17_empty w0 wF w rb wb B l iv os ov ws k a b h hk hl ho he
    · by_cases hq : beginOf (opens l os 16 a) = beginOf os.getLast?
      · rw [if_neg (by simp [he, hq])]
        exact nested_17_close w0 wF w rb wb B l iv os ov ws k a b h hk hl ho he hq
      · rw [if_pos (.inr hq)]
        exact nested_17_bad w0 wF w rb wb B l iv os ov ws k a b h hk hl ho _ he rfl hq
  rw [if_neg h17]
  by_cases h15 : op = 15
  · subst h15
    rw [if_pos rfl]
    cases hq : opens l os 13 a with
    | none => exact nested_stop_no w0 wF w rb wb B l iv os ov ws k a b h hk hl ho hq
    | some q => exact nested_stop_yes w0 wF w rb wb B l iv os ov ws k a b h hk hl ho q hq
  rw [if_neg h15]
  exact nested_other w0 wF w rb wb B l iv os ov ws k op a b h hk hl ho h13 h16 h14 h17 h15

set_option maxRecDepth 20000 in
set_option maxHeartbeats 4000000 in
/-- unclosed: the look at what is still open. -/
theorem unclosed_any (w0 wF w : World) (rb wb B : Nat) (l : List In) (iv : Value) (os : List Nat) (ov : Value) (ws : List Int) (k : Nat) (op a b : Int) (c : Int) (h : NS w0 wF w rb wb B l iv os ov ws) (hk : k ≤ 2000) (ho : os.length ≤ 2000) (hc : (if k ∈ os then (if op = 13 then 9 else 10) else 0) = c) :
    Calls Tryd.prog 69 #[.pointer (some ⟨rb, 0, none⟩), .int .i64 k, .agg #[.int .i64 op, .int .i64 a, .int .i64 b]] w fun r w' => r = .returned (.int .i64 c) ∧ Below w.heap.size w w' := by
  obtain ⟨oad, oc, rfl⟩ := owns_value h.own
  obtain ⟨cs, fs, lt⟩ := cells_of (l := [_, _, _]) h.blk
  have k1 := cs 1 _ rfl
  have H0 : Hid (NS w0 wF w rb wb B l iv os (.slice oad os.length oc) ws) := h
  clear h cs fs
  by_cases hm : k ∈ os
  · rw [if_pos hm] at hc
    have hd : decide (k ∈ os) = true := by simpa using hm
    go_enter Tryd.func69, Tryd.ntmps69
    go_wp2_with (go_at_call 104; refine (contains_any _ os _ k (pos_of_own (H0.out.grow (below_new _ _)).own) (by omega)).mono ?_; rw [hd]; rintro r w1 ⟨rfl, hb1⟩; have H1 : Hid (Below w.heap.size w w1) := below_seq (below_new _ _) hb1; have c0 : w1.cell? ⟨w.heap.size, 0, none⟩ = some (.int .i64 op) := below_cell hb1 (by go_simp); clear hb1)
    go_wp2_with (go_at_call 103; refine (ofRegion_any w1 op).mono ?_; rw [hc]; rintro r w2 ⟨rfl, rfl⟩)
    go_ret
    exact ⟨rfl, H1.out⟩
  · rw [if_neg hm] at hc
    subst hc
    have hd : decide (k ∈ os) = false := by simpa using hm
    go_enter Tryd.func69, Tryd.ntmps69
    go_wp2_with (go_at_call 104; refine (contains_any _ os _ k (pos_of_own (H0.out.grow (below_new _ _)).own) (by omega)).mono ?_; rw [hd]; rintro r w1 ⟨rfl, hb1⟩; have H1 : Hid (Below w.heap.size w w1) := below_seq (below_new _ _) hb1; clear hb1)
    go_ret
    exact ⟨rfl, H1.out⟩
end Go.Proofs.YtgemadoieielcacDoor
