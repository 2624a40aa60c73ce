import Derived.Test.YtcgncdpohaoejafDoorRN
namespace Go.Proofs.YtcgncdpohaoejafDoor
open Go.ChangeShapes Go.WideShapes Go.ChangeAt Go.RowKit

theorem Assigned_ends {w : World} {g : Nat} {c k p : Value} {a : Act} (h : w.heap[g]? = some (.cells #[c, k] 26 (0, 0))) (h2 : a.tmps[4]?.getD undef = p) (h3 : a.tmps[5]?.getD undef = .pointer (some ⟨g, 0, none⟩)) :
    (results Tryd.f15 a.tmps).run Tryd.prog w = .ok (.tuple #[p, .agg #[c, k]]) w := by
  obtain ⟨c1, f1, l1⟩ := cells_of (l := [_, _]) h
  have c10 := c1 0 _ rfl
  have c11 := c1 1 _ rfl
  simp [results, Tryd.results15, go_sem, h2, h3, c10, c11]

set_option maxRecDepth 20000 in
set_option maxHeartbeats 4000000 in
theorem Assigned_bad (w : World) (l : List Ta) (v v2 : Value) (bs : List Int) (hS : ∀ x ∈ l, x.nm.size ≤ 9223372036854775807) (h0 : (chkX l).1 ≠ 0) (hv : RowSl Ta.vals w l v) (hv2 : RowSl nuV w bs v2) : Calls Tryd.prog 15 #[v, v2] w fun r w' => r = .returned (.tuple #[.slice none 0 0, .agg #[.int .i64 (chkX l).1, .int .i64 (chkX l).2]]) ∧ Below w.heap.size w w' := by
  have HF : Hid (FB w (w.alloc (.cells #[.int .i64 0, .int .i64 0] 26)) w.heap.size) := FB.start w
  have HC := CheckFixed_any (w.alloc (.cells #[.int .i64 0, .int .i64 0] 26)) l v hS (hv.below (below_new _ _))
  obtain ⟨ad, c, rfl⟩ := hv.len
  obtain ⟨ad2, c2, rfl⟩ := hv2.len
  clear hv hv2
  generalize chkX l = z at *
  obtain ⟨z1, z2⟩ := z
  dsimp only at h0 HC ⊢
  have hzb : (z1 != 0) = true := by simpa using h0
  go_enter Tryd.func15, Tryd.ntmps15
  go_wp2_with (go_at_call 35; refine HC.mono ?_; rintro r w1 ⟨rfl, hb1⟩; have H1 : Hid (FB w w1 w.heap.size) := HF.out.grow hb1; obtain ⟨r10, r11, f10, f11, rl⟩ := H1.out.res2; clear hb1 HC)
  go_region
  all_goals go_wp2_with fail
  all_goals
    refine bodyPost_ret (Assigned_ends (set_two_new _ H1.out.res) rfl rfl) rfl ?_
    exact ⟨rfl, (H1.out.set_new _ _ _).drew⟩

set_option maxRecDepth 20000 in
set_option maxHeartbeats 4000000 in
theorem Assigned_many (w : World) (l : List Ta) (v v2 : Value) (bs : List Int) (hS : ∀ x ∈ l, x.nm.size ≤ 9223372036854775807) (h0 : (chkX l).1 = 0) (hne : bs.length ≠ l.length) (hv : RowSl Ta.vals w l v) (hv2 : RowSl nuV w bs v2) : Calls Tryd.prog 15 #[v, v2] w fun r w' => r = .returned (.tuple #[.slice none 0 0, .agg #[.int .i64 2, .int .i64 0]]) ∧ Below w.heap.size w w' := by
  have HF : Hid (FB w (w.alloc (.cells #[.int .i64 0, .int .i64 0] 26)) w.heap.size) := FB.start w
  have HC := CheckFixed_any (w.alloc (.cells #[.int .i64 0, .int .i64 0] 26)) l v hS (hv.below (below_new _ _))
  obtain ⟨-, -, -, -, -, hX0⟩ := chkX_ok h0
  rw [hX0] at HC
  obtain ⟨ad, c, rfl⟩ := hv.len
  obtain ⟨ad2, c2, rfl⟩ := hv2.len
  have hnb : ((bs.length : Int) != (l.length : Int)) = true := by simp; omega
  clear hv hv2 hne
  go_enter Tryd.func15, Tryd.ntmps15
  go_wp2_with (first | (go_at_call 35; refine HC.mono ?_; rintro r w1 ⟨rfl, hb1⟩; have H1 : Hid (FB w w1 w.heap.size) := HF.out.grow hb1; clear hb1 HC) | (go_at_call 36; refine (F_any _ _ _).mono ?_; rintro r w2 ⟨rfl, hb2⟩; have H2 : Hid (FB w w2 w.heap.size) := (H1.out.grow (below_new _ _)).grow hb2; obtain ⟨r10, r11, f10, f11, rl⟩ := H2.out.res2; clear hb2))
  refine bodyPost_ret (Assigned_ends (set_two H2.out.res) rfl rfl) rfl ?_
  exact ⟨rfl, H2.out.set _ _⟩

set_option maxRecDepth 20000 in
set_option maxHeartbeats 4000000 in
theorem Assigned_blocks (w : World) (l : List Ta) (v v2 : Value) (bs : List Int) (hS : ∀ x ∈ l, x.nm.size ≤ 9223372036854775807) (h0 : (chkX l).1 = 0) (he : bs.length = l.length) (hb : ∃ b ∈ bs, b < 0 ∨ 10000 < b) (hv : RowSl Ta.vals w l v) (hv2 : RowSl nuV w bs v2) : Calls Tryd.prog 15 #[v, v2] w fun r w' => r = .returned (.tuple #[.slice none 0 0, .agg #[.int .i64 2, .int .i64 0]]) ∧ Below w.heap.size w w' := by
  have HF : Hid (FB w (w.alloc (.cells #[.int .i64 0, .int .i64 0] 26)) w.heap.size) := FB.start w
  have HC := CheckFixed_any (w.alloc (.cells #[.int .i64 0, .int .i64 0] 26)) l v hS (hv.below (below_new _ _))
  obtain ⟨-, -, -, hl8, -, hX0⟩ := chkX_ok h0
  rw [hX0] at HC
  obtain ⟨ad, c, rfl⟩ := hv.len
  obtain ⟨ad2, c2, rfl, -, hcap2, hrow2⟩ := hv2
  have HR : Hid ((bs = [] ∨ ∃ b o, ad2 = some ⟨b, o, none⟩ ∧ ∀ q u, (bs.flatMap nuV)[q]? = some u → w.cell? ⟨b, o + q, none⟩ = some u) ∧ (∃ b ∈ bs, b < 0 ∨ 10000 < b) ∧ bs.length = l.length) := ⟨hrow2, hb, he⟩
  rw [he] at hcap2 ⊢
  clear hv hrow2 hb he
  go_enter Tryd.func15, Tryd.ntmps15
  go_wp2_with (go_at_call 35; refine HC.mono ?_; rintro r w1 ⟨rfl, hb1⟩; have H1 : Hid (FB w w1 w.heap.size) := HF.out.grow hb1; clear hb1 HC)
  go_loopw [31] (fun vi wr => ∃ i : Nat, i ≤ l.length ∧ vi = .int .i64 i ∧ FB w wr w.heap.size ∧ ∀ b ∈ bs.take i, 0 ≤ b ∧ b ≤ 10000) (fun vi _ => l.length - (intOf vi).toNat)
  case atStart => exact ⟨0, Nat.zero_le _, rfl, H1.out.grow (below_new _ _), fun b hb => by simp at hb⟩
  case round =>
    obtain ⟨i, hi, rfl, hf, hok⟩ := hrel
    by_cases hlt : i < l.length
    · obtain ⟨z, hz, -⟩ := drop_at (l := bs) (k := i) (by rw [HR.out.2.2]; exact hlt)
      rcases HR.out.1 with h | ⟨b, o, rfl, hrow⟩
      · have := HR.out.2.2; rw [h] at this; simp at this; omega
      have c0 := nu_at (fun q u hq => below_cell hf.bel (hrow q u hq)) hz
      have hii : (i : Int) < (l.length : Int) := by omega
      have HO : Hid (FB w wr w.heap.size ∧ (∀ b ∈ bs.take i, 0 ≤ b ∧ b ≤ 10000) ∧ bs[i]? = some z) := ⟨hf, hok, hz⟩
      clear hf hok hrow hz
      by_cases hz1 : z < 0
      · have hzd : decide (z < 0) = true := by simpa using hz1
        go_wp2_with (go_at_call 36; refine (F_any _ _ _).mono ?_; rintro r w2 ⟨rfl, hb2⟩; have H2 : Hid (FB w w2 w.heap.size) := HO.out.1.grow hb2; obtain ⟨r10, r11, f10, f11, rl⟩ := H2.out.res2; clear hb2)
        refine bodyPost_ret (Assigned_ends (set_two H2.out.res) rfl rfl) rfl ?_
        exact ⟨rfl, H2.out.set _ _⟩
      · by_cases hz2 : 10000 < z
        · go_wp2_with (go_at_call 36; refine (F_any _ _ _).mono ?_; rintro r w2 ⟨rfl, hb2⟩; have H2 : Hid (FB w w2 w.heap.size) := HO.out.1.grow hb2; obtain ⟨r10, r11, f10, f11, rl⟩ := H2.out.res2; clear hb2)
          refine bodyPost_ret (Assigned_ends (set_two H2.out.res) rfl rfl) rfl ?_
          exact ⟨rfl, H2.out.set _ _⟩
        · go_wp2_with fail
          refine ⟨⟨i + 1, by omega, by simp, HO.out.1, fun b hb => ?_⟩, by simp [intOf]; omega⟩
          rw [List.take_add_one, HO.out.2.2] at hb
          rcases List.mem_append.1 hb with hb | hb
          · exact HO.out.2.1 b hb
          · simp at hb; omega
    · exfalso
      obtain ⟨b, hb, h9⟩ := HR.out.2.1
      have := hok b (by rw [List.take_of_length_le (by have := HR.out.2.2; omega)]; exact hb)
      omega
end Go.Proofs.YtcgncdpohaoejafDoor
