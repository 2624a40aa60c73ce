import Derived.Test.YtccoobcggbbciadDoorRG0
import Derived.Test.YtccoobcggbbciadDoorTS
namespace Go.Proofs.YtccoobcggbbciadDoor
open Go.ChangeShapes Go.WideShapes Go.ChangeAt Go.RowKit

theorem six_at {x : Ta} {k : Nat} {n : Int} (hk : k < 6) (hn : x.nums[k]? = some n) (W : World) : (Instr.index 95 (.agg #[.int .i64 x.c, .int .i64 x.t, .int .i64 x.d, .int .i64 x.j, .int .i64 x.o, .int .i64 x.p]) (.int .i64 (k : Int))).run Tryd.prog W = .ok (.int .i64 n) W := by
  have h6 : k = 0 ∨ k = 1 ∨ k = 2 ∨ k = 3 ∨ k = 4 ∨ k = 5 := by omega
  rcases h6 with rfl | rfl | rfl | rfl | rfl | rfl <;> (simp [Ta.nums] at hn; subst hn)
  · exact six_0 W _ _ _ _ _ _
  · exact six_1 W _ _ _ _ _ _
  · exact six_2 W _ _ _ _ _ _
  · exact six_3 W _ _ _ _ _ _
  · exact six_4 W _ _ _ _ _ _
  · exact six_5 W _ _ _ _ _ _

theorem bytes_same {a b : ByteArray} (h : a.data.toList = b.data.toList) : a = b := by
  obtain ⟨⟨x⟩⟩ := a
  obtain ⟨⟨y⟩⟩ := b
  simp at h
  rw [h]

set_option maxRecDepth 20000 in
set_option maxHeartbeats 8000000 in
theorem ShowSet_any (w : World) (l : List Ta) (v : Value) (hS : ∀ x ∈ l, x.nm.size ≤ 9223372036854775807) (hv : RowSl Ta.vals w l v) (ht : Lib.TabIs Tryd.prog w "internal/strconv.uint64pow10" .u64 Lib.pow10Tab) :
    Calls Tryd.prog 30 #[v] w fun r w' => r = .returned (.string ⟨(printF l).toArray⟩) ∧ Below w.heap.size w w' := by
  obtain ⟨ad, c, rfl⟩ := hv.len
  have HV : Hid (RowSl Ta.vals w l (.slice ad l.length c) ∧ Lib.TabIs Tryd.prog w "internal/strconv.uint64pow10" .u64 Lib.pow10Tab) := ⟨hv, ht⟩
  have HC := CheckSet_any w l _ hS hv
  obtain ⟨z1, hz1⟩ : ∃ z1, (chkF l).1 = z1 := ⟨_, rfl⟩
  obtain ⟨z2, hz2⟩ : ∃ z2, (chkF l).2 = z2 := ⟨_, rfl⟩
  rw [hz1, hz2] at HC
  have hfd := field_flt
  clear hv ht hz2 hS
  by_cases hz : z1 = 0
  rotate_left 1
  · have hzn : (z1 != 0) = true := by simpa using hz
    have e : printF l = [] := by unfold printF; rw [if_pos (by rw [hz1]; exact hz)]
    rw [e]
    clear hz1
    go_enter Tryd.func30, Tryd.ntmps30
    go_wp2_with (go_at_call 24; refine HC.mono ?_; rintro r w1 ⟨rfl, hb1⟩; have H1 : Hid (Below w.heap.size w w1) := hb1; clear hb1 HC)
    go_ret
    exact ⟨rfl, H1.out⟩
  subst hz
  have e : printF l = l.flatMap lineF := by unfold printF; rw [if_neg (by rw [hz1]; simp)]
  rw [e]
  obtain ⟨-, h8, hgood⟩ := chkF_good hz1
  have HG : Hid (∀ x ∈ l, isNm x.nm = true ∧ stands x = true) := hgood
  clear hgood hz1 e
  go_enter Tryd.func30, Tryd.ntmps30
  go_wp2_with (go_at_call 24; refine HC.mono ?_; rintro r w1 ⟨rfl, hb1⟩; have H1 : Hid (Below w.heap.size w w1) := hb1; clear hb1 HC)
  go_loopw [3, 15] (fun ov iv wr => ∃ (j : Nat) (ob : ByteArray), j ≤ l.length ∧ ov = .string ob ∧ iv = .int .i64 (j : Int) ∧ Hid (ob.data.toList = (l.take j).flatMap lineF ∧ Below w.heap.size w wr)) (fun _ iv _ => l.length - (intOf iv).toNat)
  case atStart => exact ⟨0, ⟨#[]⟩, Nat.zero_le _, rfl, rfl, ⟨rfl, H1.out⟩⟩
  case round =>
    obtain ⟨j, ob, hj, rfl, rfl, HB⟩ := hrel
    clear H1
    by_cases hjl : j < l.length
    · obtain ⟨x, hx, -⟩ := drop_at hjl
      have hgx := HG.out x (List.mem_of_getElem? hx)
      have htk : l.take (j + 1) = l.take j ++ [x] := by rw [List.take_add_one, hx]; rfl
      obtain ⟨ad', c', he, -, hcap, hrow⟩ := HV.out.1
      cases he
      rcases hrow with h | ⟨b, o, rfl, hrow⟩
      · rw [h] at hjl; simp at hjl
      obtain ⟨y0, y1, y2, y3, y4, y5, y6⟩ := ta_at (fun q u hq => below_cell HB.out.2 (hrow q u hq)) hx
      have HX : Hid (isNm x.nm = true ∧ stands x = true ∧ l.take (j + 1) = l.take j ++ [x]) := ⟨hgx.1, hgx.2, htk⟩
      have H6 := sixOf_any (wr.alloc (.cells x.vals.toArray 55)) x
      obtain ⟨xn, xc, xt, xd, xj, xo, xp⟩ := x
      unfold Ta.val at H6
      dsimp only at y0 y1 y2 y3 y4 y5 y6 H6
      have lb : b < wr.heap.size := World.block_lt_of_cell? _ _ y0
      have hji : (j : Int) < (l.length : Int) := by omega
      clear hrow hx htk hgx
      go_wp2_with (go_at_call 51; refine H6.mono ?_; rintro r w3 ⟨rfl, hb3⟩; have H3 : Hid (Below w.heap.size w w3) := below_seq HB.out.2 (below_seq (below_new _ _) hb3); clear hb3 H6)
      clear y0 y1 y2 y3 y4 y5 y6 lb
      go_loopw [6, 23] (fun sv iv wi => ∃ (k : Nat) (sb : ByteArray), k ≤ 6 ∧ sv = .string sb ∧ iv = .int .i64 (k : Int) ∧ Hid (sb.data.toList = xn.data.toList ++ spcF ((⟨xn, xc, xt, xd, xj, xo, xp⟩ : Ta).nums.take k) ∧ Below w.heap.size w wi)) (fun _ iv _ => 6 - (intOf iv).toNat)
      case atStart => exact ⟨0, xn, Nat.zero_le _, rfl, rfl, ⟨by rw [show spcF ((⟨xn, xc, xt, xd, xj, xo, xp⟩ : Ta).nums.take 0) = [] from rfl, List.append_nil], H3.out⟩⟩
      case round =>
        obtain ⟨k, sb, hk, rfl, rfl, HK⟩ := hrel
        clear H3
        have hsb : sb.size ≤ 46 := by
          have h1 := congrArg List.length HK.out.1
          rw [size_list, List.length_append] at h1
          have h2 := (nm_clean (x := (⟨xn, xc, xt, xd, xj, xo, xp⟩ : Ta)) HX.out.1).2
          have h3 := spc_max (x := (⟨xn, xc, xt, xd, xj, xo, xp⟩ : Ta)) HX.out.2.1 k
          dsimp only at h2
          omega
        by_cases hk6 : k < 6
        · obtain ⟨n, hn, htn⟩ := nums_at (x := (⟨xn, xc, xt, xd, xj, xo, xp⟩ : Ta)) hk6
          have hin := nums_in HX.out.2.1 n (List.mem_of_getElem? hn)
          have hix := six_at (x := (⟨xn, xc, xt, xd, xj, xo, xp⟩ : Ta)) hk6 hn
          dsimp only at hix
          have hki : (k : Int) < 6 := by omega
          have HI := sh_strconv_Itoa n (by omega) (by omega) wr (tab_below HV.out.2 HK.out.2)
          have HTN : Hid ((⟨xn, xc, xt, xd, xj, xo, xp⟩ : Ta).nums.take (k + 1) = (⟨xn, xc, xt, xd, xj, xo, xp⟩ : Ta).nums.take k ++ [n]) := htn
          have hil := itoa_len n hin
          have g1 : ¬ 9223372036854775807 < sb.size + 1 := by omega
          have g2 : ¬ 9223372036854775807 < sb.size + 1 + (Lib.itoa n).length := by omega
          clear hn htn
          go_wp2_with (go_at_call 56; refine HI.mono ?_; rintro r w6 ⟨rfl, kk, os, hw6⟩; have H6 : Hid (Below w.heap.size w w6) := (by rw [hw6]; exact below_seq HK.out.2 (growB _ _ _)); clear hw6 HI)
          refine ⟨⟨k + 1, _, by omega, rfl, by simp, ⟨?_, H6.out⟩⟩, by simp [intOf]; omega⟩
          rw [cat_list, cat_list, back_list (Lib.itoa n), HTN.out, spc_snoc, HK.out.1, List.append_assoc, List.append_assoc]
          rfl
        · have hke : k = 6 := by omega
          subst hke
          have hob : ob.size ≤ 400 := by
            have h1 := congrArg List.length HB.out.1
            rw [size_list] at h1
            have h2 := lines_max (l.take j) (fun y hy => HG.out y (List.mem_of_mem_take hy))
            have h3 : (l.take j).length ≤ 8 := by rw [List.length_take]; omega
            omega
          have g1 : ¬ 9223372036854775807 < ob.size + sb.size := by omega
          have g2 : ¬ 9223372036854775807 < ob.size + sb.size + 1 := by omega
          go_wp2_with fail
          refine ⟨⟨j + 1, _, by omega, rfl, by simp, ⟨?_, HK.out.2⟩⟩, by simp [intOf]; omega⟩
          rw [cat_list, cat_list, HK.out.1, HB.out.1, HX.out.2.2, List.flatMap_append, List.flatMap_cons, List.flatMap_nil, List.append_nil]
          unfold lineF bodyF
          rw [List.append_assoc]
          rfl
    · have hje : j = l.length := by omega
      subst hje
      have HE : Hid (ob = ⟨(l.flatMap lineF).toArray⟩) := by
        have h9 : ob = ⟨(l.flatMap lineF).toArray⟩ := bytes_same (by rw [back_list, HB.out.1, List.take_length])
        exact h9
      go_wp2_with fail
      go_ret
      exact ⟨by rw [HE.out]; rfl, HB.out.2⟩
end Go.Proofs.YtccoobcggbbciadDoor
