import Derived.Test.YtccoobcggbbciadDoorRF0
namespace Go.Proofs.YtccoobcggbbciadDoor
open Go.ChangeShapes Go.WideShapes Go.ChangeAt Go.RowKit

theorem gPow : Tryd.prog.globalNamed "internal/strconv.uint64pow10" = some 6 := by kernel_rfl

theorem tab_below {w w' : World} (h : Lib.TabIs Tryd.prog w "internal/strconv.uint64pow10" .u64 Lib.pow10Tab) (hb : Below w.heap.size w w') : Lib.TabIs Tryd.prog w' "internal/strconv.uint64pow10" .u64 Lib.pow10Tab := by
  unfold Lib.TabIs World.var? at h ⊢
  rw [gPow] at h ⊢
  simp only [Option.bind_some] at h ⊢
  have hlt : 6 < w.heap.size := by
    rcases Nat.lt_or_ge 6 w.heap.size with h' | h'
    · exact h'
    · rw [Array.getElem?_eq_none h'] at h; cases h
  rw [hb.block 6 hlt]
  exact h

theorem builder_below {B b : Nat} {bs : List Value} {w w' : World} (h : Lib.IsBuilder 104 5 B b bs w) (hb : Below w.heap.size w w') : Lib.IsBuilder 104 5 B b bs w' := by
  have key : ∀ p, Lib.BuilderAt 104 5 B b p bs w → Lib.BuilderAt 104 5 B b p bs w' := fun p hp => by
    obtain ⟨h1, v, h2, h3, h4⟩ := hp
    exact ⟨h1, v, (hb.block _ (Array.getElem?_eq_some_iff.1 h2).1).trans h2, ownsRow_below h3 hb, h4⟩
  exact h.elim (fun x => .inl (key _ x)) (fun x => .inr (key _ x))

/-- What Print holds. -/
structure PW (w W : World) (b : Nat) (l : List UInt8) : Prop where
  bel : Below w.heap.size w W
  bd : Lib.IsBuilder 104 5 w.heap.size b (Lib.byteCells l) W

theorem PW.grow {w W W' : World} {b : Nat} {l : List UInt8} (h : PW w W b l) (hb : Below W.heap.size W W') : PW w W' b l := ⟨below_seq h.bel hb, builder_below h.bd hb⟩

theorem PW.start (w : World) (W : World) (hb : Below w.heap.size w W) : PW w (W.alloc (.cells #[.pointer none, .slice none 0 0] 104)) W.heap.size [] :=
  ⟨below_seq hb (below_new _ _), .inl ⟨hb.size, .slice none 0 0, heap_alloc_new _ _, ⟨rfl, .inl ⟨rfl, rfl⟩⟩, by simp [Value.ownBlock]⟩⟩

theorem PW.write {w W : World} {b : Nat} {l : List UInt8} (h : PW w W b l) (s : ByteArray) (hl : l.length + s.size ≤ 1000000) : Calls Tryd.prog 54 #[.pointer (some ⟨b, 0, none⟩), .string s] W fun e w' => e = .returned (.tuple #[.int .i64 s.size, .nilIface]) ∧ PW w w' b (l ++ s.data.toList) ∧ ∀ k cs t, k ≠ b → W.heap[k]? = some (.cells cs t (0, 0)) → t ≠ 5 → w'.heap[k]? = some (.cells cs t (0, 0)) := by
  refine (write_any w.heap.size b _ s W h.bd (by rw [Lib.byteCells_length]; omega) h.bel.size).mono ?_
  rintro e w' ⟨rfl, h1, h2, h3⟩
  refine ⟨rfl, ⟨h.bel.trans h2, .inr ?_⟩, fun k cs t hk hh ht => (h3 k cs t hk hh ht).trans hh⟩
  rw [Lib.byteCells_append, ← Lib.strCells_eq]
  exact h1

theorem PW.lt {w W : World} {b : Nat} {l : List UInt8} (h : PW w W b l) : b < W.heap.size := by
  rcases h.bd with ⟨-, v, h2, -⟩ | ⟨-, v, h2, -⟩
  · exact (Array.getElem?_eq_some_iff.1 h2).1
  · exact (Array.getElem?_eq_some_iff.1 h2).1

theorem growB (w : World) (k : Nat) (os : Array Obj) : Below w.heap.size w (Go.Sort.grow (w.drewN k) os) :=
  ⟨rfl, rfl, rfl, by show w.heap.size ≤ (w.heap ++ os).size; simp, fun i hi => by
    show (w.heap ++ os)[i]? = w.heap[i]?
    rw [Array.getElem?_append_left hi]⟩

theorem field_flt (W : World) (a b : Int) : (Instr.field 37 (.agg #[.int .i64 a, .int .i64 b]) 0).run Tryd.prog W = .ok (.int .i64 a) W := by kernel_rfl

theorem cat_list (a b : ByteArray) : (a ++ b).data.toList = a.data.toList ++ b.data.toList := by simp
theorem cat_size (a b : ByteArray) : (a ++ b).size = a.size + b.size := by rw [← size_list, ← size_list, ← size_list, cat_list, List.length_append]

theorem itoa_len (n : Int) (h : 0 ≤ n ∧ n ≤ 99999) : (Lib.itoa n).length ≤ 5 := (itoa_clean h).2.1

theorem spc_snoc (ns : List Int) (n : Int) : spcF (ns ++ [n]) = spcF ns ++ 32 :: Lib.itoa n := by unfold spcF; simp

theorem nums_at {x : Ta} {k : Nat} (hk : k < 6) : ∃ n, x.nums[k]? = some n ∧ x.nums.take (k + 1) = x.nums.take k ++ [n] := by
  have : k < x.nums.length := by simp [Ta.nums]; exact hk
  exact ⟨x.nums[k], List.getElem?_eq_getElem this, by rw [List.take_add_one, List.getElem?_eq_getElem this]; rfl⟩

theorem line_max {x : Ta} (h : isNm x.nm = true) (h2 : stands x = true) : (lineF x).length ≤ 47 := by
  have := (taskF_body h h2).2.2
  unfold lineF
  simp
  omega

theorem lines_max : ∀ (l : List Ta), (∀ x ∈ l, isNm x.nm = true ∧ stands x = true) → (l.flatMap lineF).length ≤ 47 * l.length
  | [], _ => by simp
  | x :: r, h => by
    have h1 := line_max (h x (by simp)).1 (h x (by simp)).2
    have h2 := lines_max r (fun y hy => h y (List.mem_cons_of_mem _ hy))
    rw [List.flatMap_cons, List.length_append, List.length_cons]
    omega

theorem spc_max {x : Ta} (h2 : stands x = true) (k : Nat) : (spcF (x.nums.take k)).length ≤ 36 := by
  have hk := nums_in h2
  obtain ⟨nm, c, t, d, j, o, p⟩ := x
  have i1 := itoa_len c (hk c (by simp [Ta.nums]))
  have i2 := itoa_len t (hk t (by simp [Ta.nums]))
  have i3 := itoa_len d (hk d (by simp [Ta.nums]))
  have i4 := itoa_len j (hk j (by simp [Ta.nums]))
  have i5 := itoa_len o (hk o (by simp [Ta.nums]))
  have i6 := itoa_len p (hk p (by simp [Ta.nums]))
  have hm : (spcF ((⟨nm, c, t, d, j, o, p⟩ : Ta).nums.take k)).length ≤ (spcF (⟨nm, c, t, d, j, o, p⟩ : Ta).nums).length := by
    conv => rhs; rw [← List.take_append_drop k (⟨nm, c, t, d, j, o, p⟩ : Ta).nums]
    unfold spcF
    rw [List.flatMap_append, List.length_append]
    omega
  have : (spcF (⟨nm, c, t, d, j, o, p⟩ : Ta).nums).length ≤ 36 := by
    unfold spcF Ta.nums
    simp
    omega
  omega

set_option maxRecDepth 20000 in
set_option maxHeartbeats 8000000 in
theorem Print_any (w : World) (l : List Ta) (v : Value) (hv : RowSl Ta.vals w l v) (ht : Lib.TabIs Tryd.prog w "internal/strconv.uint64pow10" .u64 Lib.pow10Tab) :
    Calls Tryd.prog 28 #[v] w fun r w' => r = .returned (.string ⟨(printF l).toArray⟩) ∧ Below w.heap.size w w' := by
  obtain ⟨ad, c, rfl⟩ := hv.len
  have HV : Hid (RowSl Ta.vals w l (.slice ad l.length c) ∧ Lib.TabIs Tryd.prog w "internal/strconv.uint64pow10" .u64 Lib.pow10Tab) := ⟨hv, ht⟩
  have HC := Check_any w l _ hv
  obtain ⟨z1, hz1⟩ : ∃ z1, (chkF l).1 = z1 := ⟨_, rfl⟩
  obtain ⟨z2, hz2⟩ : ∃ z2, (chkF l).2 = z2 := ⟨_, rfl⟩
  rw [hz1, hz2] at HC
  have hfd := field_flt
  clear hv ht hz2
  by_cases hz : z1 = 0
  rotate_left 1
  · have hzn : (z1 != 0) = true := by simpa using hz
    have e : printF l = [] := by unfold printF; rw [if_pos (by rw [hz1]; exact hz)]
    rw [e]
    clear hz1
    go_enter Tryd.func28, Tryd.ntmps28
    go_wp2_with (go_at_call 19; refine HC.mono ?_; rintro r w1 ⟨rfl, hb1⟩; have H1 : Hid (Below w.heap.size w w1) := hb1; clear hb1 HC)
    go_ret
    exact ⟨rfl, H1.out⟩
  subst hz
  have e : printF l = l.flatMap lineF := by unfold printF; rw [if_neg (by rw [hz1]; simp)]
  rw [e]
  obtain ⟨-, h8, hgood⟩ := chkF_good hz1
  have HG : Hid (∀ x ∈ l, isNm x.nm = true ∧ stands x = true) := hgood
  clear hgood hz1 e
  go_enter Tryd.func28, Tryd.ntmps28
  go_upto_region 4 with (go_at_call 19; refine HC.mono ?_; rintro r w1 ⟨rfl, hb1⟩; have H1 : Hid (PW w (w1.alloc (.cells #[.pointer none, .slice none 0 0] 104)) w1.heap.size []) := PW.start w w1 hb1; clear hb1 HC)
  generalize w1.alloc (.cells #[.pointer none, .slice none 0 0] 104) = w2 at *
  generalize w1.heap.size = gb at *
  go_wp2_with fail
  go_loopw [14] (fun iv wr => ∃ j : Nat, j ≤ l.length ∧ iv = .int .i64 (j : Int) ∧ PW w wr gb ((l.take j).flatMap lineF)) (fun iv _ => l.length - (intOf iv).toNat)
  case atStart => exact ⟨0, Nat.zero_le _, rfl, H1.out⟩
  case round =>
    obtain ⟨j, hj, rfl, hpw⟩ := hrel
    have HP : Hid (PW w wr gb ((l.take j).flatMap lineF)) := hpw
    clear hpw H1
    by_cases hjl : j < l.length
    · obtain ⟨x, hx, -⟩ := drop_at hjl
      have hgx := HG.out x (List.mem_of_getElem? hx)
      have hlm := lines_max (l.take j) (fun y hy => HG.out y (List.mem_of_mem_take hy))
      have htk : l.take (j + 1) = l.take j ++ [x] := by rw [List.take_add_one, hx]; rfl
      have hlt : (l.take j).length ≤ 8 := by rw [List.length_take]; omega
      obtain ⟨ad', c', he, -, hcap, hrow⟩ := HV.out.1
      cases he
      rcases hrow with h | ⟨b, o, rfl, hrow⟩
      · rw [h] at hjl; simp at hjl
      obtain ⟨y0, y1, y2, y3, y4, y5, y6⟩ := ta_at (fun q u hq => below_cell HP.out.bel (hrow q u hq)) hx
      have hnl := (nm_clean hgx.1).2
      have HX : Hid (isNm x.nm = true ∧ stands x = true ∧ l.take (j + 1) = l.take j ++ [x]) := ⟨hgx.1, hgx.2, htk⟩
      have hspm := spc_max hgx.2
      obtain ⟨xn, xc, xt, xd, xj, xo, xp⟩ := x
      dsimp only at y0 y1 y2 y3 y4 y5 y6 hnl
      have lb : b < wr.heap.size := World.block_lt_of_cell? _ _ y0
      have hji : (j : Int) < (l.length : Int) := by omega
      have hns : xn.size ≤ 10 := by rw [← size_list]; exact hnl
      clear hrow hx htk hgx
      go_upto_region 7 with fail
      have H3 : Hid (PW w (wr.alloc (.cells #[.string xn, .int .i64 xc, .int .i64 xt, .int .i64 xd, .int .i64 xj, .int .i64 xo, .int .i64 xp] 55)) gb ((l.take j).flatMap lineF) ∧ (wr.alloc (.cells #[.string xn, .int .i64 xc, .int .i64 xt, .int .i64 xd, .int .i64 xj, .int .i64 xo, .int .i64 xp] 55)).heap[wr.heap.size]? = some (.cells #[.string xn, .int .i64 xc, .int .i64 xt, .int .i64 xd, .int .i64 xj, .int .i64 xo, .int .i64 xp] 55 (0, 0)) ∧ wr.heap.size ≠ gb) := ⟨HP.out.grow (below_new _ _), heap_alloc_new _ _, by have := HP.out.lt; omega⟩
      clear y0 y1 y2 y3 y4 y5 y6 lb HP
      generalize wr.alloc (.cells #[.string xn, .int .i64 xc, .int .i64 xt, .int .i64 xd, .int .i64 xj, .int .i64 xo, .int .i64 xp] 55) = w3 at *
      generalize wr.heap.size = gt at *
      obtain ⟨xs, -, xl⟩ := cells_of (l := [_, _, _, _, _, _, _]) H3.out.2.1
      have x0 := xs 0 _ rfl
      clear xs
      have HNE : Hid (gt ≠ gb) := H3.out.2.2
      have HW1 := H3.out.1.write xn (by omega)
      go_upto_region 8 with (go_at_call 54; refine HW1.mono ?_; rintro r w4 ⟨rfl, hp4, hk4⟩; have H4 : Hid (PW w w4 gb ((l.take j).flatMap lineF ++ xn.data.toList) ∧ w4.heap[gt]? = some (.cells #[.string xn, .int .i64 xc, .int .i64 xt, .int .i64 xd, .int .i64 xj, .int .i64 xo, .int .i64 xp] 55 (0, 0))) := ⟨hp4, hk4 _ _ _ H3.out.2.2 H3.out.2.1 (by decide)⟩; clear hp4 hk4 HW1)
      clear x0 xl H3
      have HNb := numbers_any w4 gt
      have h4l : gt < w4.heap.size := (Array.getElem?_eq_some_iff.1 H4.out.2).1
      go_upto_region 9 with (go_at_call 55; refine HNb.mono ?_; rintro r w5 ⟨rfl, hp5, hb5⟩; have H5 : Hid (PW w w5 gb ((l.take j).flatMap lineF ++ xn.data.toList ++ spcF ((⟨xn, xc, xt, xd, xj, xo, xp⟩ : Ta).nums.take 0)) ∧ w5.heap[gt]? = some (.cells #[.string xn, .int .i64 xc, .int .i64 xt, .int .i64 xd, .int .i64 xj, .int .i64 xo, .int .i64 xp] 55 (0, 0)) ∧ w5.heap[w4.heap.size]? = some (.cells (ptrs gt).toArray 112 (0, 0)) ∧ gt ≠ gb ∧ w4.heap.size ≠ gb) := ⟨by rw [show spcF ((⟨xn, xc, xt, xd, xj, xo, xp⟩ : Ta).nums.take 0) = [] from rfl, List.append_nil]; exact H4.out.1.grow hb5, (hb5.block _ h4l).trans H4.out.2, hp5, HNE.out, by have := H4.out.1.lt; omega⟩; clear hp5 hb5 HNb)
      generalize w4.heap.size = gp at *
      clear h4l H4 HNE
      go_loopw [23] (fun iv wi => ∃ k : Nat, k ≤ 6 ∧ iv = .int .i64 (k : Int) ∧ PW w wi gb ((l.take j).flatMap lineF ++ xn.data.toList ++ spcF ((⟨xn, xc, xt, xd, xj, xo, xp⟩ : Ta).nums.take k)) ∧ wi.heap[gt]? = some (.cells #[.string xn, .int .i64 xc, .int .i64 xt, .int .i64 xd, .int .i64 xj, .int .i64 xo, .int .i64 xp] 55 (0, 0)) ∧ wi.heap[gp]? = some (.cells (ptrs gt).toArray 112 (0, 0))) (fun iv _ => 6 - (intOf iv).toNat)
      case atStart => exact ⟨0, Nat.zero_le _, rfl, H5.out.1, H5.out.2.1, H5.out.2.2.1⟩
      case round =>
        obtain ⟨k, hk, rfl, hpk, htk, hpp⟩ := hrel
        have HK : Hid (PW w wr gb ((l.take j).flatMap lineF ++ xn.data.toList ++ spcF ((⟨xn, xc, xt, xd, xj, xo, xp⟩ : Ta).nums.take k)) ∧ wr.heap[gt]? = some (.cells #[.string xn, .int .i64 xc, .int .i64 xt, .int .i64 xd, .int .i64 xj, .int .i64 xo, .int .i64 xp] 55 (0, 0)) ∧ wr.heap[gp]? = some (.cells (ptrs gt).toArray 112 (0, 0))) := ⟨hpk, htk, hpp⟩
        clear hpk htk hpp
        by_cases hk6 : k < 6
        · obtain ⟨n, hn, htn⟩ := nums_at (x := ⟨xn, xc, xt, xd, xj, xo, xp⟩) hk6
          have hin := nums_in HX.out.2.1 n (List.mem_of_getElem? hn)
          have hil := itoa_len n hin
          have p1 := (cells_of HK.out.2.2).1 k _ (ptrs_at hk6)
          have n1 := (cells_of HK.out.2.1).1 (k + 1) (.int .i64 n) (by
            have h6 : k = 0 ∨ k = 1 ∨ k = 2 ∨ k = 3 ∨ k = 4 ∨ k = 5 := by omega
            rcases h6 with rfl | rfl | rfl | rfl | rfl | rfl <;> (simp [Ta.nums] at hn; rw [← hn]; rfl))
          have lp : gp < wr.heap.size := (Array.getElem?_eq_some_iff.1 HK.out.2.2).1
          have lg : gt < wr.heap.size := (Array.getElem?_eq_some_iff.1 HK.out.2.1).1
          have hki : (k : Int) < 6 := by omega
          have HI := sh_strconv_Itoa n (by omega) (by omega) wr (tab_below HV.out.2 HK.out.1.bel)
          have hsl := hspm k
          have HTN : Hid ((⟨xn, xc, xt, xd, xj, xo, xp⟩ : Ta).nums.take (k + 1) = (⟨xn, xc, xt, xd, xj, xo, xp⟩ : Ta).nums.take k ++ [n]) := htn
          clear hn htn
          have HWr := fun W (hp : PW w W gb ((l.take j).flatMap lineF ++ xn.data.toList ++ spcF ((⟨xn, xc, xt, xd, xj, xo, xp⟩ : Ta).nums.take k))) => hp.write (⟨#[32]⟩ ++ ⟨(Lib.itoa n).toArray⟩) (by rw [cat_size, back_size (Lib.itoa n)]; simp only [List.length_append]; rw [size_list]; show _ + (1 + _) ≤ _; omega)
          go_upto_region 12 with (first
            | (go_at_call 56; refine HI.mono ?_; rintro r w6 ⟨rfl, kk, os, hw6⟩; have H6 : Hid (PW w w6 gb ((l.take j).flatMap lineF ++ xn.data.toList ++ spcF ((⟨xn, xc, xt, xd, xj, xo, xp⟩ : Ta).nums.take k)) ∧ w6.heap[gt]? = some (.cells #[.string xn, .int .i64 xc, .int .i64 xt, .int .i64 xd, .int .i64 xj, .int .i64 xo, .int .i64 xp] 55 (0, 0)) ∧ w6.heap[gp]? = some (.cells (ptrs gt).toArray 112 (0, 0))) := (by have hb6 : Below wr.heap.size wr w6 := (by rw [hw6]; exact growB _ _ _); exact ⟨HK.out.1.grow hb6, (hb6.block _ lg).trans HK.out.2.1, (hb6.block _ lp).trans HK.out.2.2⟩); clear hw6 HI)
            | (go_at_call 54; refine (HWr w6 H6.out.1).mono ?_; rintro r w7 ⟨rfl, hp7, hk7⟩; have H7 : Hid (PW w w7 gb ((l.take j).flatMap lineF ++ xn.data.toList ++ spcF ((⟨xn, xc, xt, xd, xj, xo, xp⟩ : Ta).nums.take (k + 1))) ∧ w7.heap[gt]? = some (.cells #[.string xn, .int .i64 xc, .int .i64 xt, .int .i64 xd, .int .i64 xj, .int .i64 xo, .int .i64 xp] 55 (0, 0)) ∧ w7.heap[gp]? = some (.cells (ptrs gt).toArray 112 (0, 0))) := ⟨by rw [HTN.out, spc_snoc, ← List.append_assoc]; rw [cat_list, back_list (Lib.itoa n)] at hp7; exact hp7, hk7 _ _ _ H5.out.2.2.2.1 H6.out.2.1 (by decide), hk7 _ _ _ H5.out.2.2.2.2 H6.out.2.2 (by decide)⟩; clear hp7 hk7 HWr H6))
          go_wp2_with fail
          exact ⟨⟨k + 1, by omega, by simp, H7.out.1, H7.out.2.1, H7.out.2.2⟩, by simp [intOf]; omega⟩
        · have hke : k = 6 := by omega
          subst hke
          have hsl := hspm 6
          have HWn := HK.out.1.write ⟨#[10]⟩ (by simp only [List.length_append]; rw [size_list]; show _ + 1 ≤ _; omega)
          go_wp2_with (go_at_call 54; refine HWn.mono ?_; rintro r w8 ⟨rfl, hp8, -⟩; have H8 : Hid (PW w w8 gb ((l.take (j + 1)).flatMap lineF)) := (by rw [HX.out.2.2, List.flatMap_append, List.flatMap_cons, List.flatMap_nil, List.append_nil]; unfold lineF bodyF; rw [← List.append_assoc, ← List.append_assoc]; exact hp8); clear hp8 HWn)
          exact ⟨⟨j + 1, by omega, by simp, H8.out⟩, by simp [intOf]; omega⟩
    · have hje : j = l.length := by omega
      subst hje
      rw [List.take_length] at HP
      have HS := sh_Builder_String_any w.heap.size gb _ wr HP.out.bd HP.out.bel.size
      go_wp2_with (go_at_call 57; refine HS.mono ?_; rintro r w9 ⟨rfl, hb9⟩; have H9 : Hid (Below w.heap.size w w9) := HP.out.bel.trans hb9; clear hb9 HS)
      go_ret
      exact ⟨rfl, H9.out⟩
end Go.Proofs.YtccoobcggbbciadDoor
