import Derived.Test.YtdhnjemgnlklkagEJ
import Derived.Test.YtdhnjemgnlklkagEQ
import Derived.Test.YtdhnjemgnlklkagQI
namespace Go.Proofs.Ytdhnjemgnlklkag
open Go.ChangeShapes Go.WideShapes Go.ChangeAt Go.RowKit

/- Filling what is left. -/
def fillL (l : List Jb) (j : Nat) : List Int := (l.map (·.c)).take j ++ List.replicate (l.length - j) 0

theorem fill_len {l : List Jb} {j : Nat} (h : j ≤ l.length) : (fillL l j).length = l.length := by simp [fillL]; omega

theorem fill_set {l : List Jb} {j : Nat} {x : Jb} (h : l[j]? = some x) : (fillL l j).set j x.c = fillL l (j + 1) := by
  have hj : j < l.length := (List.getElem?_eq_some_iff.1 h).1
  unfold fillL
  rw [List.set_append_right _ _ (by simp; omega)]
  obtain ⟨m, hm⟩ : ∃ m, l.length - j = m + 1 := ⟨l.length - j - 1, by omega⟩
  rw [hm, List.replicate_succ, List.take_add_one, List.getElem?_map, h]
  simp [show min j l.length = j by omega, show l.length - (j + 1) = m by omega]

theorem fill_end (l : List Jb) : fillL l l.length = l.map (·.c) := by
  unfold fillL
  rw [List.take_of_length_le (by simp)]
  simp

/-- What the law holds while it looks at another order. -/
structure TW (w W : World) (G g : Nat) (c : Int) (left : List Int) : Prop where
  bel : Below w.heap.size w W
  flt : W.heap[G]? = some (.cells #[.int .i64 c, .int .i64 0] 27 (0, 0))
  row : W.heap[g]? = some (.cells (left.map (Value.int .i64)).toArray 3 (0, 0))
  ne : G ≠ g
  low : w.heap.size ≤ g

theorem TW.grow {w W W' : World} {G g : Nat} {c : Int} {left : List Int} (h : TW w W G g c left) (hb : Below W.heap.size W W') : TW w W' G g c left :=
  ⟨below_seq h.bel hb, (hb.block _ (Array.getElem?_eq_some_iff.1 h.flt).1).trans h.flt, (hb.block _ (Array.getElem?_eq_some_iff.1 h.row).1).trans h.row, h.ne, h.low⟩

theorem TW.put {w W : World} {G g : Nat} {c : Int} {left : List Int} (h : TW w W G g c left) (i : Nat) (v : Int) : TW w (W.setCell ⟨g, i, none⟩ (.int .i64 v)) G g c (left.set i v) := by
  refine ⟨h.bel.setCell h.low _, (Below.heap_setCell _ _ _ _ h.ne).trans h.flt, ?_, h.ne, h.low⟩
  rw [setCell_at h.row]
  congr 2
  apply Array.toList_inj.1
  simp [List.map_set]

theorem TW.lt {w W : World} {G g : Nat} {c : Int} {left : List Int} (h : TW w W G g c left) : g < W.heap.size := (Array.getElem?_eq_some_iff.1 h.row).1

theorem TW.cell {w W : World} {G g : Nat} {c : Int} {left : List Int} (h : TW w W G g c left) {i : Nat} (hi : i < left.length) : W.cell? ⟨g, i, none⟩ = some (.int .i64 (L left i)) ∧ W.frozen? ⟨g, i, none⟩ = false := by
  obtain ⟨h1, h2, -⟩ := cells_of (l := left.map (Value.int .i64)) h.row
  refine ⟨h1 i _ ?_, h2 i⟩
  rw [List.getElem?_map, List.getElem?_eq_getElem hi]
  unfold L
  rw [List.getD_eq_getElem?_getD, List.getElem?_eq_getElem hi]
  rfl

theorem judged_zero {l : List Jb} {a b c : Int} (h : Judged l a b c) (hn : ∀ a b, ¬ Bad l a b) : c = 0 := by
  rcases h with ⟨h, -⟩ | ⟨-, h, -⟩
  · exact h
  · exact absurd h (hn _ _)

theorem plE_two {l : List Jb} {n : Nat} (h : (chkJ l).1 = 0) (hn : n ≤ 20000) : (plE l 2 (n : Int)).1 = 0 := by
  unfold plE
  rw [if_neg (by simpa using h), if_neg (by omega), if_neg (by omega)]

theorem field_27 (W : World) (a b : Int) : (Instr.field 27 (.agg #[.int .i64 a, .int .i64 b]) 0).run Try.prog W = .ok (.int .i64 a) W := by kernel_rfl

set_option maxRecDepth 20000 in
set_option maxHeartbeats 16000000 in
theorem best_walk (w : World) (l : List Jb) (od : List Int) (v v2 : Value) (hv : RowSl Jb.vals w l v) (hv2 : RowSl nuV w od v2) :
    Calls Try.prog 3 #[v, v2] w fun r w' => r = .returned (.bool true) ∧ Below w.heap.size w w' := by
  have hv' := hv
  have hv2' := hv2
  obtain ⟨ad, c, rfl, -, hcap, hrow⟩ := hv
  obtain ⟨ad2, c2, rfl, -, hcap2, hrow2⟩ := hv2
  have HR : Hid (l = [] ∨ ∃ b o, ad = some ⟨b, o, none⟩ ∧ ∀ q u, (l.flatMap Jb.vals)[q]? = some u → w.cell? ⟨b, o + q, none⟩ = some u) := hrow
  have HR2 : Hid (od = [] ∨ ∃ b o, ad2 = some ⟨b, o, none⟩ ∧ ∀ q u, (od.flatMap nuV)[q]? = some u → w.cell? ⟨b, o + q, none⟩ = some u) := hrow2
  have HV0 : Hid (RowSl Jb.vals w l (.slice ad l.length c) ∧ RowSl nuV w od (.slice ad2 od.length c2)) := ⟨hv', hv2'⟩
  clear hrow hrow2 hv' hv2'
  have hfd := field_27
  go_enter Try.func3, Try.ntmps3
  go_upto_region 3 with (go_at_call 4; refine (runs_any _).mono ?_; rintro r w1 ⟨rfl, hb1⟩; have H1 : Hid (Below w.heap.size w w1) := hb1; clear hb1)
  by_cases hl : 100 < l.length
  · have hl' : (100 : Int) < (l.length : Int) := by omega
    go_wp2_with fail
    go_ret
    exact ⟨rfl, H1.out⟩
  have hl' : ¬ (100 : Int) < (l.length : Int) := by omega
  by_cases ho : 3000 < od.length
  · have ho' : (3000 : Int) < (od.length : Int) := by omega
    go_wp2_with fail
    go_ret
    exact ⟨rfl, H1.out⟩
  have ho' : ¬ (3000 : Int) < (od.length : Int) := by omega
  have HC := Check_any w1 l _ (HV0.out.1.below H1.out)
  have HC2 := fun W (hb : Below w.heap.size w W) => CheckJobs_any W l _ (HV0.out.1.below hb)
  by_cases hck : (chkJ l).1 = 0
  rotate_left 1
  · generalize (chkJ l).1 = z1 at *
    generalize (chkJ l).2 = z2 at *
    have hz : (z1 != 0) = true := by simpa using hck
    clear hck
    go_wp2_with (first | (go_at_call 5; refine HC.mono ?_; rintro r w2 ⟨rfl, hb2⟩; have H2 : Hid (Below w.heap.size w w2) := below_seq H1.out hb2; clear hb2) | (go_at_call 6; refine (HC2 _ H2.out).mono ?_; rintro r w3 ⟨rfl, hb3⟩; have H3 : Hid (Below w.heap.size w w3) := below_seq H2.out hb3; clear hb3))
    go_ret
    exact ⟨rfl, H3.out⟩
  obtain ⟨-, hcok, hce⟩ := chkJ_ok hck
  have HV : Hid (RowSl Jb.vals w l (.slice ad l.length c) ∧ (chkJ l).1 = 0 ∧ ∀ x ∈ l, okJ x) := ⟨HV0.out.1, hck, hcok⟩
  rw [hce] at HC
  dsimp only at HC
  clear hck hcok hce HC2 HV0
  go_wp2_with (go_at_call 5; refine HC.mono ?_; rintro r w2 ⟨rfl, hb2⟩; have H2 : Hid (Below w.heap.size w w2) := below_seq H1.out hb2; clear hb2 HC)
  clear H1 hfd
  go_loopw [5, 57] (fun ve vi wr => ∃ (j : Nat) (e : Int), j ≤ l.length ∧ ve = .int .i64 e ∧ vi = .int .i64 j ∧ Below w.heap.size w wr ∧ 0 ≤ e ∧ e ≤ 80000 ∧ ∀ x ∈ l.take j, x.d ≤ e) (fun _ vi _ => l.length - (intOf vi).toNat)
  case atStart => exact ⟨0, 0, Nat.zero_le _, rfl, rfl, H2.out, Int.le_refl _, by omega, fun x hx => by simp at hx⟩
  case round =>
    obtain ⟨j, e, hj, rfl, rfl, hg, he0, he1, hall⟩ := hrel
    have HB1 : Hid (Below w.heap.size w wr) := hg
    by_cases hjl : j < l.length
    · obtain ⟨x, hx, -⟩ := drop_at hjl
      rcases HR.out with h | ⟨gb, go, rfl, hr1⟩
      · rw [h] at hjl; simp at hjl
      obtain ⟨y0, y1, y2, y3, y4⟩ := jb_at (fun q u hq => below_cell hg (hr1 q u hq)) hx
      have hox := HV.out.2.2 x (List.mem_of_getElem? hx)
      have htk : l.take (j + 1) = l.take j ++ [x] := by rw [List.take_add_one, hx]; rfl
      unfold okJ at hox
      have HA : Hid (∀ m : Int, e ≤ m → x.d ≤ m → ∀ y ∈ l.take (j + 1), y.d ≤ m) := fun m h1 h2 y hy => by
        rw [htk] at hy
        rcases List.mem_append.1 hy with hy | hy
        · have := hall y hy; omega
        · simp at hy; subst hy; exact h2
      obtain ⟨xk, xa, xc, xd, xp⟩ := x
      dsimp only at y0 y1 y2 y3 y4 hox HA
      obtain ⟨-, -, -, -, k5, k6⟩ := hox
      clear hg hr1 hx htk hall
      by_cases hm : e < xd
      · go_wp2_with fail
        exact ⟨⟨j + 1, xd, by omega, by rw [show max e xd = xd by omega], by simp, below_seq HB1.out (below_new _ _), by omega, by omega, HA.out xd (by omega) (by omega)⟩, by simp [intOf]; omega⟩
      · go_wp2_with fail
        exact ⟨⟨j + 1, e, by omega, by rw [show max e xd = e by omega], by simp, below_seq HB1.out (below_new _ _), by omega, by omega, HA.out e (by omega) (by omega)⟩, by simp [intOf]; omega⟩
    · have hje : j = l.length := by omega
      subst hje
      rw [List.take_length] at hall
      by_cases hbig : 3000 < e
      · clear hg
        go_wp2_with fail
        go_ret
        exact ⟨rfl, HB1.out⟩
      obtain ⟨N, rfl⟩ : ∃ N : Nat, e = (N : Int) := ⟨e.toNat, by omega⟩
      have HN : Hid (∀ x ∈ l, x.d ≤ (N : Int)) := hall
      have hN : N ≤ 3000 := by omega
      clear hg hall H2
      go_upto_region 14 with (go_at_call 7; refine (Judge_good _ l _ (HV.out.1.below HB1.out) HV.out.2.1).mono ?_; rintro r wa ⟨xa, xb, xc, rfl, hj9, hb⟩; have H4 : Hid (Judged l xa xb xc ∧ Below w.heap.size w (wa.alloc (.cells #[.int .i64 xc, .int .i64 0] 27)) ∧ (wa.alloc (.cells #[.int .i64 xc, .int .i64 0] 27)).heap[wa.heap.size]? = some (.cells #[.int .i64 xc, .int .i64 0] 27 (0, 0))) := ⟨hj9, below_seq (below_seq HB1.out hb) (below_new _ _), heap_alloc_new _ _⟩; clear hj9 hb HB1)
      generalize wa.alloc (.cells #[.int .i64 xc, .int .i64 0] 27) = wA at *
      generalize wa.heap.size = G at *
      go_upto_region 15 with (go_at_call 8; refine (Play_good wA l _ 2 N true (HV.out.1.below H4.out.2.1) (plE_two HV.out.2.1 (by omega))).mono ?_; rintro r wp ⟨v1, v2, rfl, ho9⟩; obtain ⟨s, rb, eb, hp, rfl, rfl, h1, h2, -, -, -⟩ := ho9.out; have H5 : Hid (Below wA.heap.size wA wp ∧ Plays l 2 true N s ∧ wp.heap[eb]? = some (.cells (s.ends.map (Value.int .i64)).toArray 3 (0, 0))) := ⟨ho9.bel, hp, h2⟩; clear ho9 hp h1 h2)
      have hOk := plays_ok HV.out.2.2 N s H5.out.2.1
      have hbest := edf_best HV.out.2.2 H5.out.2.1 HN.out
      have hx1 : ((wp.alloc (.cells #[.slice (some ⟨rb, 0, none⟩) N N, .slice (some ⟨eb, 0, none⟩) l.length l.length] 34)).alloc (.cells #[.int .i64 0, .int .i64 0] 27)).heap[wp.heap.size]? = some (.cells [.slice (some ⟨rb, 0, none⟩) N N, .slice (some ⟨eb, 0, none⟩) l.length l.length].toArray 34 (0, 0)) := (Below.heap_alloc _ _ _ (by simp)).trans (heap_alloc_new _ _)
      have hx2 : ((wp.alloc (.cells #[.slice (some ⟨rb, 0, none⟩) N N, .slice (some ⟨eb, 0, none⟩) l.length l.length] 34)).alloc (.cells #[.int .i64 0, .int .i64 0] 27)).heap[wp.heap.size + 1]? = some (.cells [.int .i64 0, .int .i64 0].toArray 27 (0, 0)) := by
        have := heap_alloc_new (wp.alloc (.cells #[.slice (some ⟨rb, 0, none⟩) N N, .slice (some ⟨eb, 0, none⟩) l.length l.length] 34)) (.cells #[.int .i64 0, .int .i64 0] 27)
        simpa using this
      have hb3 : Below wp.heap.size wp ((wp.alloc (.cells #[.slice (some ⟨rb, 0, none⟩) N N, .slice (some ⟨eb, 0, none⟩) l.length l.length] 34)).alloc (.cells #[.int .i64 0, .int .i64 0] 27)) := below_seq (below_new _ _) (below_new _ _)
      have hbA := below_seq H5.out.1 hb3
      have H6 : Hid (Below w.heap.size w ((wp.alloc (.cells #[.slice (some ⟨rb, 0, none⟩) N N, .slice (some ⟨eb, 0, none⟩) l.length l.length] 34)).alloc (.cells #[.int .i64 0, .int .i64 0] 27)) ∧ ((wp.alloc (.cells #[.slice (some ⟨rb, 0, none⟩) N N, .slice (some ⟨eb, 0, none⟩) l.length l.length] 34)).alloc (.cells #[.int .i64 0, .int .i64 0] 27)).heap[G]? = some (.cells #[.int .i64 xc, .int .i64 0] 27 (0, 0))) := ⟨below_seq H4.out.2.1 hbA, (hbA.block _ (Array.getElem?_eq_some_iff.1 H4.out.2.2).1).trans H4.out.2.2⟩
      have he9 := row_block H5.out.2.2
      rw [hOk.ends] at he9
      have A9 := Late_any ((wp.alloc (.cells #[.slice (some ⟨rb, 0, none⟩) N N, .slice (some ⟨eb, 0, none⟩) l.length l.length] 34)).alloc (.cells #[.int .i64 0, .int .i64 0] 27)) l s.ends _ _ (some ⟨rb, 0, none⟩) N N (HV.out.1.below H6.out.1) (he9.below hb3) (by omega)
      have hlf : lateF l N s.ends = ((0, 0), lateFrom N l s.ends 0) := by unfold lateF; rw [if_neg (by simpa using hOk.ends)]
      rw [hlf] at A9
      dsimp only at A9
      have HJ : Hid (Judged l xa xb xc) := H4.out.1
      have HBst : Hid (lateFrom N l s.ends 0 = [] ↔ ∀ a b, ¬ Bad l a b) := hbest
      clear hlf he9 hbA hb3 hbest hOk H5 H4
      generalize (wp.alloc (.cells #[.slice (some ⟨rb, 0, none⟩) N N, .slice (some ⟨eb, 0, none⟩) l.length l.length] 34)).alloc (.cells #[.int .i64 0, .int .i64 0] 27) = wX at *
      generalize hPP : wp.heap.size = PP at *
      obtain ⟨qs, -, ql⟩ := cells_of (l := [_, _]) hx1
      have q0 := qs 0 _ rfl
      have q1 := qs 1 _ rfl
      clear qs
      go_upto_region 16 with (go_at_call 9; refine A9.mono ?_; rintro r w9 ⟨u9, rfl, ho9, hb9⟩; obtain ⟨a9, c9, rfl⟩ := (rowOfN_own ho9).len; have H9 : Hid (Below w.heap.size w (w9.alloc (.cells #[.int .i64 0, .int .i64 0] 27)) ∧ (w9.alloc (.cells #[.int .i64 0, .int .i64 0] 27)).heap[G]? = some (.cells #[.int .i64 xc, .int .i64 0] 27 (0, 0)) ∧ (w9.alloc (.cells #[.int .i64 0, .int .i64 0] 27)).heap[PP]? = some (.cells [.slice (some ⟨rb, 0, none⟩) N N, .slice (some ⟨eb, 0, none⟩) l.length l.length].toArray 34 (0, 0)) ∧ (w9.alloc (.cells #[.int .i64 0, .int .i64 0] 27)).heap[PP + 1]? = some (.cells [.int .i64 0, .int .i64 0].toArray 27 (0, 0)) ∧ (w9.alloc (.cells #[.int .i64 0, .int .i64 0] 27)).heap[w9.heap.size]? = some (.cells [.int .i64 0, .int .i64 0].toArray 27 (0, 0))) := ⟨below_seq H6.out.1 (below_seq hb9 (below_new _ _)), ((below_seq hb9 (below_new w9 (.cells #[.int .i64 0, .int .i64 0] 27))).block _ (Array.getElem?_eq_some_iff.1 H6.out.2).1).trans H6.out.2, ((below_seq hb9 (below_new w9 (.cells #[.int .i64 0, .int .i64 0] 27))).block _ (Array.getElem?_eq_some_iff.1 hx1).1).trans hx1, ((below_seq hb9 (below_new w9 (.cells #[.int .i64 0, .int .i64 0] 27))).block _ (Array.getElem?_eq_some_iff.1 hx2).1).trans hx2, heap_alloc_new _ _⟩; clear ho9 hb9 A9 q0 q1 ql hx1 hx2 H6)
      generalize w9.alloc (.cells #[.int .i64 0, .int .i64 0] 27) = wt at *
      generalize w9.heap.size = QQ at *
      have p1 := (cells_of H9.out.2.2.1).1 1 _ rfl
      have q0 := (cells_of H9.out.2.2.2.1).1 0 _ rfl
      have r0 := (cells_of H9.out.2.2.2.2).1 0 _ rfl
      have f0 := (cells_of (l := [_, _]) H9.out.2.1).1 0 _ rfl
      have HT : Hid (Below w.heap.size w wt ∧ wt.heap[G]? = some (.cells #[.int .i64 xc, .int .i64 0] 27 (0, 0))) := ⟨H9.out.1, H9.out.2.1⟩
      clear H9
      rcases HJ.out with ⟨e0, -, -, hno⟩ | ⟨e0, hbad, -⟩
      · subst e0
        have hnil := HBst.out.2 hno
        rw [hnil]
        clear hno hnil HBst
        go_upto_region 28 with fail
        clear p1 q0 r0 f0
        obtain ⟨wz, hmk, H0⟩ : ∃ wz, (Instr.makeSlice 23 (.int .i64 (l.length : Int)) (.int .i64 (l.length : Int))).run Try.prog wt = .ok (.slice (some ⟨wt.heap.size, 0, none⟩) l.length l.length) wz ∧ Hid (TW w wz G wt.heap.size 0 (fillL l 0)) := by
          refine ⟨_, make_row wt l.length wt.heap.size (by omega) rfl, below_seq HT.out.1 (below_new _ _), (Below.heap_alloc _ _ _ (Array.getElem?_eq_some_iff.1 HT.out.2).1).trans HT.out.2, ?_, Nat.ne_of_lt (Array.getElem?_eq_some_iff.1 HT.out.2).1, HT.out.1.size⟩
          have e : (fillL l 0).map (Value.int .i64) = List.replicate l.length (Value.int .i64 0) := by simp [fillL]
          rw [e]
          exact heap_alloc_new _ _
        clear HT
        go_wp2_with fail
        clear hmk
        generalize wt.heap.size = g at *
        go_loopw [145] (fun vi wr => ∃ j : Nat, j ≤ l.length ∧ vi = .int .i64 j ∧ TW w wr G g 0 (fillL l j)) (fun vi _ => l.length - (intOf vi).toNat)
        case atStart => exact ⟨0, Nat.zero_le _, rfl, H0.out⟩
        case round =>
          obtain ⟨j, hj, rfl, hg⟩ := hrel
          have HG3 : Hid (TW w wr G g 0 (fillL l j)) := hg
          by_cases hjl : j < l.length
          · obtain ⟨x, hx, -⟩ := drop_at hjl
            rcases HR.out with h | ⟨gb, go, rfl, hr1⟩
            · rw [h] at hjl; simp at hjl
            obtain ⟨y0, y1, y2, y3, y4⟩ := jb_at (fun q u hq => below_cell hg.bel (hr1 q u hq)) hx
            have HF : Hid ((fillL l j).set j x.c = fillL l (j + 1)) := fill_set hx
            obtain ⟨z0, z1⟩ := hg.cell (i := j) (by rw [fill_len hj]; exact hjl)
            have lg := hg.lt
            have hji : (j : Int) < (l.length : Int) := by omega
            obtain ⟨xk, xa, xc, xd, xp⟩ := x
            dsimp only at y0 y1 y2 y3 y4 HF
            generalize L (fillL l j) j = old at *
            clear hg hr1 hx
            go_wp2_with fail
            refine ⟨⟨j + 1, by omega, by simp, ?_⟩, by simp [intOf]; omega⟩
            have e := HG3.out.put j xc
            rw [HF.out] at e
            exact e.grow (below_new _ _)
          · have hje : j = l.length := by omega
            subst hje
            have H1 : Hid (TW w wr G g 0 (l.map (·.c))) := by rw [← fill_end]; exact hg
            clear hg HG3 H0
            go_wp2_with fail
            go_loopw [158] (fun vi wr => ∃ (t : Nat) (left : List Int), t ≤ od.length ∧ vi = .int .i64 t ∧ TW w wr G g 0 left ∧ Inv l left t) (fun vi _ => od.length - (intOf vi).toNat)
            case atStart => exact ⟨0, l.map (·.c), Nat.zero_le _, rfl, H1.out, inv_init HV.out.2.2⟩
            case round =>
              rename_i wr0
              obtain ⟨t, left, ht, rfl, hg, hI⟩ := hrel
              have HG4 : Hid (TW w wr G g 0 left) := hg
              have HI : Hid (Inv l left t) := hI
              have hll : left.length = l.length := hI.len
              by_cases htl : t < od.length
              · obtain ⟨o, ho, -⟩ := drop_at htl
                rcases HR2.out with h | ⟨gb2, go2, rfl, hr2⟩
                · rw [h] at htl; simp at htl
                have z0 := nu_at (fun q u hq => below_cell hg.bel (hr2 q u hq)) ho
                clear hr2 ho
                by_cases o1 : 0 ≤ o
                · by_cases o2 : o < (l.length : Int)
                  · obtain ⟨k, rfl⟩ : ∃ k : Nat, o = (k : Int) := ⟨o.toNat, by omega⟩
                    have hk : k < l.length := by omega
                    rcases HR.out with h | ⟨gb, go, rfl, hr1⟩
                    · rw [h] at hk; simp at hk
                    obtain ⟨y0, y1, y2, y3, y4⟩ := jb_at (fun q u hq => below_cell hg.bel (hr1 q u hq)) (J_at hk)
                    obtain ⟨c0, c1⟩ := hg.cell (i := k) (by rw [hll]; exact hk)
                    have lg := hg.lt
                    have b0 := hI.nneg k
                    have b1 := hI.top k
                    have HN : Hid ((J l k).a ≤ (t : Int) → (t : Int) < (J l k).d → 0 < L left k → Inv l (left.set k (L left k - 1)) (t + 1)) := fun q1 q2 q3 => inv_step hI hk q1 q2 q3
                    generalize L left k = lk at *
                    generalize (J l k).a = ja at *
                    generalize (J l k).d = jd at *
                    clear hg hI hr1
                    by_cases p1 : ja ≤ (t : Int)
                    · by_cases p2 : (t : Int) < jd
                      · by_cases p3 : 0 < lk
                        · go_wp2_with fail
                          exact ⟨⟨t + 1, left.set k (lk - 1), by omega, by simp, HG4.out.put k (lk - 1), HN.out p1 p2 p3⟩, by simp [intOf]; omega⟩
                        · go_wp2_with fail
                          exact ⟨⟨t + 1, left, by omega, by simp, HG4.out, inv_same HI.out⟩, by simp [intOf]; omega⟩
                      · go_wp2_with fail
                        exact ⟨⟨t + 1, left, by omega, by simp, HG4.out, inv_same HI.out⟩, by simp [intOf]; omega⟩
                    · go_wp2_with fail
                      exact ⟨⟨t + 1, left, by omega, by simp, HG4.out, inv_same HI.out⟩, by simp [intOf]; omega⟩
                  · clear hg hI
                    go_wp2_with fail
                    exact ⟨⟨t + 1, left, by omega, by simp, HG4.out, inv_same HI.out⟩, by simp [intOf]; omega⟩
                · clear hg hI
                  go_wp2_with fail
                  exact ⟨⟨t + 1, left, by omega, by simp, HG4.out, inv_same HI.out⟩, by simp [intOf]; omega⟩
              · have hte : t = od.length := by omega
                subst hte
                clear hg hI H1
                go_wp2_with fail
                go_loopw [205] (fun vi wr => ∃ j : Nat, j ≤ l.length ∧ vi = .int .i64 j ∧ TW w wr G g 0 left ∧ ∀ i, i < j → L left i ≤ 0) (fun vi _ => l.length - (intOf vi).toNat)
                case atStart => exact ⟨0, Nat.zero_le _, rfl, HG4.out, fun i hi => by omega⟩
                case round =>
                  rename_i wr1
                  obtain ⟨j, hj, rfl, hg, hz⟩ := hrel
                  have HG5 : Hid (TW w wr G g 0 left) := hg
                  by_cases hjl : j < l.length
                  · obtain ⟨c0, c1⟩ := hg.cell (i := j) (by rw [hll]; exact hjl)
                    have HZ : Hid (L left j ≤ 0 → ∀ i, i < j + 1 → L left i ≤ 0) := fun h i hi => by
                      by_cases e : i = j
                      · subst e; exact h
                      · exact hz i (by omega)
                    have hji : (j : Int) < (l.length : Int) := by omega
                    generalize L left j = lj at *
                    clear hg hz
                    by_cases p : 0 < lj
                    · go_wp2_with fail
                      go_ret
                      exact ⟨rfl, HG5.out.bel⟩
                    · go_wp2_with fail
                      exact ⟨⟨j + 1, by omega, by simp, HG5.out, HZ.out (by omega)⟩, by simp [intOf]; omega⟩
                  · have hje : j = l.length := by omega
                    subst hje
                    have HI5 : Hid ((∀ i, i < left.length → L left i ≤ 0) ∧ Inv l left od.length) := ⟨fun i hi => hz i (by omega), HI.out⟩
                    obtain ⟨fs, -, fl⟩ := cells_of (l := [_, _]) hg.flt
                    have f0 := fs 0 _ rfl
                    clear fs hg hz
                    go_wp2_with fail
                    go_ret
                    exact ⟨rfl, HG5.out.bel⟩
      · have e1 : xc = 13 := e0
        subst e1
        have hnn : ¬ lateFrom N l s.ends 0 = [] := fun h => HBst.out.1 h _ _ hbad
        obtain ⟨n9, hn9⟩ : ∃ n9 : Nat, (lateFrom N l s.ends 0).length = n9 := ⟨_, rfl⟩
        have hn0 : ((n9 : Int) == 0) = false := by
          have : n9 ≠ 0 := fun h => hnn (List.eq_nil_of_length_eq_zero (by omega))
          simp; omega
        have hn1 : ¬ ((n9 : Int) = 0) := by simpa using hn0
        rw [hn9]
        obtain ⟨⟨ba, hba, ea⟩, ⟨bb, hbb, eb9⟩, -, hsumB⟩ := hbad
        have oa := HV.out.2.2 ba hba
        have ob := HV.out.2.2 bb hbb
        unfold okJ at oa ob
        have ra0 : 0 ≤ xa := by rw [← ea]; exact oa.1
        have ra1 : xa ≤ 60000 := by rw [← ea]; exact oa.2.1
        have rb0 : 0 ≤ xb := by rw [← eb9]; exact ob.2.2.2.2.1
        have rb1 : xb ≤ 80000 := by rw [← eb9]; exact ob.2.2.2.2.2
        have HSB : Hid (xb - xa < sumW xa xb l) := hsumB
        clear hnn hn9 oa ob hba hbb ea eb9 hsumB HBst
        go_wp2_with fail
        clear p1 q0 r0 f0 hn0 hn1
        go_loopw [15, 116] (fun vz vi wr => ∃ (j : Nat) (z : Int), j ≤ l.length ∧ vz = .int .i64 z ∧ vi = .int .i64 j ∧ (Below w.heap.size w wr ∧ wr.heap[G]? = some (.cells #[.int .i64 13, .int .i64 0] 27 (0, 0))) ∧ 0 ≤ z ∧ z ≤ 10000 * (j : Int) ∧ z + sumG (inW xa xb) (l.drop j) = sumW xa xb l) (fun _ vi _ => l.length - (intOf vi).toNat)
        case atStart => exact ⟨0, 0, Nat.zero_le _, rfl, rfl, HT.out, Int.le_refl _, by omega, by rw [List.drop_zero]; unfold sumW; omega⟩
        case round =>
          rename_i wr2
          obtain ⟨j, z, hj, rfl, rfl, hg, hz0, hz1, hsum⟩ := hrel
          have HG2 : Hid (Below w.heap.size w wr ∧ wr.heap[G]? = some (.cells #[.int .i64 13, .int .i64 0] 27 (0, 0))) := hg
          by_cases hjl : j < l.length
          · obtain ⟨x, hx, hd⟩ := drop_at hjl
            rcases HR.out with h | ⟨gb, go, rfl, hr1⟩
            · rw [h] at hjl; simp at hjl
            obtain ⟨y0, y1, y2, y3, y4⟩ := jb_at (fun q u hq => below_cell hg.1 (hr1 q u hq)) hx
            have hox := HV.out.2.2 x (List.mem_of_getElem? hx)
            rw [hd, sumG] at hsum
            obtain ⟨yk, ya, yc, yd, yp⟩ := x
            have hiw : inW xa xb ⟨yk, ya, yc, yd, yp⟩ = if xa ≤ ya ∧ yd ≤ xb then yc else 0 := rfl
            rw [hiw] at hsum
            unfold okJ at hox
            dsimp only at y0 y1 y2 y3 y4 hox
            obtain ⟨-, -, k3, k4, -, -⟩ := hox
            have HG3 : Hid (Below w.heap.size w (wr.alloc (.cells #[.int .i64 yk, .int .i64 ya, .int .i64 yc, .int .i64 yd, .int .i64 yp] 30)) ∧ (wr.alloc (.cells #[.int .i64 yk, .int .i64 ya, .int .i64 yc, .int .i64 yd, .int .i64 yp] 30)).heap[G]? = some (.cells #[.int .i64 13, .int .i64 0] 27 (0, 0))) := ⟨below_seq hg.1 (below_new _ _), (Below.heap_alloc _ _ _ (Array.getElem?_eq_some_iff.1 hg.2).1).trans hg.2⟩
            clear hd hx hr1 hg
            by_cases p1 : xa ≤ ya
            · by_cases p2 : yd ≤ xb
              · rw [if_pos ⟨p1, p2⟩] at hsum
                have HS : Hid ((z + yc) + sumG (inW xa xb) (l.drop (j + 1)) = sumW xa xb l) := by show _ = _; omega
                clear hsum
                go_wp2_with fail
                exact ⟨⟨j + 1, z + yc, by omega, rfl, by simp, HG3.out, by omega, by omega, HS.out⟩, by simp [intOf]; omega⟩
              · rw [if_neg (fun h => p2 h.2)] at hsum
                have HS : Hid (z + sumG (inW xa xb) (l.drop (j + 1)) = sumW xa xb l) := by show _ = _; omega
                clear hsum
                go_wp2_with fail
                exact ⟨⟨j + 1, z, by omega, rfl, by simp, HG3.out, by omega, by omega, HS.out⟩, by simp [intOf]; omega⟩
            · rw [if_neg (fun h => p1 h.1)] at hsum
              have HS : Hid (z + sumG (inW xa xb) (l.drop (j + 1)) = sumW xa xb l) := by show _ = _; omega
              clear hsum
              go_wp2_with fail
              exact ⟨⟨j + 1, z, by omega, rfl, by simp, HG3.out, by omega, by omega, HS.out⟩, by simp [intOf]; omega⟩
          · have hje : j = l.length := by omega
            subst hje
            have hze : z = sumW xa xb l := by rw [List.drop_length, sumG] at hsum; omega
            have hlt : ¬ z ≤ xb - xa := by have := HSB.out; omega
            clear hsum hze HSB HT hg
            have HT : Hid (Below w.heap.size w wr ∧ wr.heap[G]? = some (.cells #[.int .i64 13, .int .i64 0] 27 (0, 0))) := HG2.out
            clear HG2
            go_upto_region 28 with fail
            clear hlt hz0 hz1
            obtain ⟨wz, hmk, H0⟩ : ∃ wz, (Instr.makeSlice 23 (.int .i64 (l.length : Int)) (.int .i64 (l.length : Int))).run Try.prog wr = .ok (.slice (some ⟨wr.heap.size, 0, none⟩) l.length l.length) wz ∧ Hid (TW w wz G wr.heap.size 13 (fillL l 0)) := by
              refine ⟨_, make_row wr l.length wr.heap.size (by omega) rfl, below_seq HT.out.1 (below_new _ _), (Below.heap_alloc _ _ _ (Array.getElem?_eq_some_iff.1 HT.out.2).1).trans HT.out.2, ?_, Nat.ne_of_lt (Array.getElem?_eq_some_iff.1 HT.out.2).1, HT.out.1.size⟩
              have e : (fillL l 0).map (Value.int .i64) = List.replicate l.length (Value.int .i64 0) := by simp [fillL]
              rw [e]
              exact heap_alloc_new _ _
            clear HT
            go_wp2_with fail
            clear hmk
            generalize wr.heap.size = g at *
            go_loopw [145] (fun vi wr => ∃ j : Nat, j ≤ l.length ∧ vi = .int .i64 j ∧ TW w wr G g 13 (fillL l j)) (fun vi _ => l.length - (intOf vi).toNat)
            case atStart => exact ⟨0, Nat.zero_le _, rfl, H0.out⟩
            case round =>
              obtain ⟨j, hj, rfl, hg⟩ := hrel
              have HG3 : Hid (TW w wr G g 13 (fillL l j)) := hg
              by_cases hjl : j < l.length
              · obtain ⟨x, hx, -⟩ := drop_at hjl
                rcases HR.out with h | ⟨gb, go, rfl, hr1⟩
                · rw [h] at hjl; simp at hjl
                obtain ⟨y0, y1, y2, y3, y4⟩ := jb_at (fun q u hq => below_cell hg.bel (hr1 q u hq)) hx
                have HF : Hid ((fillL l j).set j x.c = fillL l (j + 1)) := fill_set hx
                obtain ⟨z0, z1⟩ := hg.cell (i := j) (by rw [fill_len hj]; exact hjl)
                have lg := hg.lt
                have hji : (j : Int) < (l.length : Int) := by omega
                obtain ⟨xk, xa, xc, xd, xp⟩ := x
                dsimp only at y0 y1 y2 y3 y4 HF
                generalize L (fillL l j) j = old at *
                clear hg hr1 hx
                go_wp2_with fail
                refine ⟨⟨j + 1, by omega, by simp, ?_⟩, by simp [intOf]; omega⟩
                have e := HG3.out.put j xc
                rw [HF.out] at e
                exact e.grow (below_new _ _)
              · have hje : j = l.length := by omega
                subst hje
                have H1 : Hid (TW w wr G g 13 (l.map (·.c))) := by rw [← fill_end]; exact hg
                clear hg HG3 H0
                go_wp2_with fail
                go_loopw [158] (fun vi wr => ∃ (t : Nat) (left : List Int), t ≤ od.length ∧ vi = .int .i64 t ∧ TW w wr G g 13 left ∧ Inv l left t) (fun vi _ => od.length - (intOf vi).toNat)
                case atStart => exact ⟨0, l.map (·.c), Nat.zero_le _, rfl, H1.out, inv_init HV.out.2.2⟩
                case round =>
                  rename_i wr0
                  obtain ⟨t, left, ht, rfl, hg, hI⟩ := hrel
                  have HG4 : Hid (TW w wr G g 13 left) := hg
                  have HI : Hid (Inv l left t) := hI
                  have hll : left.length = l.length := hI.len
                  by_cases htl : t < od.length
                  · obtain ⟨o, ho, -⟩ := drop_at htl
                    rcases HR2.out with h | ⟨gb2, go2, rfl, hr2⟩
                    · rw [h] at htl; simp at htl
                    have z0 := nu_at (fun q u hq => below_cell hg.bel (hr2 q u hq)) ho
                    clear hr2 ho
                    by_cases o1 : 0 ≤ o
                    · by_cases o2 : o < (l.length : Int)
                      · obtain ⟨k, rfl⟩ : ∃ k : Nat, o = (k : Int) := ⟨o.toNat, by omega⟩
                        have hk : k < l.length := by omega
                        rcases HR.out with h | ⟨gb, go, rfl, hr1⟩
                        · rw [h] at hk; simp at hk
                        obtain ⟨y0, y1, y2, y3, y4⟩ := jb_at (fun q u hq => below_cell hg.bel (hr1 q u hq)) (J_at hk)
                        obtain ⟨c0, c1⟩ := hg.cell (i := k) (by rw [hll]; exact hk)
                        have lg := hg.lt
                        have b0 := hI.nneg k
                        have b1 := hI.top k
                        have HN : Hid ((J l k).a ≤ (t : Int) → (t : Int) < (J l k).d → 0 < L left k → Inv l (left.set k (L left k - 1)) (t + 1)) := fun q1 q2 q3 => inv_step hI hk q1 q2 q3
                        generalize L left k = lk at *
                        generalize (J l k).a = ja at *
                        generalize (J l k).d = jd at *
                        clear hg hI hr1
                        by_cases p1 : ja ≤ (t : Int)
                        · by_cases p2 : (t : Int) < jd
                          · by_cases p3 : 0 < lk
                            · go_wp2_with fail
                              exact ⟨⟨t + 1, left.set k (lk - 1), by omega, by simp, HG4.out.put k (lk - 1), HN.out p1 p2 p3⟩, by simp [intOf]; omega⟩
                            · go_wp2_with fail
                              exact ⟨⟨t + 1, left, by omega, by simp, HG4.out, inv_same HI.out⟩, by simp [intOf]; omega⟩
                          · go_wp2_with fail
                            exact ⟨⟨t + 1, left, by omega, by simp, HG4.out, inv_same HI.out⟩, by simp [intOf]; omega⟩
                        · go_wp2_with fail
                          exact ⟨⟨t + 1, left, by omega, by simp, HG4.out, inv_same HI.out⟩, by simp [intOf]; omega⟩
                      · clear hg hI
                        go_wp2_with fail
                        exact ⟨⟨t + 1, left, by omega, by simp, HG4.out, inv_same HI.out⟩, by simp [intOf]; omega⟩
                    · clear hg hI
                      go_wp2_with fail
                      exact ⟨⟨t + 1, left, by omega, by simp, HG4.out, inv_same HI.out⟩, by simp [intOf]; omega⟩
                  · have hte : t = od.length := by omega
                    subst hte
                    clear hg hI H1
                    go_wp2_with fail
                    go_loopw [205] (fun vi wr => ∃ j : Nat, j ≤ l.length ∧ vi = .int .i64 j ∧ TW w wr G g 13 left ∧ ∀ i, i < j → L left i ≤ 0) (fun vi _ => l.length - (intOf vi).toNat)
                    case atStart => exact ⟨0, Nat.zero_le _, rfl, HG4.out, fun i hi => by omega⟩
                    case round =>
                      rename_i wr1
                      obtain ⟨j, hj, rfl, hg, hz⟩ := hrel
                      have HG5 : Hid (TW w wr G g 13 left) := hg
                      by_cases hjl : j < l.length
                      · obtain ⟨c0, c1⟩ := hg.cell (i := j) (by rw [hll]; exact hjl)
                        have HZ : Hid (L left j ≤ 0 → ∀ i, i < j + 1 → L left i ≤ 0) := fun h i hi => by
                          by_cases e : i = j
                          · subst e; exact h
                          · exact hz i (by omega)
                        have hji : (j : Int) < (l.length : Int) := by omega
                        generalize L left j = lj at *
                        clear hg hz
                        by_cases p : 0 < lj
                        · go_wp2_with fail
                          go_ret
                          exact ⟨rfl, HG5.out.bel⟩
                        · go_wp2_with fail
                          exact ⟨⟨j + 1, by omega, by simp, HG5.out, HZ.out (by omega)⟩, by simp [intOf]; omega⟩
                      · have hje : j = l.length := by omega
                        subst hje
                        have HI5 : Hid ((∀ i, i < left.length → L left i ≤ 0) ∧ Inv l left od.length) := ⟨fun i hi => hz i (by omega), HI.out⟩
                        obtain ⟨fs, -, fl⟩ := cells_of (l := [_, _]) hg.flt
                        have f0 := fs 0 _ rfl
                        clear fs hg hz
                        exfalso
                        have hz := inv_end HV.out.2.2 HI5.out.2 (fun i hi => HI5.out.1 i (by rw [HI5.out.2.len]; exact hi))
                        have := judged_zero HJ.out hz
                        omega

end Go.Proofs.Ytdhnjemgnlklkag
