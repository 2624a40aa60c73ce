import Derived.Test.YtdhnjemgnlklkagEA
import Derived.Test.YtdhnjemgnlklkagEB
namespace Go.Proofs.Ytdhnjemgnlklkag
open Go.ChangeShapes Go.WideShapes Go.ChangeAt Go.RowKit Go.Sort

/-- What Judge tells. -/
def JRes (l : List Jb) (a b c k : Int) : Prop := ((chkJ l).1 ≠ 0 ∧ a = 0 ∧ b = 0 ∧ c = (chkJ l).1 ∧ k = (chkJ l).2) ∨ ((chkJ l).1 = 0 ∧ k = 0 ∧ Judged l a b c)

theorem jres_unique {l : List Jb} {a b c k a' b' c' k' : Int} (h : JRes l a b c k) (h' : JRes l a' b' c' k') : a = a' ∧ b = b' ∧ c = c' ∧ k = k' := by
  rcases h with ⟨h0, rfl, rfl, rfl, rfl⟩ | ⟨h0, rfl, h1⟩
  · rcases h' with ⟨g0, rfl, rfl, rfl, rfl⟩ | ⟨g0, -⟩
    · exact ⟨rfl, rfl, rfl, rfl⟩
    · exact absurd g0 h0
  · rcases h' with ⟨g0, -⟩ | ⟨g0, rfl, g1⟩
    · exact absurd h0 g0
    · obtain ⟨e1, e2, e3⟩ := judged_unique h1 g1
      exact ⟨e1, e2, e3, rfl⟩

/-- A fault's block that is set. -/
structure RB (w W : World) (z1 z2 : Int) : Prop where
  bel : Below w.heap.size w W
  res : W.heap[w.heap.size]? = some (.cells #[.int .i64 z1, .int .i64 z2] 27 (0, 0))

theorem RB.start (w : World) : RB w (w.alloc (.cells #[.int .i64 0, .int .i64 0] 27)) 0 0 := ⟨below_new _ _, heap_alloc_new _ _⟩

theorem RB.lt {w W : World} {z1 z2 : Int} (h : RB w W z1 z2) : w.heap.size < W.heap.size := (Array.getElem?_eq_some_iff.1 h.res).1

theorem RB.grow {w W W' : World} {z1 z2 : Int} (h : RB w W z1 z2) (hb : Below W.heap.size W W') : RB w W' z1 z2 := ⟨below_seq h.bel hb, (hb.block _ h.lt).trans h.res⟩

theorem RB.set {w W : World} {z1 z2 : Int} (h : RB w W z1 z2) (y1 y2 : Int) : RB w ((W.setCell ⟨w.heap.size, 0, none⟩ (.int .i64 y1)).setCell ⟨w.heap.size, 1, none⟩ (.int .i64 y2)) y1 y2 :=
  ⟨(h.bel.setCell (Nat.le_refl _) _).setCell (Nat.le_refl _) _, set_two h.res⟩

theorem RB.keep {w W W' : World} {z1 z2 : Int} {row : Option Nat} (h : RB w W z1 z2) (hg : W.grownBy W' row) (hr : ∀ q, row = some q → w.heap.size < q) : RB w W' z1 z2 :=
  ⟨h.bel.trans ((Below.refl _ W).grown hg (Nat.le_of_lt h.lt) (fun q hq => Nat.le_of_lt (hr q hq))), (hg.block _ h.lt (fun e => by have := hr _ e.symm; omega)).trans h.res⟩

theorem Judge_ends {w : World} {g : Nat} {c k p q : Value} {a : Act} (h : w.heap[g]? = some (.cells #[c, k] 27 (0, 0))) (h1 : a.tmps[2]?.getD undef = p) (h2 : a.tmps[3]?.getD undef = q) (h3 : a.tmps[4]?.getD undef = .pointer (some ⟨g, 0, none⟩)) :
    (results Try.f7 a.tmps).run Try.prog w = .ok (.tuple #[p, q, .agg #[c, k]]) w := by
  obtain ⟨c1, f1, l1⟩ := cells_of (l := [_, _]) h
  have c10 := c1 0 _ rfl
  have c11 := c1 1 _ rfl
  subst h1 h2
  simp [results, Try.results7, go_sem, h3, c10, c11]

theorem judF_at {W : List Jb} {bs : List Int} {j : Nat} {a : Int} (h : bs.drop j = a :: bs.drop (j + 1)) : judF W (bs.drop j) = match tooF a 0 W with
    | some b => (a, b, eNone)
    | none => judF W (bs.drop (j + 1)) := by
  rw [h, judF]
  cases tooF a 0 W <;> rfl

set_option maxRecDepth 20000 in
set_option maxHeartbeats 2000000 in
theorem Judge_bad (w : World) (l : List Jb) (v : Value) (hv : RowSl Jb.vals w l v) (h0 : (chkJ l).1 ≠ 0) :
    Calls Try.prog 7 #[v] w fun r w' => r = .returned (.tuple #[.int .i64 0, .int .i64 0, .agg #[.int .i64 (chkJ l).1, .int .i64 (chkJ l).2]]) ∧ Below w.heap.size w w' := by
  have HC := Check_any (w.alloc (.cells #[.int .i64 0, .int .i64 0] 27)) l v (hv.below (below_new _ _))
  obtain ⟨ad, c, rfl⟩ := hv.len
  clear hv
  generalize (chkJ l).1 = z1 at *
  generalize (chkJ l).2 = z2 at *
  have hz : (z1 != 0) = true := by simpa using h0
  clear h0
  go_enter Try.func7, Try.ntmps7
  go_upto_region 3 with (go_at_call 5; refine HC.mono ?_; rintro r w1 ⟨rfl, hb1⟩; have H1 : Hid (RB w w1 0 0) := (RB.start w).grow hb1; clear hb1 HC; obtain ⟨rs1, rf1, rl1⟩ := cells_of (l := [_, _]) H1.out.res; have r10 := rs1 0 _ rfl; have r11 := rs1 1 _ rfl; have f10 := rf1 0; have f11 := rf1 1; clear rs1 rf1)
  have H2 : Hid (RB w ((w1.setCell ⟨w.heap.size, 0, none⟩ (.int .i64 z1)).setCell ⟨w.heap.size, 1, none⟩ (.int .i64 z2)) z1 z2) := H1.out.set z1 z2
  clear r10 r11 f10 f11 rl1 H1
  generalize (w1.setCell ⟨w.heap.size, 0, none⟩ (.int .i64 z1)).setCell ⟨w.heap.size, 1, none⟩ (.int .i64 z2) = w2 at *
  obtain ⟨rs1, rf1, rl1⟩ := cells_of (l := [_, _]) H2.out.res
  have r10 := rs1 0 _ rfl
  have r11 := rs1 1 _ rfl
  have f10 := rf1 0
  have f11 := rf1 1
  clear rs1 rf1
  go_region
  all_goals go_wp2_with fail
  all_goals
    have hx := H2.out.set z1 z2
    refine bodyPost_ret (Judge_ends (g := w.heap.size) (c := .int .i64 z1) (k := .int .i64 z2) hx.res rfl rfl rfl) rfl ?_
    exact ⟨rfl, hx.bel.drew⟩

set_option maxRecDepth 20000 in
set_option maxHeartbeats 4000000 in
theorem Judge_good (w : World) (l : List Jb) (v : Value) (hv : RowSl Jb.vals w l v) (h0 : (chkJ l).1 = 0) :
    Calls Try.prog 7 #[v] w fun r w' => ∃ a b c, r = .returned (.tuple #[.int .i64 a, .int .i64 b, .agg #[.int .i64 c, .int .i64 0]]) ∧ Judged l a b c ∧ Below w.heap.size w w' := by
  obtain ⟨hcl, hcok, hce⟩ := chkJ_ok h0
  have HC := Check_any (w.alloc (.cells #[.int .i64 0, .int .i64 0] 27)) l v (hv.below (below_new _ _))
  rw [hce] at HC
  dsimp only at HC
  obtain ⟨ad, c, rfl⟩ := hv.len
  have HV : Hid (RowSl Jb.vals w l (.slice ad l.length c) ∧ (∀ x ∈ l, okJ x)) := ⟨hv, hcok⟩
  clear hv hcok hce h0
  go_enter Try.func7, Try.ntmps7
  go_upto_region 2 with (go_at_call 5; refine HC.mono ?_; rintro r w1 ⟨rfl, hb1⟩; have H1 : Hid (RB w w1 0 0) := (RB.start w).grow hb1; clear hb1 HC; obtain ⟨rs1, rf1, rl1⟩ := cells_of (l := [_, _]) H1.out.res; have r10 := rs1 0 _ rfl; have r11 := rs1 1 _ rfl; have f10 := rf1 0; have f11 := rf1 1; clear rs1 rf1)
  have H2 : Hid (RB w ((w1.setCell ⟨w.heap.size, 0, none⟩ (.int .i64 0)).setCell ⟨w.heap.size, 1, none⟩ (.int .i64 0)) 0 0) := H1.out.set 0 0
  clear r10 r11 f10 f11 rl1 H1
  generalize (w1.setCell ⟨w.heap.size, 0, none⟩ (.int .i64 0)).setCell ⟨w.heap.size, 1, none⟩ (.int .i64 0) = w2 at *
  obtain ⟨rs1, rf1, rl1⟩ := cells_of (l := [_, _]) H2.out.res
  have r10 := rs1 0 _ rfl
  have r11 := rs1 1 _ rfl
  have f10 := rf1 0
  have f11 := rf1 1
  clear rs1 rf1
  go_upto_region 6 with (first
    | (go_at_call 13; refine (cloneJ_any w2 l _ (HV.out.1.below H2.out.bel) (by omega)).mono ?_; rintro r w3 ⟨cv, rfl, ho3, hb3⟩; have H3 : Hid (w3.ownsRow w2.heap.size 30 5 cv l.length (l.flatMap Jb.vals) ∧ Below w2.heap.size w2 w3) := ⟨ho3, hb3⟩; clear ho3 hb3 r10 r11 f10 f11)
    | (go_at_call 14; refine (sortJ_any w3 _ l cv H3.out.1 (by omega)).mono ?_; rintro r w4 ⟨rfl, W, hp4, hs4, hr4, hg4⟩; have H4 : Hid (RB w w4 0 0 ∧ W.Perm l ∧ W.Pairwise (fun x y => x.d ≤ y.d) ∧ RowSl Jb.vals w4 W cv) := ⟨(H2.out.grow H3.out.2).keep hg4 (fun q hq => Nat.lt_of_lt_of_le H2.out.lt (H3.out.1.lt q hq).1), hp4, hs4, hr4⟩; clear hp4 hs4 hr4 hg4))
  go_wp2_with (go_at_call 17; refine (begins_any w4 l _ (HV.out.1.below H4.out.1.bel) (by omega)).mono ?_; rintro r w5 ⟨bs, u, rfl, hbg, hru, hb5⟩; have H5 : Hid (RB w w5 0 0 ∧ RowSl Jb.vals w5 W cv ∧ RowSl nuV w5 bs u ∧ Begun l bs ∧ W.Perm l ∧ W.Pairwise (fun x y => x.d ≤ y.d)) := ⟨H4.out.1.grow hb5, H4.out.2.2.2.below hb5, hru, hbg, H4.out.2.1, H4.out.2.2.1⟩; have hbl : bs.length ≤ l.length := hbg.1; obtain ⟨ua, uc, rfl⟩ := hru.len; clear hbg hru hb5 H3 H4)
  have HB : Hid (Begun l bs ∧ W.Perm l ∧ W.Pairwise (fun x y => x.d ≤ y.d)) := H5.out.2.2.2
  have H6 : Hid (RB w w5 0 0 ∧ RowSl Jb.vals w5 W cv ∧ RowSl nuV w5 bs (.slice ua bs.length uc)) := ⟨H5.out.1, H5.out.2.1, H5.out.2.2.1⟩
  clear H5 H2
  go_loopw [23] (fun i wr => ∃ j : Nat, j ≤ bs.length ∧ i = .int .i64 j ∧ RB w wr 0 0 ∧ RowSl Jb.vals wr W cv ∧ RowSl nuV wr bs (.slice ua bs.length uc) ∧ judF W (bs.drop j) = judF W bs) (fun i _ => bs.length - (intOf i).toNat)
  case atStart => exact ⟨0, Nat.zero_le _, rfl, H6.out.1, H6.out.2.1, H6.out.2.2, rfl⟩
  case round =>
    obtain ⟨j, hj, rfl, hg, hW, hbs, hac⟩ := hrel
    have HG : Hid (RB w wr 0 0 ∧ RowSl Jb.vals wr W cv ∧ RowSl nuV wr bs (.slice ua bs.length uc)) := ⟨hg, hW, hbs⟩
    have hWl : W.length ≤ 4000 := by rw [HB.out.2.1.length_eq]; omega
    by_cases hjl : j < bs.length
    · obtain ⟨a, ha, hd⟩ := drop_at hjl
      obtain ⟨ad2, c2, e2, -, -, h2⟩ := hbs
      injection e2 with e3 e4 e5
      subst e3 e5
      rcases h2 with h2 | ⟨gb, go, rfl, hr1⟩
      · rw [h2] at hjl; simp at hjl
      have y0 := nu_at hr1 ha
      obtain ⟨x9, hx9, e9⟩ := (HB.out.1.2.2 a).1 (List.mem_of_getElem? ha)
      have hox := HV.out.2 x9 hx9
      have ha0 : 0 ≤ a := by rw [← e9]; exact hox.1
      have ha1 : a ≤ 60000 := by rw [← e9]; exact hox.2.1
      have HT := tooMuch_any wr W cv a hW hWl (fun x hx => HV.out.2 x (HB.out.2.1.mem_iff.1 hx)) ha0 ha1
      rw [judF_at hd] at hac
      clear hd hr1 ha hox hx9 e9 hg hW
      rcases hT : tooF a 0 W with _ | b
      · rw [hT] at HT hac
        dsimp only [Option.getD, Option.isSome] at HT hac
        have HE : Hid (judF W (bs.drop (j + 1)) = judF W bs) := hac
        clear hac hT
        go_wp2_with (go_at_call 18; refine HT.mono ?_; rintro r w7 ⟨rfl, hb7⟩; have H7 : Hid (Below wr.heap.size wr w7) := hb7; clear hb7 HT)
        exact ⟨⟨j + 1, by omega, by simp, HG.out.1.grow H7.out, HG.out.2.1.below H7.out, HG.out.2.2.below H7.out, HE.out⟩, by simp [intOf]; omega⟩
      · rw [hT] at HT hac
        dsimp only [Option.getD, Option.isSome] at HT hac
        have HE : Hid ((a, b, eNone) = judF W bs) := hac
        clear hac hT
        go_wp2_with (go_at_call 18; refine HT.mono ?_; rintro r w7 ⟨rfl, hb7⟩; have H7 : Hid (RB w w7 0 0) := HG.out.1.grow hb7; clear hb7 HT HG; obtain ⟨rs1, rf1, rl1⟩ := cells_of (l := [_, _]) H7.out.res; have r10 := rs1 0 _ rfl; have r11 := rs1 1 _ rfl; have f10 := rf1 0; have f11 := rf1 1; clear rs1 rf1)
        have hx := H7.out.set 13 0
        refine bodyPost_ret (Judge_ends (g := w.heap.size) (c := .int .i64 13) (k := .int .i64 0) hx.res rfl rfl rfl) rfl ?_
        refine ⟨a, b, 13, rfl, ?_, hx.bel⟩
        have hj := judF_spec (l := l) HB.out.2.1 HB.out.2.2 (fun x hx => by have := (HV.out.2 x hx).2.2.1; omega) bs [] HB.out.1.2.1 HB.out.1.2.2 (fun a ha => by simp at ha)
        rw [← HE.out] at hj
        exact hj
    · have hje : j = bs.length := by omega
      subst hje
      have HE : Hid ((0, 0, 0) = judF W bs) := by rw [List.drop_length] at hac; exact hac
      clear hac hg hW hbs
      obtain ⟨rs1, rf1, rl1⟩ := cells_of (l := [_, _]) HG.out.1.res
      have r10 := rs1 0 _ rfl
      have r11 := rs1 1 _ rfl
      have f10 := rf1 0
      have f11 := rf1 1
      clear rs1 rf1
      go_wp2_with fail
      have hx := HG.out.1.set 0 0
      refine bodyPost_ret (Judge_ends (g := w.heap.size) (c := .int .i64 0) (k := .int .i64 0) hx.res rfl rfl rfl) rfl ?_
      refine ⟨0, 0, 0, rfl, ?_, hx.bel⟩
      have hj := judF_spec (l := l) HB.out.2.1 HB.out.2.2 (fun x hx => by have := (HV.out.2 x hx).2.2.1; omega) bs [] HB.out.1.2.1 HB.out.1.2.2 (fun a ha => by simp at ha)
      rw [← HE.out] at hj
      exact hj

/-- edf.Judge. -/
theorem Judge_any (w : World) (l : List Jb) (v : Value) (hv : RowSl Jb.vals w l v) :
    Calls Try.prog 7 #[v] w fun r w' => ∃ a b c k, r = .returned (.tuple #[.int .i64 a, .int .i64 b, .agg #[.int .i64 c, .int .i64 k]]) ∧ JRes l a b c k ∧ Below w.heap.size w w' := by
  by_cases h0 : (chkJ l).1 = 0
  · refine (Judge_good w l v hv h0).mono ?_
    rintro r w' ⟨a, b, c, rfl, h1, h2⟩
    exact ⟨a, b, c, 0, rfl, .inr ⟨h0, rfl, h1⟩, h2⟩
  · refine (Judge_bad w l v hv h0).mono ?_
    rintro r w' ⟨rfl, h2⟩
    exact ⟨0, 0, _, _, rfl, .inl ⟨h0, rfl, rfl, rfl, rfl⟩, h2⟩

end Go.Proofs.Ytdhnjemgnlklkag
