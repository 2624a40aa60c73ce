import Derived.Test.YtccoobcggbbciadDoorRK0
import Derived.Test.YtccoobcggbbciadDoorRH0
import Derived.Test.YtccoobcggbbciadDoorRL0
import Derived.Test.YtccoobcggbbciadDoorTT
namespace Go.Proofs.YtccoobcggbbciadDoor
open Go.ChangeShapes Go.WideShapes Go.ChangeAt Go.RowKit

def threeT : ByteArray := ⟨#[97, 32, 49, 32, 52, 32, 52, 32, 48, 32, 48, 32, 51, 10, 98, 32, 50, 32, 54, 32, 54, 32, 48, 32, 48, 32, 50, 10, 99, 32, 51, 32, 49, 50, 32, 49, 50, 32, 48, 32, 48, 32, 49, 10]⟩
theorem parse_three : parseF threeT.data.toList = (threeL, (0, 0)) := by kernel_rfl
theorem print_three : printF threeL = threeT.data.toList := by
  have := parse_print (text := threeT.data.toList) (by rw [parse_three])
  rw [parse_three] at this
  exact this

/-- A fault's block, with what it holds. -/
structure FV (w W : World) (g : Nat) (z1 z2 : Int) : Prop where
  bel : Below w.heap.size w W
  res : W.heap[g]? = some (.cells #[.int .i64 z1, .int .i64 z2] 37 (0, 0))
  low : w.heap.size ≤ g
theorem FV.grow {w W W' : World} {g : Nat} {z1 z2 : Int} (h : FV w W g z1 z2) (hb : Below W.heap.size W W') : FV w W' g z1 z2 := ⟨below_seq h.bel hb, (hb.block _ (Array.getElem?_eq_some_iff.1 h.res).1).trans h.res, h.low⟩
theorem FV.set {w W : World} {g : Nat} {z1 z2 : Int} (h : FV w W g z1 z2) (a b : Int) : FV w ((W.setCell ⟨g, 0, none⟩ (.int .i64 a)).setCell ⟨g, 1, none⟩ (.int .i64 b)) g a b := ⟨(h.bel.setCell h.low _).setCell h.low _, set_two h.res, h.low⟩
theorem FV.at {w W : World} {g : Nat} {z1 z2 : Int} (h : FV w W g z1 z2) : W.cell? ⟨g, 0, none⟩ = some (.int .i64 z1) ∧ W.cell? ⟨g, 1, none⟩ = some (.int .i64 z2) ∧ W.frozen? ⟨g, 0, none⟩ = false ∧ W.frozen? ⟨g, 1, none⟩ = false ∧ g < W.heap.size := by
  obtain ⟨c, f, l⟩ := cells_of (l := [_, _]) h.res
  exact ⟨c 0 _ rfl, c 1 _ rfl, f 0, f 1, l⟩
theorem FV.start {w W : World} (h : Below w.heap.size w W) (a b : Int) : FV w (W.alloc (.cells #[.int .i64 a, .int .i64 b] 37)) W.heap.size a b := ⟨below_seq h (below_new _ _), heap_alloc_new _ _, h.size⟩
theorem row_set {w W : World} {g : Nat} {z1 z2 : Int} {l : List Ta} {v : Value} (h : FV w W g z1 z2) (hl : RowSl Ta.vals w l v) : RowSl Ta.vals W l v := hl.below h.bel

theorem parse_len (t : List UInt8) : (parseF t).1.length ≤ 100000 := by
  unfold parseF
  split
  · simp
  · split
    · simp
    · split
      · simp
      · rename_i h
        have := (chkF_good (by simpa using h)).2.1
        dsimp only
        omega

/-- A row of tasks lies elsewhere than a fault. -/
theorem row_other {W : World} {g : Nat} {z1 z2 a b : Int} {l : List Ta} {v : Value} (hr : W.heap[g]? = some (.cells #[.int .i64 z1, .int .i64 z2] 37 (0, 0))) (h : RowSl Ta.vals W l v) : RowSl Ta.vals ((W.setCell ⟨g, 0, none⟩ (.int .i64 a)).setCell ⟨g, 1, none⟩ (.int .i64 b)) l v := by
  obtain ⟨ad, c, h1, h2, h3, h4⟩ := h
  refine ⟨ad, c, h1, h2, h3, ?_⟩
  rcases h4 with h4 | ⟨b', o, h5, h6⟩
  · exact .inl h4
  · by_cases hl : l = []
    · exact .inl hl
    refine .inr ⟨b', o, h5, fun q u hq => ?_⟩
    have hne : g ≠ b' := by
      rintro rfl
      cases l with
      | nil => exact hl rfl
      | cons x r =>
        have h7 := h6 0 (.string x.nm) rfl
        have h8 : W.heap[g]? = some (.cells ([Value.int .i64 z1, .int .i64 z2] : List Value).toArray 37 (0, 0)) := hr
        rw [Nat.add_zero] at h7
        rcases Nat.lt_or_ge o 2 with ho | ho
        · have : o = 0 ∨ o = 1 := by omega
          rcases this with rfl | rfl
          · rw [(cells_of h8).1 0 _ rfl] at h7; cases h7
          · rw [(cells_of h8).1 1 _ rfl] at h7; cases h7
        · unfold World.cell? at h7
          simp [h8] at h7
          have h9 := (List.getElem?_eq_some_iff.1 h7).1
          simp at h9
          omega
    rw [World.cell?_setCell_far _ _ _ _ hne, World.cell?_setCell_far _ _ _ _ hne]
    exact h6 q u hq

set_option maxRecDepth 20000 in
set_option maxHeartbeats 8000000 in
theorem reads_walk (w : World) (s : ByteArray) (l : List Ta) (v : Value) (m : Int) (hS : ∀ x ∈ l, x.nm.size ≤ 9223372036854775807) (hg : TaAt w 1 0 noT) (hv : RowSl Ta.vals w l v) (hm : w.cell? ⟨3, 0, none⟩ = some (.int .i64 m)) (h4 : ErrAt w 4) (h5 : ErrAt w 5) (ht : Lib.TabIs Tryd.prog w "internal/strconv.uint64pow10" .u64 Lib.pow10Tab) :
    Calls Tryd.prog 8 #[.string s, v] w fun r w' => r = .returned (.bool true) ∧ Below w.heap.size w w' := by
  obtain ⟨ad, c, rfl⟩ := hv.len
  have HV : Hid ((∀ x ∈ l, x.nm.size ≤ 9223372036854775807) ∧ TaAt w 1 0 noT ∧ RowSl Ta.vals w l (.slice ad l.length c)) := ⟨hS, hg, hv⟩
  have HG : Hid (w.cell? ⟨3, 0, none⟩ = some (.int .i64 m) ∧ ErrAt w 4 ∧ ErrAt w 5 ∧ Lib.TabIs Tryd.prog w "internal/strconv.uint64pow10" .u64 Lib.pow10Tab) := ⟨hm, h4, h5, ht⟩
  clear hS hg hv hm h4 h5 ht
  have HL := LendT_any
  have HT := StillT_any
  unfold Ta.val at HL HT
  have HP1 := Parse_any w threeT m HG.out.1
  unfold ParsePost at HP1
  rw [parse_three] at HP1
  dsimp only at HP1
  have HPr := fun W v (hv : RowSl Ta.vals W threeL v) ht => Print_any W threeL v hv ht
  rw [print_three] at HPr
  unfold threeT at HP1 HPr
  dsimp only at HPr
  go_enter Tryd.func8, Tryd.ntmps8
  go_wp2_with (go_at_call 26; refine HP1.mono ?_; rintro r w1 ⟨v1, rfl, hr1, hb1⟩; have H1 : Hid (FV w (w1.alloc (.cells #[.int .i64 0, .int .i64 0] 37)) w1.heap.size 0 0 ∧ RowSl Ta.vals (w1.alloc (.cells #[.int .i64 0, .int .i64 0] 37)) threeL v1) := ⟨FV.start hb1 0 0, hr1.below (below_new _ _)⟩; clear hr1 hb1 HP1)
  generalize w1.alloc (.cells #[.int .i64 0, .int .i64 0] 37) = w2 at *
  generalize w1.heap.size = g1 at *
  go_wp2_with (go_at_call 20; refine (three_any _).mono ?_; rintro r w3 ⟨v3, rfl, hr3, hb3⟩; have H3 : Hid (FV w w3 g1 0 0 ∧ RowSl Ta.vals w3 threeL v1 ∧ RowSl Ta.vals w3 threeL v3) := ⟨H1.out.1.grow hb3, H1.out.2.below hb3, hr3⟩; clear hr3 hb3 H1)
  go_wp2_with (go_at_call 27; refine (SameT_any w3 threeL v1 v3 (by decide) H3.out.2.1 H3.out.2.2).mono ?_; rintro r w4 ⟨rfl, hb4⟩; have H4 : Hid (FV w w4 g1 0 0) := H3.out.1.grow hb4; clear hb4 H3)
  go_wp2_with (go_at_call 20; refine (three_any _).mono ?_; rintro r w5 ⟨v5, rfl, hr5, hb5⟩; have H5 : Hid (FV w w5 g1 0 0 ∧ RowSl Ta.vals w5 threeL v5) := ⟨H4.out.grow hb5, hr5⟩; clear hr5 hb5 H4)
  by_cases hsz : 65536 < s.size
  · have hsi : (65536 : Int) < (s.size : Int) := by omega
    go_wp2_with (go_at_call 28; refine (HPr w5 v5 H5.out.2 (tab_below HG.out.2.2.2 H5.out.1.bel)).mono ?_; rintro r w6 ⟨rfl, hb6⟩; have H6 : Hid (FV w w6 g1 0 0) := H5.out.1.grow hb6; clear hb6 H5 HPr)
    go_ret
    exact ⟨rfl, H6.out.bel⟩
  have hsi : ¬ (65536 : Int) < (s.size : Int) := by omega
  by_cases hl : l.length ≤ 5000
  rotate_left 1
  · have hl' : decide ((l.length : Int) ≤ 5000) = false := by simp; omega
    go_wp2_with (go_at_call 28; refine (HPr w5 v5 H5.out.2 (tab_below HG.out.2.2.2 H5.out.1.bel)).mono ?_; rintro r w6 ⟨rfl, hb6⟩; have H6 : Hid (FV w w6 g1 0 0) := H5.out.1.grow hb6; clear hb6 H5 HPr)
    go_wp2_with (go_at_call 22; refine (few_any _ _).mono ?_; rintro r w7 ⟨rfl, rfl⟩; rw [hl'])
    go_ret
    exact ⟨rfl, H6.out.bel⟩
  have hl' : decide ((l.length : Int) ≤ 5000) = true := by simp; omega
  go_wp2_with (go_at_call 28; refine (HPr w5 v5 H5.out.2 (tab_below HG.out.2.2.2 H5.out.1.bel)).mono ?_; rintro r w6 ⟨rfl, hb6⟩; have H6 : Hid (FV w w6 g1 0 0) := H5.out.1.grow hb6; clear hb6 H5 HPr)
  go_wp2_with (go_at_call 22; refine (few_any _ _).mono ?_; rintro r w7 ⟨rfl, rfl⟩; rw [hl'])
  have HP2 := Parse_any w7 s m (below_cell H6.out.bel HG.out.1)
  have HPS : Hid ((parseF s.data.toList).2.1 = 0 → printF (parseF s.data.toList).1 = s.data.toList) := fun h => parse_print h
  have HPL : Hid ((parseF s.data.toList).1.length ≤ 100000) := parse_len s.data.toList
  have HR2 := fun W hm h4 h5 ht => ReadSet_any W s m hm h4 h5 ht
  unfold ParsePost at HP2 HR2
  generalize parseF s.data.toList = pr at *
  obtain ⟨pl, z1, z2⟩ := pr
  dsimp only at HP2 HR2 HPS HPL
  go_wp2_with (go_at_call 26; refine HP2.mono ?_; rintro r w8 ⟨v8, rfl, hr8, hb8⟩; have h8 := H6.out.grow hb8; have H8 : Hid (FV w ((w8.setCell ⟨g1, 0, none⟩ (.int .i64 z1)).setCell ⟨g1, 1, none⟩ (.int .i64 z2)) g1 z1 z2 ∧ RowSl Ta.vals ((w8.setCell ⟨g1, 0, none⟩ (.int .i64 z1)).setCell ⟨g1, 1, none⟩ (.int .i64 z2)) pl v8) := ⟨h8.set z1 z2, row_other h8.res hr8⟩; obtain ⟨a0, a1, a2, a3, a4⟩ := h8.at; clear h8 hr8 hb8 H6 HP2)
  clear a0 a1 a2 a3 a4
  generalize (w8.setCell ⟨g1, 0, none⟩ (.int .i64 z1)).setCell ⟨g1, 1, none⟩ (.int .i64 z2) = w9 at *
  have hb9 := H8.out.1.bel
  have HR3 := HR2 w9 (below_cell hb9 HG.out.1) (HG.out.2.1.below hb9) (HG.out.2.2.1.below hb9) (tab_below HG.out.2.2.2 hb9)
  clear hb9 HR2
  go_wp2_with (go_at_call 29; refine HR3.mono ?_; rintro r wa ⟨va, rfl, hra, hba⟩; have HA : Hid (FV w (wa.alloc (.cells #[.int .i64 z1, .int .i64 z2] 37)) g1 z1 z2 ∧ FV w (wa.alloc (.cells #[.int .i64 z1, .int .i64 z2] 37)) wa.heap.size z1 z2 ∧ RowSl Ta.vals (wa.alloc (.cells #[.int .i64 z1, .int .i64 z2] 37)) pl v8 ∧ RowSl Ta.vals (wa.alloc (.cells #[.int .i64 z1, .int .i64 z2] 37)) pl va) := ⟨(H8.out.1.grow hba).grow (below_new _ _), FV.start (H8.out.1.grow hba).bel z1 z2, (H8.out.2.below hba).below (below_new _ _), hra.below (below_new _ _)⟩; obtain ⟨b0, b1, -, -, b4⟩ := HA.out.1.at; obtain ⟨c0, c1, -, -, c4⟩ := HA.out.2.1.at; clear hra hba H8 HR3)
  generalize wa.alloc (.cells #[.int .i64 z1, .int .i64 z2] 37) = wb at *
  generalize wa.heap.size = g2 at *
  have HP4 : Hid (∀ (W : World) (u : Value), RowSl Ta.vals W l u → Lib.TabIs Tryd.prog W "internal/strconv.uint64pow10" .u64 Lib.pow10Tab → Calls Tryd.prog 28 #[u] W fun r w' => r = .returned (.string ⟨(printF l).toArray⟩) ∧ Below W.heap.size W w') := fun W u h1 h2 => Print_any W l u h1 h2
  have HP5 : Hid (∀ (W : World) (u : Value), RowSl Ta.vals W l u → Lib.TabIs Tryd.prog W "internal/strconv.uint64pow10" .u64 Lib.pow10Tab → Calls Tryd.prog 30 #[u] W fun r w' => r = .returned (.string ⟨(printF l).toArray⟩) ∧ Below W.heap.size W w') := fun W u h1 h2 => ShowSet_any W l u HV.out.1 h1 h2
  have HP6 : Hid (∀ (W : World), Below w.heap.size w W → printF l ≠ [] → Calls Tryd.prog 26 #[.string ⟨(printF l).toArray⟩] W fun r w' => ∃ v, r = .returned (.tuple #[v, .agg #[.int .i64 0, .int .i64 0]]) ∧ RowSl Ta.vals w' l v ∧ Below W.heap.size W w') := by
    have h9 : ∀ (W : World), Below w.heap.size w W → printF l ≠ [] → Calls Tryd.prog 26 #[.string ⟨(printF l).toArray⟩] W fun r w' => ∃ v, r = .returned (.tuple #[v, .agg #[.int .i64 0, .int .i64 0]]) ∧ RowSl Ta.vals w' l v ∧ Below W.heap.size W w' := fun W hb hn => by
      have h := Parse_any W ⟨(printF l).toArray⟩ m (below_cell hb HG.out.1)
      unfold ParsePost at h
      rw [back_list, print_parse hn] at h
      exact h
    exact h9
  obtain ⟨sp, hsp⟩ : ∃ sp : ByteArray, ⟨(printF l).toArray⟩ = sp := ⟨_, rfl⟩
  have hsl : printF l = sp.data.toList := by rw [← hsp, back_list]
  rw [hsp, hsl] at HP6
  rw [hsp] at HP4 HP5
  clear hsp hsl
  by_cases hz : z1 = 0
  rotate_left 1
  · have hzn : (z1 == 0) = false := by simpa using hz
    go_wp2_with (go_at_call 27; refine (SameT_any wb pl v8 va HPL.out HA.out.2.2.1 HA.out.2.2.2).mono ?_; rintro r wc ⟨rfl, hbc⟩; have HC : Hid (FV w wc g1 z1 z2) := HA.out.1.grow hbc; obtain ⟨d0, d1, -, -, d4⟩ := HC.out.at; clear hbc HA; obtain ⟨e0, e1, e2, e3, e4, e5, e6⟩ := HV.out.2.1.below HC.out.bel)
    go_wp2_with (go_at_call 23; refine (HL _ l noT _ (by omega) (HV.out.2.2.below HC.out.bel)).mono ?_; rintro r we ⟨u6, rfl, hlent, hbe⟩; have HE : Hid (Below w.heap.size w we ∧ Lent Ta.vals we l noT u6) := ⟨below_seq (HC.out.bel) hbe, hlent⟩; clear e0 e1 e2 e3 e4 e5 e6 hlent hbe)
    go_wp2_with (go_at_call 28; refine (HP4.out we u6 HE.out.2.plain (tab_below HG.out.2.2.2 HE.out.1)).mono ?_; rintro r wf ⟨rfl, hbf⟩; have HF : Hid (Below w.heap.size w wf ∧ Lent Ta.vals wf l noT u6) := ⟨below_seq HE.out.1 hbf, HE.out.2.below hbf⟩; clear hbf HE)
    go_wp2_with (go_at_call 30; refine (HP5.out wf _ (HV.out.2.2.below HF.out.1) (tab_below HG.out.2.2.2 HF.out.1)).mono ?_; rintro r wg ⟨rfl, hbg⟩; have HGG : Hid (Below w.heap.size w wg ∧ Lent Ta.vals wg l noT u6) := ⟨below_seq HF.out.1 hbg, HF.out.2.below hbg⟩; clear hbg HF; obtain ⟨e0, e1, e2, e3, e4, e5, e6⟩ := HV.out.2.1.below HGG.out.1)
    by_cases hem : sp.data.toList = []
    · have hem2 : sp.toList.isEmpty = true := by rw [ByteArray.toList_eq, hem]; rfl
      go_wp2_with (go_at_call 25; refine (HT _ l noT _ _ (by omega) HGG.out.2 (HV.out.2.2.below HGG.out.1)).mono ?_; rintro r wh ⟨rfl, hbh⟩; have HH : Hid (Below w.heap.size w wh) := below_seq HGG.out.1 hbh; clear hbh)
      go_ret
      exact ⟨rfl, HH.out⟩
    · have hem2 : sp.toList.isEmpty = false := by
        rw [ByteArray.toList_eq]
        cases hd : sp.data.toList with
        | nil => exact absurd hd hem
        | cons a r => rfl
      have HEM : Hid (sp.data.toList ≠ []) := hem
      clear hem
      go_wp2_with (go_at_call 25; refine (HT _ l noT _ _ (by omega) HGG.out.2 (HV.out.2.2.below HGG.out.1)).mono ?_; rintro r wh ⟨rfl, hbh⟩; have HH : Hid (Below w.heap.size w wh) := below_seq HGG.out.1 hbh; clear hbh)
      go_wp2_with (go_at_call 26; refine (HP6.out wh HH.out HEM.out).mono ?_; rintro r wi ⟨vi, rfl, hri, hbi⟩; have HI : Hid (Below w.heap.size w (wi.alloc (.cells #[.int .i64 0, .int .i64 0] 37)) ∧ RowSl Ta.vals (wi.alloc (.cells #[.int .i64 0, .int .i64 0] 37)) l vi) := ⟨below_seq (below_seq HH.out hbi) (below_new _ _), hri.below (below_new _ _)⟩; clear hri hbi)
      go_wp2_with (go_at_call 27; refine (SameT_any _ l vi _ (by omega) HI.out.2 (HV.out.2.2.below HI.out.1)).mono ?_; rintro r wj ⟨rfl, hbj⟩; have HJ : Hid (Below w.heap.size w wj) := below_seq HI.out.1 hbj; clear hbj)
      go_ret
      exact ⟨rfl, HJ.out⟩
  · subst hz
    have hps := HPS.out rfl
    have HPp := fun W v (hv : RowSl Ta.vals W pl v) ht => Print_any W pl v hv ht
    have hse : (⟨s.data.toList.toArray⟩ : ByteArray) = s := bytes_same (back_list _)
    rw [hps, hse] at HPp
    clear hps hse
    go_wp2_with (go_at_call 27; refine (SameT_any wb pl v8 va HPL.out HA.out.2.2.1 HA.out.2.2.2).mono ?_; rintro r wc ⟨rfl, hbc⟩; have HC : Hid (FV w wc g1 0 z2 ∧ RowSl Ta.vals wc pl v8) := ⟨HA.out.1.grow hbc, HA.out.2.2.1.below hbc⟩; obtain ⟨d0, d1, -, -, d4⟩ := HC.out.1.at; clear hbc HA)
    go_wp2_with (go_at_call 28; refine (HPp wc v8 HC.out.2 (tab_below HG.out.2.2.2 HC.out.1.bel)).mono ?_; rintro r wd ⟨rfl, hbd⟩; have HD : Hid (Below w.heap.size w wd) := below_seq HC.out.1.bel hbd; clear hbd HC HPp; obtain ⟨e0, e1, e2, e3, e4, e5, e6⟩ := HV.out.2.1.below HD.out)
    go_wp2_with (go_at_call 23; refine (HL _ l noT _ (by omega) (HV.out.2.2.below HD.out)).mono ?_; rintro r we ⟨u6, rfl, hlent, hbe⟩; have HE : Hid (Below w.heap.size w we ∧ Lent Ta.vals we l noT u6) := ⟨below_seq (HD.out) hbe, hlent⟩; clear e0 e1 e2 e3 e4 e5 e6 hlent hbe)
    go_wp2_with (go_at_call 28; refine (HP4.out we u6 HE.out.2.plain (tab_below HG.out.2.2.2 HE.out.1)).mono ?_; rintro r wf ⟨rfl, hbf⟩; have HF : Hid (Below w.heap.size w wf ∧ Lent Ta.vals wf l noT u6) := ⟨below_seq HE.out.1 hbf, HE.out.2.below hbf⟩; clear hbf HE)
    go_wp2_with (go_at_call 30; refine (HP5.out wf _ (HV.out.2.2.below HF.out.1) (tab_below HG.out.2.2.2 HF.out.1)).mono ?_; rintro r wg ⟨rfl, hbg⟩; have HGG : Hid (Below w.heap.size w wg ∧ Lent Ta.vals wg l noT u6) := ⟨below_seq HF.out.1 hbg, HF.out.2.below hbg⟩; clear hbg HF; obtain ⟨e0, e1, e2, e3, e4, e5, e6⟩ := HV.out.2.1.below HGG.out.1)
    by_cases hem : sp.data.toList = []
    · have hem2 : sp.toList.isEmpty = true := by rw [ByteArray.toList_eq, hem]; rfl
      go_wp2_with (go_at_call 25; refine (HT _ l noT _ _ (by omega) HGG.out.2 (HV.out.2.2.below HGG.out.1)).mono ?_; rintro r wh ⟨rfl, hbh⟩; have HH : Hid (Below w.heap.size w wh) := below_seq HGG.out.1 hbh; clear hbh)
      go_ret
      exact ⟨rfl, HH.out⟩
    · have hem2 : sp.toList.isEmpty = false := by
        rw [ByteArray.toList_eq]
        cases hd : sp.data.toList with
        | nil => exact absurd hd hem
        | cons a r => rfl
      have HEM : Hid (sp.data.toList ≠ []) := hem
      clear hem
      go_wp2_with (go_at_call 25; refine (HT _ l noT _ _ (by omega) HGG.out.2 (HV.out.2.2.below HGG.out.1)).mono ?_; rintro r wh ⟨rfl, hbh⟩; have HH : Hid (Below w.heap.size w wh) := below_seq HGG.out.1 hbh; clear hbh)
      go_wp2_with (go_at_call 26; refine (HP6.out wh HH.out HEM.out).mono ?_; rintro r wi ⟨vi, rfl, hri, hbi⟩; have HI : Hid (Below w.heap.size w (wi.alloc (.cells #[.int .i64 0, .int .i64 0] 37)) ∧ RowSl Ta.vals (wi.alloc (.cells #[.int .i64 0, .int .i64 0] 37)) l vi) := ⟨below_seq (below_seq HH.out hbi) (below_new _ _), hri.below (below_new _ _)⟩; clear hri hbi)
      go_wp2_with (go_at_call 27; refine (SameT_any _ l vi _ (by omega) HI.out.2 (HV.out.2.2.below HI.out.1)).mono ?_; rintro r wj ⟨rfl, hbj⟩; have HJ : Hid (Below w.heap.size w wj) := below_seq HI.out.1 hbj; clear hbj)
      go_ret
      exact ⟨rfl, HJ.out⟩
end Go.Proofs.YtccoobcggbbciadDoor
