import Derived.Test.YtccoobcggbbciakDoorKX0
import Derived.Test.YtccoobcggbbciakDoorKY0
import Derived.Test.YtccoobcggbbciakDoorKB1
namespace Go.Proofs.YtccoobcggbbciakDoor
open Go.ChangeShapes Go.WideShapes Go.ChangeAt Go.RowKit

def threeL : List Ev := [⟨0, 1, 1, 0, 0⟩, ⟨0, 2, 1, 0, 0⟩, ⟨11, 6, 1, 2, 5⟩]
def threeT : ByteArray := ⟨#[48, 32, 99, 111, 109, 101, 32, 49, 32, 48, 10, 48, 32, 114, 117, 110, 32, 49, 32, 48, 10, 49, 49, 32, 112, 117, 116, 32, 49, 32, 50, 32, 53, 10]⟩
theorem read_three : readE threeT.data.toList = (threeL, (0, 0)) := by kernel_rfl
theorem print_three : printE threeL = threeT.data.toList := by
  have := read_print (text := threeT.data.toList) (by rw [read_three])
  rw [read_three] at this
  exact this
theorem three_in : ∀ x ∈ threeL, inE x := by
  unfold threeL inE
  simp

/-- A fault's block, with what it holds. -/
structure FV (w W : World) (g : Nat) (z1 z2 : Int) : Prop where
  bel : Below w.heap.size w W
  res : W.heap[g]? = some (.cells #[.int .i64 z1, .int .i64 z2] 27 (0, 0))
  low : w.heap.size ≤ g
theorem FV.grow {w W W' : World} {g : Nat} {z1 z2 : Int} (h : FV w W g z1 z2) (hb : Below W.heap.size W W') : FV w W' g z1 z2 := ⟨below_seq h.bel hb, (hb.block _ (Array.getElem?_eq_some_iff.1 h.res).1).trans h.res, h.low⟩
theorem FV.set {w W : World} {g : Nat} {z1 z2 : Int} (h : FV w W g z1 z2) (a b : Int) : FV w ((W.setCell ⟨g, 0, none⟩ (.int .i64 a)).setCell ⟨g, 1, none⟩ (.int .i64 b)) g a b := ⟨(h.bel.setCell h.low _).setCell h.low _, set_two h.res, h.low⟩
theorem FV.at {w W : World} {g : Nat} {z1 z2 : Int} (h : FV w W g z1 z2) : W.cell? ⟨g, 0, none⟩ = some (.int .i64 z1) ∧ W.cell? ⟨g, 1, none⟩ = some (.int .i64 z2) ∧ W.frozen? ⟨g, 0, none⟩ = false ∧ W.frozen? ⟨g, 1, none⟩ = false ∧ g < W.heap.size := by
  obtain ⟨c, f, l⟩ := cells_of (l := [_, _]) h.res
  exact ⟨c 0 _ rfl, c 1 _ rfl, f 0, f 1, l⟩
theorem FV.start {w W : World} (h : Below w.heap.size w W) (a b : Int) : FV w (W.alloc (.cells #[.int .i64 a, .int .i64 b] 27)) W.heap.size a b := ⟨below_seq h (below_new _ _), heap_alloc_new _ _, h.size⟩

theorem scan_len : ∀ (ps : List (List UInt8)) (acc : List Ev), (scanE ps acc).1.length ≤ acc.length + ps.length
  | [], acc => by rw [scanE]; simp
  | [z], acc => by
    rw [scanE]
    split <;> simp
  | a :: b :: r, acc => by
    rw [scanE]
    split
    · simp
    · split
      · have := scan_len (b :: r) (acc ++ [‹Ev›])
        rw [List.length_append] at this
        simp at this ⊢
        omega
      · simp

theorem read_len (t : List UInt8) : (readE t).1.length ≤ t.length + 1 := by
  unfold readE
  have h1 := scan_len (pcs 10 t) []
  have h2 := pcs_count (c := 10) t
  simp at h1
  omega

theorem scan_in : ∀ (ps : List (List UInt8)) (acc : List Ev), (∀ x ∈ acc, inE x) → ∀ x ∈ (scanE ps acc).1, inE x
  | [], acc, h => by rw [scanE]; exact h
  | [z], acc, h => by
    rw [scanE]
    split
    · exact h
    · simp
  | a :: b :: r, acc, h => by
    rw [scanE]
    split
    · simp
    · rename_i e ha
      split
      · refine scan_in (b :: r) (acc ++ [e]) (fun x hx => ?_)
        rcases List.mem_append.1 hx with h1 | h1
        · exact h x h1
        · rw [List.mem_singleton.1 h1, (acceptF_is ha).1]
          exact candF_in a
      · simp

theorem read_in (t : List UInt8) : ∀ x ∈ (readE t).1, inE x := by
  unfold readE
  exact scan_in (pcs 10 t) [] (fun x hx => by simp at hx)

/-- A row of events lies elsewhere than a fault. -/
theorem row_other {W : World} {g : Nat} {z1 z2 a b : Int} {l : List Ev} {v : Value} (hr : W.heap[g]? = some (.cells #[.int .i64 z1, .int .i64 z2] 27 (0, 0))) (h : RowSl Ev.vals W l v) : RowSl Ev.vals ((W.setCell ⟨g, 0, none⟩ (.int .i64 a)).setCell ⟨g, 1, none⟩ (.int .i64 b)) l v := by
  obtain ⟨ad, c, h1, h2, h3, h4⟩ := h
  refine ⟨ad, c, h1, h2, h3, ?_⟩
  rcases h4 with h4 | ⟨b', o, h5, h6⟩
  · exact .inl h4
  · by_cases hl : l = []
    · exact .inl hl
    refine .inr ⟨b', o, h5, fun q u hq => ?_⟩
    have hne : g ≠ b' := by
      rintro rfl
      cases l with
      | nil => exact hl rfl
      | cons x r =>
        have h7 := h6 4 (.int .i64 x.n) rfl
        have h8 : W.heap[g]? = some (.cells ([Value.int .i64 z1, .int .i64 z2] : List Value).toArray 27 (0, 0)) := hr
        unfold World.cell? at h7
        simp [h8] at h7
    rw [World.cell?_setCell_far _ _ _ _ hne, World.cell?_setCell_far _ _ _ _ hne]
    exact h6 q u hq

theorem print_len {l : List Ev} (hI : ∀ x ∈ l, inE x) (hl : l.length ≤ 5000) : (printE l).length ≤ 505000 := by
  unfold printE
  split
  · rename_i ho
    have := lines_len l (fun x hx => ⟨ok_stands ho x hx, hI x hx⟩)
    omega
  · simp

set_option maxRecDepth 20000 in
set_option maxHeartbeats 8000000 in
theorem logs_walk (w : World) (s : ByteArray) (l : List Ev) (v : Value) (hI : ∀ x ∈ l, inE x) (hg : EvAt w 0 0 noE) (hv : RowSl Ev.vals w l v) (hG : Gr w) :
    Calls Tryd.prog 3 #[.string s, v] w fun r w' => r = .returned (.bool true) ∧ Below w.heap.size w w' := by
  obtain ⟨ad, c, rfl⟩ := hv.len
  have HV : Hid ((∀ x ∈ l, inE x) ∧ EvAt w 0 0 noE ∧ RowSl Ev.vals w l (.slice ad l.length c)) := ⟨hI, hg, hv⟩
  have HG : Hid (Gr w) := hG
  clear hI hg hv hG
  have HL := LendE_any
  have HT := StillE_any
  unfold Ev.val at HL HT
  have H0 : Hid (Below w.heap.size w (w.alloc (.cells #[.int .i64 0, .int .i64 1, .int .i64 1, .int .i64 0, .int .i64 0, .int .i64 0, .int .i64 2, .int .i64 1, .int .i64 0, .int .i64 0, .int .i64 11, .int .i64 6, .int .i64 1, .int .i64 2, .int .i64 5] 24)) ∧ RowSl Ev.vals (w.alloc (.cells #[.int .i64 0, .int .i64 1, .int .i64 1, .int .i64 0, .int .i64 0, .int .i64 0, .int .i64 2, .int .i64 1, .int .i64 0, .int .i64 0, .int .i64 11, .int .i64 6, .int .i64 1, .int .i64 2, .int .i64 5] 24)) threeL (.slice (some ⟨w.heap.size, 0, none⟩) 3 3)) := ⟨below_new _ _, ⟨_, 3, rfl, (fun e => by cases e), by decide, .inr ⟨w.heap.size, 0, rfl, fun q u hq => by rw [Nat.zero_add]; exact (cells_of (l := threeL.flatMap Ev.vals) (heap_alloc_new _ _)).1 q u hq⟩⟩⟩
  have HP1 := ParseK_any (w.alloc (.cells #[.int .i64 0, .int .i64 1, .int .i64 1, .int .i64 0, .int .i64 0, .int .i64 0, .int .i64 2, .int .i64 1, .int .i64 0, .int .i64 0, .int .i64 11, .int .i64 6, .int .i64 1, .int .i64 2, .int .i64 5] 24)) threeT (by decide) (HG.out.below H0.out.1)
  unfold ReadPost at HP1
  rw [read_three] at HP1
  dsimp only at HP1
  have HPr := fun W v (hv : RowSl Ev.vals W threeL v) hg => PrintK_any W threeL v hv hg three_in (by decide)
  rw [print_three] at HPr
  unfold threeT at HP1 HPr
  dsimp only at HPr
  go_enter Tryd.func3, Tryd.ntmps3
  go_upto_region 2 with fail
  generalize w.alloc (.cells #[.int .i64 0, .int .i64 1, .int .i64 1, .int .i64 0, .int .i64 0, .int .i64 0, .int .i64 2, .int .i64 1, .int .i64 0, .int .i64 0, .int .i64 11, .int .i64 6, .int .i64 1, .int .i64 2, .int .i64 5] 24) = w0 at *
  go_wp2_with (go_at_call 5; refine HP1.mono ?_; rintro r w1 ⟨v1, rfl, hr1, hb1⟩; have hbw1 := below_seq H0.out.1 hb1; have H1 : Hid (FV w (w1.alloc (.cells #[.int .i64 0, .int .i64 0] 27)) w1.heap.size 0 0 ∧ RowSl Ev.vals (w1.alloc (.cells #[.int .i64 0, .int .i64 0] 27)) threeL v1 ∧ RowSl Ev.vals (w1.alloc (.cells #[.int .i64 0, .int .i64 0] 27)) threeL (.slice (some ⟨w.heap.size, 0, none⟩) 3 3)) := ⟨FV.start hbw1 0 0, hr1.below (below_new _ _), (H0.out.2.below hb1).below (below_new _ _)⟩; clear hr1 hb1 hbw1 HP1)
  generalize w1.alloc (.cells #[.int .i64 0, .int .i64 0] 27) = w2 at *
  generalize w1.heap.size = g1 at *
  go_wp2_with (go_at_call 6; refine (SameE_any w2 threeL v1 _ (by decide) H1.out.2.1 H1.out.2.2).mono ?_; rintro r w4 ⟨rfl, hb4⟩; have H5 : Hid (FV w w4 g1 0 0 ∧ RowSl Ev.vals w4 threeL (.slice (some ⟨w.heap.size, 0, none⟩) 3 3)) := ⟨H1.out.1.grow hb4, H1.out.2.2.below hb4⟩; clear hb4 H1)
  by_cases hsz : 65536 < s.size
  · have hsi : (65536 : Int) < (s.size : Int) := by omega
    go_wp2_with (go_at_call 7; refine (HPr w4 _ H5.out.2 (HG.out.below H5.out.1.bel)).mono ?_; rintro r w6 ⟨rfl, hb6⟩; have H6 : Hid (FV w w6 g1 0 0) := H5.out.1.grow hb6; clear hb6 H5 HPr)
    go_ret
    exact ⟨rfl, H6.out.bel⟩
  have hsi : ¬ (65536 : Int) < (s.size : Int) := by omega
  by_cases hl : l.length ≤ 5000
  rotate_left 1
  · have hl' : decide ((l.length : Int) ≤ 5000) = false := by simp; omega
    go_wp2_with (go_at_call 7; refine (HPr w4 _ H5.out.2 (HG.out.below H5.out.1.bel)).mono ?_; rintro r w6 ⟨rfl, hb6⟩; have H6 : Hid (FV w w6 g1 0 0) := H5.out.1.grow hb6; clear hb6 H5 HPr)
    go_wp2_with (go_at_call 8; refine (few_any _ _).mono ?_; rintro r w7 ⟨rfl, rfl⟩; rw [hl'])
    go_ret
    exact ⟨rfl, H6.out.bel⟩
  have hl' : decide ((l.length : Int) ≤ 5000) = true := by simp; omega
  go_wp2_with (go_at_call 7; refine (HPr w4 _ H5.out.2 (HG.out.below H5.out.1.bel)).mono ?_; rintro r w6 ⟨rfl, hb6⟩; have H6 : Hid (FV w w6 g1 0 0) := H5.out.1.grow hb6; clear hb6 H5 HPr)
  go_wp2_with (go_at_call 8; refine (few_any _ _).mono ?_; rintro r w7 ⟨rfl, rfl⟩; rw [hl'])
  have HP2 := ParseK_any w7 s (by omega) (HG.out.below H6.out.bel)
  have HPS : Hid ((readE s.data.toList).2.1 = 0 → printE (readE s.data.toList).1 = s.data.toList) := fun h => read_print h
  have hpl := read_len s.data.toList
  rw [size_list] at hpl
  have HPL : Hid ((readE s.data.toList).1.length ≤ 100000 ∧ ∀ x ∈ (readE s.data.toList).1, inE x) := ⟨by omega, read_in s.data.toList⟩
  have HR2 := fun W hg => ReadLog_any W s (by omega) hg
  clear hpl
  unfold ReadPost at HP2 HR2
  generalize readE s.data.toList = pr at *
  obtain ⟨pl, z1, z2⟩ := pr
  dsimp only at HP2 HR2 HPS HPL
  go_wp2_with (go_at_call 5; refine HP2.mono ?_; rintro r w8 ⟨v8, rfl, hr8, hb8⟩; have h8 := H6.out.grow hb8; have H8 : Hid (FV w ((w8.setCell ⟨g1, 0, none⟩ (.int .i64 z1)).setCell ⟨g1, 1, none⟩ (.int .i64 z2)) g1 z1 z2 ∧ RowSl Ev.vals ((w8.setCell ⟨g1, 0, none⟩ (.int .i64 z1)).setCell ⟨g1, 1, none⟩ (.int .i64 z2)) pl v8) := ⟨h8.set z1 z2, row_other h8.res hr8⟩; obtain ⟨a0, a1, a2, a3, a4⟩ := h8.at; clear h8 hr8 hb8 H6 HP2)
  clear a0 a1 a2 a3 a4
  generalize (w8.setCell ⟨g1, 0, none⟩ (.int .i64 z1)).setCell ⟨g1, 1, none⟩ (.int .i64 z2) = w9 at *
  have HR3 := HR2 w9 (HG.out.below H8.out.1.bel)
  clear HR2
  go_wp2_with (go_at_call 9; refine HR3.mono ?_; rintro r wa ⟨va, rfl, hra, hba⟩; have HA : Hid (FV w (wa.alloc (.cells #[.int .i64 z1, .int .i64 z2] 27)) g1 z1 z2 ∧ FV w (wa.alloc (.cells #[.int .i64 z1, .int .i64 z2] 27)) wa.heap.size z1 z2 ∧ RowSl Ev.vals (wa.alloc (.cells #[.int .i64 z1, .int .i64 z2] 27)) pl v8 ∧ RowSl Ev.vals (wa.alloc (.cells #[.int .i64 z1, .int .i64 z2] 27)) pl va) := ⟨(H8.out.1.grow hba).grow (below_new _ _), FV.start (H8.out.1.grow hba).bel z1 z2, (H8.out.2.below hba).below (below_new _ _), hra.below (below_new _ _)⟩; obtain ⟨b0, b1, -, -, b4⟩ := HA.out.1.at; obtain ⟨c0, c1, -, -, c4⟩ := HA.out.2.1.at; clear hra hba H8 HR3)
  generalize wa.alloc (.cells #[.int .i64 z1, .int .i64 z2] 27) = wb at *
  generalize wa.heap.size = g2 at *
  have HP4 : Hid (∀ (W : World) (u : Value), RowSl Ev.vals W l u → Gr W → Calls Tryd.prog 7 #[u] W fun r w' => r = .returned (.string ⟨(printE l).toArray⟩) ∧ Below W.heap.size W w') := fun W u h1 h2 => PrintK_any W l u h1 h2 HV.out.1 (by omega)
  have HP5 : Hid (∀ (W : World) (u : Value), RowSl Ev.vals W l u → Gr W → Calls Tryd.prog 11 #[u] W fun r w' => r = .returned (.string ⟨(printE l).toArray⟩) ∧ Below W.heap.size W w') := fun W u h1 h2 => ShowLog_any W l u h1 h2 HV.out.1 (by omega)
  have HP6 : Hid (∀ (W : World), Gr W → Calls Tryd.prog 5 #[.string ⟨(printE l).toArray⟩] W fun r w' => ∃ v l', r = .returned (.tuple #[v, .agg #[.int .i64 0, .int .i64 0]]) ∧ RowSl Ev.vals w' l' v ∧ Below W.heap.size W w' ∧ (printE l ≠ [] → l' = l)) := by
    have h9 : ∀ (W : World), Gr W → Calls Tryd.prog 5 #[.string ⟨(printE l).toArray⟩] W fun r w' => ∃ v l', r = .returned (.tuple #[v, .agg #[.int .i64 0, .int .i64 0]]) ∧ RowSl Ev.vals w' l' v ∧ Below W.heap.size W w' ∧ (printE l ≠ [] → l' = l) := fun W hg => by
      have hpz := print_len HV.out.1 hl
      have h := ParseK_any W ⟨(printE l).toArray⟩ (by rw [back_size]; omega) hg
      unfold ReadPost at h
      rw [back_list] at h
      by_cases hn : printE l = []
      · rw [hn, show readE [] = ([], (0, 0)) from rfl] at h
        rw [hn]
        refine Calls.mono h ?_
        rintro r w' ⟨v, rfl, h1, h2⟩
        exact ⟨v, [], rfl, h1, h2, fun e => absurd rfl e⟩
      · rw [print_read hn HV.out.1] at h
        refine Calls.mono h ?_
        rintro r w' ⟨v, rfl, h1, h2⟩
        exact ⟨v, l, rfl, h1, h2, fun _ => rfl⟩
    exact h9
  obtain ⟨sp, hsp⟩ : ∃ sp : ByteArray, ⟨(printE l).toArray⟩ = sp := ⟨_, rfl⟩
  have hsl : printE l = sp.data.toList := by rw [← hsp, back_list]
  rw [hsp, hsl] at HP6
  rw [hsp] at HP4 HP5
  clear hsp hsl
  by_cases hz : z1 = 0
  rotate_left 1
  · have hzn : (z1 == 0) = false := by simpa using hz
    go_wp2_with (go_at_call 6; refine (SameE_any wb pl v8 va HPL.out.1 HA.out.2.2.1 HA.out.2.2.2).mono ?_; rintro r wc ⟨rfl, hbc⟩; have HD : Hid (FV w wc g1 z1 z2) := HA.out.1.grow hbc; obtain ⟨d0, d1, -, -, d4⟩ := HD.out.at; clear hbc HA; obtain ⟨e0, e1, e2, e3, e4⟩ := HV.out.2.1.below HD.out.bel)
    go_wp2_with (go_at_call 10; refine (HL _ l noE _ (by omega) (HV.out.2.2.below HD.out.bel)).mono ?_; rintro r we ⟨u6, rfl, hlent, hbe⟩; have HE : Hid (FV w we g1 z1 z2 ∧ Lent Ev.vals we l noE u6) := ⟨HD.out.grow hbe, hlent⟩; clear e0 e1 e2 e3 e4 hlent hbe)
    go_wp2_with (go_at_call 7; refine (HP4.out we u6 HE.out.2.plain (HG.out.below HE.out.1.bel)).mono ?_; rintro r wf ⟨rfl, hbf⟩; have HF : Hid (FV w wf g1 z1 z2 ∧ Lent Ev.vals wf l noE u6) := ⟨HE.out.1.grow hbf, HE.out.2.below hbf⟩; clear hbf HE)
    go_wp2_with (go_at_call 11; refine (HP5.out wf _ (HV.out.2.2.below HF.out.1.bel) (HG.out.below HF.out.1.bel)).mono ?_; rintro r wg ⟨rfl, hbg⟩; have HGG : Hid (FV w wg g1 z1 z2 ∧ Lent Ev.vals wg l noE u6) := ⟨HF.out.1.grow hbg, HF.out.2.below hbg⟩; clear hbg HF; obtain ⟨e0, e1, e2, e3, e4⟩ := HV.out.2.1.below HGG.out.1.bel)
    go_wp2_with (go_at_call 12; refine (HT _ l noE _ _ (by omega) HGG.out.2 (HV.out.2.2.below HGG.out.1.bel)).mono ?_; rintro r wh ⟨rfl, hbh⟩; have HH : Hid (FV w wh g1 z1 z2) := HGG.out.1.grow hbh; clear hbh HGG)
    by_cases hem : sp.data.toList = []
    · have hem2 : sp.toList.isEmpty = true := by rw [ByteArray.toList_eq, hem]; rfl
      clear hem
      go_wp2_with (go_at_call 5; refine (HP6.out wh (HG.out.below HH.out.bel)).mono ?_; rintro r wi ⟨vi, li, rfl, hri, hbi, hli⟩; have hhi := HH.out.grow hbi; have HI : Hid (FV w ((wi.setCell ⟨g1, 0, none⟩ (.int .i64 0)).setCell ⟨g1, 1, none⟩ (.int .i64 0)) g1 0 0 ∧ RowSl Ev.vals ((wi.setCell ⟨g1, 0, none⟩ (.int .i64 0)).setCell ⟨g1, 1, none⟩ (.int .i64 0)) li vi ∧ (sp.data.toList ≠ [] → li = l)) := ⟨hhi.set 0 0, row_other hhi.res hri, hli⟩; obtain ⟨a0, a1, a2, a3, a4⟩ := hhi.at; clear hhi hri hbi hli HH)
      go_ret
      exact ⟨rfl, HI.out.1.bel⟩
    · have hem2 : sp.toList.isEmpty = false := by
        rw [ByteArray.toList_eq]
        cases hd : sp.data.toList with
        | nil => exact absurd hd hem
        | cons a r => rfl
      have HEM : Hid (sp.data.toList ≠ []) := hem
      clear hem
      go_wp2_with (first
        | (go_at_call 5; refine (HP6.out wh (HG.out.below HH.out.bel)).mono ?_; rintro r wi ⟨vi, li, rfl, hri, hbi, hli⟩; have hhi := HH.out.grow hbi; have HI : Hid (FV w ((wi.setCell ⟨g1, 0, none⟩ (.int .i64 0)).setCell ⟨g1, 1, none⟩ (.int .i64 0)) g1 0 0 ∧ RowSl Ev.vals ((wi.setCell ⟨g1, 0, none⟩ (.int .i64 0)).setCell ⟨g1, 1, none⟩ (.int .i64 0)) li vi ∧ (sp.data.toList ≠ [] → li = l)) := ⟨hhi.set 0 0, row_other hhi.res hri, hli⟩; obtain ⟨a0, a1, a2, a3, a4⟩ := hhi.at; clear hhi hri hbi hli HH)
        | (go_at_call 6; refine (SameE_any _ l vi _ (by omega) (by have h9 := HI.out.2.1; rw [HI.out.2.2 HEM.out] at h9; exact h9) (HV.out.2.2.below HI.out.1.bel)).mono ?_; rintro r wk ⟨rfl, hbk⟩; have HK : Hid (Below w.heap.size w wk) := below_seq HI.out.1.bel hbk; clear hbk))
      go_ret
      exact ⟨rfl, HK.out⟩
  · subst hz
    have hps := HPS.out rfl
    have HPp := fun W v (hv : RowSl Ev.vals W pl v) hg => PrintK_any W pl v hv hg HPL.out.2 HPL.out.1
    have hse : (⟨s.data.toList.toArray⟩ : ByteArray) = s := bytes_same (back_list _)
    rw [hps, hse] at HPp
    clear hps hse
    go_wp2_with (go_at_call 6; refine (SameE_any wb pl v8 va HPL.out.1 HA.out.2.2.1 HA.out.2.2.2).mono ?_; rintro r wc ⟨rfl, hbc⟩; have HC : Hid (FV w wc g1 0 z2 ∧ RowSl Ev.vals wc pl v8) := ⟨HA.out.1.grow hbc, HA.out.2.2.1.below hbc⟩; obtain ⟨d0, d1, -, -, d4⟩ := HC.out.1.at; clear hbc HA)
    go_wp2_with (go_at_call 7; refine (HPp wc v8 HC.out.2 (HG.out.below HC.out.1.bel)).mono ?_; rintro r wd ⟨rfl, hbd⟩; have HD : Hid (FV w wd g1 0 z2) := HC.out.1.grow hbd; clear hbd HC HPp; obtain ⟨e0, e1, e2, e3, e4⟩ := HV.out.2.1.below HD.out.bel)
    go_wp2_with (go_at_call 10; refine (HL _ l noE _ (by omega) (HV.out.2.2.below HD.out.bel)).mono ?_; rintro r we ⟨u6, rfl, hlent, hbe⟩; have HE : Hid (FV w we g1 0 z2 ∧ Lent Ev.vals we l noE u6) := ⟨HD.out.grow hbe, hlent⟩; clear e0 e1 e2 e3 e4 hlent hbe)
    go_wp2_with (go_at_call 7; refine (HP4.out we u6 HE.out.2.plain (HG.out.below HE.out.1.bel)).mono ?_; rintro r wf ⟨rfl, hbf⟩; have HF : Hid (FV w wf g1 0 z2 ∧ Lent Ev.vals wf l noE u6) := ⟨HE.out.1.grow hbf, HE.out.2.below hbf⟩; clear hbf HE)
    go_wp2_with (go_at_call 11; refine (HP5.out wf _ (HV.out.2.2.below HF.out.1.bel) (HG.out.below HF.out.1.bel)).mono ?_; rintro r wg ⟨rfl, hbg⟩; have HGG : Hid (FV w wg g1 0 z2 ∧ Lent Ev.vals wg l noE u6) := ⟨HF.out.1.grow hbg, HF.out.2.below hbg⟩; clear hbg HF; obtain ⟨e0, e1, e2, e3, e4⟩ := HV.out.2.1.below HGG.out.1.bel)
    go_wp2_with (go_at_call 12; refine (HT _ l noE _ _ (by omega) HGG.out.2 (HV.out.2.2.below HGG.out.1.bel)).mono ?_; rintro r wh ⟨rfl, hbh⟩; have HH : Hid (FV w wh g1 0 z2) := HGG.out.1.grow hbh; clear hbh HGG)
    by_cases hem : sp.data.toList = []
    · have hem2 : sp.toList.isEmpty = true := by rw [ByteArray.toList_eq, hem]; rfl
      clear hem
      go_wp2_with (go_at_call 5; refine (HP6.out wh (HG.out.below HH.out.bel)).mono ?_; rintro r wi ⟨vi, li, rfl, hri, hbi, hli⟩; have hhi := HH.out.grow hbi; have HI : Hid (FV w ((wi.setCell ⟨g1, 0, none⟩ (.int .i64 0)).setCell ⟨g1, 1, none⟩ (.int .i64 0)) g1 0 0 ∧ RowSl Ev.vals ((wi.setCell ⟨g1, 0, none⟩ (.int .i64 0)).setCell ⟨g1, 1, none⟩ (.int .i64 0)) li vi ∧ (sp.data.toList ≠ [] → li = l)) := ⟨hhi.set 0 0, row_other hhi.res hri, hli⟩; obtain ⟨a0, a1, a2, a3, a4⟩ := hhi.at; clear hhi hri hbi hli HH)
      go_ret
      exact ⟨rfl, HI.out.1.bel⟩
    · have hem2 : sp.toList.isEmpty = false := by
        rw [ByteArray.toList_eq]
        cases hd : sp.data.toList with
        | nil => exact absurd hd hem
        | cons a r => rfl
      have HEM : Hid (sp.data.toList ≠ []) := hem
      clear hem
      go_wp2_with (first
        | (go_at_call 5; refine (HP6.out wh (HG.out.below HH.out.bel)).mono ?_; rintro r wi ⟨vi, li, rfl, hri, hbi, hli⟩; have hhi := HH.out.grow hbi; have HI : Hid (FV w ((wi.setCell ⟨g1, 0, none⟩ (.int .i64 0)).setCell ⟨g1, 1, none⟩ (.int .i64 0)) g1 0 0 ∧ RowSl Ev.vals ((wi.setCell ⟨g1, 0, none⟩ (.int .i64 0)).setCell ⟨g1, 1, none⟩ (.int .i64 0)) li vi ∧ (sp.data.toList ≠ [] → li = l)) := ⟨hhi.set 0 0, row_other hhi.res hri, hli⟩; obtain ⟨a0, a1, a2, a3, a4⟩ := hhi.at; clear hhi hri hbi hli HH)
        | (go_at_call 6; refine (SameE_any _ l vi _ (by omega) (by have h9 := HI.out.2.1; rw [HI.out.2.2 HEM.out] at h9; exact h9) (HV.out.2.2.below HI.out.1.bel)).mono ?_; rintro r wk ⟨rfl, hbk⟩; have HK : Hid (Below w.heap.size w wk) := below_seq HI.out.1.bel hbk; clear hbk))
      go_ret
      exact ⟨rfl, HK.out⟩
end Go.Proofs.YtccoobcggbbciakDoor
