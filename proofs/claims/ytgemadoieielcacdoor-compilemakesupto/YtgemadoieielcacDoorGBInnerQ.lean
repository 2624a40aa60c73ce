import Derived.Test.YtgemadoieielcacDoorGBState
import Derived.Test.YtgemadoieielcacDoorGBTwin
import Derived.Laws.OwnMore
import Derived.Maps.AppendAt
import Derived.Deep.DeepCutAuto
import Derived.Deep.CutRange
import Derived.Deep.RegionHeldLaw
namespace Go.Proofs.YtgemadoieielcacDoor.B
open Go.ChangeShapes Go.WideShapes Go.ChangeAt Go.RowKit

def StmtOk (w0 : World) (N : Nat) : Prop :=
  ∀ (s : St) (w : World) (wb B : Nat) (i : Int) (v sv : Value) (ar : List (Int × Int)), s.bulk ≤ N → w0.heap.size ≤ wb → Below w0.heap.size w0 w → s.In w0 sv → Wk w wb B i v ar → -1 ≤ i → i + s.bulk ≤ 2097152 → ar.length + s.bulk ≤ 2097152 →
    Calls Tryd.prog 120 #[.pointer (some ⟨wb, 0, none⟩), sv] w fun r w' => r = .returned (.int .i64 (s.chk ar i).1) ∧ ∃ v', Wk w' wb B (s.chk ar i).2 v' ar ∧ WR wb w w' v v'

def ListOk (w0 : World) (N : Nat) : Prop :=
  ∀ (a : List St) (w : World) (wb B p1 p2 : Nat) (i : Int) (v lv : Value) (ar : List (Int × Int)), St.bulkAll a ≤ N → w0.heap.size ≤ wb → Below w0.heap.size w0 w → St.Sl w0 a lv → Wk w wb B i v ar → -1 ≤ i → i + St.bulkAll a ≤ 2097152 → ar.length + St.bulkAll a ≤ 2097152 →
    w.cell? ⟨p1, 0, none⟩ = some lv → w.cell? ⟨p2, 0, none⟩ = some (.pointer (some ⟨wb, 0, none⟩)) → p2 ≠ wb → some p2 ≠ v.ownBlock →
    Calls Tryd.prog 119 #[.pointer (some ⟨p1, 0, none⟩), .pointer (some ⟨p2, 0, none⟩)] w fun r w' => r = .returned (.int .i64 (St.chkAll a ar i).1) ∧ ∃ v', Wk w' wb B (St.chkAll a ar i).2 v' ar ∧ WR wb w w' v v'

theorem St.chkAll_drop {a : List St} {j : Nat} (h : j < a.length) (ar : List (Int × Int)) (i : Int) : St.chkAll (a.drop j) ar i = if ((a[j]).chk ar i).1 ≠ 0 then (a[j]).chk ar i else St.chkAll (a.drop (j + 1)) ar ((a[j]).chk ar i).2 := by
  rw [drop_at h, St.chkAll]

theorem bulkAll_drop {a : List St} {j : Nat} (h : j < a.length) : St.bulkAll (a.drop j) = (a[j]).bulk + St.bulkAll (a.drop (j + 1)) := by
  rw [drop_at h, St.bulkAll]

set_option maxRecDepth 20000 in
set_option maxHeartbeats 2000000 in
theorem list_of_stmt (w0 : World) (N : Nat) (_hN : N ≤ 1048576) (hst : StmtOk w0 N) : ListOk w0 N := by
  intro a w wb B p1 p2 i v lv ar hb hwb hB0 hsl hwk hi1 hi2 har hp1 hp2 hpw hpo
  have hlen := length_le_bulkAll a
  obtain ⟨ad, c, rfl, hrow⟩ := hsl
  have HR : Hid (_ ∧ _ ∧ _ ∧ (a = [] ∨ ∃ b o, ad = some ⟨b, o, none⟩ ∧ St.Row w0 a b o)) := ⟨hB0, hwk, hpo, hrow⟩
  have hp2l : p2 < w.heap.size := World.block_lt_of_cell? _ _ hp2
  have HP2 : Hid _ := hp2
  have HS : Hid (StmtOk w0 N) := hst
  clear hrow hB0 hwk hpo hst hp2
  go_enter Tryd.func119, Tryd.ntmps119
  go_wp2_with fail
  go_loopw [4, 5, 8] (fun _ _ x wr => ∃ (j : Nat) (i' : Int) (v' : Value), j ≤ a.length ∧ x = .int .i64 j ∧ St.chkAll (a.drop j) ar i' = St.chkAll a ar i ∧ -1 ≤ i' ∧ i' + St.bulkAll (a.drop j) ≤ 2097152 ∧ Wk wr wb B i' v' ar ∧ WR wb w wr v v') (fun _ _ x _ => a.length - (intOf x).toNat)
  case atStart => exact ⟨0, i, v, Nat.zero_le _, rfl, rfl, hi1, hi2, HR.out.2.1, WR.refl _ _ _⟩
  case round =>
    obtain ⟨j, i', v', hj, rfl, hch, hi1', hi2', hwk', hwr⟩ := hrel
    by_cases hlt : j < a.length
    · rcases HR.out.2.2.2 with h | ⟨b, o, had, hrow⟩
      · subst h; simp at hlt
      subst had
      have hlow := hwr.low HR.out.2.1 hwb HR.out.1
      have hq2 := hwr.cell hpw HR.out.2.2.1 HP2.out
      have hbk := bulkAll_at a j a[j] (by simp [hlt])
      have hbd := bulkAll_drop hlt
      obtain ⟨sk, sn, se, sck, sca, scb, sy, sl, hs, ek, en, ead, em, ec, ak, an, aad, am, ac, bk, bn, bad, bm, bc, yad, yc, lad, lc, c0, c1, c2, c3, c4, c5, c6, c7, c8, c9, c10, c11, c12, c13, i1, i2, i3, i4, i5⟩ := hrow.shape hlt
      have hin : (a[j]).In w0 (.agg #[.int .i64 sk, .int .i64 sn, .int .i64 ek, .int .i64 en, .slice ead em ec, .int .i64 sck, .int .i64 ak, .int .i64 an, .slice aad am ac, .int .i64 bk, .int .i64 bn, .slice bad bm bc, .slice yad sy.length yc, .slice lad sl.length lc]) := by
        rw [hs]
        unfold St.In
        exact ⟨_, _, _, _, _, _, _, _, _, _, _, rfl, i1, i2, i3, i4, i5⟩
      replace c0 := below_cell hlow c0
      replace c1 := below_cell hlow c1
      replace c2 := below_cell hlow c2
      replace c3 := below_cell hlow c3
      replace c4 := below_cell hlow c4
      replace c5 := below_cell hlow c5
      replace c6 := below_cell hlow c6
      replace c7 := below_cell hlow c7
      replace c8 := below_cell hlow c8
      replace c9 := below_cell hlow c9
      replace c10 := below_cell hlow c10
      replace c11 := below_cell hlow c11
      replace c12 := below_cell hlow c12
      replace c13 := below_cell hlow c13
      have hq2l : p2 < wr.heap.size := World.block_lt_of_cell? _ _ hq2
      rw [St.chkAll_drop hlt] at hch
      have HX : Hid (_ ∧ _ ∧ _ ∧ _ ∧ _) := ⟨hin, hlow, hch, hwk', hwr⟩
      clear hin hlow hch hwk' hwr hs hrow i1 i2 i3 i4 i5
      generalize a[j] = s at *
      have hcl := St.count_le s
      by_cases he : (s.chk ar i').1 = 0
      · have HE : Hid ((s.chk ar i').1 = 0) := he
        go_wp2_with (first
          | (go_at_call 120; refine (HS.out s _ wb B i' v' _ ar (by omega) hwb ?h1 HX.out.1 ?h2 hi1' (by omega) (by omega)).mono ?_; rotate_left 2; rintro e w3 ⟨rfl, v3, hk3, hr3⟩; have H3 : Hid (_ ∧ _) := ⟨hk3, hr3⟩; clear hk3 hr3))
        case h1 => exact HX.out.2.1.alloc HX.out.2.1.size _
        case h2 => exact HX.out.2.2.2.1.below ((Below.refl _ _).alloc (Nat.le_refl _) _)
        have hch := HX.out.2.2.1
        rw [if_neg (by simpa using HE.out)] at hch
        have hat := St.chk_at s ar i' HE.out
        go_roundw
        case rel => exact ⟨j + 1, (s.chk ar i').2, v3, by omega, by go_num, hch, by omega, by omega, H3.out.1, (HX.out.2.2.2.2.trans (WR.of_below ((Below.refl _ _).alloc (Nat.le_refl _) _))).trans H3.out.2⟩
        case measure => simp [intOf]; omega
      · have he' : ((s.chk ar i').1 == 0) = false := by simpa using he
        have HE : Hid (¬ (s.chk ar i').1 = 0) := he
        clear he
        go_wp2_with (first
          | (go_at_call 120; refine (HS.out s _ wb B i' v' _ ar (by omega) hwb ?h1 HX.out.1 ?h2 hi1' (by omega) (by omega)).mono ?_; rotate_left 2; rintro e w3 ⟨rfl, v3, hk3, hr3⟩; have H3 : Hid (_ ∧ _) := ⟨hk3, hr3⟩; clear hk3 hr3))
        case h1 => exact HX.out.2.1.alloc HX.out.2.1.size _
        case h2 => exact HX.out.2.2.2.1.below ((Below.refl _ _).alloc (Nat.le_refl _) _)
        have hch := HX.out.2.2.1
        rw [if_pos HE.out] at hch
        go_ret
        exact ⟨ret_int (by rw [← hch]), v3, by rw [← hch]; exact H3.out.1, (HX.out.2.2.2.2.trans (WR.of_below ((Below.refl _ _).alloc (Nat.le_refl _) _))).trans H3.out.2⟩
    · have hje : j = a.length := by omega
      subst hje
      rw [List.drop_length, St.chkAll] at hch
      have HX : Hid (_ ∧ _ ∧ _) := ⟨hch, hwk', hwr⟩
      clear hch hwk' hwr
      go_wp2_with fail
      go_ret
      exact ⟨ret_int (by rw [← HX.out.1]), v', by rw [← HX.out.1]; exact HX.out.2.1, HX.out.2.2⟩

theorem list_any (w : World) (wb : Nat) (ad : Option Addr) (m c : Nat) : Calls Tryd.prog 94 #[.pointer (some ⟨wb, 0, none⟩), .slice ad m c] w fun r w' =>
    r = .returned (.func (.func 119) #[] #[.pointer (some ⟨w.heap.size + 1, 0, none⟩), .pointer (some ⟨w.heap.size, 0, none⟩)]) ∧ w' = (w.alloc (.cells #[.pointer (some ⟨wb, 0, none⟩)] 190)).alloc (.cells #[.slice ad m c] 63) := by
  go_enter Tryd.func94, Tryd.ntmps94
  go_wp2
  go_ret
  exact ⟨rfl, rfl⟩

theorem inner_any (w : World) (wb : Nat) (sk sn ek en ck ak an bk bn : Int) (ead aad bad yad lad : Option Addr) (em ec am ac bm bc ly yc ll lc : Nat) :
    Calls Tryd.prog 143 #[.pointer (some ⟨wb, 0, none⟩), .agg #[.int .i64 sk, .int .i64 sn, .int .i64 ek, .int .i64 en, .slice ead em ec, .int .i64 ck, .int .i64 ak, .int .i64 an, .slice aad am ac, .int .i64 bk, .int .i64 bn, .slice bad bm bc, .slice yad ly yc, .slice lad ll lc]] w fun r w' =>
    r = .returned (.func (.func 157) #[] #[.pointer (some ⟨w.heap.size, 0, none⟩), .pointer (some ⟨w.heap.size + 1, 0, none⟩)]) ∧ w' = (w.alloc (.cells #[.pointer (some ⟨wb, 0, none⟩)] 190)).alloc (.cells #[.int .i64 sk, .int .i64 sn, .int .i64 ek, .int .i64 en, .slice ead em ec, .int .i64 ck, .int .i64 ak, .int .i64 an, .slice aad am ac, .int .i64 bk, .int .i64 bn, .slice bad bm bc, .slice yad ly yc, .slice lad ll lc] 123) := by
  go_enter Tryd.func143, Tryd.ntmps143
  go_wp2
  go_ret
  exact ⟨rfl, rfl⟩

theorem ent22 (cp : Array Value) (w : World) : (callFunc 119 cp).run Tryd.prog w = .ok (.enter 119 cp) w := run_enter Tryd.func119 (by kernel_rfl) (by kernel_rfl) cp w
theorem ent42 (cp : Array Value) (w : World) : (callFunc 157 cp).run Tryd.prog w = .ok (.enter 157 cp) w := run_enter Tryd.func157 (by kernel_rfl) (by kernel_rfl) cp w
end Go.Proofs.YtgemadoieielcacDoor.B
namespace Go.Proofs.YtgemadoieielcacDoor.B
open Go.ChangeShapes Go.WideShapes Go.ChangeAt Go.RowKit

theorem Wk.free {w : World} {wb B : Nat} {i : Int} {v : Value} {ar : List (Int × Int)} (h : Wk w wb B i v ar) : some wb ≠ v.ownBlock := by
  intro e
  have := (h.own_lt wb e.symm).1
  have := h.lt
  omega

/-- Behind an append to those around, stored. -/
theorem Wk.push {W w' : World} {wb B : Nat} {i k n : Int} {v v' : Value} {ar : List (Int × Int)} {x : Nat → Value} {xs : List Value} (hk : Wk W wb B i v ar) (hx : StShape x k n) (hac : ArCells ar xs)
    (ho : w'.ownsRow B 123 14 v' (ar.length + 1) (xs ++ [x 0, x 1, x 2, x 3, x 4, x 5, x 6, x 7, x 8, x 9, x 10, x 11, x 12, x 13])) (hg : W.grownBy w' v.ownBlock) (hv : v'.ownBlock = v.ownBlock ∨ ∀ k, v'.ownBlock = some k → W.heap.size ≤ k) :
    Wk (w'.setCell ⟨wb, 1, none⟩ v') wb B i v' (ar ++ [(k, n)]) ∧ WR wb W (w'.setCell ⟨wb, 1, none⟩ v') v v' := by
  have hlt : wb < W.heap.size := (Array.getElem?_eq_some_iff.1 hk.blk).1
  have hb : w'.heap[wb]? = some (.cells #[.int .i64 i, v] 159 (0, 0)) := (hg.block wb hlt hk.free).trans hk.blk
  have hs : (w'.setCell ⟨wb, 1, none⟩ v').heap.size = w'.heap.size := by simp [World.setCell]
  refine ⟨⟨by simpa using setCell_at (i := 1) (u := v') hb, ⟨_, ?_, ArCells.snoc hx ar hac⟩, hk.lt, ?_⟩, ⟨hg.os, hg.tape, hg.output, ?_, fun k hk1 h1 h2 => ?_, hv⟩⟩
  · rw [List.length_append]
    exact ownsRow_setCell_below ho (by show wb < B; exact hk.lt) _
  · rw [hs]; exact Nat.le_trans hk.le hg.size
  · rw [hs]; exact hg.size
  · rw [Below.heap_setCell _ _ _ _ (by simpa using h1)]
    exact hg.block k hk1 h2

/-- The last of those around taken off. -/
theorem Wk.pop {W : World} {wb B g cap : Nat} {i : Int} {p : Int × Int} {ar : List (Int × Int)} (hk : Wk W wb B i (.slice (some ⟨g, 0, none⟩) (ar.length + 1) cap) (ar ++ [p])) :
    Wk (W.setCell ⟨wb, 1, none⟩ (.slice (some ⟨g, 0, none⟩) ar.length cap)) wb B i (.slice (some ⟨g, 0, none⟩) ar.length cap) ar ∧
    WR wb W (W.setCell ⟨wb, 1, none⟩ (.slice (some ⟨g, 0, none⟩) ar.length cap)) (.slice (some ⟨g, 0, none⟩) (ar.length + 1) cap) (.slice (some ⟨g, 0, none⟩) ar.length cap) := by
  have hs : (W.setCell ⟨wb, 1, none⟩ (.slice (some ⟨g, 0, none⟩) ar.length cap)).heap.size = W.heap.size := by simp [World.setCell]
  obtain ⟨xs, ho, hac⟩ := hk.owns
  refine ⟨⟨by simpa using setCell_at (i := 1) (u := .slice (some ⟨g, 0, none⟩) ar.length cap) hk.blk, ⟨xs.take (ar.length * 14), ?_, ?_⟩, hk.lt, ?_⟩, ⟨rfl, rfl, rfl, ?_, fun k hk1 h1 h2 => ?_, .inl rfl⟩⟩
  · refine ownsRow_setCell_below ?_ (by show wb < B; exact hk.lt) _
    obtain ⟨h1, h2⟩ := ho
    rw [List.length_append] at h1 h2
    simp only [List.length_singleton] at h1 h2
    refine ⟨by simp; omega, .inr ?_⟩
    rcases h2 with ⟨h, _⟩ | ⟨g', cap', cur, hv, h3, h4, h5, h6, h7, h8⟩
    · cases h
    · cases hv
      refine ⟨g, cap, cur, rfl, h3, h4, by omega, h6, h7, ?_⟩
      rw [← h8, List.take_take]
      congr 1
      omega
  · have hcut : ∀ (ar : List (Int × Int)) (xs : List Value), ArCells (ar ++ [p]) xs → ArCells ar (xs.take (ar.length * 14)) := by
      intro ar
      induction ar with
      | nil => intro xs _; simp [ArCells]
      | cons q r ih =>
        intro xs h
        obtain ⟨x, ys, h1, rfl, h2⟩ := h
        refine ⟨x, ys.take (r.length * 14), h1, ?_, ih ys h2⟩
        rw [List.length_cons, Nat.succ_mul, Nat.add_comm, List.take_append]
        simp [List.take_of_length_le]
    exact hcut ar xs hac
  · rw [hs]; exact hk.le
  · rw [hs]; exact Nat.le_refl _
  · exact Below.heap_setCell _ _ _ _ (by simpa using h1)

def chk2 (b l : List St) (ar : List (Int × Int)) (i : Int) : Int × Int := if (St.chkAll b ar i).1 ≠ 0 then St.chkAll b ar i else St.chkAll l ar (St.chkAll b ar i).2

/-- The looks into a statement's two lists. -/
theorem inner_looks (w0 : World) (N : Nat) (hL : ListOk w0 N) (W : World) (wb B g p1 p2 p3 p4 cap : Nat) (i : Int) (v yv lv : Value) (b l : List St) (ar : List (Int × Int)) (hbk : St.bulkAll b + St.bulkAll l ≤ N) (hwb : w0.heap.size ≤ wb) (hB0 : Below w0.heap.size w0 W)
    (hy : St.Sl w0 b yv) (hl : St.Sl w0 l lv) (hwk : Wk W wb B i v ar) (hi1 : -1 ≤ i) (hi2 : i + (St.bulkAll b + St.bulkAll l : Nat) ≤ 2097152) (har : ar.length + (St.bulkAll b + St.bulkAll l) ≤ 2097152)
    (g0 : W.cell? ⟨g, 0, none⟩ = some (.func (.func 119) #[] #[.pointer (some ⟨p1, 0, none⟩), .pointer (some ⟨p2, 0, none⟩)])) (g1 : W.cell? ⟨g, 1, none⟩ = some (.func (.func 119) #[] #[.pointer (some ⟨p3, 0, none⟩), .pointer (some ⟨p4, 0, none⟩)]))
    (c1 : W.cell? ⟨p1, 0, none⟩ = some yv) (c2 : W.cell? ⟨p2, 0, none⟩ = some (.pointer (some ⟨wb, 0, none⟩))) (c3 : W.cell? ⟨p3, 0, none⟩ = some lv) (c4 : W.cell? ⟨p4, 0, none⟩ = some (.pointer (some ⟨wb, 0, none⟩)))
    (n0 : ∀ q, q = g ∨ q = p1 ∨ q = p2 ∨ q = p3 ∨ q = p4 → q ≠ wb ∧ some q ≠ v.ownBlock) :
    Calls Tryd.prog 136 #[.slice (some ⟨g, 0, none⟩) 2 cap] W fun e w' => e = .returned (.int .i64 (chk2 b l ar i).1) ∧ ∃ v', Wk w' wb B (chk2 b l ar i).2 v' ar ∧ WR wb W w' v v' := by
  refine (first_any 2 (by omega) g cap (fun _ => 119) (fun i => if i = 0 then #[.pointer (some ⟨p1, 0, none⟩), .pointer (some ⟨p2, 0, none⟩)] else #[.pointer (some ⟨p3, 0, none⟩), .pointer (some ⟨p4, 0, none⟩)])
    (fun j w => ∃ v1 i1, Wk w wb B i1 v1 ar ∧ WR wb W w v v1 ∧ (j = 0 → i1 = i) ∧ (j = 1 → St.chkAll b ar i = (0, i1)) ∧ (j = 2 → chk2 b l ar i = (0, i1)))
    (fun c w => ∃ v1, c = (chk2 b l ar i).1 ∧ Wk w wb B (chk2 b l ar i).2 v1 ar ∧ WR wb W w v v1) ?_ ?_ ?_ W ⟨v, i, hwk, WR.refl _ _ _, fun _ => rfl, by omega, by omega⟩).mono ?_
  · rintro j hj w ⟨v1, i1, hk, hr, -⟩
    have hn := n0 g (.inl rfl)
    match j, hj with
    | 0, _ => exact hr.cell hn.1 hn.2 g0
    | 1, _ => exact hr.cell hn.1 hn.2 g1
  · rintro j hj w ⟨v1, i1, hk, hr, h0, h1, h2⟩
    match j, hj with
    | 0, _ =>
      have e := h0 rfl
      subst e
      have a1 := n0 p1 (by simp)
      have a2 := n0 p2 (by simp)
      refine (hL b w wb B p1 p2 i1 v1 yv ar (by omega) hwb (hr.low hwk hwb hB0) hy hk hi1 (by omega) (by omega) (hr.cell a1.1 a1.2 c1) (hr.cell a2.1 a2.2 c2) a2.1 (hr.off (World.block_lt_of_cell? _ _ c2) a2.2)).mono ?_
      rintro e w' ⟨rfl, v2, hk2, hr2⟩
      refine ⟨_, rfl, ?_⟩
      by_cases hz : (St.chkAll b ar i1).1 = 0
      · exact .inl ⟨hz, v2, _, hk2, hr.trans hr2, by omega, fun _ => Prod.ext hz rfl, by omega⟩
      · have e : chk2 b l ar i1 = St.chkAll b ar i1 := by unfold chk2; rw [if_pos hz]
        exact .inr ⟨hz, v2, by rw [e], by rw [e]; exact hk2, hr.trans hr2⟩
    | 1, _ =>
      have e := h1 rfl
      have a1 := n0 p3 (by simp)
      have a2 := n0 p4 (by simp)
      have e2 : chk2 b l ar i = St.chkAll l ar i1 := by unfold chk2; rw [e]; simp
      have hat := St.chkAll_at b ar i (by rw [e])
      rw [e] at hat
      simp only at hat
      have hcl := St.countAll_le b
      refine (hL l w wb B p3 p4 i1 v1 lv ar (by omega) hwb (hr.low hwk hwb hB0) hl hk (by omega) (by omega) (by omega) (hr.cell a1.1 a1.2 c3) (hr.cell a2.1 a2.2 c4) a2.1 (hr.off (World.block_lt_of_cell? _ _ c4) a2.2)).mono ?_
      rintro e w' ⟨rfl, v2, hk2, hr2⟩
      refine ⟨_, rfl, ?_⟩
      rw [e2]
      by_cases hz : (St.chkAll l ar i1).1 = 0
      · exact .inl ⟨hz, v2, _, hk2, hr.trans hr2, by omega, by omega, fun _ => Prod.ext hz rfl⟩
      · exact .inr ⟨hz, v2, rfl, hk2, hr.trans hr2⟩
  · intro j hj cp w
    exact ent22 cp w
  · rintro e w' ⟨c, rfl, h⟩
    rcases h with ⟨rfl, v1, i1, hk, hr, -, -, h2⟩ | ⟨_, v1, rfl, hk, hr⟩
    · have e := h2 rfl
      exact ⟨ret_int (by rw [e]), v1, by rw [e]; exact hk, hr⟩
    · exact ⟨rfl, v1, hk, hr⟩
end Go.Proofs.YtgemadoieielcacDoor.B
namespace Go.Proofs.YtgemadoieielcacDoor.B
open Go.ChangeShapes Go.WideShapes Go.ChangeAt Go.RowKit

/-- An append in a region that draws, to a slice of one's own: in its block, or in a new one. -/
theorem step_append_mine {P : Program} {ops : Array Oper} {o : Oper} {a : Act} {w : World} {K : Act → World → Prop} {Q : Exit → Act → World → Prop} {E : Prop}
    (hg : o.guard = none) (s x : Operand) (t : TypeId) (hop : o.op = Op.call { callee := Callee.builtin Builtin.append, args := #[s, x], argTypes := #[t, t] })
    (base : Nat) (e : TypeId) (i : TypeInfo) (z : Value) (size bytes : Nat) (h1 : P.underlying t = some (.slice e)) (h2 : P.info? e = some i) (h3 : i.zero = some z) (h4 : i.size = size) (h5 : i.bytes = bytes) (h6 : z.cells.size = size) (h7 : 0 < size)
    (v : Value) (n : Nat) (xs : List Value) (hs : a.eval s = v) (hown : w.ownsRow base e size v n xs)
    (ad : Addr) (m c : Nat) (news : List Value) (hx : a.eval x = .slice (some ad) m c) (hn : news.length = m * size) (hc : ∀ j u, news[j]? = some u → w.cell? (ad.add j) = some u) (h1c : ∀ u ∈ news, u.oneCell' = true)
    (b1 : n + m ≤ maxLen) (b2 : (n + m) * bytes ≤ 140737488355328) (hbase : base ≤ w.heap.size)
    (hK : ∀ v' w', w'.ownsRow base e size v' (n + m) (xs ++ news) → w.grownBy w' v.ownBlock → (v'.ownBlock = v.ownBlock ∨ ∀ k, v'.ownBlock = some k → w.heap.size ≤ k) → K (a.put o.dst v') w') :
    if Region.wanted o (yielded ops a.tmps) = true then Oper.wp P o a w K Q else E := by
  have hw : Region.wanted o (yielded ops a.tmps) = true := by simp [Region.wanted, hg]
  rw [if_pos hw]
  obtain ⟨v', w', hrun, r1, r2, _, r4⟩ := run_append_own_at (P := P) w base t o.type e i z size bytes h1 h2 h3 h4 h5 h6 h7 v n xs hown ad m c news hn hc h1c b1 b2 hbase
  unfold Oper.wp
  simp [execOp, hop, resolve, invoke, builtin, hs, hx, hrun, Result.andThen]
  refine hK v' w' r1 r2 ?_
  rcases r4 with r | r
  · exact .inl r
  · right; intro k hk; rw [r] at hk; cases hk; exact Nat.le_refl _

theorem owns_some {w : World} {base n : Nat} {v : Value} {xs : List Value} (h : w.ownsRow base 123 14 v (n + 1) xs) : ∃ g cap, v = .slice (some ⟨g, 0, none⟩) (n + 1) cap ∧ base ≤ g ∧ (∀ j, w.frozen? ⟨g, j, none⟩ = false) ∧ g < w.heap.size := by
  rcases h.2 with ⟨_, h⟩ | ⟨g, cap, cur, rfl, hb, hh, _⟩
  · omega
  · exact ⟨g, cap, rfl, hb, fun j => h.frozenAt j, (Array.getElem?_eq_some_iff.1 hh).1⟩

theorem grown_copy {w w' : World} {o : Obj} {r : Option Nat} {g : Nat} {x0 x1 x2 x3 x4 x5 x6 x7 x8 x9 x10 x11 x12 x13 : Value} (h : copyIs w g x0 x1 x2 x3 x4 x5 x6 x7 x8 x9 x10 x11 x12 x13) (hg : (w.alloc o).grownBy w' r) (hr : some g ≠ r) : copyIs w' g x0 x1 x2 x3 x4 x5 x6 x7 x8 x9 x10 x11 x12 x13 := by
  have hl := h.lt
  exact (hg.block g (by simp; omega) hr).trans ((Below.heap_alloc _ _ _ hl).trans h)

theorem grown_wb {w w' : World} {o : Obj} {wb B : Nat} {i : Int} {v : Value} {ar : List (Int × Int)} (hk : Wk w wb B i v ar) (hg : (w.alloc o).grownBy w' v.ownBlock) : wb < w'.heap.size ∧ (∀ j, w'.frozen? ⟨wb, j, none⟩ = false) ∧ w'.cell? ⟨wb, 1, none⟩ = some v := by
  have hl : wb < w.heap.size := (Array.getElem?_eq_some_iff.1 hk.blk).1
  have hb : w'.heap[wb]? = some (.cells #[.int .i64 i, v] 159 (0, 0)) := (hg.block wb (by simp; omega) hk.free).trans ((Below.heap_alloc _ _ _ hl).trans hk.blk)
  refine ⟨(Array.getElem?_eq_some_iff.1 hb).1, fun j => ?_, ?_⟩
  · unfold World.frozen?; rw [hb]; simp
  · unfold World.cell?; rw [hb]; rfl

theorem owns_tail {w : World} {base g cap n : Nat} {ys : List Value} {z0 z1 z2 z3 z4 z5 z6 z7 z8 z9 z10 z11 z12 z13 : Value} (h : w.ownsRow base 123 14 (.slice (some ⟨g, 0, none⟩) (n + 1) cap) (n + 1) (ys ++ [z0, z1, z2, z3, z4, z5, z6, z7, z8, z9, z10, z11, z12, z13])) (hl : ys.length = n * 14) :
    w.cell? ⟨g, n * 14, none⟩ = some z0 ∧ w.cell? ⟨g, n * 14 + 1, none⟩ = some z1 ∧ w.cell? ⟨g, n * 14 + 2, none⟩ = some z2 ∧ w.cell? ⟨g, n * 14 + 3, none⟩ = some z3 ∧ w.cell? ⟨g, n * 14 + 4, none⟩ = some z4 ∧ w.cell? ⟨g, n * 14 + 5, none⟩ = some z5 ∧ w.cell? ⟨g, n * 14 + 6, none⟩ = some z6 ∧ w.cell? ⟨g, n * 14 + 7, none⟩ = some z7 ∧ w.cell? ⟨g, n * 14 + 8, none⟩ = some z8 ∧ w.cell? ⟨g, n * 14 + 9, none⟩ = some z9 ∧ w.cell? ⟨g, n * 14 + 10, none⟩ = some z10 ∧ w.cell? ⟨g, n * 14 + 11, none⟩ = some z11 ∧ w.cell? ⟨g, n * 14 + 12, none⟩ = some z12 ∧ w.cell? ⟨g, n * 14 + 13, none⟩ = some z13 := by
  obtain ⟨g', cap', hv, -, hc⟩ := getCell h (by omega)
  cases hv
  have k : ∀ j u, [z0, z1, z2, z3, z4, z5, z6, z7, z8, z9, z10, z11, z12, z13][j]? = some u → w.cell? ⟨g, n * 14 + j, none⟩ = some u := by
    intro j u hj
    have := hc (n * 14 + j) u (by rw [List.getElem?_append_right (by omega), hl, Nat.add_sub_cancel_left]; exact hj)
    rwa [Nat.zero_add] at this
  exact ⟨k 0 _ rfl, k 1 _ rfl, k 2 _ rfl, k 3 _ rfl, k 4 _ rfl, k 5 _ rfl, k 6 _ rfl, k 7 _ rfl, k 8 _ rfl, k 9 _ rfl, k 10 _ rfl, k 11 _ rfl, k 12 _ rfl, k 13 _ rfl⟩

theorem ArCells.last {p : Int × Int} : ∀ (ar : List (Int × Int)) {xs : List Value}, ArCells (ar ++ [p]) xs → ∃ ys, ∃ x : Nat → Value, xs = ys ++ [x 0, x 1, x 2, x 3, x 4, x 5, x 6, x 7, x 8, x 9, x 10, x 11, x 12, x 13] ∧ ArCells ar ys
  | [], xs, h => by
    obtain ⟨x, ys, _, rfl, h2⟩ := h
    unfold ArCells at h2
    subst h2
    exact ⟨[], x, by simp, rfl⟩
  | q :: r, xs, h => by
    obtain ⟨x, ys, h1, rfl, h2⟩ := h
    obtain ⟨zs, x', rfl, h3⟩ := ArCells.last r h2
    exact ⟨_, x', by rw [List.append_assoc], x, zs, h1, rfl, h3⟩

theorem size_set (w : World) (a : Addr) (u : Value) : (w.setCell a u).heap.size = w.heap.size := by simp [World.setCell]

/-- The walk while the last of those around is being written over. -/
structure Mid (W : World) (wb B : Nat) (i : Int) (g cap n : Nat) (ys cs : List Value) : Prop where
  blk : W.heap[wb]? = some (.cells #[.int .i64 i, .slice (some ⟨g, 0, none⟩) (n + 1) cap] 159 (0, 0))
  owns : W.ownsRow B 123 14 (.slice (some ⟨g, 0, none⟩) (n + 1) cap) (n + 1) (ys ++ cs)
  le : B ≤ W.heap.size
  ne : wb ≠ g
  len : ys.length = n * 14

theorem Mid.set {W : World} {wb B : Nat} {i : Int} {g cap n : Nat} {ys cs : List Value} (h : Mid W wb B i g cap n ys cs) (j : Nat) (u : Value) :
    Mid (W.setCell ⟨g, n * 14 + j, none⟩ u) wb B i g cap n ys (cs.set j u) ∧ WR wb W (W.setCell ⟨g, n * 14 + j, none⟩ u) (.slice (some ⟨g, 0, none⟩) (n + 1) cap) (.slice (some ⟨g, 0, none⟩) (n + 1) cap) := by
  refine ⟨⟨(Below.heap_setCell _ _ _ _ (by simpa using h.ne)).trans h.blk, ?_, by rw [size_set]; exact h.le, h.ne, h.len⟩, ⟨rfl, rfl, rfl, by rw [size_set]; exact Nat.le_refl _, fun k _ _ h2 => Below.heap_setCell _ _ _ _ ?_, .inl rfl⟩⟩
  · have := (h.owns.stored (n * 14 + j) u).1
    rwa [List.set_append_right _ _ (by have := h.len; omega), h.len, Nat.add_sub_cancel_left] at this
  · intro e
    simp at e
    exact h2 (by rw [e]; rfl)

/-- The last of those around written over. -/
theorem Wk.over {W : World} {wb B g cap : Nat} {i k n : Int} {p : Int × Int} {ar : List (Int × Int)} {x : Nat → Value} (hk : Wk W wb B i (.slice (some ⟨g, 0, none⟩) (ar.length + 1) cap) (ar ++ [p])) (hx : StShape x k n) :
    Wk ((((((((((((((W.setCell ⟨g, ar.length * 14, none⟩ (x 0)).setCell ⟨g, ar.length * 14 + 1, none⟩ (x 1)).setCell ⟨g, ar.length * 14 + 2, none⟩ (x 2)).setCell ⟨g, ar.length * 14 + 3, none⟩ (x 3)).setCell ⟨g, ar.length * 14 + 4, none⟩ (x 4)).setCell ⟨g, ar.length * 14 + 5, none⟩ (x 5)).setCell ⟨g, ar.length * 14 + 6, none⟩ (x 6)).setCell ⟨g, ar.length * 14 + 7, none⟩ (x 7)).setCell ⟨g, ar.length * 14 + 8, none⟩ (x 8)).setCell ⟨g, ar.length * 14 + 9, none⟩ (x 9)).setCell ⟨g, ar.length * 14 + 10, none⟩ (x 10)).setCell ⟨g, ar.length * 14 + 11, none⟩ (x 11)).setCell ⟨g, ar.length * 14 + 12, none⟩ (x 12)).setCell ⟨g, ar.length * 14 + 13, none⟩ (x 13)) wb B i (.slice (some ⟨g, 0, none⟩) (ar.length + 1) cap) (ar ++ [(k, n)]) ∧
    WR wb W ((((((((((((((W.setCell ⟨g, ar.length * 14, none⟩ (x 0)).setCell ⟨g, ar.length * 14 + 1, none⟩ (x 1)).setCell ⟨g, ar.length * 14 + 2, none⟩ (x 2)).setCell ⟨g, ar.length * 14 + 3, none⟩ (x 3)).setCell ⟨g, ar.length * 14 + 4, none⟩ (x 4)).setCell ⟨g, ar.length * 14 + 5, none⟩ (x 5)).setCell ⟨g, ar.length * 14 + 6, none⟩ (x 6)).setCell ⟨g, ar.length * 14 + 7, none⟩ (x 7)).setCell ⟨g, ar.length * 14 + 8, none⟩ (x 8)).setCell ⟨g, ar.length * 14 + 9, none⟩ (x 9)).setCell ⟨g, ar.length * 14 + 10, none⟩ (x 10)).setCell ⟨g, ar.length * 14 + 11, none⟩ (x 11)).setCell ⟨g, ar.length * 14 + 12, none⟩ (x 12)).setCell ⟨g, ar.length * 14 + 13, none⟩ (x 13)) (.slice (some ⟨g, 0, none⟩) (ar.length + 1) cap) (.slice (some ⟨g, 0, none⟩) (ar.length + 1) cap) := by
  have hgw : wb ≠ g := fun e => hk.free (by rw [e]; rfl)
  obtain ⟨xs, ho, hac⟩ := hk.owns
  obtain ⟨ys, x', rfl, hac'⟩ := ArCells.last ar hac
  have hyl := ArCells.len ar hac'
  rw [List.length_append, List.length_singleton] at ho
  have m0 : Mid W wb B i g cap ar.length ys [x' 0, x' 1, x' 2, x' 3, x' 4, x' 5, x' 6, x' 7, x' 8, x' 9, x' 10, x' 11, x' 12, x' 13] := ⟨hk.blk, ho, hk.le, hgw, hyl⟩
  have hlt := hk.lt
  clear hk ho
  have q1 := m0.set 0 (x 0)
  have m1 := q1.1
  have r1 := q1.2
  clear q1 m0
  have q2 := m1.set 1 (x 1)
  have m2 := q2.1
  have r2 := r1.trans q2.2
  clear q2 m1 r1
  have q3 := m2.set 2 (x 2)
  have m3 := q3.1
  have r3 := r2.trans q3.2
  clear q3 m2 r2
  have q4 := m3.set 3 (x 3)
  have m4 := q4.1
  have r4 := r3.trans q4.2
  clear q4 m3 r3
  have q5 := m4.set 4 (x 4)
  have m5 := q5.1
  have r5 := r4.trans q5.2
  clear q5 m4 r4
  have q6 := m5.set 5 (x 5)
  have m6 := q6.1
  have r6 := r5.trans q6.2
  clear q6 m5 r5
  have q7 := m6.set 6 (x 6)
  have m7 := q7.1
  have r7 := r6.trans q7.2
  clear q7 m6 r6
  have q8 := m7.set 7 (x 7)
  have m8 := q8.1
  have r8 := r7.trans q8.2
  clear q8 m7 r7
  have q9 := m8.set 8 (x 8)
  have m9 := q9.1
  have r9 := r8.trans q9.2
  clear q9 m8 r8
  have q10 := m9.set 9 (x 9)
  have m10 := q10.1
  have r10 := r9.trans q10.2
  clear q10 m9 r9
  have q11 := m10.set 10 (x 10)
  have m11 := q11.1
  have r11 := r10.trans q11.2
  clear q11 m10 r10
  have q12 := m11.set 11 (x 11)
  have m12 := q12.1
  have r12 := r11.trans q12.2
  clear q12 m11 r11
  have q13 := m12.set 12 (x 12)
  have m13 := q13.1
  have r13 := r12.trans q13.2
  clear q13 m12 r12
  have q14 := m13.set 13 (x 13)
  have m14 := q14.1
  have r14 := r13.trans q14.2
  clear q14 m13 r13
  simp only [List.set_cons_zero, List.set_cons_succ, Nat.add_zero] at m14 r14
  exact ⟨⟨m14.blk, ⟨_, by rw [List.length_append, List.length_singleton]; exact m14.owns, ArCells.snoc hx ar hac'⟩, hlt, m14.le⟩, r14⟩
end Go.Proofs.YtgemadoieielcacDoor.B
