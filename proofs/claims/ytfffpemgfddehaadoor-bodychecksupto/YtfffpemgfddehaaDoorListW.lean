import Derived.Test.YtfffpemgfddehaaDoorState
namespace Go.Proofs.YtfffpemgfddehaaDoor
open Go.ChangeShapes Go.WideShapes Go.ChangeAt Go.RowKit

def StmtOk (w0 : World) (N : Nat) : Prop :=
  ∀ (s : St) (w : World) (wb B : Nat) (i : Int) (v sv : Value) (ar : List (Int × Int)), s.bulk ≤ N → w0.heap.size ≤ wb → Below w0.heap.size w0 w → s.In w0 sv → Wk w wb B i v ar → -1 ≤ i → i + s.bulk ≤ 2097152 → ar.length + s.bulk ≤ 2097152 →
    Calls Tryd.prog 23 #[.pointer (some ⟨wb, 0, none⟩), sv] w fun r w' => r = .returned (.int .i64 (s.chk ar i).1) ∧ ∃ v', Wk w' wb B (s.chk ar i).2 v' ar ∧ WR wb w w' v v'

def ListOk (w0 : World) (N : Nat) : Prop :=
  ∀ (a : List St) (w : World) (wb B p1 p2 : Nat) (i : Int) (v lv : Value) (ar : List (Int × Int)), St.bulkAll a ≤ N → w0.heap.size ≤ wb → Below w0.heap.size w0 w → St.Sl w0 a lv → Wk w wb B i v ar → -1 ≤ i → i + St.bulkAll a ≤ 2097152 → ar.length + St.bulkAll a ≤ 2097152 →
    w.cell? ⟨p1, 0, none⟩ = some lv → w.cell? ⟨p2, 0, none⟩ = some (.pointer (some ⟨wb, 0, none⟩)) → p2 ≠ wb → some p2 ≠ v.ownBlock →
    Calls Tryd.prog 22 #[.pointer (some ⟨p1, 0, none⟩), .pointer (some ⟨p2, 0, none⟩)] w fun r w' => r = .returned (.int .i64 (St.chkAll a ar i).1) ∧ ∃ v', Wk w' wb B (St.chkAll a ar i).2 v' ar ∧ WR wb w w' v v'

theorem St.chkAll_drop {a : List St} {j : Nat} (h : j < a.length) (ar : List (Int × Int)) (i : Int) : St.chkAll (a.drop j) ar i = if ((a[j]).chk ar i).1 ≠ 0 then (a[j]).chk ar i else St.chkAll (a.drop (j + 1)) ar ((a[j]).chk ar i).2 := by
  rw [drop_at h, St.chkAll]

theorem bulkAll_drop {a : List St} {j : Nat} (h : j < a.length) : St.bulkAll (a.drop j) = (a[j]).bulk + St.bulkAll (a.drop (j + 1)) := by
  rw [drop_at h, St.bulkAll]

set_option maxRecDepth 20000 in
set_option maxHeartbeats 2000000 in
theorem list_of_stmt (w0 : World) (N : Nat) (_hN : N ≤ 1048576) (hst : StmtOk w0 N) : ListOk w0 N := by
  intro a w wb B p1 p2 i v lv ar hb hwb hB0 hsl hwk hi1 hi2 har hp1 hp2 hpw hpo
  have hlen := length_le_bulkAll a
  obtain ⟨ad, c, rfl, hrow⟩ := hsl
  have HR : Hid (_ ∧ _ ∧ _ ∧ (a = [] ∨ ∃ b o, ad = some ⟨b, o, none⟩ ∧ St.Row w0 a b o)) := ⟨hB0, hwk, hpo, hrow⟩
  have hp2l : p2 < w.heap.size := World.block_lt_of_cell? _ _ hp2
  have HP2 : Hid _ := hp2
  have HS : Hid (StmtOk w0 N) := hst
  clear hrow hB0 hwk hpo hst hp2
  go_enter Tryd.func22, Tryd.ntmps22
  go_wp2_with fail
  go_loopw [4, 5, 8] (fun _ _ x wr => ∃ (j : Nat) (i' : Int) (v' : Value), j ≤ a.length ∧ x = .int .i64 j ∧ St.chkAll (a.drop j) ar i' = St.chkAll a ar i ∧ -1 ≤ i' ∧ i' + St.bulkAll (a.drop j) ≤ 2097152 ∧ Wk wr wb B i' v' ar ∧ WR wb w wr v v') (fun _ _ x _ => a.length - (intOf x).toNat)
  case atStart => exact ⟨0, i, v, Nat.zero_le _, rfl, rfl, hi1, hi2, HR.out.2.1, WR.refl _ _ _⟩
  case round =>
    obtain ⟨j, i', v', hj, rfl, hch, hi1', hi2', hwk', hwr⟩ := hrel
    by_cases hlt : j < a.length
    · rcases HR.out.2.2.2 with h | ⟨b, o, had, hrow⟩
      · subst h; simp at hlt
      subst had
      have hlow := hwr.low HR.out.2.1 hwb HR.out.1
      have hq2 := hwr.cell hpw HR.out.2.2.1 HP2.out
      have hbk := bulkAll_at a j a[j] (by simp [hlt])
      have hbd := bulkAll_drop hlt
      obtain ⟨sk, sn, se, sck, sca, scb, sy, sl, hs, ek, en, ead, em, ec, ak, an, aad, am, ac, bk, bn, bad, bm, bc, yad, yc, lad, lc, c0, c1, c2, c3, c4, c5, c6, c7, c8, c9, c10, c11, c12, c13, i1, i2, i3, i4, i5⟩ := hrow.shape hlt
      have hin : (a[j]).In w0 (.agg #[.int .i64 sk, .int .i64 sn, .int .i64 ek, .int .i64 en, .slice ead em ec, .int .i64 sck, .int .i64 ak, .int .i64 an, .slice aad am ac, .int .i64 bk, .int .i64 bn, .slice bad bm bc, .slice yad sy.length yc, .slice lad sl.length lc]) := by
        rw [hs]
        unfold St.In
        exact ⟨_, _, _, _, _, _, _, _, _, _, _, rfl, i1, i2, i3, i4, i5⟩
      replace c0 := below_cell hlow c0
      replace c1 := below_cell hlow c1
      replace c2 := below_cell hlow c2
      replace c3 := below_cell hlow c3
      replace c4 := below_cell hlow c4
      replace c5 := below_cell hlow c5
      replace c6 := below_cell hlow c6
      replace c7 := below_cell hlow c7
      replace c8 := below_cell hlow c8
      replace c9 := below_cell hlow c9
      replace c10 := below_cell hlow c10
      replace c11 := below_cell hlow c11
      replace c12 := below_cell hlow c12
      replace c13 := below_cell hlow c13
      have hq2l : p2 < wr.heap.size := World.block_lt_of_cell? _ _ hq2
      rw [St.chkAll_drop hlt] at hch
      have HX : Hid (_ ∧ _ ∧ _ ∧ _ ∧ _) := ⟨hin, hlow, hch, hwk', hwr⟩
      clear hin hlow hch hwk' hwr hs hrow i1 i2 i3 i4 i5
      generalize a[j] = s at *
      have hcl := St.count_le s
      by_cases he : (s.chk ar i').1 = 0
      · have HE : Hid ((s.chk ar i').1 = 0) := he
        go_wp2_with (first
          | (go_at_call 23; refine (HS.out s _ wb B i' v' _ ar (by omega) hwb ?h1 HX.out.1 ?h2 hi1' (by omega) (by omega)).mono ?_; rotate_left 2; rintro e w3 ⟨rfl, v3, hk3, hr3⟩; have H3 : Hid (_ ∧ _) := ⟨hk3, hr3⟩; clear hk3 hr3))
        case h1 => exact HX.out.2.1.alloc HX.out.2.1.size _
        case h2 => exact HX.out.2.2.2.1.below ((Below.refl _ _).alloc (Nat.le_refl _) _)
        have hch := HX.out.2.2.1
        rw [if_neg (by simpa using HE.out)] at hch
        have hat := St.chk_at s ar i' HE.out
        go_roundw
        case rel => exact ⟨j + 1, (s.chk ar i').2, v3, by omega, by go_num, hch, by omega, by omega, H3.out.1, (HX.out.2.2.2.2.trans (WR.of_below ((Below.refl _ _).alloc (Nat.le_refl _) _))).trans H3.out.2⟩
        case measure => simp [intOf]; omega
      · have he' : ((s.chk ar i').1 == 0) = false := by simpa using he
        have HE : Hid (¬ (s.chk ar i').1 = 0) := he
        clear he
        go_wp2_with (first
          | (go_at_call 23; refine (HS.out s _ wb B i' v' _ ar (by omega) hwb ?h1 HX.out.1 ?h2 hi1' (by omega) (by omega)).mono ?_; rotate_left 2; rintro e w3 ⟨rfl, v3, hk3, hr3⟩; have H3 : Hid (_ ∧ _) := ⟨hk3, hr3⟩; clear hk3 hr3))
        case h1 => exact HX.out.2.1.alloc HX.out.2.1.size _
        case h2 => exact HX.out.2.2.2.1.below ((Below.refl _ _).alloc (Nat.le_refl _) _)
        have hch := HX.out.2.2.1
        rw [if_pos HE.out] at hch
        go_ret
        exact ⟨ret_int (by rw [← hch]), v3, by rw [← hch]; exact H3.out.1, (HX.out.2.2.2.2.trans (WR.of_below ((Below.refl _ _).alloc (Nat.le_refl _) _))).trans H3.out.2⟩
    · have hje : j = a.length := by omega
      subst hje
      rw [List.drop_length, St.chkAll] at hch
      have HX : Hid (_ ∧ _ ∧ _) := ⟨hch, hwk', hwr⟩
      clear hch hwk' hwr
      go_wp2_with fail
      go_ret
      exact ⟨ret_int (by rw [← HX.out.1]), v', by rw [← HX.out.1]; exact HX.out.2.1, HX.out.2.2⟩

theorem list_any (w : World) (wb : Nat) (ad : Option Addr) (m c : Nat) : Calls Tryd.prog 13 #[.pointer (some ⟨wb, 0, none⟩), .slice ad m c] w fun r w' =>
    r = .returned (.func (.func 22) #[] #[.pointer (some ⟨w.heap.size + 1, 0, none⟩), .pointer (some ⟨w.heap.size, 0, none⟩)]) ∧ w' = (w.alloc (.cells #[.pointer (some ⟨wb, 0, none⟩)] 60)).alloc (.cells #[.slice ad m c] 22) := by
  go_enter Tryd.func13, Tryd.ntmps13
  go_wp2
  go_ret
  exact ⟨rfl, rfl⟩

theorem inner_any (w : World) (wb : Nat) (sk sn ek en ck ak an bk bn : Int) (ead aad bad yad lad : Option Addr) (em ec am ac bm bc ly yc ll lc : Nat) :
    Calls Tryd.prog 34 #[.pointer (some ⟨wb, 0, none⟩), .agg #[.int .i64 sk, .int .i64 sn, .int .i64 ek, .int .i64 en, .slice ead em ec, .int .i64 ck, .int .i64 ak, .int .i64 an, .slice aad am ac, .int .i64 bk, .int .i64 bn, .slice bad bm bc, .slice yad ly yc, .slice lad ll lc]] w fun r w' =>
    r = .returned (.func (.func 42) #[] #[.pointer (some ⟨w.heap.size, 0, none⟩), .pointer (some ⟨w.heap.size + 1, 0, none⟩)]) ∧ w' = (w.alloc (.cells #[.pointer (some ⟨wb, 0, none⟩)] 60)).alloc (.cells #[.int .i64 sk, .int .i64 sn, .int .i64 ek, .int .i64 en, .slice ead em ec, .int .i64 ck, .int .i64 ak, .int .i64 an, .slice aad am ac, .int .i64 bk, .int .i64 bn, .slice bad bm bc, .slice yad ly yc, .slice lad ll lc] 34) := by
  go_enter Tryd.func34, Tryd.ntmps34
  go_wp2
  go_ret
  exact ⟨rfl, rfl⟩

theorem ent22 (cp : Array Value) (w : World) : (callFunc 22 cp).run Tryd.prog w = .ok (.enter 22 cp) w := run_enter Tryd.func22 (by kernel_rfl) (by kernel_rfl) cp w
theorem ent42 (cp : Array Value) (w : World) : (callFunc 42 cp).run Tryd.prog w = .ok (.enter 42 cp) w := run_enter Tryd.func42 (by kernel_rfl) (by kernel_rfl) cp w
end Go.Proofs.YtfffpemgfddehaaDoor
