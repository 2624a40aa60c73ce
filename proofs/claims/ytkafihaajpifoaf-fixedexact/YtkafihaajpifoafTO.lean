import Derived.Test.YtkafihaajpifoafKH
import Derived.Test.YtkafihaajpifoafKR
import Derived.Test.YtkafihaajpifoafSQH
import Derived.Test.YtkafihaajpifoafYF
import Derived.Test.YtkafihaajpifoafTT
import Derived.LaidMore
import Derived.ChangeArms
import Derived.OpenShut
import Derived.WideKeyArgs
import Derived.Deep.DeepHandedRow
namespace Go.Proofs.Ytkafihaajpifoaf
open Go.ChangeShapes Go.WideShapes Go.ChangeAt Go.RowKit

theorem field_29 (W : World) (a b : Int) : (Instr.field 29 (.agg #[.int .i64 a, .int .i64 b]) 0).run Try.prog W = .ok (.int .i64 a) W := by kernel_rfl

set_option maxRecDepth 20000 in
set_option maxHeartbeats 8000000 in
theorem exact_walk (w : World) (l : List Ta) (v : Value) (hS : ∀ x ∈ l, x.nm.size ≤ 9223372036854775807) (hv : RowSl Ta.vals w l v) :
    Calls Try.prog 4 #[v] w fun r w' => r = .returned (.bool true) ∧ Below w.heap.size w w' := by
  obtain ⟨ad, c, rfl⟩ := hv.len
  have HV : Hid (RowSl Ta.vals w l (.slice ad l.length c)) := hv
  have HS : Hid (∀ x ∈ l, x.nm.size ≤ 9223372036854775807) := hS
  clear hS
  have HC := fun W (hb : Below w.heap.size w W) => CheckFixed_any W l _ HS.out (HV.out.below hb)
  by_cases hX : (chkX l).1 = 0
  · rw [hX] at HC
    obtain ⟨-, hDT, hl1, h8, hst, -⟩ := chkX_ok hX
    obtain ⟨ad', c', e, -, hcap, hrow⟩ := hv
    cases e
    rcases hrow with h | ⟨b, o, rfl, hrow⟩
    · rw [h] at hl1; simp at hl1
    have HR : Hid ((∀ q u, (l.flatMap Ta.vals)[q]? = some u → w.cell? ⟨b, o + q, none⟩ = some u) ∧ (∀ x ∈ l, stands x = true) ∧ ∀ x ∈ l, x.d ≤ x.t) := ⟨hrow, hst, hDT⟩
    clear hrow hst hDT
    generalize (chkX l).2 = z2 at *
    have hfd := fun W => field_29 W 0 z2
    go_enter Try.func4, Try.ntmps4
    go_wp2_with (go_at_call 6; refine (responds_any _).mono ?_; rintro r w1 ⟨rfl, hb1⟩; have H1 : Hid (Below w.heap.size w w1) := hb1; clear hb1)
    go_wp2_with (go_at_call 7; refine (S8.runs_any _).mono ?_; rintro r w2 ⟨rfl, hb2⟩; have H2 : Hid (Below w.heap.size w w2) := below_seq H1.out hb2; clear hb2 H1)
    go_wp2_with (go_at_call 15; refine (HC _ H2.out).mono ?_; rintro r w3 ⟨rfl, hb3⟩; have H3 : Hid (Below w.heap.size w w3) := below_seq H2.out hb3; clear hb3 H2 HC)
    go_loopw [3, 30] (fun ev iv wr => ∃ (j : Nat) (e : Int), j ≤ l.length ∧ ev = .int .i64 e ∧ iv = .int .i64 (j : Int) ∧ Below w.heap.size w wr ∧ 0 ≤ e ∧ e ≤ 10000 ∧ Hid ((∀ k, k < j → (Tk l k).d ≤ e ∧ (Tk l k).j = 0 ∧ (Tk l k).o = 0) ∧ (∀ a b, a < b → b < j → (Tk l a).p ≠ (Tk l b).p))) (fun _ iv _ => l.length - (intOf iv).toNat)
    case atStart => exact ⟨0, 0, Nat.zero_le _, rfl, rfl, H3.out, by omega, by omega, fun k hk => by omega, fun a b _ hb => by omega⟩
    case round =>
      obtain ⟨w4, hw4⟩ : ∃ w4, w4 = wr := ⟨wr, rfl⟩
      subst hw4
      obtain ⟨j, e, hjl, rfl, rfl, hb, he0, he1, HQ⟩ := hrel
      by_cases hlt : j < l.length
      · obtain ⟨c0, c1, c2, c3, c4, c5, c6⟩ := ta_at (fun q u hq => below_cell hb (HR.out.1 q u hq)) (Tk_get hlt)
        obtain ⟨y1, y2, y3, y4, y5, y6, -, -, -, -⟩ := stands_t (stands_mem HR.out.2.1 hlt)
        have lb : b < w4.heap.size := World.block_lt_of_cell? _ _ c0
        have hj' : (j : Int) < (l.length : Int) := by omega
        have hjl' : (j : Int) ≤ (l.length : Int) := by omega
        have hjc : (j : Int) ≤ (c : Int) := by omega
        have HB : Hid (Below w.heap.size w w4) := hb
        generalize hy : Tk l j = y at *
        have HY : Hid (Tk l j = y) := hy
        have HT : Hid (∀ W, Below (w4.alloc (.cells #[.string y.nm, .int .i64 y.c, .int .i64 y.t, .int .i64 y.d, .int .i64 y.j, .int .i64 y.o, .int .i64 y.p] 45)).heap.size (w4.alloc (.cells #[.string y.nm, .int .i64 y.c, .int .i64 y.t, .int .i64 y.d, .int .i64 y.j, .int .i64 y.o, .int .i64 y.p] 45)) W → W.cell? ⟨w4.heap.size, 4, none⟩ = some (.int .i64 y.j) ∧ W.cell? ⟨w4.heap.size, 5, none⟩ = some (.int .i64 y.o) ∧ W.cell? ⟨w4.heap.size, 6, none⟩ = some (.int .i64 y.p)) := fun W hB => ⟨below_cell hB (by go_simp), below_cell hB (by go_simp), below_cell hB (by go_simp)⟩
        clear hb hy
        go_wp2_with fail
        clear c0 c1 c2 c3 c4 c5 c6
        go_loopw [43] (fun iv wl => ∃ k : Nat, k ≤ j ∧ iv = .int .i64 (k : Int) ∧ Below (w4.alloc (.cells #[.string y.nm, .int .i64 y.c, .int .i64 y.t, .int .i64 y.d, .int .i64 y.j, .int .i64 y.o, .int .i64 y.p] 45)).heap.size (w4.alloc (.cells #[.string y.nm, .int .i64 y.c, .int .i64 y.t, .int .i64 y.d, .int .i64 y.j, .int .i64 y.o, .int .i64 y.p] 45)) wl ∧ Hid (∀ a, a < k → (Tk l a).p ≠ y.p)) (fun iv _ => j - (intOf iv).toNat)
        case atStart => exact ⟨0, Nat.zero_le _, rfl, Below.refl _ _, fun a ha => by omega⟩
        case round =>
          obtain ⟨k, hkj, rfl, hbk, HK⟩ := hrel
          obtain ⟨t4, t5, t6⟩ := HT.out wr hbk
          have HW : Hid (Below w.heap.size w wr) := below_seq HB.out (below_seq (below_new _ _) hbk)
          have HBK : Hid (Below (w4.alloc (.cells #[.string y.nm, .int .i64 y.c, .int .i64 y.t, .int .i64 y.d, .int .i64 y.j, .int .i64 y.o, .int .i64 y.p] 45)).heap.size (w4.alloc (.cells #[.string y.nm, .int .i64 y.c, .int .i64 y.t, .int .i64 y.d, .int .i64 y.j, .int .i64 y.o, .int .i64 y.p] 45)) wr) := hbk
          have ltb : w4.heap.size < wr.heap.size := World.block_lt_of_cell? _ _ t4
          clear hbk
          by_cases hk : k < j
          · obtain ⟨z0, z1, z2', z3, z4, z5, z6⟩ := ta_at (fun q u hq => below_cell HW.out (HR.out.1 q u hq)) (Tk_get (show k < l.length by omega))
            have lbz : b < wr.heap.size := World.block_lt_of_cell? _ _ z0
            have hk' : (k : Int) < (j : Int) := by omega
            generalize hzz : Tk l k = z at *
            by_cases hp : z.p = y.p
            · have hpb : (z.p == y.p) = true := by simpa using hp
              clear hzz
              go_wp2_with fail
              go_ret
              exact ⟨rfl, below_seq HW.out (below_new _ _)⟩
            · have hpb : (z.p == y.p) = false := by simpa using hp
              have HK' : Hid (∀ a, a < k + 1 → (Tk l a).p ≠ y.p) := fun a ha => by
                by_cases e : a = k
                · subst e; rw [hzz]; exact hp
                · exact HK.out a (by omega)
              clear hzz
              go_wp2_with fail
              exact ⟨⟨k + 1, by omega, by simp, below_seq HBK.out (below_new _ _), HK'.out⟩, by simp [intOf]; omega⟩
          · have hke : k = j := by omega
            subst hke
            by_cases hj0 : y.j = 0
            · have hjb : (y.j != 0) = false := by simpa using hj0
              by_cases ho0 : y.o = 0
              · have hob : (y.o != 0) = false := by simpa using ho0
                have HF : Hid ((∀ q, q < k + 1 → (Tk l q).d ≤ max e y.d ∧ (Tk l q).j = 0 ∧ (Tk l q).o = 0) ∧ (∀ a b, a < b → b < k + 1 → (Tk l a).p ≠ (Tk l b).p)) := ⟨fun q hq => by
                  by_cases e : q = k
                  · subst e; rw [HY.out]; exact ⟨by omega, hj0, ho0⟩
                  · have := HQ.out.1 q (by omega)
                    exact ⟨by omega, this.2.1, this.2.2⟩, fun a b hab hb => by
                  by_cases e : b = k
                  · subst e; rw [HY.out]; exact HK.out a hab
                  · exact HQ.out.2 a b hab (by omega)⟩
                go_wp2_with fail
                first
                  | exact ⟨⟨k + 1, max e y.d, by omega, rfl, by simp, HW.out, by omega, by omega, HF.out⟩, by simp [intOf]; omega⟩
                  | fail
              · have hob : (y.o != 0) = true := by simpa using ho0
                go_wp2_with fail
                go_ret
                exact ⟨rfl, HW.out⟩
            · have hjb : (y.j != 0) = true := by simpa using hj0
              go_wp2_with fail
              go_ret
              exact ⟨rfl, HW.out⟩
      · have hje : j = l.length := by omega
        subst hje
        have HB : Hid (Below w.heap.size w w4) := hb
        clear hb
        by_cases h15 : 1500 < e
        · go_wp2_with fail
          go_ret
          exact ⟨rfl, HB.out⟩
        · obtain ⟨E, rfl⟩ : ∃ E : Nat, e = (E : Int) := ⟨e.toNat, by omega⟩
          have A16 := Comes_any w4 l (.slice (some ⟨b, o, none⟩) l.length c) (E : Int) (HV.out.below HB.out)
          obtain ⟨g1, g2, cs, EC⟩ : ∃ g1 g2 cs, comesF l (E : Int) = ((g1, g2), cs) := ⟨_, _, _, rfl⟩
          rw [EC] at A16
          dsimp only at A16
          have HEC : Hid (comesF l (E : Int) = ((g1, g2), cs)) := EC
          clear EC
          by_cases hg : g1 = 0
          · subst hg
            by_cases h6 : 600 < cs.length
            · have h6' : (600 : Int) < (cs.length : Int) := by omega
              go_wp2_with (go_at_call 16; refine A16.mono ?_; rintro r w5 ⟨u5, rfl, ho5, hb5⟩; obtain ⟨a5, c5, rfl⟩ := owns_value ho5; have H5 : Hid (Below w.heap.size w w5) := below_seq HB.out hb5; clear hb5 ho5 A16)
              all_goals
                go_ret
                exact ⟨rfl, below_seq H5.out (below_new _ _)⟩
            · have h6' : ¬ (600 : Int) < (cs.length : Int) := by omega
              have hck := (chkX_ok hX).1
              obtain ⟨rfl, hcsE, e0, e1⟩ := comesF_ok HEC.out hck
              obtain ⟨EJ, NO0⟩ := nought_of hX HEC.out HQ.out.1 HQ.out.2
              rw [Int.toNat_natCast] at NO0
              have hlk := legF_ok NO0.leg
              have HN : Hid (Nought l E cs (cs.map (jobOf l)) ∧ jobsF l cs (List.replicate cs.length 0) (cs.map (fun c => (Tk l c.k.toNat).c)) = ((0, 0), cs.map (jobOf l)) ∧ (∀ c ∈ cs, 0 ≤ c.k ∧ c.k < (l.length : Int) ∧ 0 ≤ c.a ∧ c.a ≤ 20000)) := ⟨NO0, EJ, hlk.2.2⟩
              clear hck hcsE EJ NO0 hlk
              go_wp2_with (go_at_call 16; refine A16.mono ?_; rintro r w5 ⟨u5, rfl, ho5, hb5⟩; obtain ⟨a5, c5, rfl⟩ := owns_value ho5; have H5 : Hid (Below w.heap.size w w5 ∧ RowSl Co.vals w5 cs (.slice a5 cs.length c5) ∧ FB w5 (w5.alloc (.cells #[.int .i64 0, .int .i64 0] 29)) w5.heap.size) := ⟨below_seq HB.out hb5, rowOfC_own ho5, FB.start w5⟩; clear hb5 ho5 A16)
              go_loopw [10, 88] (fun av iv wr => ∃ (j : Nat) (acc : List Int), j ≤ cs.length ∧ iv = .int .i64 (j : Int) ∧ acc.length ≤ j ∧ NO w5 wr w5.heap.size acc av ∧ Hid (acc ++ (cs.drop j).map (fun c => (Tk l c.k.toNat).c) = cs.map (fun c => (Tk l c.k.toNat).c))) (fun _ iv _ => cs.length - (intOf iv).toNat)
              case atStart => exact ⟨0, [], Nat.zero_le _, rfl, by simp, NO.start H5.out.2.2, rfl⟩
              case round =>
                obtain ⟨j, acc, hjl, rfl, hac, hno, HA⟩ := hrel
                obtain ⟨a6, c6, rfl⟩ := hno.val
                have HM : Hid (NO w5 wr w5.heap.size acc (.slice a6 acc.length c6)) := hno
                by_cases hlt : j < cs.length
                · obtain ⟨x, hx, hdr⟩ := drop_at hlt
                  have hq := HA.out
                  rw [hdr, List.map_cons] at hq
                  obtain ⟨x0, x1, x2, x3⟩ := HN.out.2.2 x (List.mem_of_getElem? hx)
                  obtain ⟨kn, hkn⟩ : ∃ kn : Nat, x.k = (kn : Int) := ⟨x.k.toNat, by omega⟩
                  rw [hkn, Int.toNat_natCast] at hq
                  have hknl : kn < l.length := by omega
                  obtain ⟨ad9, cc9, e9, -, hcap9, hrow9⟩ := H5.out.2.1
                  cases e9
                  rcases hrow9 with h | ⟨b2, o2, rfl, hrow2⟩
                  · rw [h] at hlt; simp at hlt
                  obtain ⟨q0, q1⟩ := co_at (fun q u hq => below_cell hno.fb.bel (hrow2 q u hq)) hx
                  rw [hkn] at q0
                  obtain ⟨-, t1, -, -, -, -, -⟩ := ta_at (fun q u hq => below_cell (below_seq H5.out.1 hno.fb.bel) (HR.out.1 q u hq)) (Tk_get hknl)
                  have lb : b < wr.heap.size := World.block_lt_of_cell? _ _ t1
                  have lb2 : b2 < wr.heap.size := World.block_lt_of_cell? _ _ q0
                  have hj' : (j : Int) < (cs.length : Int) := by omega
                  have hk' : (kn : Int) < (l.length : Int) := by omega
                  generalize (Tk l kn).c = tc at *
                  generalize x.a = xa at *
                  have HA' : Hid ((acc ++ [tc]) ++ (cs.drop (j + 1)).map (fun c => (Tk l c.k.toNat).c) = cs.map (fun c => (Tk l c.k.toNat).c)) := by
                    show _ = _
                    rw [List.append_assoc]
                    exact hq
                  obtain ⟨ad9, c9, w9, hrun, ho9⟩ := NO.push (HM.out.grow (below_new wr (.cells #[.int .i64 (kn : Int), .int .i64 xa] 49))) tc (by omega)
                  rw [show (wr.alloc (.cells #[.int .i64 (kn : Int), .int .i64 xa] 49)).heap.size = wr.heap.size + 1 by simp] at hrun
                  have H9 : Hid (NO w5 w9 w5.heap.size (acc ++ [tc]) (.slice ad9 (acc.length + 1) c9)) := ho9
                  clear hq HA hno hrow2 hx hdr hkn ho9
                  go_wp2_with (at_builtin; refine append_known rfl (.tmp 92) (.tmp 99) 24 rfl rfl rfl hrun ?_)
                  first
                    | exact ⟨⟨j + 1, acc ++ [tc], by omega, by simp, by simp; omega, H9.out, HA'.out⟩, by simp [intOf]; omega⟩
                    | fail
                · have hje : j = cs.length := by omega
                  subst hje
                  have hq := HA.out
                  rw [List.drop_length, List.map_nil, List.append_nil] at hq
                  subst hq
                  clear HA hno
                  have hmk := fun W => make_zeros cs.length (by omega) W
                  go_wp2_with fail
                  have htk : RowSl nuV wr (cs.map (fun c => (Tk l c.k.toNat).c)) (.slice a6 cs.length c6) := by
                    have := HM.out.rowSl
                    rw [List.length_map] at this
                    exact this
                  have b5 : Below w5.heap.size w5 wr := HM.out.fb.bel
                  have A10 := Jobs_any (wr.alloc (.cells (zerosV cs.length).toArray 3)) l cs (List.replicate cs.length 0) (cs.map (fun c => (Tk l c.k.toNat).c)) _ _ _ _ (HV.out.below (below_seq H5.out.1 (below_seq b5 (below_new _ _)))) (H5.out.2.1.below (below_seq b5 (below_new _ _))) (zeros_row wr cs.length) (htk.below (below_new _ _))
                  rw [HN.out.2.1] at A10
                  dsimp only at A10
                  have G6 : Hid (Below w5.heap.size w5 (wr.alloc (.cells (zerosV cs.length).toArray 3)) ∧ FL (wr.alloc (.cells (zerosV cs.length).toArray 3)) w5.heap.size 0 0 ∧ w5.heap.size < (wr.alloc (.cells (zerosV cs.length).toArray 3)).heap.size) := ⟨below_seq b5 (below_new _ _), FL.grow (show FL wr w5.heap.size 0 0 from HM.out.fb.res) (below_new _ _), (FL.grow (show FL wr w5.heap.size 0 0 from HM.out.fb.res) (below_new _ _)).cells.2.2⟩
                  have hlm : (cs.map (jobOf l)).length = cs.length := by simp
                  generalize hjs : (cs.map (jobOf l)) = js at *
                  have HJS : Hid ((cs.map (jobOf l)) = js) := hjs
                  clear htk b5 hjs
                  go_wp2_with (go_at_call 10; refine A10.mono ?_; rintro r w7 ⟨u7, rfl, ho7, hb7⟩; obtain ⟨a7, c7, rfl⟩ := owns_value ho7; have H7 : Hid (Below w5.heap.size w5 w7 ∧ w7.ownsRow ((wr.alloc (.cells (zerosV cs.length).toArray 3)).heap.size + 1) 60 5 (.slice a7 js.length c7) js.length (js.flatMap Jb.vals) ∧ FL w7 w5.heap.size 0 0 ∧ w5.heap.size < ((wr.alloc (.cells (zerosV cs.length).toArray 3)).heap.size + 1)) := ⟨below_seq G6.out.1 hb7, ho7, G6.out.2.1.grow hb7, by have := G6.out.2.2; omega⟩; obtain ⟨f50, f51, f5l⟩ := H7.out.2.2.1.cells; have f5f := (cells_of (l := [_, _]) H7.out.2.2.1).2.1; have ff50 := f5f 0; have ff51 := f5f 1; clear f5f hb7 ho7 A10)
                  have jX1 : RowSl Jb.vals ((w7.setCell ⟨w5.heap.size, 0, none⟩ (.int .i64 0)).setCell ⟨w5.heap.size, 1, none⟩ (.int .i64 0)) js (.slice a7 cs.length c7) := by
                    have := rowOf_own (ownsRow_two H7.out.2.1 H7.out.2.2.2 (.int .i64 0) (.int .i64 0))
                    rw [hlm] at this
                    exact this
                  have bX1 : Below w5.heap.size w5 ((w7.setCell ⟨w5.heap.size, 0, none⟩ (.int .i64 0)).setCell ⟨w5.heap.size, 1, none⟩ (.int .i64 0)) := (H7.out.1.setCell (p := ⟨w5.heap.size, 0, none⟩) (Nat.le_refl _) _).setCell (p := ⟨w5.heap.size, 1, none⟩) (Nat.le_refl _) _
                  have FX1 : FL ((w7.setCell ⟨w5.heap.size, 0, none⟩ (.int .i64 0)).setCell ⟨w5.heap.size, 1, none⟩ (.int .i64 0)) w5.heap.size 0 0 := set_two H7.out.2.2.1
                  have GX : Hid (RowSl Jb.vals ((w7.setCell ⟨w5.heap.size, 0, none⟩ (.int .i64 0)).setCell ⟨w5.heap.size, 1, none⟩ (.int .i64 0)) js (.slice a7 cs.length c7) ∧ Below w5.heap.size w5 ((w7.setCell ⟨w5.heap.size, 0, none⟩ (.int .i64 0)).setCell ⟨w5.heap.size, 1, none⟩ (.int .i64 0)) ∧ FL ((w7.setCell ⟨w5.heap.size, 0, none⟩ (.int .i64 0)).setCell ⟨w5.heap.size, 1, none⟩ (.int .i64 0)) w5.heap.size 0 0) := ⟨jX1, bX1, FX1⟩
                  clear jX1 bX1 FX1 f50 f51 f5l ff50 ff51 H7 G6
                  generalize ((w7.setCell ⟨w5.heap.size, 0, none⟩ (.int .i64 0)).setCell ⟨w5.heap.size, 1, none⟩ (.int .i64 0)) = X at *
                  have hok : Hid (∀ x ∈ js, S8.okJ x) := jobs_okJ HN.out.2.1
                  have A12 := S8.Play_good X js (.slice a7 cs.length c7) 1 E true GX.out.1 (by rw [plE_jobs hok.out (by omega) (by omega)])
                  go_wp2_with (go_at_call 12; refine A12.mono ?_; rintro r w9 ⟨v1, v2, rfl, ho⟩; obtain ⟨s, rb, eb, hp, rfl, rfl, h1, h2, hne, b1, b2⟩ := ho.out; rw [hlm]; have H9 : Hid (Below X.heap.size X w9 ∧ S8.Plays js 1 true E s ∧ w9.heap[eb]? = some (.cells (s.ends.map (Value.int .i64)).toArray 3 (0, 0)) ∧ X.heap.size ≤ eb) := ⟨ho.bel, hp, h2, b2⟩; obtain ⟨f50, f51, f5l⟩ := (GX.out.2.2.grow ho.bel).cells; have f5f := (cells_of (l := [_, _]) (GX.out.2.2.grow ho.bel)).2.1; have ff50 := f5f 0; have ff51 := f5f 1; clear f5f hp h1 h2 ho A12 b1 b2 hne)
                  have hl5 : w5.heap.size < X.heap.size := GX.out.2.2.cells.2.2
                  have bX2 : Below w5.heap.size w5 (((w9.setCell ⟨w5.heap.size, 0, none⟩ (.int .i64 0)).setCell ⟨w5.heap.size, 1, none⟩ (.int .i64 0)).alloc (.cells #[.slice (some ⟨rb, 0, none⟩) E E, .slice (some ⟨eb, 0, none⟩) cs.length cs.length] 37)) := by
                    have h0 := ((below_seq GX.out.2.1 H9.out.1).setCell (p := ⟨w5.heap.size, 0, none⟩) (Nat.le_refl _) (.int .i64 0)).setCell (p := ⟨w5.heap.size, 1, none⟩) (Nat.le_refl _) (.int .i64 0)
                    exact h0.alloc h0.size _
                  have PX : (((w9.setCell ⟨w5.heap.size, 0, none⟩ (.int .i64 0)).setCell ⟨w5.heap.size, 1, none⟩ (.int .i64 0)).alloc (.cells #[.slice (some ⟨rb, 0, none⟩) E E, .slice (some ⟨eb, 0, none⟩) cs.length cs.length] 37)).heap[w9.heap.size]? = some (.cells #[.slice (some ⟨rb, 0, none⟩) E E, .slice (some ⟨eb, 0, none⟩) cs.length cs.length] 37 (0, 0)) := by
                    have := heap_alloc_new ((w9.setCell ⟨w5.heap.size, 0, none⟩ (.int .i64 0)).setCell ⟨w5.heap.size, 1, none⟩ (.int .i64 0)) (.cells #[.slice (some ⟨rb, 0, none⟩) E E, .slice (some ⟨eb, 0, none⟩) cs.length cs.length] 37)
                    simpa using this
                  have heb : eb ≠ w5.heap.size := by have := H9.out.2.2.2; omega
                  have eX : (((w9.setCell ⟨w5.heap.size, 0, none⟩ (.int .i64 0)).setCell ⟨w5.heap.size, 1, none⟩ (.int .i64 0)).alloc (.cells #[.slice (some ⟨rb, 0, none⟩) E E, .slice (some ⟨eb, 0, none⟩) cs.length cs.length] 37)).heap[eb]? = some (.cells (s.ends.map (Value.int .i64)).toArray 3 (0, 0)) := ((Below.heap_alloc _ _ _ (by have := (Array.getElem?_eq_some_iff.1 H9.out.2.2.1).1; simpa using this)).trans (by rw [Below.heap_setCell _ _ _ _ (by show eb ≠ w5.heap.size; exact heb), Below.heap_setCell _ _ _ _ (by show eb ≠ w5.heap.size; exact heb)])).trans H9.out.2.2.1
                  have EP := exact_pure HN.out.1 hok.out H9.out.2.1
                  have GY : Hid (Below w5.heap.size w5 (((w9.setCell ⟨w5.heap.size, 0, none⟩ (.int .i64 0)).setCell ⟨w5.heap.size, 1, none⟩ (.int .i64 0)).alloc (.cells #[.slice (some ⟨rb, 0, none⟩) E E, .slice (some ⟨eb, 0, none⟩) cs.length cs.length] 37)) ∧ (((w9.setCell ⟨w5.heap.size, 0, none⟩ (.int .i64 0)).setCell ⟨w5.heap.size, 1, none⟩ (.int .i64 0)).alloc (.cells #[.slice (some ⟨rb, 0, none⟩) E E, .slice (some ⟨eb, 0, none⟩) cs.length cs.length] 37)).heap[w9.heap.size]? = some (.cells #[.slice (some ⟨rb, 0, none⟩) E E, .slice (some ⟨eb, 0, none⟩) cs.length cs.length] 37 (0, 0)) ∧ (((w9.setCell ⟨w5.heap.size, 0, none⟩ (.int .i64 0)).setCell ⟨w5.heap.size, 1, none⟩ (.int .i64 0)).alloc (.cells #[.slice (some ⟨rb, 0, none⟩) E E, .slice (some ⟨eb, 0, none⟩) cs.length cs.length] 37)).heap[eb]? = some (.cells (s.ends.map (Value.int .i64)).toArray 3 (0, 0)) ∧ ∀ i, i < l.length → ∃ e, s.ends[i]? = some e ∧ (respR l i 0 ≠ 0 → e = respR l i 0) ∧ (respR l i 0 = 0 → ¬ (0 ≤ e ∧ e ≤ (Tk l i).d))) := ⟨bX2, PX, eX, EP⟩
                  clear hl5 bX2 PX heb eX EP f50 f51 f5l ff50 ff51 H9 GX
                  generalize (((w9.setCell ⟨w5.heap.size, 0, none⟩ (.int .i64 0)).setCell ⟨w5.heap.size, 1, none⟩ (.int .i64 0)).alloc (.cells #[.slice (some ⟨rb, 0, none⟩) E E, .slice (some ⟨eb, 0, none⟩) cs.length cs.length] 37)) = Y at *
                  generalize w9.heap.size = PB at *
                  go_loopw [134] (fun iv wr => ∃ j : Nat, j ≤ l.length ∧ iv = .int .i64 (j : Int) ∧ Below Y.heap.size Y wr) (fun iv _ => l.length - (intOf iv).toNat)
                  case atStart => exact ⟨0, Nat.zero_le _, rfl, Below.refl _ _⟩
                  case round =>
                    obtain ⟨j, hjl2, rfl, hbl⟩ := hrel
                    have HBL : Hid (Below Y.heap.size Y wr) := hbl
                    clear hbl
                    by_cases hlt2 : j < l.length
                    · obtain ⟨ev, he1, he2, he3⟩ := GY.out.2.2.2 j hlt2
                      have hfst := HN.out.1.first j hlt2
                      obtain ⟨ad9, cc9, e9, -, hcap9, hrow9⟩ := H5.out.2.1
                      cases e9
                      rcases hrow9 with h | ⟨b2, o2, rfl, hrow2⟩
                      · rw [h] at hfst; simp at hfst
                      have HFA : Hid (∀ W, Below Y.heap.size Y W → W.cell? ⟨b2, o2 + j * 2, none⟩ = some (.int .i64 (j : Int)) ∧ W.cell? ⟨b2, o2 + j * 2 + 1, none⟩ = some (.int .i64 0) ∧ W.cell? ⟨PB, 1, none⟩ = some (.slice (some ⟨eb, 0, none⟩) cs.length cs.length) ∧ W.cell? ⟨eb, j, none⟩ = some (.int .i64 ev) ∧ W.cell? ⟨b, o + j * 7 + 3, none⟩ = some (.int .i64 (Tk l j).d)) := fun W hB => by
                        obtain ⟨q0, q1⟩ := co_at (fun q u hq => below_cell (below_seq GY.out.1 hB) (hrow2 q u hq)) hfst
                        obtain ⟨-, -, -, td, -, -, -⟩ := ta_at (fun q u hq => below_cell (below_seq (below_seq H5.out.1 GY.out.1) hB) (HR.out.1 q u hq)) (Tk_get hlt2)
                        exact ⟨q0, q1, below_cell hB ((cells_of (l := [_, _]) GY.out.2.1).1 1 _ rfl), below_cell hB ((cells_of GY.out.2.2.1).1 j _ (by rw [List.getElem?_map, he1]; rfl)), td⟩
                      have hjc : (j : Int) < (cs.length : Int) := by have := (List.getElem?_eq_some_iff.1 hfst).1; omega
                      have hjl3 : (j : Int) < (l.length : Int) := by omega
                      have A17 := Response_any wr l (.slice (some ⟨b, o, none⟩) l.length c) (j : Int) 0 (by omega) (HV.out.below (below_seq (below_seq H5.out.1 GY.out.1) HBL.out))
                      have er : responseF l (j : Int) 0 = if respR l j 0 = 0 then (0, (13, (j : Int))) else (respR l j 0, (0, 0)) := by
                        unfold responseF respF
                        rw [if_neg (by omega), if_neg (by omega), Int.toNat_natCast]
                      rw [er] at A17
                      generalize respR l j 0 = rr at *
                      generalize (Tk l j).d = dd at *
                      clear er hfst hrow2 he1
                      by_cases hr0 : rr = 0
                      · rw [if_pos hr0] at A17
                        have hng := he3 hr0
                        clear he2 he3
                        by_cases h0e : 0 ≤ ev
                        · have g1 : decide (0 ≤ ev) = true := by simp [h0e]
                          have g2 : decide (ev ≤ dd) = false := by simp; omega
                          dsimp only at A17
                          go_wp2_with (go_at_call 17; refine A17.mono ?_; rintro r w10 ⟨rfl, hb10⟩; obtain ⟨q0, q1, p1, ce, td⟩ := HFA.out w10 (below_seq HBL.out hb10); have HB10 : Hid (Below Y.heap.size Y w10) := below_seq HBL.out hb10; have l1 : b2 < w10.heap.size := World.block_lt_of_cell? _ _ q0; have l2 : PB < w10.heap.size := World.block_lt_of_cell? _ _ p1; have l3 : eb < w10.heap.size := World.block_lt_of_cell? _ _ ce; have l4 : b < w10.heap.size := World.block_lt_of_cell? _ _ td; clear hb10 A17)
                          refine wp_region_noPanic ?_
                          refine wp_region_held_drew (S := fun w' => w'.cell? ⟨w10.heap.size, 0, none⟩ = some (.int .i64 13) ∧ w'.cell? ⟨PB, 1, none⟩ = some (.slice (some ⟨eb, 0, none⟩) cs.length cs.length) ∧ w'.cell? ⟨eb, j, none⟩ = some (.int .i64 ev) ∧ w'.cell? ⟨b, o + j * 7 + 3, none⟩ = some (.int .i64 dd)) (by kernel_rfl) (by refine ⟨?_, ?_, ?_, ?_⟩ <;> go_simp) (fun hHeld => ?_)
                          refine take_at (i := 0) (n := 158) (v := ?_) rfl rfl (by kernel_rfl) (by kernel_rfl) (by kernel_rfl) (fun _ _ _ h => h) (Or.inl ⟨by rfl, ?_⟩) (by assumption) ?_
                          rotate_left 1
                          · intro wz hSw
                            obtain ⟨k0, k1, k2, k3⟩ := hSw
                            first | (go_simp; done) | (go_simp; with_reducible rfl)
                          simp only [List.set_cons_zero, List.set_cons_succ]
                          refine take_at (i := 1) (n := 159) (v := ?_) rfl rfl (by kernel_rfl) (by kernel_rfl) (by kernel_rfl) (fun _ _ _ h => h) (Or.inl ⟨by rfl, ?_⟩) (by assumption) ?_
                          rotate_left 1
                          · intro wz hSw
                            obtain ⟨k0, k1, k2, k3⟩ := hSw
                            first | (go_simp; done) | (go_simp; with_reducible rfl)
                          simp only [List.set_cons_zero, List.set_cons_succ]
                          refine take_at (i := 2) (n := 160) (v := ?_) rfl rfl (by kernel_rfl) (by kernel_rfl) (by kernel_rfl) (fun _ _ _ h => h) (Or.inl ⟨by rfl, ?_⟩) (by assumption) ?_
                          rotate_left 1
                          · intro wz hSw
                            obtain ⟨k0, k1, k2, k3⟩ := hSw
                            first | (go_simp; done) | (go_simp; with_reducible rfl)
                          simp only [List.set_cons_zero, List.set_cons_succ]
                          refine take_at (i := 3) (n := 161) (v := ?_) rfl rfl (by kernel_rfl) (by kernel_rfl) (by kernel_rfl) (fun _ _ _ h => h) (Or.inl ⟨by rfl, ?_⟩) (by assumption) ?_
                          rotate_left 1
                          · intro wz hSw
                            obtain ⟨k0, k1, k2, k3⟩ := hSw
                            first | (go_simp; done) | (go_simp; with_reducible rfl)
                          simp only [List.set_cons_zero, List.set_cons_succ]
                          refine take_at (i := 4) (n := 162) (v := undef) rfl rfl (by kernel_rfl) (by kernel_rfl) (by kernel_rfl) (fun _ _ _ h => h) (Or.inr ⟨by rfl, rfl⟩) (by assumption) ?_
                          simp only [List.set_cons_zero, List.set_cons_succ]
                          refine take_at (i := 5) (n := 163) (v := undef) rfl rfl (by kernel_rfl) (by kernel_rfl) (by kernel_rfl) (fun _ _ _ h => h) (Or.inr ⟨by rfl, rfl⟩) (by assumption) ?_
                          simp only [List.set_cons_zero, List.set_cons_succ]
                          refine take_at (i := 6) (n := 164) (v := undef) rfl rfl (by kernel_rfl) (by kernel_rfl) (by kernel_rfl) (fun _ _ _ h => h) (Or.inr ⟨by rfl, rfl⟩) (by assumption) ?_
                          simp only [List.set_cons_zero, List.set_cons_succ]
                          refine take_at (i := 7) (n := 165) (v := undef) rfl rfl (by kernel_rfl) (by kernel_rfl) (by kernel_rfl) (fun _ _ _ h => h) (Or.inr ⟨by rfl, rfl⟩) (by assumption) ?_
                          simp only [List.set_cons_zero, List.set_cons_succ]
                          refine take_at (i := 8) (n := 166) (v := undef) rfl rfl (by kernel_rfl) (by kernel_rfl) (by kernel_rfl) (fun _ _ _ h => h) (Or.inr ⟨by rfl, rfl⟩) (by assumption) ?_
                          simp only [List.set_cons_zero, List.set_cons_succ]
                          refine take_at (i := 9) (n := 167) (v := undef) rfl rfl (by kernel_rfl) (by kernel_rfl) (by kernel_rfl) (fun _ _ _ h => h) (Or.inr ⟨by rfl, rfl⟩) (by assumption) ?_
                          simp only [List.set_cons_zero, List.set_cons_succ]
                          refine take_at (i := 10) (n := 168) (v := undef) rfl rfl (by kernel_rfl) (by kernel_rfl) (by kernel_rfl) (fun _ _ _ h => h) (Or.inr ⟨by rfl, rfl⟩) (by assumption) ?_
                          simp only [List.set_cons_zero, List.set_cons_succ]
                          refine take_at (i := 11) (n := 169) (v := ?_) rfl rfl (by kernel_rfl) (by kernel_rfl) (by kernel_rfl) (fun _ _ _ h => h) (Or.inl ⟨by rfl, ?_⟩) (by assumption) ?_
                          rotate_left 1
                          · intro wz hSw
                            obtain ⟨k0, k1, k2, k3⟩ := hSw
                            first | (go_simp; done) | (go_simp; with_reducible rfl)
                          simp only [List.set_cons_zero, List.set_cons_succ]
                          refine take_at (i := 12) (n := 170) (v := ?_) rfl rfl (by kernel_rfl) (by kernel_rfl) (by kernel_rfl) (fun _ _ _ h => h) (Or.inl ⟨by rfl, ?_⟩) (by assumption) ?_
                          rotate_left 1
                          · intro wz hSw
                            obtain ⟨k0, k1, k2, k3⟩ := hSw
                            first | (go_simp; done) | (go_simp; with_reducible rfl)
                          simp only [List.set_cons_zero, List.set_cons_succ]
                          refine take_at (i := 13) (n := 171) (v := ?_) rfl rfl (by kernel_rfl) (by kernel_rfl) (by kernel_rfl) (fun _ _ _ h => h) (Or.inl ⟨by rfl, ?_⟩) (by assumption) ?_
                          rotate_left 1
                          · intro wz hSw
                            obtain ⟨k0, k1, k2, k3⟩ := hSw
                            first | (go_simp; done) | (go_simp; with_reducible rfl)
                          simp only [List.set_cons_zero, List.set_cons_succ]
                          refine take_at (i := 14) (n := 172) (v := ?_) rfl rfl (by kernel_rfl) (by kernel_rfl) (by kernel_rfl) (fun _ _ _ h => h) (Or.inl ⟨by rfl, ?_⟩) (by assumption) ?_
                          rotate_left 1
                          · intro wz hSw
                            obtain ⟨k0, k1, k2, k3⟩ := hSw
                            first | (go_simp; done) | (go_simp; with_reducible rfl)
                          simp only [List.set_cons_zero, List.set_cons_succ]
                          refine take_at (i := 15) (n := 173) (v := ?_) rfl rfl (by kernel_rfl) (by kernel_rfl) (by kernel_rfl) (fun _ _ _ h => h) (Or.inl ⟨by rfl, ?_⟩) (by assumption) ?_
                          rotate_left 1
                          · intro wz hSw
                            obtain ⟨k0, k1, k2, k3⟩ := hSw
                            first | (go_simp; done) | (go_simp; with_reducible rfl)
                          simp only [List.set_cons_zero, List.set_cons_succ]
                          refine take_at (i := 16) (n := 174) (v := ?_) rfl rfl (by kernel_rfl) (by kernel_rfl) (by kernel_rfl) (fun _ _ _ h => h) (Or.inl ⟨by rfl, ?_⟩) (by assumption) ?_
                          rotate_left 1
                          · intro wz hSw
                            obtain ⟨k0, k1, k2, k3⟩ := hSw
                            first | (go_simp; done) | (go_simp; with_reducible rfl)
                          simp only [List.set_cons_zero, List.set_cons_succ]
                          refine take_at (i := 17) (n := 175) (v := ?_) rfl rfl (by kernel_rfl) (by kernel_rfl) (by kernel_rfl) (fun _ _ _ h => h) (Or.inl ⟨by rfl, ?_⟩) (by assumption) ?_
                          rotate_left 1
                          · intro wz hSw
                            obtain ⟨k0, k1, k2, k3⟩ := hSw
                            first | (go_simp; done) | (go_simp; with_reducible rfl)
                          simp only [List.set_cons_zero, List.set_cons_succ]
                          refine take_at (i := 18) (n := 176) (v := ?_) rfl rfl (by kernel_rfl) (by kernel_rfl) (by kernel_rfl) (fun _ _ _ h => h) (Or.inl ⟨by rfl, ?_⟩) (by assumption) ?_
                          rotate_left 1
                          · intro wz hSw
                            obtain ⟨k0, k1, k2, k3⟩ := hSw
                            first | (go_simp; done) | (go_simp; with_reducible rfl)
                          simp only [List.set_cons_zero, List.set_cons_succ]
                          refine take_at (i := 19) (n := 177) (v := ?_) rfl rfl (by kernel_rfl) (by kernel_rfl) (by kernel_rfl) (fun _ _ _ h => h) (Or.inl ⟨by rfl, ?_⟩) (by assumption) ?_
                          rotate_left 1
                          · intro wz hSw
                            obtain ⟨k0, k1, k2, k3⟩ := hSw
                            first | (go_simp; done) | (go_simp; with_reducible rfl)
                          simp only [List.set_cons_zero, List.set_cons_succ]
                          refine take_at (i := 20) (n := 178) (v := ?_) rfl rfl (by kernel_rfl) (by kernel_rfl) (by kernel_rfl) (fun _ _ _ h => h) (Or.inl ⟨by rfl, ?_⟩) (by assumption) ?_
                          rotate_left 1
                          · intro wz hSw
                            obtain ⟨k0, k1, k2, k3⟩ := hSw
                            first | (go_simp; done) | (go_simp; with_reducible rfl)
                          simp only [List.set_cons_zero, List.set_cons_succ]
                          refine take_at (i := 21) (n := 179) (v := ?_) rfl rfl (by kernel_rfl) (by kernel_rfl) (by kernel_rfl) (fun _ _ _ h => h) (Or.inl ⟨by rfl, ?_⟩) (by assumption) ?_
                          rotate_left 1
                          · intro wz hSw
                            obtain ⟨k0, k1, k2, k3⟩ := hSw
                            first | (go_simp; done) | (go_simp; with_reducible rfl)
                          simp only [List.set_cons_zero, List.set_cons_succ]
                          refine take_at (i := 22) (n := 180) (v := ?_) rfl rfl (by kernel_rfl) (by kernel_rfl) (by kernel_rfl) (fun _ _ _ h => h) (Or.inl ⟨by rfl, ?_⟩) (by assumption) ?_
                          rotate_left 1
                          · intro wz hSw
                            obtain ⟨k0, k1, k2, k3⟩ := hSw
                            first | (go_simp; done) | (go_simp; with_reducible rfl)
                          simp only [List.set_cons_zero, List.set_cons_succ]
                          refine take_at (i := 23) (n := 181) (v := ?_) rfl rfl (by kernel_rfl) (by kernel_rfl) (by kernel_rfl) (fun _ _ _ h => h) (Or.inl ⟨by rfl, ?_⟩) (by assumption) ?_
                          rotate_left 1
                          · intro wz hSw
                            obtain ⟨k0, k1, k2, k3⟩ := hSw
                            first | (go_simp; done) | (go_simp; with_reducible rfl)
                          simp only [List.set_cons_zero, List.set_cons_succ]
                          refine take_at (i := 24) (n := 182) (v := ?_) rfl rfl (by kernel_rfl) (by kernel_rfl) (by kernel_rfl) (fun _ _ _ h => h) (Or.inl ⟨by rfl, ?_⟩) (by assumption) ?_
                          rotate_left 1
                          · intro wz hSw
                            obtain ⟨k0, k1, k2, k3⟩ := hSw
                            first | (go_simp; done) | (go_simp; with_reducible rfl)
                          simp only [List.set_cons_zero, List.set_cons_succ]
                          refine take_at (i := 25) (n := 183) (v := ?_) rfl rfl (by kernel_rfl) (by kernel_rfl) (by kernel_rfl) (fun _ _ _ h => h) (Or.inl ⟨by rfl, ?_⟩) (by assumption) ?_
                          rotate_left 1
                          · intro wz hSw
                            obtain ⟨k0, k1, k2, k3⟩ := hSw
                            first | (go_simp; done) | (go_simp; with_reducible rfl)
                          simp only [List.set_cons_zero, List.set_cons_succ]
                          refine take_at (i := 26) (n := 184) (v := ?_) rfl rfl (by kernel_rfl) (by kernel_rfl) (by kernel_rfl) (fun _ _ _ h => h) (Or.inl ⟨by rfl, ?_⟩) (by assumption) ?_
                          rotate_left 1
                          · intro wz hSw
                            obtain ⟨k0, k1, k2, k3⟩ := hSw
                            first | (go_simp; done) | (go_simp; with_reducible rfl)
                          simp only [List.set_cons_zero, List.set_cons_succ]
                          refine take_at (i := 27) (n := 185) (v := ?_) rfl rfl (by kernel_rfl) (by kernel_rfl) (by kernel_rfl) (fun _ _ _ h => h) (Or.inl ⟨by rfl, ?_⟩) (by assumption) ?_
                          rotate_left 1
                          · intro wz hSw
                            obtain ⟨k0, k1, k2, k3⟩ := hSw
                            first | (go_simp; done) | (go_simp; with_reducible rfl)
                          simp only [List.set_cons_zero, List.set_cons_succ]
                          refine take_at (i := 28) (n := 186) (v := ?_) rfl rfl (by kernel_rfl) (by kernel_rfl) (by kernel_rfl) (fun _ _ _ h => h) (Or.inl ⟨by rfl, ?_⟩) (by assumption) ?_
                          rotate_left 1
                          · intro wz hSw
                            obtain ⟨k0, k1, k2, k3⟩ := hSw
                            first | (go_simp; done) | (go_simp; with_reducible rfl)
                          simp only [List.set_cons_zero, List.set_cons_succ]
                          refine take_at (i := 29) (n := 187) (v := ?_) rfl rfl (by kernel_rfl) (by kernel_rfl) (by kernel_rfl) (fun _ _ _ h => h) (Or.inl ⟨by rfl, ?_⟩) (by assumption) ?_
                          rotate_left 1
                          · intro wz hSw
                            obtain ⟨k0, k1, k2, k3⟩ := hSw
                            first | (go_simp; done) | (go_simp; with_reducible rfl)
                          simp only [List.set_cons_zero, List.set_cons_succ]
                          refine take_at (i := 30) (n := 188) (v := ?_) rfl rfl (by kernel_rfl) (by kernel_rfl) (by kernel_rfl) (fun _ _ _ h => h) (Or.inl ⟨by rfl, ?_⟩) (by assumption) ?_
                          rotate_left 1
                          · intro wz hSw
                            obtain ⟨k0, k1, k2, k3⟩ := hSw
                            first | (go_simp; done) | (go_simp; with_reducible rfl)
                          simp only [List.set_cons_zero, List.set_cons_succ]
                          refine take_at (i := 31) (n := 189) (v := ?_) rfl rfl (by kernel_rfl) (by kernel_rfl) (by kernel_rfl) (fun _ _ _ h => h) (Or.inl ⟨by rfl, ?_⟩) (by assumption) ?_
                          rotate_left 1
                          · intro wz hSw
                            obtain ⟨k0, k1, k2, k3⟩ := hSw
                            first | (go_simp; done) | (go_simp; with_reducible rfl)
                          simp only [List.set_cons_zero, List.set_cons_succ]
                          refine take_at (i := 32) (n := 190) (v := ?_) rfl rfl (by kernel_rfl) (by kernel_rfl) (by kernel_rfl) (fun _ _ _ h => h) (Or.inl ⟨by rfl, ?_⟩) (by assumption) ?_
                          rotate_left 1
                          · intro wz hSw
                            obtain ⟨k0, k1, k2, k3⟩ := hSw
                            first | (go_simp; done) | (go_simp; with_reducible rfl)
                          simp only [List.set_cons_zero, List.set_cons_succ]
                          refine take_at (i := 33) (n := 191) (v := ?_) rfl rfl (by kernel_rfl) (by kernel_rfl) (by kernel_rfl) (fun _ _ _ h => h) (Or.inl ⟨by rfl, ?_⟩) (by assumption) ?_
                          rotate_left 1
                          · intro wz hSw
                            obtain ⟨k0, k1, k2, k3⟩ := hSw
                            first | (go_simp; done) | (go_simp; with_reducible rfl)
                          simp only [List.set_cons_zero, List.set_cons_succ]
                          refine take_at (i := 34) (n := 192) (v := ?_) rfl rfl (by kernel_rfl) (by kernel_rfl) (by kernel_rfl) (fun _ _ _ h => h) (Or.inl ⟨by rfl, ?_⟩) (by assumption) ?_
                          rotate_left 1
                          · intro wz hSw
                            obtain ⟨k0, k1, k2, k3⟩ := hSw
                            first | (go_simp; done) | (go_simp; with_reducible rfl)
                          simp only [List.set_cons_zero, List.set_cons_succ]
                          refine take_at (i := 35) (n := 193) (v := ?_) rfl rfl (by kernel_rfl) (by kernel_rfl) (by kernel_rfl) (fun _ _ _ h => h) (Or.inl ⟨by rfl, ?_⟩) (by assumption) ?_
                          rotate_left 1
                          · intro wz hSw
                            obtain ⟨k0, k1, k2, k3⟩ := hSw
                            first | (go_simp; done) | (go_simp; with_reducible rfl)
                          simp only [List.set_cons_zero, List.set_cons_succ]
                          refine take_at (i := 36) (n := 194) (v := ?_) rfl rfl (by kernel_rfl) (by kernel_rfl) (by kernel_rfl) (fun _ _ _ h => h) (Or.inl ⟨by rfl, ?_⟩) (by assumption) ?_
                          rotate_left 1
                          · intro wz hSw
                            obtain ⟨k0, k1, k2, k3⟩ := hSw
                            first | (go_simp; done) | (go_simp; with_reducible rfl)
                          simp only [List.set_cons_zero, List.set_cons_succ]
                          refine take_at (i := 37) (n := 195) (v := ?_) rfl rfl (by kernel_rfl) (by kernel_rfl) (by kernel_rfl) (fun _ _ _ h => h) (Or.inl ⟨by rfl, ?_⟩) (by assumption) ?_
                          rotate_left 1
                          · intro wz hSw
                            obtain ⟨k0, k1, k2, k3⟩ := hSw
                            first | (go_simp; done) | (go_simp; with_reducible rfl)
                          simp only [List.set_cons_zero, List.set_cons_succ]
                          refine wpAnyH_done (by kernel_rfl) ?_ _
                          refine NoPanic.normal ?_
                          clear hHeld
                          go_wp2_with fail
                          first
                            | exact ⟨⟨j + 1, by omega, by simp, (below_seq HB10.out (below_new _ _)).drew⟩, by simp [intOf]; omega⟩
                            | fail
                        · have g1 : decide (0 ≤ ev) = false := by simp; omega
                          dsimp only at A17
                          go_wp2_with (go_at_call 17; refine A17.mono ?_; rintro r w10 ⟨rfl, hb10⟩; obtain ⟨q0, q1, p1, ce, td⟩ := HFA.out w10 (below_seq HBL.out hb10); have HB10 : Hid (Below Y.heap.size Y w10) := below_seq HBL.out hb10; have l1 : b2 < w10.heap.size := World.block_lt_of_cell? _ _ q0; have l2 : PB < w10.heap.size := World.block_lt_of_cell? _ _ p1; have l3 : eb < w10.heap.size := World.block_lt_of_cell? _ _ ce; have l4 : b < w10.heap.size := World.block_lt_of_cell? _ _ td; clear hb10 A17)
                          refine wp_region_noPanic ?_
                          refine wp_region_held_drew (S := fun w' => w'.cell? ⟨w10.heap.size, 0, none⟩ = some (.int .i64 13) ∧ w'.cell? ⟨PB, 1, none⟩ = some (.slice (some ⟨eb, 0, none⟩) cs.length cs.length) ∧ w'.cell? ⟨eb, j, none⟩ = some (.int .i64 ev) ∧ w'.cell? ⟨b, o + j * 7 + 3, none⟩ = some (.int .i64 dd)) (by kernel_rfl) (by refine ⟨?_, ?_, ?_, ?_⟩ <;> go_simp) (fun hHeld => ?_)
                          refine take_at (i := 0) (n := 158) (v := ?_) rfl rfl (by kernel_rfl) (by kernel_rfl) (by kernel_rfl) (fun _ _ _ h => h) (Or.inl ⟨by rfl, ?_⟩) (by assumption) ?_
                          rotate_left 1
                          · intro wz hSw
                            obtain ⟨k0, k1, k2, k3⟩ := hSw
                            first | (go_simp; done) | (go_simp; with_reducible rfl)
                          simp only [List.set_cons_zero, List.set_cons_succ]
                          refine take_at (i := 1) (n := 159) (v := ?_) rfl rfl (by kernel_rfl) (by kernel_rfl) (by kernel_rfl) (fun _ _ _ h => h) (Or.inl ⟨by rfl, ?_⟩) (by assumption) ?_
                          rotate_left 1
                          · intro wz hSw
                            obtain ⟨k0, k1, k2, k3⟩ := hSw
                            first | (go_simp; done) | (go_simp; with_reducible rfl)
                          simp only [List.set_cons_zero, List.set_cons_succ]
                          refine take_at (i := 2) (n := 160) (v := ?_) rfl rfl (by kernel_rfl) (by kernel_rfl) (by kernel_rfl) (fun _ _ _ h => h) (Or.inl ⟨by rfl, ?_⟩) (by assumption) ?_
                          rotate_left 1
                          · intro wz hSw
                            obtain ⟨k0, k1, k2, k3⟩ := hSw
                            first | (go_simp; done) | (go_simp; with_reducible rfl)
                          simp only [List.set_cons_zero, List.set_cons_succ]
                          refine take_at (i := 3) (n := 161) (v := ?_) rfl rfl (by kernel_rfl) (by kernel_rfl) (by kernel_rfl) (fun _ _ _ h => h) (Or.inl ⟨by rfl, ?_⟩) (by assumption) ?_
                          rotate_left 1
                          · intro wz hSw
                            obtain ⟨k0, k1, k2, k3⟩ := hSw
                            first | (go_simp; done) | (go_simp; with_reducible rfl)
                          simp only [List.set_cons_zero, List.set_cons_succ]
                          refine take_at (i := 4) (n := 162) (v := undef) rfl rfl (by kernel_rfl) (by kernel_rfl) (by kernel_rfl) (fun _ _ _ h => h) (Or.inr ⟨by rfl, rfl⟩) (by assumption) ?_
                          simp only [List.set_cons_zero, List.set_cons_succ]
                          refine take_at (i := 5) (n := 163) (v := undef) rfl rfl (by kernel_rfl) (by kernel_rfl) (by kernel_rfl) (fun _ _ _ h => h) (Or.inr ⟨by rfl, rfl⟩) (by assumption) ?_
                          simp only [List.set_cons_zero, List.set_cons_succ]
                          refine take_at (i := 6) (n := 164) (v := undef) rfl rfl (by kernel_rfl) (by kernel_rfl) (by kernel_rfl) (fun _ _ _ h => h) (Or.inr ⟨by rfl, rfl⟩) (by assumption) ?_
                          simp only [List.set_cons_zero, List.set_cons_succ]
                          refine take_at (i := 7) (n := 165) (v := undef) rfl rfl (by kernel_rfl) (by kernel_rfl) (by kernel_rfl) (fun _ _ _ h => h) (Or.inr ⟨by rfl, rfl⟩) (by assumption) ?_
                          simp only [List.set_cons_zero, List.set_cons_succ]
                          refine take_at (i := 8) (n := 166) (v := undef) rfl rfl (by kernel_rfl) (by kernel_rfl) (by kernel_rfl) (fun _ _ _ h => h) (Or.inr ⟨by rfl, rfl⟩) (by assumption) ?_
                          simp only [List.set_cons_zero, List.set_cons_succ]
                          refine take_at (i := 9) (n := 167) (v := undef) rfl rfl (by kernel_rfl) (by kernel_rfl) (by kernel_rfl) (fun _ _ _ h => h) (Or.inr ⟨by rfl, rfl⟩) (by assumption) ?_
                          simp only [List.set_cons_zero, List.set_cons_succ]
                          refine take_at (i := 10) (n := 168) (v := undef) rfl rfl (by kernel_rfl) (by kernel_rfl) (by kernel_rfl) (fun _ _ _ h => h) (Or.inr ⟨by rfl, rfl⟩) (by assumption) ?_
                          simp only [List.set_cons_zero, List.set_cons_succ]
                          refine take_at (i := 11) (n := 169) (v := ?_) rfl rfl (by kernel_rfl) (by kernel_rfl) (by kernel_rfl) (fun _ _ _ h => h) (Or.inl ⟨by rfl, ?_⟩) (by assumption) ?_
                          rotate_left 1
                          · intro wz hSw
                            obtain ⟨k0, k1, k2, k3⟩ := hSw
                            first | (go_simp; done) | (go_simp; with_reducible rfl)
                          simp only [List.set_cons_zero, List.set_cons_succ]
                          refine take_at (i := 12) (n := 170) (v := ?_) rfl rfl (by kernel_rfl) (by kernel_rfl) (by kernel_rfl) (fun _ _ _ h => h) (Or.inl ⟨by rfl, ?_⟩) (by assumption) ?_
                          rotate_left 1
                          · intro wz hSw
                            obtain ⟨k0, k1, k2, k3⟩ := hSw
                            first | (go_simp; done) | (go_simp; with_reducible rfl)
                          simp only [List.set_cons_zero, List.set_cons_succ]
                          refine take_at (i := 13) (n := 171) (v := ?_) rfl rfl (by kernel_rfl) (by kernel_rfl) (by kernel_rfl) (fun _ _ _ h => h) (Or.inl ⟨by rfl, ?_⟩) (by assumption) ?_
                          rotate_left 1
                          · intro wz hSw
                            obtain ⟨k0, k1, k2, k3⟩ := hSw
                            first | (go_simp; done) | (go_simp; with_reducible rfl)
                          simp only [List.set_cons_zero, List.set_cons_succ]
                          refine take_at (i := 14) (n := 172) (v := ?_) rfl rfl (by kernel_rfl) (by kernel_rfl) (by kernel_rfl) (fun _ _ _ h => h) (Or.inl ⟨by rfl, ?_⟩) (by assumption) ?_
                          rotate_left 1
                          · intro wz hSw
                            obtain ⟨k0, k1, k2, k3⟩ := hSw
                            first | (go_simp; done) | (go_simp; with_reducible rfl)
                          simp only [List.set_cons_zero, List.set_cons_succ]
                          refine take_at (i := 15) (n := 173) (v := ?_) rfl rfl (by kernel_rfl) (by kernel_rfl) (by kernel_rfl) (fun _ _ _ h => h) (Or.inl ⟨by rfl, ?_⟩) (by assumption) ?_
                          rotate_left 1
                          · intro wz hSw
                            obtain ⟨k0, k1, k2, k3⟩ := hSw
                            first | (go_simp; done) | (go_simp; with_reducible rfl)
                          simp only [List.set_cons_zero, List.set_cons_succ]
                          refine take_at (i := 16) (n := 174) (v := ?_) rfl rfl (by kernel_rfl) (by kernel_rfl) (by kernel_rfl) (fun _ _ _ h => h) (Or.inl ⟨by rfl, ?_⟩) (by assumption) ?_
                          rotate_left 1
                          · intro wz hSw
                            obtain ⟨k0, k1, k2, k3⟩ := hSw
                            first | (go_simp; done) | (go_simp; with_reducible rfl)
                          simp only [List.set_cons_zero, List.set_cons_succ]
                          refine take_at (i := 17) (n := 175) (v := ?_) rfl rfl (by kernel_rfl) (by kernel_rfl) (by kernel_rfl) (fun _ _ _ h => h) (Or.inl ⟨by rfl, ?_⟩) (by assumption) ?_
                          rotate_left 1
                          · intro wz hSw
                            obtain ⟨k0, k1, k2, k3⟩ := hSw
                            first | (go_simp; done) | (go_simp; with_reducible rfl)
                          simp only [List.set_cons_zero, List.set_cons_succ]
                          refine take_at (i := 18) (n := 176) (v := ?_) rfl rfl (by kernel_rfl) (by kernel_rfl) (by kernel_rfl) (fun _ _ _ h => h) (Or.inl ⟨by rfl, ?_⟩) (by assumption) ?_
                          rotate_left 1
                          · intro wz hSw
                            obtain ⟨k0, k1, k2, k3⟩ := hSw
                            first | (go_simp; done) | (go_simp; with_reducible rfl)
                          simp only [List.set_cons_zero, List.set_cons_succ]
                          refine take_at (i := 19) (n := 177) (v := ?_) rfl rfl (by kernel_rfl) (by kernel_rfl) (by kernel_rfl) (fun _ _ _ h => h) (Or.inl ⟨by rfl, ?_⟩) (by assumption) ?_
                          rotate_left 1
                          · intro wz hSw
                            obtain ⟨k0, k1, k2, k3⟩ := hSw
                            first | (go_simp; done) | (go_simp; with_reducible rfl)
                          simp only [List.set_cons_zero, List.set_cons_succ]
                          refine take_at (i := 20) (n := 178) (v := ?_) rfl rfl (by kernel_rfl) (by kernel_rfl) (by kernel_rfl) (fun _ _ _ h => h) (Or.inl ⟨by rfl, ?_⟩) (by assumption) ?_
                          rotate_left 1
                          · intro wz hSw
                            obtain ⟨k0, k1, k2, k3⟩ := hSw
                            first | (go_simp; done) | (go_simp; with_reducible rfl)
                          simp only [List.set_cons_zero, List.set_cons_succ]
                          refine take_at (i := 21) (n := 179) (v := ?_) rfl rfl (by kernel_rfl) (by kernel_rfl) (by kernel_rfl) (fun _ _ _ h => h) (Or.inl ⟨by rfl, ?_⟩) (by assumption) ?_
                          rotate_left 1
                          · intro wz hSw
                            obtain ⟨k0, k1, k2, k3⟩ := hSw
                            first | (go_simp; done) | (go_simp; with_reducible rfl)
                          simp only [List.set_cons_zero, List.set_cons_succ]
                          refine take_at (i := 22) (n := 180) (v := ?_) rfl rfl (by kernel_rfl) (by kernel_rfl) (by kernel_rfl) (fun _ _ _ h => h) (Or.inl ⟨by rfl, ?_⟩) (by assumption) ?_
                          rotate_left 1
                          · intro wz hSw
                            obtain ⟨k0, k1, k2, k3⟩ := hSw
                            first | (go_simp; done) | (go_simp; with_reducible rfl)
                          simp only [List.set_cons_zero, List.set_cons_succ]
                          refine take_at (i := 23) (n := 181) (v := ?_) rfl rfl (by kernel_rfl) (by kernel_rfl) (by kernel_rfl) (fun _ _ _ h => h) (Or.inl ⟨by rfl, ?_⟩) (by assumption) ?_
                          rotate_left 1
                          · intro wz hSw
                            obtain ⟨k0, k1, k2, k3⟩ := hSw
                            first | (go_simp; done) | (go_simp; with_reducible rfl)
                          simp only [List.set_cons_zero, List.set_cons_succ]
                          refine take_at (i := 24) (n := 182) (v := ?_) rfl rfl (by kernel_rfl) (by kernel_rfl) (by kernel_rfl) (fun _ _ _ h => h) (Or.inl ⟨by rfl, ?_⟩) (by assumption) ?_
                          rotate_left 1
                          · intro wz hSw
                            obtain ⟨k0, k1, k2, k3⟩ := hSw
                            first | (go_simp; done) | (go_simp; with_reducible rfl)
                          simp only [List.set_cons_zero, List.set_cons_succ]
                          refine take_at (i := 25) (n := 183) (v := undef) rfl rfl (by kernel_rfl) (by kernel_rfl) (by kernel_rfl) (fun _ _ _ h => h) (Or.inr ⟨by rfl, rfl⟩) (by assumption) ?_
                          simp only [List.set_cons_zero, List.set_cons_succ]
                          refine take_at (i := 26) (n := 184) (v := undef) rfl rfl (by kernel_rfl) (by kernel_rfl) (by kernel_rfl) (fun _ _ _ h => h) (Or.inr ⟨by rfl, rfl⟩) (by assumption) ?_
                          simp only [List.set_cons_zero, List.set_cons_succ]
                          refine take_at (i := 27) (n := 185) (v := undef) rfl rfl (by kernel_rfl) (by kernel_rfl) (by kernel_rfl) (fun _ _ _ h => h) (Or.inr ⟨by rfl, rfl⟩) (by assumption) ?_
                          simp only [List.set_cons_zero, List.set_cons_succ]
                          refine take_at (i := 28) (n := 186) (v := undef) rfl rfl (by kernel_rfl) (by kernel_rfl) (by kernel_rfl) (fun _ _ _ h => h) (Or.inr ⟨by rfl, rfl⟩) (by assumption) ?_
                          simp only [List.set_cons_zero, List.set_cons_succ]
                          refine take_at (i := 29) (n := 187) (v := undef) rfl rfl (by kernel_rfl) (by kernel_rfl) (by kernel_rfl) (fun _ _ _ h => h) (Or.inr ⟨by rfl, rfl⟩) (by assumption) ?_
                          simp only [List.set_cons_zero, List.set_cons_succ]
                          refine take_at (i := 30) (n := 188) (v := undef) rfl rfl (by kernel_rfl) (by kernel_rfl) (by kernel_rfl) (fun _ _ _ h => h) (Or.inr ⟨by rfl, rfl⟩) (by assumption) ?_
                          simp only [List.set_cons_zero, List.set_cons_succ]
                          refine take_at (i := 31) (n := 189) (v := undef) rfl rfl (by kernel_rfl) (by kernel_rfl) (by kernel_rfl) (fun _ _ _ h => h) (Or.inr ⟨by rfl, rfl⟩) (by assumption) ?_
                          simp only [List.set_cons_zero, List.set_cons_succ]
                          refine take_at (i := 32) (n := 190) (v := undef) rfl rfl (by kernel_rfl) (by kernel_rfl) (by kernel_rfl) (fun _ _ _ h => h) (Or.inr ⟨by rfl, rfl⟩) (by assumption) ?_
                          simp only [List.set_cons_zero, List.set_cons_succ]
                          refine take_at (i := 33) (n := 191) (v := undef) rfl rfl (by kernel_rfl) (by kernel_rfl) (by kernel_rfl) (fun _ _ _ h => h) (Or.inr ⟨by rfl, rfl⟩) (by assumption) ?_
                          simp only [List.set_cons_zero, List.set_cons_succ]
                          refine take_at (i := 34) (n := 192) (v := undef) rfl rfl (by kernel_rfl) (by kernel_rfl) (by kernel_rfl) (fun _ _ _ h => h) (Or.inr ⟨by rfl, rfl⟩) (by assumption) ?_
                          simp only [List.set_cons_zero, List.set_cons_succ]
                          refine take_at (i := 35) (n := 193) (v := undef) rfl rfl (by kernel_rfl) (by kernel_rfl) (by kernel_rfl) (fun _ _ _ h => h) (Or.inr ⟨by rfl, rfl⟩) (by assumption) ?_
                          simp only [List.set_cons_zero, List.set_cons_succ]
                          refine take_at (i := 36) (n := 194) (v := ?_) rfl rfl (by kernel_rfl) (by kernel_rfl) (by kernel_rfl) (fun _ _ _ h => h) (Or.inl ⟨by rfl, ?_⟩) (by assumption) ?_
                          rotate_left 1
                          · intro wz hSw
                            obtain ⟨k0, k1, k2, k3⟩ := hSw
                            first | (go_simp; done) | (go_simp; with_reducible rfl)
                          simp only [List.set_cons_zero, List.set_cons_succ]
                          refine take_at (i := 37) (n := 195) (v := ?_) rfl rfl (by kernel_rfl) (by kernel_rfl) (by kernel_rfl) (fun _ _ _ h => h) (Or.inl ⟨by rfl, ?_⟩) (by assumption) ?_
                          rotate_left 1
                          · intro wz hSw
                            obtain ⟨k0, k1, k2, k3⟩ := hSw
                            first | (go_simp; done) | (go_simp; with_reducible rfl)
                          simp only [List.set_cons_zero, List.set_cons_succ]
                          refine wpAnyH_done (by kernel_rfl) ?_ _
                          refine NoPanic.normal ?_
                          clear hHeld
                          go_wp2_with fail
                          first
                            | exact ⟨⟨j + 1, by omega, by simp, (below_seq HB10.out (below_new _ _)).drew⟩, by simp [intOf]; omega⟩
                            | fail
                      · rw [if_neg hr0] at A17
                        have hev : ev = rr := he2 hr0
                        subst hev
                        clear he2 he3
                        dsimp only at A17
                        go_wp2_with (go_at_call 17; refine A17.mono ?_; rintro r w10 ⟨rfl, hb10⟩; obtain ⟨q0, q1, p1, ce, td⟩ := HFA.out w10 (below_seq HBL.out hb10); have HB10 : Hid (Below Y.heap.size Y w10) := below_seq HBL.out hb10; have l1 : b2 < w10.heap.size := World.block_lt_of_cell? _ _ q0; have l2 : PB < w10.heap.size := World.block_lt_of_cell? _ _ p1; have l3 : eb < w10.heap.size := World.block_lt_of_cell? _ _ ce; have l4 : b < w10.heap.size := World.block_lt_of_cell? _ _ td; clear hb10 A17)
                        refine wp_region_noPanic ?_
                        refine wp_region_held_drew (S := fun w' => w'.cell? ⟨w10.heap.size, 0, none⟩ = some (.int .i64 0) ∧ w'.cell? ⟨PB, 1, none⟩ = some (.slice (some ⟨eb, 0, none⟩) cs.length cs.length) ∧ w'.cell? ⟨eb, j, none⟩ = some (.int .i64 ev) ∧ w'.cell? ⟨b, o + j * 7 + 3, none⟩ = some (.int .i64 dd)) (by kernel_rfl) (by refine ⟨?_, ?_, ?_, ?_⟩ <;> go_simp) (fun hHeld => ?_)
                        refine take_at (i := 0) (n := 158) (v := ?_) rfl rfl (by kernel_rfl) (by kernel_rfl) (by kernel_rfl) (fun _ _ _ h => h) (Or.inl ⟨by rfl, ?_⟩) (by assumption) ?_
                        rotate_left 1
                        · intro wz hSw
                          obtain ⟨k0, k1, k2, k3⟩ := hSw
                          first | (go_simp; done) | (go_simp; with_reducible rfl)
                        simp only [List.set_cons_zero, List.set_cons_succ]
                        refine take_at (i := 1) (n := 159) (v := ?_) rfl rfl (by kernel_rfl) (by kernel_rfl) (by kernel_rfl) (fun _ _ _ h => h) (Or.inl ⟨by rfl, ?_⟩) (by assumption) ?_
                        rotate_left 1
                        · intro wz hSw
                          obtain ⟨k0, k1, k2, k3⟩ := hSw
                          first | (go_simp; done) | (go_simp; with_reducible rfl)
                        simp only [List.set_cons_zero, List.set_cons_succ]
                        refine take_at (i := 2) (n := 160) (v := ?_) rfl rfl (by kernel_rfl) (by kernel_rfl) (by kernel_rfl) (fun _ _ _ h => h) (Or.inl ⟨by rfl, ?_⟩) (by assumption) ?_
                        rotate_left 1
                        · intro wz hSw
                          obtain ⟨k0, k1, k2, k3⟩ := hSw
                          first | (go_simp; done) | (go_simp; with_reducible rfl)
                        simp only [List.set_cons_zero, List.set_cons_succ]
                        refine take_at (i := 3) (n := 161) (v := ?_) rfl rfl (by kernel_rfl) (by kernel_rfl) (by kernel_rfl) (fun _ _ _ h => h) (Or.inl ⟨by rfl, ?_⟩) (by assumption) ?_
                        rotate_left 1
                        · intro wz hSw
                          obtain ⟨k0, k1, k2, k3⟩ := hSw
                          first | (go_simp; done) | (go_simp; with_reducible rfl)
                        simp only [List.set_cons_zero, List.set_cons_succ]
                        refine take_at (i := 4) (n := 162) (v := ?_) rfl rfl (by kernel_rfl) (by kernel_rfl) (by kernel_rfl) (fun _ _ _ h => h) (Or.inl ⟨by rfl, ?_⟩) (by assumption) ?_
                        rotate_left 1
                        · intro wz hSw
                          obtain ⟨k0, k1, k2, k3⟩ := hSw
                          first | (go_simp; done) | (go_simp; with_reducible rfl)
                        simp only [List.set_cons_zero, List.set_cons_succ]
                        refine take_at (i := 5) (n := 163) (v := ?_) rfl rfl (by kernel_rfl) (by kernel_rfl) (by kernel_rfl) (fun _ _ _ h => h) (Or.inl ⟨by rfl, ?_⟩) (by assumption) ?_
                        rotate_left 1
                        · intro wz hSw
                          obtain ⟨k0, k1, k2, k3⟩ := hSw
                          first | (go_simp; done) | (go_simp; with_reducible rfl)
                        simp only [List.set_cons_zero, List.set_cons_succ]
                        refine take_at (i := 6) (n := 164) (v := ?_) rfl rfl (by kernel_rfl) (by kernel_rfl) (by kernel_rfl) (fun _ _ _ h => h) (Or.inl ⟨by rfl, ?_⟩) (by assumption) ?_
                        rotate_left 1
                        · intro wz hSw
                          obtain ⟨k0, k1, k2, k3⟩ := hSw
                          first | (go_simp; done) | (go_simp; with_reducible rfl)
                        simp only [List.set_cons_zero, List.set_cons_succ]
                        refine take_at (i := 7) (n := 165) (v := ?_) rfl rfl (by kernel_rfl) (by kernel_rfl) (by kernel_rfl) (fun _ _ _ h => h) (Or.inl ⟨by rfl, ?_⟩) (by assumption) ?_
                        rotate_left 1
                        · intro wz hSw
                          obtain ⟨k0, k1, k2, k3⟩ := hSw
                          first | (go_simp; done) | (go_simp; with_reducible rfl)
                        simp only [List.set_cons_zero, List.set_cons_succ]
                        refine take_at (i := 8) (n := 166) (v := ?_) rfl rfl (by kernel_rfl) (by kernel_rfl) (by kernel_rfl) (fun _ _ _ h => h) (Or.inl ⟨by rfl, ?_⟩) (by assumption) ?_
                        rotate_left 1
                        · intro wz hSw
                          obtain ⟨k0, k1, k2, k3⟩ := hSw
                          first | (go_simp; done) | (go_simp; with_reducible rfl)
                        simp only [List.set_cons_zero, List.set_cons_succ]
                        refine take_at (i := 9) (n := 167) (v := ?_) rfl rfl (by kernel_rfl) (by kernel_rfl) (by kernel_rfl) (fun _ _ _ h => h) (Or.inl ⟨by rfl, ?_⟩) (by assumption) ?_
                        rotate_left 1
                        · intro wz hSw
                          obtain ⟨k0, k1, k2, k3⟩ := hSw
                          first | (go_simp; done) | (go_simp; with_reducible rfl)
                        simp only [List.set_cons_zero, List.set_cons_succ]
                        refine take_at (i := 10) (n := 168) (v := ?_) rfl rfl (by kernel_rfl) (by kernel_rfl) (by kernel_rfl) (fun _ _ _ h => h) (Or.inl ⟨by rfl, ?_⟩) (by assumption) ?_
                        rotate_left 1
                        · intro wz hSw
                          obtain ⟨k0, k1, k2, k3⟩ := hSw
                          first | (go_simp; done) | (go_simp; with_reducible rfl)
                        simp only [List.set_cons_zero, List.set_cons_succ]
                        refine take_at (i := 11) (n := 169) (v := ?_) rfl rfl (by kernel_rfl) (by kernel_rfl) (by kernel_rfl) (fun _ _ _ h => h) (Or.inl ⟨by rfl, ?_⟩) (by assumption) ?_
                        rotate_left 1
                        · intro wz hSw
                          obtain ⟨k0, k1, k2, k3⟩ := hSw
                          first | (go_simp; done) | (go_simp; with_reducible rfl)
                        simp only [List.set_cons_zero, List.set_cons_succ]
                        refine take_at (i := 12) (n := 170) (v := ?_) rfl rfl (by kernel_rfl) (by kernel_rfl) (by kernel_rfl) (fun _ _ _ h => h) (Or.inl ⟨by rfl, ?_⟩) (by assumption) ?_
                        rotate_left 1
                        · intro wz hSw
                          obtain ⟨k0, k1, k2, k3⟩ := hSw
                          first | (go_simp; done) | (go_simp; with_reducible rfl)
                        simp only [List.set_cons_zero, List.set_cons_succ]
                        refine take_at (i := 13) (n := 171) (v := ?_) rfl rfl (by kernel_rfl) (by kernel_rfl) (by kernel_rfl) (fun _ _ _ h => h) (Or.inl ⟨by rfl, ?_⟩) (by assumption) ?_
                        rotate_left 1
                        · intro wz hSw
                          obtain ⟨k0, k1, k2, k3⟩ := hSw
                          first | (go_simp; done) | (go_simp; with_reducible rfl)
                        simp only [List.set_cons_zero, List.set_cons_succ]
                        refine take_at (i := 14) (n := 172) (v := ?_) rfl rfl (by kernel_rfl) (by kernel_rfl) (by kernel_rfl) (fun _ _ _ h => h) (Or.inl ⟨by rfl, ?_⟩) (by assumption) ?_
                        rotate_left 1
                        · intro wz hSw
                          obtain ⟨k0, k1, k2, k3⟩ := hSw
                          first | (go_simp; done) | (go_simp; with_reducible rfl)
                        simp only [List.set_cons_zero, List.set_cons_succ]
                        refine take_at (i := 15) (n := 173) (v := ?_) rfl rfl (by kernel_rfl) (by kernel_rfl) (by kernel_rfl) (fun _ _ _ h => h) (Or.inl ⟨by rfl, ?_⟩) (by assumption) ?_
                        rotate_left 1
                        · intro wz hSw
                          obtain ⟨k0, k1, k2, k3⟩ := hSw
                          first | (go_simp; done) | (go_simp; with_reducible rfl)
                        simp only [List.set_cons_zero, List.set_cons_succ]
                        refine take_at (i := 16) (n := 174) (v := ?_) rfl rfl (by kernel_rfl) (by kernel_rfl) (by kernel_rfl) (fun _ _ _ h => h) (Or.inl ⟨by rfl, ?_⟩) (by assumption) ?_
                        rotate_left 1
                        · intro wz hSw
                          obtain ⟨k0, k1, k2, k3⟩ := hSw
                          first | (go_simp; done) | (go_simp; with_reducible rfl)
                        simp only [List.set_cons_zero, List.set_cons_succ]
                        refine take_at (i := 17) (n := 175) (v := undef) rfl rfl (by kernel_rfl) (by kernel_rfl) (by kernel_rfl) (fun _ _ _ h => h) (Or.inr ⟨by rfl, rfl⟩) (by assumption) ?_
                        simp only [List.set_cons_zero, List.set_cons_succ]
                        refine take_at (i := 18) (n := 176) (v := undef) rfl rfl (by kernel_rfl) (by kernel_rfl) (by kernel_rfl) (fun _ _ _ h => h) (Or.inr ⟨by rfl, rfl⟩) (by assumption) ?_
                        simp only [List.set_cons_zero, List.set_cons_succ]
                        refine take_at (i := 19) (n := 177) (v := undef) rfl rfl (by kernel_rfl) (by kernel_rfl) (by kernel_rfl) (fun _ _ _ h => h) (Or.inr ⟨by rfl, rfl⟩) (by assumption) ?_
                        simp only [List.set_cons_zero, List.set_cons_succ]
                        refine take_at (i := 20) (n := 178) (v := undef) rfl rfl (by kernel_rfl) (by kernel_rfl) (by kernel_rfl) (fun _ _ _ h => h) (Or.inr ⟨by rfl, rfl⟩) (by assumption) ?_
                        simp only [List.set_cons_zero, List.set_cons_succ]
                        refine take_at (i := 21) (n := 179) (v := undef) rfl rfl (by kernel_rfl) (by kernel_rfl) (by kernel_rfl) (fun _ _ _ h => h) (Or.inr ⟨by rfl, rfl⟩) (by assumption) ?_
                        simp only [List.set_cons_zero, List.set_cons_succ]
                        refine take_at (i := 22) (n := 180) (v := undef) rfl rfl (by kernel_rfl) (by kernel_rfl) (by kernel_rfl) (fun _ _ _ h => h) (Or.inr ⟨by rfl, rfl⟩) (by assumption) ?_
                        simp only [List.set_cons_zero, List.set_cons_succ]
                        refine take_at (i := 23) (n := 181) (v := ?_) rfl rfl (by kernel_rfl) (by kernel_rfl) (by kernel_rfl) (fun _ _ _ h => h) (Or.inl ⟨by rfl, ?_⟩) (by assumption) ?_
                        rotate_left 1
                        · intro wz hSw
                          obtain ⟨k0, k1, k2, k3⟩ := hSw
                          first | (go_simp; done) | (go_simp; with_reducible rfl)
                        simp only [List.set_cons_zero, List.set_cons_succ]
                        refine take_at (i := 24) (n := 182) (v := ?_) rfl rfl (by kernel_rfl) (by kernel_rfl) (by kernel_rfl) (fun _ _ _ h => h) (Or.inl ⟨by rfl, ?_⟩) (by assumption) ?_
                        rotate_left 1
                        · intro wz hSw
                          obtain ⟨k0, k1, k2, k3⟩ := hSw
                          first | (go_simp; done) | (go_simp; with_reducible rfl)
                        simp only [List.set_cons_zero, List.set_cons_succ]
                        refine take_at (i := 25) (n := 183) (v := undef) rfl rfl (by kernel_rfl) (by kernel_rfl) (by kernel_rfl) (fun _ _ _ h => h) (Or.inr ⟨by rfl, rfl⟩) (by assumption) ?_
                        simp only [List.set_cons_zero, List.set_cons_succ]
                        refine take_at (i := 26) (n := 184) (v := undef) rfl rfl (by kernel_rfl) (by kernel_rfl) (by kernel_rfl) (fun _ _ _ h => h) (Or.inr ⟨by rfl, rfl⟩) (by assumption) ?_
                        simp only [List.set_cons_zero, List.set_cons_succ]
                        refine take_at (i := 27) (n := 185) (v := undef) rfl rfl (by kernel_rfl) (by kernel_rfl) (by kernel_rfl) (fun _ _ _ h => h) (Or.inr ⟨by rfl, rfl⟩) (by assumption) ?_
                        simp only [List.set_cons_zero, List.set_cons_succ]
                        refine take_at (i := 28) (n := 186) (v := undef) rfl rfl (by kernel_rfl) (by kernel_rfl) (by kernel_rfl) (fun _ _ _ h => h) (Or.inr ⟨by rfl, rfl⟩) (by assumption) ?_
                        simp only [List.set_cons_zero, List.set_cons_succ]
                        refine take_at (i := 29) (n := 187) (v := undef) rfl rfl (by kernel_rfl) (by kernel_rfl) (by kernel_rfl) (fun _ _ _ h => h) (Or.inr ⟨by rfl, rfl⟩) (by assumption) ?_
                        simp only [List.set_cons_zero, List.set_cons_succ]
                        refine take_at (i := 30) (n := 188) (v := undef) rfl rfl (by kernel_rfl) (by kernel_rfl) (by kernel_rfl) (fun _ _ _ h => h) (Or.inr ⟨by rfl, rfl⟩) (by assumption) ?_
                        simp only [List.set_cons_zero, List.set_cons_succ]
                        refine take_at (i := 31) (n := 189) (v := undef) rfl rfl (by kernel_rfl) (by kernel_rfl) (by kernel_rfl) (fun _ _ _ h => h) (Or.inr ⟨by rfl, rfl⟩) (by assumption) ?_
                        simp only [List.set_cons_zero, List.set_cons_succ]
                        refine take_at (i := 32) (n := 190) (v := undef) rfl rfl (by kernel_rfl) (by kernel_rfl) (by kernel_rfl) (fun _ _ _ h => h) (Or.inr ⟨by rfl, rfl⟩) (by assumption) ?_
                        simp only [List.set_cons_zero, List.set_cons_succ]
                        refine take_at (i := 33) (n := 191) (v := undef) rfl rfl (by kernel_rfl) (by kernel_rfl) (by kernel_rfl) (fun _ _ _ h => h) (Or.inr ⟨by rfl, rfl⟩) (by assumption) ?_
                        simp only [List.set_cons_zero, List.set_cons_succ]
                        refine take_at (i := 34) (n := 192) (v := undef) rfl rfl (by kernel_rfl) (by kernel_rfl) (by kernel_rfl) (fun _ _ _ h => h) (Or.inr ⟨by rfl, rfl⟩) (by assumption) ?_
                        simp only [List.set_cons_zero, List.set_cons_succ]
                        refine take_at (i := 35) (n := 193) (v := undef) rfl rfl (by kernel_rfl) (by kernel_rfl) (by kernel_rfl) (fun _ _ _ h => h) (Or.inr ⟨by rfl, rfl⟩) (by assumption) ?_
                        simp only [List.set_cons_zero, List.set_cons_succ]
                        refine take_at (i := 36) (n := 194) (v := ?_) rfl rfl (by kernel_rfl) (by kernel_rfl) (by kernel_rfl) (fun _ _ _ h => h) (Or.inl ⟨by rfl, ?_⟩) (by assumption) ?_
                        rotate_left 1
                        · intro wz hSw
                          obtain ⟨k0, k1, k2, k3⟩ := hSw
                          first | (go_simp; done) | (go_simp; with_reducible rfl)
                        simp only [List.set_cons_zero, List.set_cons_succ]
                        refine take_at (i := 37) (n := 195) (v := ?_) rfl rfl (by kernel_rfl) (by kernel_rfl) (by kernel_rfl) (fun _ _ _ h => h) (Or.inl ⟨by rfl, ?_⟩) (by assumption) ?_
                        rotate_left 1
                        · intro wz hSw
                          obtain ⟨k0, k1, k2, k3⟩ := hSw
                          first | (go_simp; done) | (go_simp; with_reducible rfl)
                        simp only [List.set_cons_zero, List.set_cons_succ]
                        refine wpAnyH_done (by kernel_rfl) ?_ _
                        refine NoPanic.normal ?_
                        clear hHeld
                        go_wp2_with fail
                        first
                          | exact ⟨⟨j + 1, by omega, by simp, (below_seq HB10.out (below_new _ _)).drew⟩, by simp [intOf]; omega⟩
                          | fail
                    · have hje2 : j = l.length := by omega
                      subst hje2
                      go_wp2_with fail
                      go_ret
                      exact ⟨rfl, below_seq (below_seq H5.out.1 GY.out.1) HBL.out⟩
          · have hgb : (g1 != 0) = true := by simpa using hg
            have hcn : cs = [] := comesF_bad HEC.out hg
            subst hcn
            go_wp2_with (go_at_call 16; refine A16.mono ?_; rintro r w5 ⟨u5, rfl, ho5, hb5⟩; obtain ⟨a5, c5, rfl⟩ := owns_value ho5; have H5 : Hid (Below w.heap.size w w5) := below_seq HB.out hb5; clear hb5 ho5 A16)
            all_goals
              go_ret
              exact ⟨rfl, below_seq H5.out (below_new _ _)⟩
  · have hzb : ((chkX l).1 != 0) = true := by simpa using hX
    clear hv
    generalize (chkX l).1 = z1 at *
    generalize (chkX l).2 = z2 at *
    have hfd := fun W => field_29 W z1 z2
    go_enter Try.func4, Try.ntmps4
    go_wp2_with (go_at_call 6; refine (responds_any _).mono ?_; rintro r w1 ⟨rfl, hb1⟩; have H1 : Hid (Below w.heap.size w w1) := hb1; clear hb1)
    go_wp2_with (go_at_call 7; refine (S8.runs_any _).mono ?_; rintro r w2 ⟨rfl, hb2⟩; have H2 : Hid (Below w.heap.size w w2) := below_seq H1.out hb2; clear hb2 H1)
    go_wp2_with (go_at_call 15; refine (HC _ H2.out).mono ?_; rintro r w3 ⟨rfl, hb3⟩; have H3 : Hid (Below w.heap.size w w3) := below_seq H2.out hb3; clear hb3 H2 HC)
    first
      | (go_ret
         exact ⟨rfl, H3.out⟩)
      | fail
end Go.Proofs.Ytkafihaajpifoaf
namespace Go.Proofs.Ytkafihaajpifoaf
open Go.ChangeShapes Go.WideShapes Go.ChangeAt Go.RowKit

theorem cells3 : Try.prog.cellsOf 3 = 1 := by kernel_rfl
theorem cells9 : Try.prog.cellsOf 9 = 1 := by kernel_rfl
theorem cells32 : Try.prog.cellsOf 45 = 7 := by kernel_rfl

section
variable {H : Type} {enc : TypeId × Value → H} {w : World} {sp : Nat → Bool} {held : Bool}

/-- A cell that is there lies at a plain address. -/
theorem plain_addr {w : World} {a : Addr} {v : Value} (h : w.cell? a = some v) : a = ⟨a.block, a.off, none⟩ := by
  obtain ⟨b, o, s⟩ := a
  cases s with
  | none => rfl
  | some x =>
    exfalso
    unfold World.cell? at h
    simp at h
    split at h <;> simp_all

theorem add_plain' (g o n : Nat) : (⟨g, o, none⟩ : Addr).add n = ⟨g, o + n, none⟩ := by
  unfold Addr.add
  by_cases h : n = 0
  · subst h; rfl
  · simp [h]

theorem cells_at {g o n : Nat} {cs : List Value} (h : w.cells? 0 ⟨g, o, none⟩ n = some cs) : cs.length = n ∧ ∀ i, i < n → w.cell? ⟨g, o + i, none⟩ = cs[i]? := by
  obtain ⟨-, h1, h2⟩ := World.cells?_some h
  refine ⟨h1, fun i hi => ?_⟩
  rw [← h2 i hi, add_plain']

/-- A task that can be read. -/
theorem ta_one {n : Nat} {cs : List Value} {y : DataW H × List MemPlace} (hl : cs.length = 7) (h : DataW.trod enc Try.prog w 0 sp held n 45 cs = some y) : ∃ x : Ta, cs = x.vals ∧ x.nm.size ≤ maxLen ∧ y.1 = .agg [.lit (.string x.nm.data.toList), .lit (.int .i64 x.c), .lit (.int .i64 x.t), .lit (.int .i64 x.d), .lit (.int .i64 x.j), .lit (.int .i64 x.o), .lit (.int .i64 x.p)] := by
  match cs, hl with
  | [c0, c1, c2, c3, c4, c5, c6], _ =>
    obtain ⟨xs, n1, rfl, hy, -, hlen, hf⟩ := DataW.trod_struct Try.underlying45 h
    match xs, hlen with
    | [y0, y1, y2, y3, y4, y5, y6], _ =>
      have f0 : DataW.trod enc Try.prog w 0 sp held n1 9 ((([c0, c1, c2, c3, c4, c5, c6] : List Value).drop 0).take (Try.prog.cellsOf 9)) = some y0 := hf 0 _ rfl
      have f1 : DataW.trod enc Try.prog w 0 sp held n1 3 ((([c0, c1, c2, c3, c4, c5, c6] : List Value).drop 1).take (Try.prog.cellsOf 3)) = some y1 := hf 1 _ rfl
      have f2 : DataW.trod enc Try.prog w 0 sp held n1 3 ((([c0, c1, c2, c3, c4, c5, c6] : List Value).drop 2).take (Try.prog.cellsOf 3)) = some y2 := hf 2 _ rfl
      have f3 : DataW.trod enc Try.prog w 0 sp held n1 3 ((([c0, c1, c2, c3, c4, c5, c6] : List Value).drop 3).take (Try.prog.cellsOf 3)) = some y3 := hf 3 _ rfl
      have f4 : DataW.trod enc Try.prog w 0 sp held n1 3 ((([c0, c1, c2, c3, c4, c5, c6] : List Value).drop 4).take (Try.prog.cellsOf 3)) = some y4 := hf 4 _ rfl
      have f5 : DataW.trod enc Try.prog w 0 sp held n1 3 ((([c0, c1, c2, c3, c4, c5, c6] : List Value).drop 5).take (Try.prog.cellsOf 3)) = some y5 := hf 5 _ rfl
      have f6 : DataW.trod enc Try.prog w 0 sp held n1 3 ((([c0, c1, c2, c3, c4, c5, c6] : List Value).drop 6).take (Try.prog.cellsOf 3)) = some y6 := hf 6 _ rfl
      rw [cells3] at f1 f2 f3 f4 f5 f6
      rw [cells9] at f0
      obtain ⟨k0, e0, g0, hm⟩ := DataW.trod_string Try.underlying9 (show DataW.trod enc Try.prog w 0 sp held n1 9 [c0] = some y0 from f0)
      obtain ⟨k1, e1, g1, -⟩ := DataW.trod_int Try.underlying3 (show DataW.trod enc Try.prog w 0 sp held n1 3 [c1] = some y1 from f1)
      obtain ⟨k2, e2, g2, -⟩ := DataW.trod_int Try.underlying3 (show DataW.trod enc Try.prog w 0 sp held n1 3 [c2] = some y2 from f2)
      obtain ⟨k3, e3, g3, -⟩ := DataW.trod_int Try.underlying3 (show DataW.trod enc Try.prog w 0 sp held n1 3 [c3] = some y3 from f3)
      obtain ⟨k4, e4, g4, -⟩ := DataW.trod_int Try.underlying3 (show DataW.trod enc Try.prog w 0 sp held n1 3 [c4] = some y4 from f4)
      obtain ⟨k5, e5, g5, -⟩ := DataW.trod_int Try.underlying3 (show DataW.trod enc Try.prog w 0 sp held n1 3 [c5] = some y5 from f5)
      obtain ⟨k6, e6, g6, -⟩ := DataW.trod_int Try.underlying3 (show DataW.trod enc Try.prog w 0 sp held n1 3 [c6] = some y6 from f6)
      simp only [List.cons.injEq, and_true] at e0 e1 e2 e3 e4 e5 e6
      refine ⟨⟨k0, k1, k2, k3, k4, k5, k6⟩, by rw [e0, e1, e2, e3, e4, e5, e6]; rfl, hm, ?_⟩
      rw [hy, g0, g1, g2, g3, g4, g5, g6]
      rfl

theorem ta_row {n : Nat} (g : Nat) : ∀ (elems : List (DataW H × List MemPlace)) (o : Nat),
    (∀ i, i < elems.length → (w.cells? 0 ⟨g, o + i * 7, none⟩ 7).bind (DataW.trod enc Try.prog w 0 sp held n 45) = elems[i]?) →
    ∃ l : List Ta, l.length = elems.length ∧ (∀ x ∈ l, x.nm.size ≤ maxLen) ∧ ∀ q u, (l.flatMap Ta.vals)[q]? = some u → w.cell? ⟨g, o + q, none⟩ = some u
  | [], o, _ => ⟨[], rfl, fun x hx => by simp at hx, fun q u hq => by simp at hq⟩
  | y :: r, o, h => by
    have h0 := h 0 (by simp)
    simp only [Nat.zero_mul, Nat.add_zero, List.getElem?_cons_zero] at h0
    obtain ⟨cs, hc, ht⟩ := Option.bind_eq_some_iff.1 h0
    obtain ⟨hlen, hcell⟩ := cells_at hc
    obtain ⟨x, rfl, hm, -⟩ := ta_one hlen ht
    obtain ⟨l, hl, hms, hrow⟩ := ta_row g r (o + 7) (fun i hi => by
      have := h (i + 1) (by simp; omega)
      rw [show o + (i + 1) * 7 = o + 7 + i * 7 by omega] at this
      simpa using this)
    refine ⟨x :: l, by simp [hl], fun z hz => ?_, fun q u hq => ?_⟩
    · rcases List.mem_cons.1 hz with rfl | hz
      · exact hm
      · exact hms z hz
    · rw [List.flatMap_cons] at hq
      by_cases h7 : q < 7
      · rw [List.getElem?_append_left (by rw [Ta.len]; exact h7)] at hq
        rw [hcell q h7]
        exact hq
      · rw [List.getElem?_append_right (by rw [Ta.len]; omega), Ta.len] at hq
        have := hrow (q - 7) u hq
        rw [show o + 7 + (q - 7) = o + q by omega] at this
        exact this

/-- A slice of tasks that can be read. -/
theorem taSl_of_trod {ad : Option Addr} {n c : Nat} {d : DataW H} {ps : List MemPlace} (h : DataW.Trod enc Try.prog w 0 sp held 22 (.slice ad n c) d ps) : ∃ l : List Ta, n = l.length ∧ (∀ x ∈ l, x.nm.size ≤ maxLen) ∧ RowSl Ta.vals w l (.slice ad n c) := by
  obtain ⟨q, hq⟩ := h
  have hcs : (Value.slice ad n c).cells.toList = [.slice ad n c] := rfl
  rw [hcs] at hq
  rcases DataW.trod_slice Try.underlying22 hq with ⟨h1, -⟩ | ⟨a, len, cap, elems, rest, n2, -, h1, -, -, hlc, -, hle, hel, -, -⟩
  · simp only [List.cons.injEq, and_true, Value.slice.injEq] at h1
    obtain ⟨rfl, rfl, rfl⟩ := h1
    exact ⟨[], rfl, (fun x hx => by simp at hx), RowSl.nil _ _⟩
  · simp only [List.cons.injEq, and_true, Value.slice.injEq] at h1
    obtain ⟨rfl, rfl, rfl⟩ := h1
    subst hle
    simp only [cells32] at hel
    cases elems with
    | nil => exact ⟨[], rfl, (fun x hx => by simp at hx), ⟨_, _, rfl, (fun e => by cases e), Nat.zero_le _, .inl rfl⟩⟩
    | cons z r =>
      have hz := hel 0 (by simp)
      obtain ⟨cs0, hc0, ht0⟩ := Option.bind_eq_some_iff.1 hz
      obtain ⟨-, hlen0, hpl⟩ := World.cells?_some hc0
      obtain ⟨x, rfl, -⟩ := ta_one hlen0 (by simpa using ht0)
      have hpa := plain_addr (w := w) (a := a) (v := .string x.nm) (by simpa [Addr.add, Ta.vals] using hpl 0 (by omega))
      obtain ⟨l, hl, hms, hrow⟩ := ta_row (n := n2) a.block (z :: r) a.off (fun i hi => by
        have := hel i hi
        rw [hpa, add_plain'] at this
        exact this)
      exact ⟨l, hl.symm, hms, ⟨some a, c, by rw [hl], (fun e => by cases e), by omega, .inr ⟨a.block, a.off, by rw [← hpa], hrow⟩⟩⟩
end

end Go.Proofs.Ytkafihaajpifoaf
namespace Go.Proofs.Ytkafihaajpifoaf
open Go.ChangeShapes Go.WideShapes Go.ChangeAt Go.RowKit

theorem own : ownKnob Try.prog.godebug = none := by kernel_rfl
theorem laidOut : laidOutB Try.prog = true := by kernel_rfl
theorem reads22 : Try.prog.readableRec 22 = true := by kernel_rfl
theorem lt22 : 22 < Try.prog.types.size := of_decide_eq_true (by kernel_rfl)

set_option maxRecDepth 20000 in
theorem contractX (H : Type) (enc : TypeId × Value → H) (W : World) (base : Nat) (args : Array Value) (ds gs : List (DataW H)) (before : List MemPlace)
    (hval : ∀ (j : Nat) t v, Try.f4.params[j]? = some t → args[j]? = some v → Value.okWide Try.prog W .any base t v)
    (hW : DataW.Whole enc Try.prog Try.f4.params.toList Rows.fixedExactSpec.vars false W args.toList ds gs before) :
    Calls Try.prog 4 args W fun e W' => ∃ v, e = .returned v ∧ Rows.fixedExactSpec.post enc Try.prog Try.f4 false true false false W args v W' := by
  have hW' := hW
  obtain ⟨p, q, hA0, hV, rfl, hfz, hnd⟩ := hW
  have hA : DataW.TrodAll enc Try.prog W 0 (fun _ => true) true Try.f4.params.toList args.toList ds p := hA0
  rw [Try.params4] at hA hval
  obtain ⟨v0, vs0, d0, ds0, p0, q0, hargs, rfl, rfl, h0, r0⟩ := trodAll_cons hA
  obtain ⟨rfl, rfl, rfl⟩ := trodAll_nil r0
  obtain rfl : args = #[v0] := Array.toList_inj.1 (by rw [hargs])
  obtain ⟨rfl, rfl⟩ := trodVars_none hV
  obtain ⟨ad, len, cap, rfl⟩ := okWide_slice Try.underlying22 (hval 0 22 v0 (by simp) (by simp))
  clear hA0 hargs
  simp only [List.append_nil] at hW'
  obtain ⟨l, rfl, hms, hsl⟩ := taSl_of_trod h0
  refine (exact_walk W l _ hms hsl).mono fun e W' ⟨he, hbel⟩ => ?_
  subst he
  have hlt0 : ∀ x ∈ p0, x.block < W.heap.size := fun x hx => by
    obtain ⟨n, hn⟩ := h0
    exact DataW.trod_lt n _ _ _ hn x hx
  refine ⟨_, rfl, [d0], [], p0, [], p0, [], hW', trodAll_mk1 (shut_bool Try.underlying4 _), ?_, rfl, hbel.frame _, fun h => by cases h⟩
  have s0 := WideElems.Trod_stays (W' := W') (sp' := fun b => decide (b < W.heap.size)) laidOut reads22 lt22 h0 (fun x hx => hbel.same (hlt0 x hx)) (fun x hx => by simpa using hlt0 x hx)
  have e1 := trodAll_cons_mk s0 (trodAll_mk0 (enc := enc) (P := Try.prog) (w := W') (base := 0) (spare := fun b => decide (b < W.heap.size)) (held := true))
  rw [List.append_nil] at e1
  exact e1

theorem laid_metX (os : Os) : laidMet Try.prog Rows.fixedExactRow.laid ((World.holding Try.prog os ⟨#[], #[], []⟩).forCall (fun _ _ => 0) ⟨#[], #[.slice none 0 0], []⟩).memory :=
  laidMet_of_run' 8 (by kernel_rfl) (by kernel_rfl)
theorem readsX (os : Os) {H : Type} (enc : TypeId × Value → H) : ∃ places, DataW.whole enc Try.prog ((World.holding Try.prog os ⟨#[], #[], []⟩).forCall (fun _ _ => 0) ⟨#[], #[.slice none 0 0], []⟩).memory Try.f4.params.toList Rows.fixedExactSpec.vars false #[Value.slice none 0 0].toList 8 = some ([.nil], [], places) :=
  ⟨[], by kernel_rfl⟩

set_option maxRecDepth 100000 in
theorem liftedX (os : Os) (started : os.Started) (H : Type) (enc : TypeId × Value → H) (F : Stop.Interp) :
    ReturnsInHanded {} Try.checked os 4 .any ((OpenSpec.ofChange Rows.fixedExactSpec).preRow enc Try.prog Try.f4 Rows.fixedExactRow.domain false Rows.fixedExactRow.laid) (((OpenSpec.ofChange Rows.fixedExactSpec).at F).post enc Try.prog Try.f4 false true false false) := by
  obtain ⟨places, hx⟩ := readsX os enc
  refine returnsInHanded_of_row (C := Try.checked) (s := OpenSpec.ofChange Rows.fixedExactSpec) own started (by kernel_rfl) Try.func4
    (witness_row_at (enc := enc) (C := Try.checked) false (World.holding Try.prog os ⟨#[], #[], []⟩) #[.slice none 0 0] rfl (by kernel_rfl) (by kernel_rfl) (by kernel_rfl)
      (OpenSpec.preRow_of_cond 8 hx (by kernel_rfl) (fun k hk => by cases hk) (by kernel_rfl) (laid_metX os))) ?_
  intro W base args ds gs before hval hW _ _ _ _ _ _
  exact contractX H enc W base args ds gs before hval hW

theorem fixedExact_said : Rows.FixedExactSaid :=
  OpenClaim.holds_of_cond 4 Try.f4 rfl rfl rfl rfl rfl rfl rfl ⟨rfl, rfl, rfl, rfl, rfl⟩ rfl rfl rfl rfl rfl (by kernel_rfl) Try.func4 (by kernel_rfl)
    (of_decide_eq_true (by kernel_rfl)) (by unfold Func.isWrapper; first | (rw [if_pos (by decide +kernel)]; kernel_rfl) | (rw [if_neg (by decide +kernel)]; exact ⟨rfl, rfl⟩))
    (fun os started H enc _ F => by rw [OpenClaim.pre_eq_preRow]; exact liftedX os started H enc F)
end Go.Proofs.Ytkafihaajpifoaf
