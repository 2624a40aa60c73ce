import Derived.Test.YtdligmnboalagafKH
import Derived.Test.YtdligmnboalagafKK
import Derived.Test.YtdligmnboalagafKR
import Derived.Test.YtdligmnboalagafSQH
import Derived.Test.YtdligmnboalagafCP
import Derived.Test.YtdligmnboalagafYF
namespace Go.Proofs.Ytdligmnboalagaf
open Go.ChangeShapes Go.WideShapes Go.ChangeAt Go.RowKit

theorem field_29 (W : World) (a b : Int) : (Instr.field 29 (.agg #[.int .i64 a, .int .i64 b]) 0).run Try.prog W = .ok (.int .i64 a) W := by kernel_rfl

set_option maxRecDepth 20000 in
set_option maxHeartbeats 8000000 in
theorem exact_walk (w : World) (l : List Ta) (v : Value) (hS : ∀ x ∈ l, x.nm.size ≤ 9223372036854775807) (hv : RowSl Ta.vals w l v) :
    Calls Try.prog 4 #[v] w fun r w' => r = .returned (.bool true) ∧ Below w.heap.size w w' := by
  obtain ⟨ad, c, rfl⟩ := hv.len
  have HV : Hid (RowSl Ta.vals w l (.slice ad l.length c)) := hv
  have HS : Hid (∀ x ∈ l, x.nm.size ≤ 9223372036854775807) := hS
  clear hS
  have HC := fun W (hb : Below w.heap.size w W) => CheckFixed_any W l _ HS.out (HV.out.below hb)
  by_cases hX : (chkX l).1 = 0
  · rw [hX] at HC
    obtain ⟨-, hDT, hl1, h8, hst, -⟩ := chkX_ok hX
    obtain ⟨ad', c', e, -, hcap, hrow⟩ := hv
    cases e
    rcases hrow with h | ⟨b, o, rfl, hrow⟩
    · rw [h] at hl1; simp at hl1
    have HR : Hid ((∀ q u, (l.flatMap Ta.vals)[q]? = some u → w.cell? ⟨b, o + q, none⟩ = some u) ∧ (∀ x ∈ l, stands x = true) ∧ ∀ x ∈ l, x.d ≤ x.t) := ⟨hrow, hst, hDT⟩
    clear hrow hst hDT
    generalize (chkX l).2 = z2 at *
    have hfd := fun W => field_29 W 0 z2
    go_enter Try.func4, Try.ntmps4
    go_wp2_with (go_at_call 6; refine (responds_any _).mono ?_; rintro r w1 ⟨rfl, hb1⟩; have H1 : Hid (Below w.heap.size w w1) := hb1; clear hb1)
    go_wp2_with (go_at_call 7; refine (S8.runs_any _).mono ?_; rintro r w2 ⟨rfl, hb2⟩; have H2 : Hid (Below w.heap.size w w2) := below_seq H1.out hb2; clear hb2 H1)
    go_wp2_with (go_at_call 15; refine (HC _ H2.out).mono ?_; rintro r w3 ⟨rfl, hb3⟩; have H3 : Hid (Below w.heap.size w w3) := below_seq H2.out hb3; clear hb3 H2 HC)
    go_loopw [3, 30] (fun ev iv wr => ∃ (j : Nat) (e : Int), j ≤ l.length ∧ ev = .int .i64 e ∧ iv = .int .i64 (j : Int) ∧ Below w.heap.size w wr ∧ 0 ≤ e ∧ e ≤ 10000 ∧ Hid ((∀ k, k < j → (Tk l k).d ≤ e ∧ (Tk l k).j = 0 ∧ (Tk l k).o = 0) ∧ (∀ a b, a < b → b < j → (Tk l a).p ≠ (Tk l b).p))) (fun _ iv _ => l.length - (intOf iv).toNat)
    case atStart => exact ⟨0, 0, Nat.zero_le _, rfl, rfl, H3.out, by omega, by omega, fun k hk => by omega, fun a b _ hb => by omega⟩
    case round =>
      obtain ⟨w4, hw4⟩ : ∃ w4, w4 = wr := ⟨wr, rfl⟩
      subst hw4
      obtain ⟨j, e, hjl, rfl, rfl, hb, he0, he1, HQ⟩ := hrel
      by_cases hlt : j < l.length
      · obtain ⟨c0, c1, c2, c3, c4, c5, c6⟩ := ta_at (fun q u hq => below_cell hb (HR.out.1 q u hq)) (Tk_get hlt)
        obtain ⟨y1, y2, y3, y4, y5, y6, -, -, -, -⟩ := stands_t (stands_mem HR.out.2.1 hlt)
        have lb : b < w4.heap.size := World.block_lt_of_cell? _ _ c0
        have hj' : (j : Int) < (l.length : Int) := by omega
        have hjl' : (j : Int) ≤ (l.length : Int) := by omega
        have hjc : (j : Int) ≤ (c : Int) := by omega
        have HB : Hid (Below w.heap.size w w4) := hb
        generalize hy : Tk l j = y at *
        have HY : Hid (Tk l j = y) := hy
        have HT : Hid (∀ W, Below (w4.alloc (.cells #[.string y.nm, .int .i64 y.c, .int .i64 y.t, .int .i64 y.d, .int .i64 y.j, .int .i64 y.o, .int .i64 y.p] 45)).heap.size (w4.alloc (.cells #[.string y.nm, .int .i64 y.c, .int .i64 y.t, .int .i64 y.d, .int .i64 y.j, .int .i64 y.o, .int .i64 y.p] 45)) W → W.cell? ⟨w4.heap.size, 4, none⟩ = some (.int .i64 y.j) ∧ W.cell? ⟨w4.heap.size, 5, none⟩ = some (.int .i64 y.o) ∧ W.cell? ⟨w4.heap.size, 6, none⟩ = some (.int .i64 y.p)) := fun W hB => ⟨below_cell hB (by go_simp), below_cell hB (by go_simp), below_cell hB (by go_simp)⟩
        clear hb hy
        go_wp2_with fail
        clear c0 c1 c2 c3 c4 c5 c6
        go_loopw [43] (fun iv wl => ∃ k : Nat, k ≤ j ∧ iv = .int .i64 (k : Int) ∧ Below (w4.alloc (.cells #[.string y.nm, .int .i64 y.c, .int .i64 y.t, .int .i64 y.d, .int .i64 y.j, .int .i64 y.o, .int .i64 y.p] 45)).heap.size (w4.alloc (.cells #[.string y.nm, .int .i64 y.c, .int .i64 y.t, .int .i64 y.d, .int .i64 y.j, .int .i64 y.o, .int .i64 y.p] 45)) wl ∧ Hid (∀ a, a < k → (Tk l a).p ≠ y.p)) (fun iv _ => j - (intOf iv).toNat)
        case atStart => exact ⟨0, Nat.zero_le _, rfl, Below.refl _ _, fun a ha => by omega⟩
        case round =>
          obtain ⟨k, hkj, rfl, hbk, HK⟩ := hrel
          obtain ⟨t4, t5, t6⟩ := HT.out wr hbk
          have HW : Hid (Below w.heap.size w wr) := below_seq HB.out (below_seq (below_new _ _) hbk)
          have HBK : Hid (Below (w4.alloc (.cells #[.string y.nm, .int .i64 y.c, .int .i64 y.t, .int .i64 y.d, .int .i64 y.j, .int .i64 y.o, .int .i64 y.p] 45)).heap.size (w4.alloc (.cells #[.string y.nm, .int .i64 y.c, .int .i64 y.t, .int .i64 y.d, .int .i64 y.j, .int .i64 y.o, .int .i64 y.p] 45)) wr) := hbk
          have ltb : w4.heap.size < wr.heap.size := World.block_lt_of_cell? _ _ t4
          clear hbk
          by_cases hk : k < j
          · obtain ⟨z0, z1, z2', z3, z4, z5, z6⟩ := ta_at (fun q u hq => below_cell HW.out (HR.out.1 q u hq)) (Tk_get (show k < l.length by omega))
            have lbz : b < wr.heap.size := World.block_lt_of_cell? _ _ z0
            have hk' : (k : Int) < (j : Int) := by omega
            generalize hzz : Tk l k = z at *
            by_cases hp : z.p = y.p
            · have hpb : (z.p == y.p) = true := by simpa using hp
              clear hzz
              go_wp2_with fail
              go_ret
              exact ⟨rfl, below_seq HW.out (below_new _ _)⟩
            · have hpb : (z.p == y.p) = false := by simpa using hp
              have HK' : Hid (∀ a, a < k + 1 → (Tk l a).p ≠ y.p) := fun a ha => by
                by_cases e : a = k
                · subst e; rw [hzz]; exact hp
                · exact HK.out a (by omega)
              clear hzz
              go_wp2_with fail
              exact ⟨⟨k + 1, by omega, by simp, below_seq HBK.out (below_new _ _), HK'.out⟩, by simp [intOf]; omega⟩
          · have hke : k = j := by omega
            subst hke
            by_cases hj0 : y.j = 0
            · have hjb : (y.j != 0) = false := by simpa using hj0
              by_cases ho0 : y.o = 0
              · have hob : (y.o != 0) = false := by simpa using ho0
                have HF : Hid ((∀ q, q < k + 1 → (Tk l q).d ≤ max e y.d ∧ (Tk l q).j = 0 ∧ (Tk l q).o = 0) ∧ (∀ a b, a < b → b < k + 1 → (Tk l a).p ≠ (Tk l b).p)) := ⟨fun q hq => by
                  by_cases e : q = k
                  · subst e; rw [HY.out]; exact ⟨by omega, hj0, ho0⟩
                  · have := HQ.out.1 q (by omega)
                    exact ⟨by omega, this.2.1, this.2.2⟩, fun a b hab hb => by
                  by_cases e : b = k
                  · subst e; rw [HY.out]; exact HK.out a hab
                  · exact HQ.out.2 a b hab (by omega)⟩
                go_wp2_with fail
                first
                  | exact ⟨⟨k + 1, max e y.d, by omega, rfl, by simp, HW.out, by omega, by omega, HF.out⟩, by simp [intOf]; omega⟩
                  | fail
              · have hob : (y.o != 0) = true := by simpa using ho0
                go_wp2_with fail
                go_ret
                exact ⟨rfl, HW.out⟩
            · have hjb : (y.j != 0) = true := by simpa using hj0
              go_wp2_with fail
              go_ret
              exact ⟨rfl, HW.out⟩
      · have hje : j = l.length := by omega
        subst hje
        have HB : Hid (Below w.heap.size w w4) := hb
        clear hb
        by_cases h15 : 1500 < e
        · go_wp2_with fail
          go_ret
          exact ⟨rfl, HB.out⟩
        · obtain ⟨E, rfl⟩ : ∃ E : Nat, e = (E : Int) := ⟨e.toNat, by omega⟩
          have A16 := Comes_any w4 l (.slice (some ⟨b, o, none⟩) l.length c) (E : Int) (HV.out.below HB.out)
          obtain ⟨g1, g2, cs, EC⟩ : ∃ g1 g2 cs, comesF l (E : Int) = ((g1, g2), cs) := ⟨_, _, _, rfl⟩
          rw [EC] at A16
          dsimp only at A16
          have HEC : Hid (comesF l (E : Int) = ((g1, g2), cs)) := EC
          clear EC
          by_cases hg : g1 = 0
          · subst hg
            by_cases h6 : 600 < cs.length
            · have h6' : (600 : Int) < (cs.length : Int) := by omega
              go_wp2_with (go_at_call 16; refine A16.mono ?_; rintro r w5 ⟨u5, rfl, ho5, hb5⟩; obtain ⟨a5, c5, rfl⟩ := owns_value ho5; have H5 : Hid (Below w.heap.size w w5) := below_seq HB.out hb5; clear hb5 ho5 A16)
              all_goals
                go_ret
                exact ⟨rfl, below_seq H5.out (below_new _ _)⟩
            · have h6' : ¬ (600 : Int) < (cs.length : Int) := by omega
              have hck := (chkX_ok hX).1
              obtain ⟨rfl, hcsE, e0, e1⟩ := comesF_ok HEC.out hck
              obtain ⟨EJ, NO0⟩ := nought_of hX HEC.out HQ.out.1 HQ.out.2
              rw [Int.toNat_natCast] at NO0
              have hlk := legF_ok NO0.leg
              have HN : Hid (Nought l E cs (cs.map (jobOf l)) ∧ jobsF l cs (List.replicate cs.length 0) (cs.map (fun c => (Tk l c.k.toNat).c)) = ((0, 0), cs.map (jobOf l)) ∧ (∀ c ∈ cs, 0 ≤ c.k ∧ c.k < (l.length : Int) ∧ 0 ≤ c.a ∧ c.a ≤ 20000)) := ⟨NO0, EJ, hlk.2.2⟩
              clear hck hcsE EJ NO0 hlk
              go_wp2_with (go_at_call 16; refine A16.mono ?_; rintro r w5 ⟨u5, rfl, ho5, hb5⟩; obtain ⟨a5, c5, rfl⟩ := owns_value ho5; have H5 : Hid (Below w.heap.size w w5 ∧ RowSl Co.vals w5 cs (.slice a5 cs.length c5) ∧ FB w5 (w5.alloc (.cells #[.int .i64 0, .int .i64 0] 29)) w5.heap.size) := ⟨below_seq HB.out hb5, rowOfC_own ho5, FB.start w5⟩; clear hb5 ho5 A16)
              go_loopw [10, 88] (fun av iv wr => ∃ (j : Nat) (acc : List Int), j ≤ cs.length ∧ iv = .int .i64 (j : Int) ∧ acc.length ≤ j ∧ NO w5 wr w5.heap.size acc av ∧ Hid (acc ++ (cs.drop j).map (fun c => (Tk l c.k.toNat).c) = cs.map (fun c => (Tk l c.k.toNat).c))) (fun _ iv _ => cs.length - (intOf iv).toNat)
              case atStart => exact ⟨0, [], Nat.zero_le _, rfl, by simp, NO.start H5.out.2.2, rfl⟩
              case round =>
                obtain ⟨j, acc, hjl, rfl, hac, hno, HA⟩ := hrel
                obtain ⟨a6, c6, rfl⟩ := hno.val
                have HM : Hid (NO w5 wr w5.heap.size acc (.slice a6 acc.length c6)) := hno
                by_cases hlt : j < cs.length
                · obtain ⟨x, hx, hdr⟩ := drop_at hlt
                  have hq := HA.out
                  rw [hdr, List.map_cons] at hq
                  obtain ⟨x0, x1, x2, x3⟩ := HN.out.2.2 x (List.mem_of_getElem? hx)
                  obtain ⟨kn, hkn⟩ : ∃ kn : Nat, x.k = (kn : Int) := ⟨x.k.toNat, by omega⟩
                  rw [hkn, Int.toNat_natCast] at hq
                  have hknl : kn < l.length := by omega
                  obtain ⟨ad9, cc9, e9, -, hcap9, hrow9⟩ := H5.out.2.1
                  cases e9
                  rcases hrow9 with h | ⟨b2, o2, rfl, hrow2⟩
                  · rw [h] at hlt; simp at hlt
                  obtain ⟨q0, q1⟩ := co_at (fun q u hq => below_cell hno.fb.bel (hrow2 q u hq)) hx
                  rw [hkn] at q0
                  obtain ⟨-, t1, -, -, -, -, -⟩ := ta_at (fun q u hq => below_cell (below_seq H5.out.1 hno.fb.bel) (HR.out.1 q u hq)) (Tk_get hknl)
                  have lb : b < wr.heap.size := World.block_lt_of_cell? _ _ t1
                  have lb2 : b2 < wr.heap.size := World.block_lt_of_cell? _ _ q0
                  have hj' : (j : Int) < (cs.length : Int) := by omega
                  have hk' : (kn : Int) < (l.length : Int) := by omega
                  generalize (Tk l kn).c = tc at *
                  generalize x.a = xa at *
                  have HA' : Hid ((acc ++ [tc]) ++ (cs.drop (j + 1)).map (fun c => (Tk l c.k.toNat).c) = cs.map (fun c => (Tk l c.k.toNat).c)) := by
                    show _ = _
                    rw [List.append_assoc]
                    exact hq
                  obtain ⟨ad9, c9, w9, hrun, ho9⟩ := NO.push (HM.out.grow (below_new wr (.cells #[.int .i64 (kn : Int), .int .i64 xa] 49))) tc (by omega)
                  rw [show (wr.alloc (.cells #[.int .i64 (kn : Int), .int .i64 xa] 49)).heap.size = wr.heap.size + 1 by simp] at hrun
                  have H9 : Hid (NO w5 w9 w5.heap.size (acc ++ [tc]) (.slice ad9 (acc.length + 1) c9)) := ho9
                  clear hq HA hno hrow2 hx hdr hkn ho9
                  go_wp2_with (at_builtin; refine append_known rfl (.tmp 92) (.tmp 99) 24 rfl rfl rfl hrun ?_)
                  first
                    | exact ⟨⟨j + 1, acc ++ [tc], by omega, by simp, by simp; omega, H9.out, HA'.out⟩, by simp [intOf]; omega⟩
                    | fail
                · have hje : j = cs.length := by omega
                  subst hje
                  have hq := HA.out
                  rw [List.drop_length, List.map_nil, List.append_nil] at hq
                  subst hq
                  clear HA hno
                  have hmk := fun W => make_zeros cs.length (by omega) W
                  go_wp2_with fail
                  have htk : RowSl nuV wr (cs.map (fun c => (Tk l c.k.toNat).c)) (.slice a6 cs.length c6) := by
                    have := HM.out.rowSl
                    rw [List.length_map] at this
                    exact this
                  have b5 : Below w5.heap.size w5 wr := HM.out.fb.bel
                  have A10 := Jobs_any (wr.alloc (.cells (zerosV cs.length).toArray 3)) l cs (List.replicate cs.length 0) (cs.map (fun c => (Tk l c.k.toNat).c)) _ _ _ _ (HV.out.below (below_seq H5.out.1 (below_seq b5 (below_new _ _)))) (H5.out.2.1.below (below_seq b5 (below_new _ _))) (zeros_row wr cs.length) (htk.below (below_new _ _))
                  rw [HN.out.2.1] at A10
                  dsimp only at A10
                  have G6 : Hid (Below w5.heap.size w5 (wr.alloc (.cells (zerosV cs.length).toArray 3)) ∧ FL (wr.alloc (.cells (zerosV cs.length).toArray 3)) w5.heap.size 0 0 ∧ w5.heap.size < (wr.alloc (.cells (zerosV cs.length).toArray 3)).heap.size) := ⟨below_seq b5 (below_new _ _), FL.grow (show FL wr w5.heap.size 0 0 from HM.out.fb.res) (below_new _ _), (FL.grow (show FL wr w5.heap.size 0 0 from HM.out.fb.res) (below_new _ _)).cells.2.2⟩
                  have hlm : (cs.map (jobOf l)).length = cs.length := by simp
                  generalize hjs : (cs.map (jobOf l)) = js at *
                  have HJS : Hid ((cs.map (jobOf l)) = js) := hjs
                  clear htk b5 hjs
                  go_wp2_with (go_at_call 10; refine A10.mono ?_; rintro r w7 ⟨u7, rfl, ho7, hb7⟩; obtain ⟨a7, c7, rfl⟩ := owns_value ho7; have H7 : Hid (Below w5.heap.size w5 w7 ∧ w7.ownsRow ((wr.alloc (.cells (zerosV cs.length).toArray 3)).heap.size + 1) 60 5 (.slice a7 js.length c7) js.length (js.flatMap Jb.vals) ∧ FL w7 w5.heap.size 0 0 ∧ w5.heap.size < ((wr.alloc (.cells (zerosV cs.length).toArray 3)).heap.size + 1)) := ⟨below_seq G6.out.1 hb7, ho7, G6.out.2.1.grow hb7, by have := G6.out.2.2; omega⟩; obtain ⟨f50, f51, f5l⟩ := H7.out.2.2.1.cells; have f5f := (cells_of (l := [_, _]) H7.out.2.2.1).2.1; have ff50 := f5f 0; have ff51 := f5f 1; clear f5f hb7 ho7 A10)
                  have jX1 : RowSl Jb.vals ((w7.setCell ⟨w5.heap.size, 0, none⟩ (.int .i64 0)).setCell ⟨w5.heap.size, 1, none⟩ (.int .i64 0)) js (.slice a7 cs.length c7) := by
                    have := rowOf_own (ownsRow_two H7.out.2.1 H7.out.2.2.2 (.int .i64 0) (.int .i64 0))
                    rw [hlm] at this
                    exact this
                  have bX1 : Below w5.heap.size w5 ((w7.setCell ⟨w5.heap.size, 0, none⟩ (.int .i64 0)).setCell ⟨w5.heap.size, 1, none⟩ (.int .i64 0)) := (H7.out.1.setCell (p := ⟨w5.heap.size, 0, none⟩) (Nat.le_refl _) _).setCell (p := ⟨w5.heap.size, 1, none⟩) (Nat.le_refl _) _
                  have FX1 : FL ((w7.setCell ⟨w5.heap.size, 0, none⟩ (.int .i64 0)).setCell ⟨w5.heap.size, 1, none⟩ (.int .i64 0)) w5.heap.size 0 0 := set_two H7.out.2.2.1
                  have GX : Hid (RowSl Jb.vals ((w7.setCell ⟨w5.heap.size, 0, none⟩ (.int .i64 0)).setCell ⟨w5.heap.size, 1, none⟩ (.int .i64 0)) js (.slice a7 cs.length c7) ∧ Below w5.heap.size w5 ((w7.setCell ⟨w5.heap.size, 0, none⟩ (.int .i64 0)).setCell ⟨w5.heap.size, 1, none⟩ (.int .i64 0)) ∧ FL ((w7.setCell ⟨w5.heap.size, 0, none⟩ (.int .i64 0)).setCell ⟨w5.heap.size, 1, none⟩ (.int .i64 0)) w5.heap.size 0 0) := ⟨jX1, bX1, FX1⟩
                  clear jX1 bX1 FX1 f50 f51 f5l ff50 ff51 H7 G6
                  generalize ((w7.setCell ⟨w5.heap.size, 0, none⟩ (.int .i64 0)).setCell ⟨w5.heap.size, 1, none⟩ (.int .i64 0)) = X at *
                  have hok : Hid (∀ x ∈ js, S8.okJ x) := jobs_okJ HN.out.2.1
                  have A12 := S8.Play_good X js (.slice a7 cs.length c7) 1 E true GX.out.1 (by rw [plE_jobs hok.out (by omega) (by omega)])
                  go_wp2_with (go_at_call 12; refine A12.mono ?_; rintro r w9 ⟨v1, v2, rfl, ho⟩; obtain ⟨s, rb, eb, hp, rfl, rfl, h1, h2, hne, b1, b2⟩ := ho.out; rw [hlm]; have H9 : Hid (Below X.heap.size X w9 ∧ S8.Plays js 1 true E s ∧ w9.heap[eb]? = some (.cells (s.ends.map (Value.int .i64)).toArray 3 (0, 0)) ∧ X.heap.size ≤ eb) := ⟨ho.bel, hp, h2, b2⟩; obtain ⟨f50, f51, f5l⟩ := (GX.out.2.2.grow ho.bel).cells; have f5f := (cells_of (l := [_, _]) (GX.out.2.2.grow ho.bel)).2.1; have ff50 := f5f 0; have ff51 := f5f 1; clear f5f hp h1 h2 ho A12 b1 b2 hne)
                  have hl5 : w5.heap.size < X.heap.size := GX.out.2.2.cells.2.2
                  have bX2 : Below w5.heap.size w5 (((w9.setCell ⟨w5.heap.size, 0, none⟩ (.int .i64 0)).setCell ⟨w5.heap.size, 1, none⟩ (.int .i64 0)).alloc (.cells #[.slice (some ⟨rb, 0, none⟩) E E, .slice (some ⟨eb, 0, none⟩) cs.length cs.length] 37)) := by
                    have h0 := ((below_seq GX.out.2.1 H9.out.1).setCell (p := ⟨w5.heap.size, 0, none⟩) (Nat.le_refl _) (.int .i64 0)).setCell (p := ⟨w5.heap.size, 1, none⟩) (Nat.le_refl _) (.int .i64 0)
                    exact h0.alloc h0.size _
                  have PX : (((w9.setCell ⟨w5.heap.size, 0, none⟩ (.int .i64 0)).setCell ⟨w5.heap.size, 1, none⟩ (.int .i64 0)).alloc (.cells #[.slice (some ⟨rb, 0, none⟩) E E, .slice (some ⟨eb, 0, none⟩) cs.length cs.length] 37)).heap[w9.heap.size]? = some (.cells #[.slice (some ⟨rb, 0, none⟩) E E, .slice (some ⟨eb, 0, none⟩) cs.length cs.length] 37 (0, 0)) := by
                    have := heap_alloc_new ((w9.setCell ⟨w5.heap.size, 0, none⟩ (.int .i64 0)).setCell ⟨w5.heap.size, 1, none⟩ (.int .i64 0)) (.cells #[.slice (some ⟨rb, 0, none⟩) E E, .slice (some ⟨eb, 0, none⟩) cs.length cs.length] 37)
                    simpa using this
                  have heb : eb ≠ w5.heap.size := by have := H9.out.2.2.2; omega
                  have eX : (((w9.setCell ⟨w5.heap.size, 0, none⟩ (.int .i64 0)).setCell ⟨w5.heap.size, 1, none⟩ (.int .i64 0)).alloc (.cells #[.slice (some ⟨rb, 0, none⟩) E E, .slice (some ⟨eb, 0, none⟩) cs.length cs.length] 37)).heap[eb]? = some (.cells (s.ends.map (Value.int .i64)).toArray 3 (0, 0)) := ((Below.heap_alloc _ _ _ (by have := (Array.getElem?_eq_some_iff.1 H9.out.2.2.1).1; simpa using this)).trans (by rw [Below.heap_setCell _ _ _ _ (by show eb ≠ w5.heap.size; exact heb), Below.heap_setCell _ _ _ _ (by show eb ≠ w5.heap.size; exact heb)])).trans H9.out.2.2.1
                  have EP := exact_pure HN.out.1 hok.out H9.out.2.1
                  have GY : Hid (Below w5.heap.size w5 (((w9.setCell ⟨w5.heap.size, 0, none⟩ (.int .i64 0)).setCell ⟨w5.heap.size, 1, none⟩ (.int .i64 0)).alloc (.cells #[.slice (some ⟨rb, 0, none⟩) E E, .slice (some ⟨eb, 0, none⟩) cs.length cs.length] 37)) ∧ (((w9.setCell ⟨w5.heap.size, 0, none⟩ (.int .i64 0)).setCell ⟨w5.heap.size, 1, none⟩ (.int .i64 0)).alloc (.cells #[.slice (some ⟨rb, 0, none⟩) E E, .slice (some ⟨eb, 0, none⟩) cs.length cs.length] 37)).heap[w9.heap.size]? = some (.cells #[.slice (some ⟨rb, 0, none⟩) E E, .slice (some ⟨eb, 0, none⟩) cs.length cs.length] 37 (0, 0)) ∧ (((w9.setCell ⟨w5.heap.size, 0, none⟩ (.int .i64 0)).setCell ⟨w5.heap.size, 1, none⟩ (.int .i64 0)).alloc (.cells #[.slice (some ⟨rb, 0, none⟩) E E, .slice (some ⟨eb, 0, none⟩) cs.length cs.length] 37)).heap[eb]? = some (.cells (s.ends.map (Value.int .i64)).toArray 3 (0, 0)) ∧ ∀ i, i < l.length → ∃ e, s.ends[i]? = some e ∧ (respR l i 0 ≠ 0 → e = respR l i 0) ∧ (respR l i 0 = 0 → ¬ (0 ≤ e ∧ e ≤ (Tk l i).d))) := ⟨bX2, PX, eX, EP⟩
                  clear hl5 bX2 PX heb eX EP f50 f51 f5l ff50 ff51 H9 GX
                  generalize (((w9.setCell ⟨w5.heap.size, 0, none⟩ (.int .i64 0)).setCell ⟨w5.heap.size, 1, none⟩ (.int .i64 0)).alloc (.cells #[.slice (some ⟨rb, 0, none⟩) E E, .slice (some ⟨eb, 0, none⟩) cs.length cs.length] 37)) = Y at *
                  generalize w9.heap.size = PB at *
                  go_loopw [134] (fun iv wr => ∃ j : Nat, j ≤ l.length ∧ iv = .int .i64 (j : Int) ∧ Below Y.heap.size Y wr) (fun iv _ => l.length - (intOf iv).toNat)
                  case atStart => exact ⟨0, Nat.zero_le _, rfl, Below.refl _ _⟩
                  case round =>
                    obtain ⟨j, hjl2, rfl, hbl⟩ := hrel
                    have HBL : Hid (Below Y.heap.size Y wr) := hbl
                    clear hbl
                    by_cases hlt2 : j < l.length
                    · obtain ⟨ev, he1, he2, he3⟩ := GY.out.2.2.2 j hlt2
                      have hfst := HN.out.1.first j hlt2
                      obtain ⟨ad9, cc9, e9, -, hcap9, hrow9⟩ := H5.out.2.1
                      cases e9
                      rcases hrow9 with h | ⟨b2, o2, rfl, hrow2⟩
                      · rw [h] at hfst; simp at hfst
                      have HFA : Hid (∀ W, Below Y.heap.size Y W → W.cell? ⟨b2, o2 + j * 2, none⟩ = some (.int .i64 (j : Int)) ∧ W.cell? ⟨b2, o2 + j * 2 + 1, none⟩ = some (.int .i64 0) ∧ W.cell? ⟨PB, 1, none⟩ = some (.slice (some ⟨eb, 0, none⟩) cs.length cs.length) ∧ W.cell? ⟨eb, j, none⟩ = some (.int .i64 ev) ∧ W.cell? ⟨b, o + j * 7 + 3, none⟩ = some (.int .i64 (Tk l j).d)) := fun W hB => by
                        obtain ⟨q0, q1⟩ := co_at (fun q u hq => below_cell (below_seq GY.out.1 hB) (hrow2 q u hq)) hfst
                        obtain ⟨-, -, -, td, -, -, -⟩ := ta_at (fun q u hq => below_cell (below_seq (below_seq H5.out.1 GY.out.1) hB) (HR.out.1 q u hq)) (Tk_get hlt2)
                        exact ⟨q0, q1, below_cell hB ((cells_of (l := [_, _]) GY.out.2.1).1 1 _ rfl), below_cell hB ((cells_of GY.out.2.2.1).1 j _ (by rw [List.getElem?_map, he1]; rfl)), td⟩
                      have hjc : (j : Int) < (cs.length : Int) := by have := (List.getElem?_eq_some_iff.1 hfst).1; omega
                      have hjl3 : (j : Int) < (l.length : Int) := by omega
                      have A17 := Response_any wr l (.slice (some ⟨b, o, none⟩) l.length c) (j : Int) 0 (by omega) (HV.out.below (below_seq (below_seq H5.out.1 GY.out.1) HBL.out))
                      have er : responseF l (j : Int) 0 = if respR l j 0 = 0 then (0, (13, (j : Int))) else (respR l j 0, (0, 0)) := by
                        unfold responseF respF
                        rw [if_neg (by omega), if_neg (by omega), Int.toNat_natCast]
                      rw [er] at A17
                      generalize respR l j 0 = rr at *
                      generalize (Tk l j).d = dd at *
                      clear er hfst hrow2 he1
                      by_cases hr0 : rr = 0
                      · rw [if_pos hr0] at A17
                        have hng := he3 hr0
                        clear he2 he3
                        by_cases h0e : 0 ≤ ev
                        · have g1 : decide (0 ≤ ev) = true := by simp [h0e]
                          have g2 : decide (ev ≤ dd) = false := by simp; omega
                          dsimp only at A17
                          go_wp2_with (go_at_call 17; refine A17.mono ?_; rintro r w10 ⟨rfl, hb10⟩; obtain ⟨q0, q1, p1, ce, td⟩ := HFA.out w10 (below_seq HBL.out hb10); have HB10 : Hid (Below Y.heap.size Y w10) := below_seq HBL.out hb10; have l1 : b2 < w10.heap.size := World.block_lt_of_cell? _ _ q0; have l2 : PB < w10.heap.size := World.block_lt_of_cell? _ _ p1; have l3 : eb < w10.heap.size := World.block_lt_of_cell? _ _ ce; have l4 : b < w10.heap.size := World.block_lt_of_cell? _ _ td; clear hb10 A17)
                          refine wp_region_noPanic ?_
                          refine wp_region_held_drew (S := fun w' => w'.cell? ⟨w10.heap.size, 0, none⟩ = some (.int .i64 13) ∧ w'.cell? ⟨PB, 1, none⟩ = some (.slice (some ⟨eb, 0, none⟩) cs.length cs.length) ∧ w'.cell? ⟨eb, j, none⟩ = some (.int .i64 ev) ∧ w'.cell? ⟨b, o + j * 7 + 3, none⟩ = some (.int .i64 dd)) (by kernel_rfl) (by refine ⟨?_, ?_, ?_, ?_⟩ <;> go_simp) (fun hHeld => ?_)
                          refine take_at (i := 0) (n := 158) (v := ?_) rfl rfl (by kernel_rfl) (by kernel_rfl) (by kernel_rfl) (fun _ _ _ h => h) (Or.inl ⟨by rfl, ?_⟩) (by assumption) ?_
                          rotate_left 1
                          · intro wz hSw
                            obtain ⟨k0, k1, k2, k3⟩ := hSw
                            first | (go_simp; done) | (go_simp; with_reducible rfl)
                          simp only [List.set_cons_zero, List.set_cons_succ]
                          refine take_at (i := 1) (n := 159) (v := ?_) rfl rfl (by kernel_rfl) (by kernel_rfl) (by kernel_rfl) (fun _ _ _ h => h) (Or.inl ⟨by rfl, ?_⟩) (by assumption) ?_
                          rotate_left 1
                          · intro wz hSw
                            obtain ⟨k0, k1, k2, k3⟩ := hSw
                            first | (go_simp; done) | (go_simp; with_reducible rfl)
                          simp only [List.set_cons_zero, List.set_cons_succ]
                          refine take_at (i := 2) (n := 160) (v := ?_) rfl rfl (by kernel_rfl) (by kernel_rfl) (by kernel_rfl) (fun _ _ _ h => h) (Or.inl ⟨by rfl, ?_⟩) (by assumption) ?_
                          rotate_left 1
                          · intro wz hSw
                            obtain ⟨k0, k1, k2, k3⟩ := hSw
                            first | (go_simp; done) | (go_simp; with_reducible rfl)
                          simp only [List.set_cons_zero, List.set_cons_succ]
                          refine take_at (i := 3) (n := 161) (v := ?_) rfl rfl (by kernel_rfl) (by kernel_rfl) (by kernel_rfl) (fun _ _ _ h => h) (Or.inl ⟨by rfl, ?_⟩) (by assumption) ?_
                          rotate_left 1
                          · intro wz hSw
                            obtain ⟨k0, k1, k2, k3⟩ := hSw
                            first | (go_simp; done) | (go_simp; with_reducible rfl)
                          simp only [List.set_cons_zero, List.set_cons_succ]
                          refine take_at (i := 4) (n := 162) (v := undef) rfl rfl (by kernel_rfl) (by kernel_rfl) (by kernel_rfl) (fun _ _ _ h => h) (Or.inr ⟨by rfl, rfl⟩) (by assumption) ?_
                          simp only [List.set_cons_zero, List.set_cons_succ]
                          refine take_at (i := 5) (n := 163) (v := undef) rfl rfl (by kernel_rfl) (by kernel_rfl) (by kernel_rfl) (fun _ _ _ h => h) (Or.inr ⟨by rfl, rfl⟩) (by assumption) ?_
                          simp only [List.set_cons_zero, List.set_cons_succ]
                          refine take_at (i := 6) (n := 164) (v := undef) rfl rfl (by kernel_rfl) (by kernel_rfl) (by kernel_rfl) (fun _ _ _ h => h) (Or.inr ⟨by rfl, rfl⟩) (by assumption) ?_
                          simp only [List.set_cons_zero, List.set_cons_succ]
                          refine take_at (i := 7) (n := 165) (v := undef) rfl rfl (by kernel_rfl) (by kernel_rfl) (by kernel_rfl) (fun _ _ _ h => h) (Or.inr ⟨by rfl, rfl⟩) (by assumption) ?_
                          simp only [List.set_cons_zero, List.set_cons_succ]
                          refine take_at (i := 8) (n := 166) (v := undef) rfl rfl (by kernel_rfl) (by kernel_rfl) (by kernel_rfl) (fun _ _ _ h => h) (Or.inr ⟨by rfl, rfl⟩) (by assumption) ?_
                          simp only [List.set_cons_zero, List.set_cons_succ]
                          refine take_at (i := 9) (n := 167) (v := undef) rfl rfl (by kernel_rfl) (by kernel_rfl) (by kernel_rfl) (fun _ _ _ h => h) (Or.inr ⟨by rfl, rfl⟩) (by assumption) ?_
                          simp only [List.set_cons_zero, List.set_cons_succ]
                          refine take_at (i := 10) (n := 168) (v := undef) rfl rfl (by kernel_rfl) (by kernel_rfl) (by kernel_rfl) (fun _ _ _ h => h) (Or.inr ⟨by rfl, rfl⟩) (by assumption) ?_
                          simp only [List.set_cons_zero, List.set_cons_succ]
                          refine take_at (i := 11) (n := 169) (v := ?_) rfl rfl (by kernel_rfl) (by kernel_rfl) (by kernel_rfl) (fun _ _ _ h => h) (Or.inl ⟨by rfl, ?_⟩) (by assumption) ?_
                          rotate_left 1
                          · intro wz hSw
                            obtain ⟨k0, k1, k2, k3⟩ := hSw
                            first | (go_simp; done) | (go_simp; with_reducible rfl)
                          simp only [List.set_cons_zero, List.set_cons_succ]
                          refine take_at (i := 12) (n := 170) (v := ?_) rfl rfl (by kernel_rfl) (by kernel_rfl) (by kernel_rfl) (fun _ _ _ h => h) (Or.inl ⟨by rfl, ?_⟩) (by assumption) ?_
                          rotate_left 1
                          · intro wz hSw
                            obtain ⟨k0, k1, k2, k3⟩ := hSw
                            first | (go_simp; done) | (go_simp; with_reducible rfl)
                          simp only [List.set_cons_zero, List.set_cons_succ]
                          refine take_at (i := 13) (n := 171) (v := ?_) rfl rfl (by kernel_rfl) (by kernel_rfl) (by kernel_rfl) (fun _ _ _ h => h) (Or.inl ⟨by rfl, ?_⟩) (by assumption) ?_
                          rotate_left 1
                          · intro wz hSw
                            obtain ⟨k0, k1, k2, k3⟩ := hSw
                            first | (go_simp; done) | (go_simp; with_reducible rfl)
                          simp only [List.set_cons_zero, List.set_cons_succ]
                          refine take_at (i := 14) (n := 172) (v := ?_) rfl rfl (by kernel_rfl) (by kernel_rfl) (by kernel_rfl) (fun _ _ _ h => h) (Or.inl ⟨by rfl, ?_⟩) (by assumption) ?_
                          rotate_left 1
                          · intro wz hSw
                            obtain ⟨k0, k1, k2, k3⟩ := hSw
                            first | (go_simp; done) | (go_simp; with_reducible rfl)
                          simp only [List.set_cons_zero, List.set_cons_succ]
                          refine take_at (i := 15) (n := 173) (v := ?_) rfl rfl (by kernel_rfl) (by kernel_rfl) (by kernel_rfl) (fun _ _ _ h => h) (Or.inl ⟨by rfl, ?_⟩) (by assumption) ?_
                          rotate_left 1
                          · intro wz hSw
                            obtain ⟨k0, k1, k2, k3⟩ := hSw
                            first | (go_simp; done) | (go_simp; with_reducible rfl)
                          simp only [List.set_cons_zero, List.set_cons_succ]
                          refine take_at (i := 16) (n := 174) (v := ?_) rfl rfl (by kernel_rfl) (by kernel_rfl) (by kernel_rfl) (fun _ _ _ h => h) (Or.inl ⟨by rfl, ?_⟩) (by assumption) ?_
                          rotate_left 1
                          · intro wz hSw
                            obtain ⟨k0, k1, k2, k3⟩ := hSw
                            first | (go_simp; done) | (go_simp; with_reducible rfl)
                          simp only [List.set_cons_zero, List.set_cons_succ]
                          refine take_at (i := 17) (n := 175) (v := ?_) rfl rfl (by kernel_rfl) (by kernel_rfl) (by kernel_rfl) (fun _ _ _ h => h) (Or.inl ⟨by rfl, ?_⟩) (by assumption) ?_
                          rotate_left 1
                          · intro wz hSw
                            obtain ⟨k0, k1, k2, k3⟩ := hSw
                            first | (go_simp; done) | (go_simp; with_reducible rfl)
                          simp only [List.set_cons_zero, List.set_cons_succ]
                          refine take_at (i := 18) (n := 176) (v := ?_) rfl rfl (by kernel_rfl) (by kernel_rfl) (by kernel_rfl) (fun _ _ _ h => h) (Or.inl ⟨by rfl, ?_⟩) (by assumption) ?_
                          rotate_left 1
                          · intro wz hSw
                            obtain ⟨k0, k1, k2, k3⟩ := hSw
                            first | (go_simp; done) | (go_simp; with_reducible rfl)
                          simp only [List.set_cons_zero, List.set_cons_succ]
                          refine take_at (i := 19) (n := 177) (v := ?_) rfl rfl (by kernel_rfl) (by kernel_rfl) (by kernel_rfl) (fun _ _ _ h => h) (Or.inl ⟨by rfl, ?_⟩) (by assumption) ?_
                          rotate_left 1
                          · intro wz hSw
                            obtain ⟨k0, k1, k2, k3⟩ := hSw
                            first | (go_simp; done) | (go_simp; with_reducible rfl)
                          simp only [List.set_cons_zero, List.set_cons_succ]
                          refine take_at (i := 20) (n := 178) (v := ?_) rfl rfl (by kernel_rfl) (by kernel_rfl) (by kernel_rfl) (fun _ _ _ h => h) (Or.inl ⟨by rfl, ?_⟩) (by assumption) ?_
                          rotate_left 1
                          · intro wz hSw
                            obtain ⟨k0, k1, k2, k3⟩ := hSw
                            first | (go_simp; done) | (go_simp; with_reducible rfl)
                          simp only [List.set_cons_zero, List.set_cons_succ]
                          refine take_at (i := 21) (n := 179) (v := ?_) rfl rfl (by kernel_rfl) (by kernel_rfl) (by kernel_rfl) (fun _ _ _ h => h) (Or.inl ⟨by rfl, ?_⟩) (by assumption) ?_
                          rotate_left 1
                          · intro wz hSw
                            obtain ⟨k0, k1, k2, k3⟩ := hSw
                            first | (go_simp; done) | (go_simp; with_reducible rfl)
                          simp only [List.set_cons_zero, List.set_cons_succ]
                          refine take_at (i := 22) (n := 180) (v := ?_) rfl rfl (by kernel_rfl) (by kernel_rfl) (by kernel_rfl) (fun _ _ _ h => h) (Or.inl ⟨by rfl, ?_⟩) (by assumption) ?_
                          rotate_left 1
                          · intro wz hSw
                            obtain ⟨k0, k1, k2, k3⟩ := hSw
                            first | (go_simp; done) | (go_simp; with_reducible rfl)
                          simp only [List.set_cons_zero, List.set_cons_succ]
                          refine take_at (i := 23) (n := 181) (v := ?_) rfl rfl (by kernel_rfl) (by kernel_rfl) (by kernel_rfl) (fun _ _ _ h => h) (Or.inl ⟨by rfl, ?_⟩) (by assumption) ?_
                          rotate_left 1
                          · intro wz hSw
                            obtain ⟨k0, k1, k2, k3⟩ := hSw
                            first | (go_simp; done) | (go_simp; with_reducible rfl)
                          simp only [List.set_cons_zero, List.set_cons_succ]
                          refine take_at (i := 24) (n := 182) (v := ?_) rfl rfl (by kernel_rfl) (by kernel_rfl) (by kernel_rfl) (fun _ _ _ h => h) (Or.inl ⟨by rfl, ?_⟩) (by assumption) ?_
                          rotate_left 1
                          · intro wz hSw
                            obtain ⟨k0, k1, k2, k3⟩ := hSw
                            first | (go_simp; done) | (go_simp; with_reducible rfl)
                          simp only [List.set_cons_zero, List.set_cons_succ]
                          refine take_at (i := 25) (n := 183) (v := ?_) rfl rfl (by kernel_rfl) (by kernel_rfl) (by kernel_rfl) (fun _ _ _ h => h) (Or.inl ⟨by rfl, ?_⟩) (by assumption) ?_
                          rotate_left 1
                          · intro wz hSw
                            obtain ⟨k0, k1, k2, k3⟩ := hSw
                            first | (go_simp; done) | (go_simp; with_reducible rfl)
                          simp only [List.set_cons_zero, List.set_cons_succ]
                          refine take_at (i := 26) (n := 184) (v := ?_) rfl rfl (by kernel_rfl) (by kernel_rfl) (by kernel_rfl) (fun _ _ _ h => h) (Or.inl ⟨by rfl, ?_⟩) (by assumption) ?_
                          rotate_left 1
                          · intro wz hSw
                            obtain ⟨k0, k1, k2, k3⟩ := hSw
                            first | (go_simp; done) | (go_simp; with_reducible rfl)
                          simp only [List.set_cons_zero, List.set_cons_succ]
                          refine take_at (i := 27) (n := 185) (v := ?_) rfl rfl (by kernel_rfl) (by kernel_rfl) (by kernel_rfl) (fun _ _ _ h => h) (Or.inl ⟨by rfl, ?_⟩) (by assumption) ?_
                          rotate_left 1
                          · intro wz hSw
                            obtain ⟨k0, k1, k2, k3⟩ := hSw
                            first | (go_simp; done) | (go_simp; with_reducible rfl)
                          simp only [List.set_cons_zero, List.set_cons_succ]
                          refine take_at (i := 28) (n := 186) (v := ?_) rfl rfl (by kernel_rfl) (by kernel_rfl) (by kernel_rfl) (fun _ _ _ h => h) (Or.inl ⟨by rfl, ?_⟩) (by assumption) ?_
                          rotate_left 1
                          · intro wz hSw
                            obtain ⟨k0, k1, k2, k3⟩ := hSw
                            first | (go_simp; done) | (go_simp; with_reducible rfl)
                          simp only [List.set_cons_zero, List.set_cons_succ]
                          refine take_at (i := 29) (n := 187) (v := ?_) rfl rfl (by kernel_rfl) (by kernel_rfl) (by kernel_rfl) (fun _ _ _ h => h) (Or.inl ⟨by rfl, ?_⟩) (by assumption) ?_
                          rotate_left 1
                          · intro wz hSw
                            obtain ⟨k0, k1, k2, k3⟩ := hSw
                            first | (go_simp; done) | (go_simp; with_reducible rfl)
                          simp only [List.set_cons_zero, List.set_cons_succ]
                          refine take_at (i := 30) (n := 188) (v := ?_) rfl rfl (by kernel_rfl) (by kernel_rfl) (by kernel_rfl) (fun _ _ _ h => h) (Or.inl ⟨by rfl, ?_⟩) (by assumption) ?_
                          rotate_left 1
                          · intro wz hSw
                            obtain ⟨k0, k1, k2, k3⟩ := hSw
                            first | (go_simp; done) | (go_simp; with_reducible rfl)
                          simp only [List.set_cons_zero, List.set_cons_succ]
                          refine take_at (i := 31) (n := 189) (v := ?_) rfl rfl (by kernel_rfl) (by kernel_rfl) (by kernel_rfl) (fun _ _ _ h => h) (Or.inl ⟨by rfl, ?_⟩) (by assumption) ?_
                          rotate_left 1
                          · intro wz hSw
                            obtain ⟨k0, k1, k2, k3⟩ := hSw
                            first | (go_simp; done) | (go_simp; with_reducible rfl)
                          simp only [List.set_cons_zero, List.set_cons_succ]
                          refine take_at (i := 32) (n := 190) (v := ?_) rfl rfl (by kernel_rfl) (by kernel_rfl) (by kernel_rfl) (fun _ _ _ h => h) (Or.inl ⟨by rfl, ?_⟩) (by assumption) ?_
                          rotate_left 1
                          · intro wz hSw
                            obtain ⟨k0, k1, k2, k3⟩ := hSw
                            first | (go_simp; done) | (go_simp; with_reducible rfl)
                          simp only [List.set_cons_zero, List.set_cons_succ]
                          refine take_at (i := 33) (n := 191) (v := ?_) rfl rfl (by kernel_rfl) (by kernel_rfl) (by kernel_rfl) (fun _ _ _ h => h) (Or.inl ⟨by rfl, ?_⟩) (by assumption) ?_
                          rotate_left 1
                          · intro wz hSw
                            obtain ⟨k0, k1, k2, k3⟩ := hSw
                            first | (go_simp; done) | (go_simp; with_reducible rfl)
                          simp only [List.set_cons_zero, List.set_cons_succ]
                          refine take_at (i := 34) (n := 192) (v := ?_) rfl rfl (by kernel_rfl) (by kernel_rfl) (by kernel_rfl) (fun _ _ _ h => h) (Or.inl ⟨by rfl, ?_⟩) (by assumption) ?_
                          rotate_left 1
                          · intro wz hSw
                            obtain ⟨k0, k1, k2, k3⟩ := hSw
                            first | (go_simp; done) | (go_simp; with_reducible rfl)
                          simp only [List.set_cons_zero, List.set_cons_succ]
                          refine take_at (i := 35) (n := 193) (v := ?_) rfl rfl (by kernel_rfl) (by kernel_rfl) (by kernel_rfl) (fun _ _ _ h => h) (Or.inl ⟨by rfl, ?_⟩) (by assumption) ?_
                          rotate_left 1
                          · intro wz hSw
                            obtain ⟨k0, k1, k2, k3⟩ := hSw
                            first | (go_simp; done) | (go_simp; with_reducible rfl)
                          simp only [List.set_cons_zero, List.set_cons_succ]
                          refine take_at (i := 36) (n := 194) (v := ?_) rfl rfl (by kernel_rfl) (by kernel_rfl) (by kernel_rfl) (fun _ _ _ h => h) (Or.inl ⟨by rfl, ?_⟩) (by assumption) ?_
                          rotate_left 1
                          · intro wz hSw
                            obtain ⟨k0, k1, k2, k3⟩ := hSw
                            first | (go_simp; done) | (go_simp; with_reducible rfl)
                          simp only [List.set_cons_zero, List.set_cons_succ]
                          refine take_at (i := 37) (n := 195) (v := ?_) rfl rfl (by kernel_rfl) (by kernel_rfl) (by kernel_rfl) (fun _ _ _ h => h) (Or.inl ⟨by rfl, ?_⟩) (by assumption) ?_
                          rotate_left 1
                          · intro wz hSw
                            obtain ⟨k0, k1, k2, k3⟩ := hSw
                            first | (go_simp; done) | (go_simp; with_reducible rfl)
                          simp only [List.set_cons_zero, List.set_cons_succ]
                          refine wpAnyH_done (by kernel_rfl) ?_ _
                          refine NoPanic.normal ?_
                          clear hHeld
                          go_wp2_with fail
                          first
                            | exact ⟨⟨j + 1, by omega, by simp, (below_seq HB10.out (below_new _ _)).drew⟩, by simp [intOf]; omega⟩
                            | fail
                        · have g1 : decide (0 ≤ ev) = false := by simp; omega
                          dsimp only at A17
                          go_wp2_with (go_at_call 17; refine A17.mono ?_; rintro r w10 ⟨rfl, hb10⟩; obtain ⟨q0, q1, p1, ce, td⟩ := HFA.out w10 (below_seq HBL.out hb10); have HB10 : Hid (Below Y.heap.size Y w10) := below_seq HBL.out hb10; have l1 : b2 < w10.heap.size := World.block_lt_of_cell? _ _ q0; have l2 : PB < w10.heap.size := World.block_lt_of_cell? _ _ p1; have l3 : eb < w10.heap.size := World.block_lt_of_cell? _ _ ce; have l4 : b < w10.heap.size := World.block_lt_of_cell? _ _ td; clear hb10 A17)
                          refine wp_region_noPanic ?_
                          refine wp_region_held_drew (S := fun w' => w'.cell? ⟨w10.heap.size, 0, none⟩ = some (.int .i64 13) ∧ w'.cell? ⟨PB, 1, none⟩ = some (.slice (some ⟨eb, 0, none⟩) cs.length cs.length) ∧ w'.cell? ⟨eb, j, none⟩ = some (.int .i64 ev) ∧ w'.cell? ⟨b, o + j * 7 + 3, none⟩ = some (.int .i64 dd)) (by kernel_rfl) (by refine ⟨?_, ?_, ?_, ?_⟩ <;> go_simp) (fun hHeld => ?_)
                          refine take_at (i := 0) (n := 158) (v := ?_) rfl rfl (by kernel_rfl) (by kernel_rfl) (by kernel_rfl) (fun _ _ _ h => h) (Or.inl ⟨by rfl, ?_⟩) (by assumption) ?_
                          rotate_left 1
                          · intro wz hSw
                            obtain ⟨k0, k1, k2, k3⟩ := hSw
                            first | (go_simp; done) | (go_simp; with_reducible rfl)
                          simp only [List.set_cons_zero, List.set_cons_succ]
                          refine take_at (i := 1) (n := 159) (v := ?_) rfl rfl (by kernel_rfl) (by kernel_rfl) (by kernel_rfl) (fun _ _ _ h => h) (Or.inl ⟨by rfl, ?_⟩) (by assumption) ?_
                          rotate_left 1
                          · intro wz hSw
                            obtain ⟨k0, k1, k2, k3⟩ := hSw
                            first | (go_simp; done) | (go_simp; with_reducible rfl)
                          simp only [List.set_cons_zero, List.set_cons_succ]
                          refine take_at (i := 2) (n := 160) (v := ?_) rfl rfl (by kernel_rfl) (by kernel_rfl) (by kernel_rfl) (fun _ _ _ h => h) (Or.inl ⟨by rfl, ?_⟩) (by assumption) ?_
                          rotate_left 1
                          · intro wz hSw
                            obtain ⟨k0, k1, k2, k3⟩ := hSw
                            first | (go_simp; done) | (go_simp; with_reducible rfl)
                          simp only [List.set_cons_zero, List.set_cons_succ]
                          refine take_at (i := 3) (n := 161) (v := ?_) rfl rfl (by kernel_rfl) (by kernel_rfl) (by kernel_rfl) (fun _ _ _ h => h) (Or.inl ⟨by rfl, ?_⟩) (by assumption) ?_
                          rotate_left 1
                          · intro wz hSw
                            obtain ⟨k0, k1, k2, k3⟩ := hSw
                            first | (go_simp; done) | (go_simp; with_reducible rfl)
                          simp only [List.set_cons_zero, List.set_cons_succ]
                          refine take_at (i := 4) (n := 162) (v := undef) rfl rfl (by kernel_rfl) (by kernel_rfl) (by kernel_rfl) (fun _ _ _ h => h) (Or.inr ⟨by rfl, rfl⟩) (by assumption) ?_
                          simp only [List.set_cons_zero, List.set_cons_succ]
                          refine take_at (i := 5) (n := 163) (v := undef) rfl rfl (by kernel_rfl) (by kernel_rfl) (by kernel_rfl) (fun _ _ _ h => h) (Or.inr ⟨by rfl, rfl⟩) (by assumption) ?_
                          simp only [List.set_cons_zero, List.set_cons_succ]
                          refine take_at (i := 6) (n := 164) (v := undef) rfl rfl (by kernel_rfl) (by kernel_rfl) (by kernel_rfl) (fun _ _ _ h => h) (Or.inr ⟨by rfl, rfl⟩) (by assumption) ?_
                          simp only [List.set_cons_zero, List.set_cons_succ]
                          refine take_at (i := 7) (n := 165) (v := undef) rfl rfl (by kernel_rfl) (by kernel_rfl) (by kernel_rfl) (fun _ _ _ h => h) (Or.inr ⟨by rfl, rfl⟩) (by assumption) ?_
                          simp only [List.set_cons_zero, List.set_cons_succ]
                          refine take_at (i := 8) (n := 166) (v := undef) rfl rfl (by kernel_rfl) (by kernel_rfl) (by kernel_rfl) (fun _ _ _ h => h) (Or.inr ⟨by rfl, rfl⟩) (by assumption) ?_
                          simp only [List.set_cons_zero, List.set_cons_succ]
                          refine take_at (i := 9) (n := 167) (v := undef) rfl rfl (by kernel_rfl) (by kernel_rfl) (by kernel_rfl) (fun _ _ _ h => h) (Or.inr ⟨by rfl, rfl⟩) (by assumption) ?_
                          simp only [List.set_cons_zero, List.set_cons_succ]
                          refine take_at (i := 10) (n := 168) (v := undef) rfl rfl (by kernel_rfl) (by kernel_rfl) (by kernel_rfl) (fun _ _ _ h => h) (Or.inr ⟨by rfl, rfl⟩) (by assumption) ?_
                          simp only [List.set_cons_zero, List.set_cons_succ]
                          refine take_at (i := 11) (n := 169) (v := ?_) rfl rfl (by kernel_rfl) (by kernel_rfl) (by kernel_rfl) (fun _ _ _ h => h) (Or.inl ⟨by rfl, ?_⟩) (by assumption) ?_
                          rotate_left 1
                          · intro wz hSw
                            obtain ⟨k0, k1, k2, k3⟩ := hSw
                            first | (go_simp; done) | (go_simp; with_reducible rfl)
                          simp only [List.set_cons_zero, List.set_cons_succ]
                          refine take_at (i := 12) (n := 170) (v := ?_) rfl rfl (by kernel_rfl) (by kernel_rfl) (by kernel_rfl) (fun _ _ _ h => h) (Or.inl ⟨by rfl, ?_⟩) (by assumption) ?_
                          rotate_left 1
                          · intro wz hSw
                            obtain ⟨k0, k1, k2, k3⟩ := hSw
                            first | (go_simp; done) | (go_simp; with_reducible rfl)
                          simp only [List.set_cons_zero, List.set_cons_succ]
                          refine take_at (i := 13) (n := 171) (v := ?_) rfl rfl (by kernel_rfl) (by kernel_rfl) (by kernel_rfl) (fun _ _ _ h => h) (Or.inl ⟨by rfl, ?_⟩) (by assumption) ?_
                          rotate_left 1
                          · intro wz hSw
                            obtain ⟨k0, k1, k2, k3⟩ := hSw
                            first | (go_simp; done) | (go_simp; with_reducible rfl)
                          simp only [List.set_cons_zero, List.set_cons_succ]
                          refine take_at (i := 14) (n := 172) (v := ?_) rfl rfl (by kernel_rfl) (by kernel_rfl) (by kernel_rfl) (fun _ _ _ h => h) (Or.inl ⟨by rfl, ?_⟩) (by assumption) ?_
                          rotate_left 1
                          · intro wz hSw
                            obtain ⟨k0, k1, k2, k3⟩ := hSw
                            first | (go_simp; done) | (go_simp; with_reducible rfl)
                          simp only [List.set_cons_zero, List.set_cons_succ]
                          refine take_at (i := 15) (n := 173) (v := ?_) rfl rfl (by kernel_rfl) (by kernel_rfl) (by kernel_rfl) (fun _ _ _ h => h) (Or.inl ⟨by rfl, ?_⟩) (by assumption) ?_
                          rotate_left 1
                          · intro wz hSw
                            obtain ⟨k0, k1, k2, k3⟩ := hSw
                            first | (go_simp; done) | (go_simp; with_reducible rfl)
                          simp only [List.set_cons_zero, List.set_cons_succ]
                          refine take_at (i := 16) (n := 174) (v := ?_) rfl rfl (by kernel_rfl) (by kernel_rfl) (by kernel_rfl) (fun _ _ _ h => h) (Or.inl ⟨by rfl, ?_⟩) (by assumption) ?_
                          rotate_left 1
                          · intro wz hSw
                            obtain ⟨k0, k1, k2, k3⟩ := hSw
                            first | (go_simp; done) | (go_simp; with_reducible rfl)
                          simp only [List.set_cons_zero, List.set_cons_succ]
                          refine take_at (i := 17) (n := 175) (v := ?_) rfl rfl (by kernel_rfl) (by kernel_rfl) (by kernel_rfl) (fun _ _ _ h => h) (Or.inl ⟨by rfl, ?_⟩) (by assumption) ?_
                          rotate_left 1
                          · intro wz hSw
                            obtain ⟨k0, k1, k2, k3⟩ := hSw
                            first | (go_simp; done) | (go_simp; with_reducible rfl)
                          simp only [List.set_cons_zero, List.set_cons_succ]
                          refine take_at (i := 18) (n := 176) (v := ?_) rfl rfl (by kernel_rfl) (by kernel_rfl) (by kernel_rfl) (fun _ _ _ h => h) (Or.inl ⟨by rfl, ?_⟩) (by assumption) ?_
                          rotate_left 1
                          · intro wz hSw
                            obtain ⟨k0, k1, k2, k3⟩ := hSw
                            first | (go_simp; done) | (go_simp; with_reducible rfl)
                          simp only [List.set_cons_zero, List.set_cons_succ]
                          refine take_at (i := 19) (n := 177) (v := ?_) rfl rfl (by kernel_rfl) (by kernel_rfl) (by kernel_rfl) (fun _ _ _ h => h) (Or.inl ⟨by rfl, ?_⟩) (by assumption) ?_
                          rotate_left 1
                          · intro wz hSw
                            obtain ⟨k0, k1, k2, k3⟩ := hSw
                            first | (go_simp; done) | (go_simp; with_reducible rfl)
                          simp only [List.set_cons_zero, List.set_cons_succ]
                          refine take_at (i := 20) (n := 178) (v := ?_) rfl rfl (by kernel_rfl) (by kernel_rfl) (by kernel_rfl) (fun _ _ _ h => h) (Or.inl ⟨by rfl, ?_⟩) (by assumption) ?_
                          rotate_left 1
                          · intro wz hSw
                            obtain ⟨k0, k1, k2, k3⟩ := hSw
                            first | (go_simp; done) | (go_simp; with_reducible rfl)
                          simp only [List.set_cons_zero, List.set_cons_succ]
                          refine take_at (i := 21) (n := 179) (v := ?_) rfl rfl (by kernel_rfl) (by kernel_rfl) (by kernel_rfl) (fun _ _ _ h => h) (Or.inl ⟨by rfl, ?_⟩) (by assumption) ?_
                          rotate_left 1
                          · intro wz hSw
                            obtain ⟨k0, k1, k2, k3⟩ := hSw
                            first | (go_simp; done) | (go_simp; with_reducible rfl)
                          simp only [List.set_cons_zero, List.set_cons_succ]
                          refine take_at (i := 22) (n := 180) (v := ?_) rfl rfl (by kernel_rfl) (by kernel_rfl) (by kernel_rfl) (fun _ _ _ h => h) (Or.inl ⟨by rfl, ?_⟩) (by assumption) ?_
                          rotate_left 1
                          · intro wz hSw
                            obtain ⟨k0, k1, k2, k3⟩ := hSw
                            first | (go_simp; done) | (go_simp; with_reducible rfl)
                          simp only [List.set_cons_zero, List.set_cons_succ]
                          refine take_at (i := 23) (n := 181) (v := ?_) rfl rfl (by kernel_rfl) (by kernel_rfl) (by kernel_rfl) (fun _ _ _ h => h) (Or.inl ⟨by rfl, ?_⟩) (by assumption) ?_
                          rotate_left 1
                          · intro wz hSw
                            obtain ⟨k0, k1, k2, k3⟩ := hSw
                            first | (go_simp; done) | (go_simp; with_reducible rfl)
                          simp only [List.set_cons_zero, List.set_cons_succ]
                          refine take_at (i := 24) (n := 182) (v := ?_) rfl rfl (by kernel_rfl) (by kernel_rfl) (by kernel_rfl) (fun _ _ _ h => h) (Or.inl ⟨by rfl, ?_⟩) (by assumption) ?_
                          rotate_left 1
                          · intro wz hSw
                            obtain ⟨k0, k1, k2, k3⟩ := hSw
                            first | (go_simp; done) | (go_simp; with_reducible rfl)
                          simp only [List.set_cons_zero, List.set_cons_succ]
                          refine take_at (i := 25) (n := 183) (v := undef) rfl rfl (by kernel_rfl) (by kernel_rfl) (by kernel_rfl) (fun _ _ _ h => h) (Or.inr ⟨by rfl, rfl⟩) (by assumption) ?_
                          simp only [List.set_cons_zero, List.set_cons_succ]
                          refine take_at (i := 26) (n := 184) (v := undef) rfl rfl (by kernel_rfl) (by kernel_rfl) (by kernel_rfl) (fun _ _ _ h => h) (Or.inr ⟨by rfl, rfl⟩) (by assumption) ?_
                          simp only [List.set_cons_zero, List.set_cons_succ]
                          refine take_at (i := 27) (n := 185) (v := undef) rfl rfl (by kernel_rfl) (by kernel_rfl) (by kernel_rfl) (fun _ _ _ h => h) (Or.inr ⟨by rfl, rfl⟩) (by assumption) ?_
                          simp only [List.set_cons_zero, List.set_cons_succ]
                          refine take_at (i := 28) (n := 186) (v := undef) rfl rfl (by kernel_rfl) (by kernel_rfl) (by kernel_rfl) (fun _ _ _ h => h) (Or.inr ⟨by rfl, rfl⟩) (by assumption) ?_
                          simp only [List.set_cons_zero, List.set_cons_succ]
                          refine take_at (i := 29) (n := 187) (v := undef) rfl rfl (by kernel_rfl) (by kernel_rfl) (by kernel_rfl) (fun _ _ _ h => h) (Or.inr ⟨by rfl, rfl⟩) (by assumption) ?_
                          simp only [List.set_cons_zero, List.set_cons_succ]
                          refine take_at (i := 30) (n := 188) (v := undef) rfl rfl (by kernel_rfl) (by kernel_rfl) (by kernel_rfl) (fun _ _ _ h => h) (Or.inr ⟨by rfl, rfl⟩) (by assumption) ?_
                          simp only [List.set_cons_zero, List.set_cons_succ]
                          refine take_at (i := 31) (n := 189) (v := undef) rfl rfl (by kernel_rfl) (by kernel_rfl) (by kernel_rfl) (fun _ _ _ h => h) (Or.inr ⟨by rfl, rfl⟩) (by assumption) ?_
                          simp only [List.set_cons_zero, List.set_cons_succ]
                          refine take_at (i := 32) (n := 190) (v := undef) rfl rfl (by kernel_rfl) (by kernel_rfl) (by kernel_rfl) (fun _ _ _ h => h) (Or.inr ⟨by rfl, rfl⟩) (by assumption) ?_
                          simp only [List.set_cons_zero, List.set_cons_succ]
                          refine take_at (i := 33) (n := 191) (v := undef) rfl rfl (by kernel_rfl) (by kernel_rfl) (by kernel_rfl) (fun _ _ _ h => h) (Or.inr ⟨by rfl, rfl⟩) (by assumption) ?_
                          simp only [List.set_cons_zero, List.set_cons_succ]
                          refine take_at (i := 34) (n := 192) (v := undef) rfl rfl (by kernel_rfl) (by kernel_rfl) (by kernel_rfl) (fun _ _ _ h => h) (Or.inr ⟨by rfl, rfl⟩) (by assumption) ?_
                          simp only [List.set_cons_zero, List.set_cons_succ]
                          refine take_at (i := 35) (n := 193) (v := undef) rfl rfl (by kernel_rfl) (by kernel_rfl) (by kernel_rfl) (fun _ _ _ h => h) (Or.inr ⟨by rfl, rfl⟩) (by assumption) ?_
                          simp only [List.set_cons_zero, List.set_cons_succ]
                          refine take_at (i := 36) (n := 194) (v := ?_) rfl rfl (by kernel_rfl) (by kernel_rfl) (by kernel_rfl) (fun _ _ _ h => h) (Or.inl ⟨by rfl, ?_⟩) (by assumption) ?_
                          rotate_left 1
                          · intro wz hSw
                            obtain ⟨k0, k1, k2, k3⟩ := hSw
                            first | (go_simp; done) | (go_simp; with_reducible rfl)
                          simp only [List.set_cons_zero, List.set_cons_succ]
                          refine take_at (i := 37) (n := 195) (v := ?_) rfl rfl (by kernel_rfl) (by kernel_rfl) (by kernel_rfl) (fun _ _ _ h => h) (Or.inl ⟨by rfl, ?_⟩) (by assumption) ?_
                          rotate_left 1
                          · intro wz hSw
                            obtain ⟨k0, k1, k2, k3⟩ := hSw
                            first | (go_simp; done) | (go_simp; with_reducible rfl)
                          simp only [List.set_cons_zero, List.set_cons_succ]
                          refine wpAnyH_done (by kernel_rfl) ?_ _
                          refine NoPanic.normal ?_
                          clear hHeld
                          go_wp2_with fail
                          first
                            | exact ⟨⟨j + 1, by omega, by simp, (below_seq HB10.out (below_new _ _)).drew⟩, by simp [intOf]; omega⟩
                            | fail
                      · rw [if_neg hr0] at A17
                        have hev : ev = rr := he2 hr0
                        subst hev
                        clear he2 he3
                        dsimp only at A17
                        go_wp2_with (go_at_call 17; refine A17.mono ?_; rintro r w10 ⟨rfl, hb10⟩; obtain ⟨q0, q1, p1, ce, td⟩ := HFA.out w10 (below_seq HBL.out hb10); have HB10 : Hid (Below Y.heap.size Y w10) := below_seq HBL.out hb10; have l1 : b2 < w10.heap.size := World.block_lt_of_cell? _ _ q0; have l2 : PB < w10.heap.size := World.block_lt_of_cell? _ _ p1; have l3 : eb < w10.heap.size := World.block_lt_of_cell? _ _ ce; have l4 : b < w10.heap.size := World.block_lt_of_cell? _ _ td; clear hb10 A17)
                        refine wp_region_noPanic ?_
                        refine wp_region_held_drew (S := fun w' => w'.cell? ⟨w10.heap.size, 0, none⟩ = some (.int .i64 0) ∧ w'.cell? ⟨PB, 1, none⟩ = some (.slice (some ⟨eb, 0, none⟩) cs.length cs.length) ∧ w'.cell? ⟨eb, j, none⟩ = some (.int .i64 ev) ∧ w'.cell? ⟨b, o + j * 7 + 3, none⟩ = some (.int .i64 dd)) (by kernel_rfl) (by refine ⟨?_, ?_, ?_, ?_⟩ <;> go_simp) (fun hHeld => ?_)
                        refine take_at (i := 0) (n := 158) (v := ?_) rfl rfl (by kernel_rfl) (by kernel_rfl) (by kernel_rfl) (fun _ _ _ h => h) (Or.inl ⟨by rfl, ?_⟩) (by assumption) ?_
                        rotate_left 1
                        · intro wz hSw
                          obtain ⟨k0, k1, k2, k3⟩ := hSw
                          first | (go_simp; done) | (go_simp; with_reducible rfl)
                        simp only [List.set_cons_zero, List.set_cons_succ]
                        refine take_at (i := 1) (n := 159) (v := ?_) rfl rfl (by kernel_rfl) (by kernel_rfl) (by kernel_rfl) (fun _ _ _ h => h) (Or.inl ⟨by rfl, ?_⟩) (by assumption) ?_
                        rotate_left 1
                        · intro wz hSw
                          obtain ⟨k0, k1, k2, k3⟩ := hSw
                          first | (go_simp; done) | (go_simp; with_reducible rfl)
                        simp only [List.set_cons_zero, List.set_cons_succ]
                        refine take_at (i := 2) (n := 160) (v := ?_) rfl rfl (by kernel_rfl) (by kernel_rfl) (by kernel_rfl) (fun _ _ _ h => h) (Or.inl ⟨by rfl, ?_⟩) (by assumption) ?_
                        rotate_left 1
                        · intro wz hSw
                          obtain ⟨k0, k1, k2, k3⟩ := hSw
                          first | (go_simp; done) | (go_simp; with_reducible rfl)
                        simp only [List.set_cons_zero, List.set_cons_succ]
                        refine take_at (i := 3) (n := 161) (v := ?_) rfl rfl (by kernel_rfl) (by kernel_rfl) (by kernel_rfl) (fun _ _ _ h => h) (Or.inl ⟨by rfl, ?_⟩) (by assumption) ?_
                        rotate_left 1
                        · intro wz hSw
                          obtain ⟨k0, k1, k2, k3⟩ := hSw
                          first | (go_simp; done) | (go_simp; with_reducible rfl)
                        simp only [List.set_cons_zero, List.set_cons_succ]
                        refine take_at (i := 4) (n := 162) (v := ?_) rfl rfl (by kernel_rfl) (by kernel_rfl) (by kernel_rfl) (fun _ _ _ h => h) (Or.inl ⟨by rfl, ?_⟩) (by assumption) ?_
                        rotate_left 1
                        · intro wz hSw
                          obtain ⟨k0, k1, k2, k3⟩ := hSw
                          first | (go_simp; done) | (go_simp; with_reducible rfl)
                        simp only [List.set_cons_zero, List.set_cons_succ]
                        refine take_at (i := 5) (n := 163) (v := ?_) rfl rfl (by kernel_rfl) (by kernel_rfl) (by kernel_rfl) (fun _ _ _ h => h) (Or.inl ⟨by rfl, ?_⟩) (by assumption) ?_
                        rotate_left 1
                        · intro wz hSw
                          obtain ⟨k0, k1, k2, k3⟩ := hSw
                          first | (go_simp; done) | (go_simp; with_reducible rfl)
                        simp only [List.set_cons_zero, List.set_cons_succ]
                        refine take_at (i := 6) (n := 164) (v := ?_) rfl rfl (by kernel_rfl) (by kernel_rfl) (by kernel_rfl) (fun _ _ _ h => h) (Or.inl ⟨by rfl, ?_⟩) (by assumption) ?_
                        rotate_left 1
                        · intro wz hSw
                          obtain ⟨k0, k1, k2, k3⟩ := hSw
                          first | (go_simp; done) | (go_simp; with_reducible rfl)
                        simp only [List.set_cons_zero, List.set_cons_succ]
                        refine take_at (i := 7) (n := 165) (v := ?_) rfl rfl (by kernel_rfl) (by kernel_rfl) (by kernel_rfl) (fun _ _ _ h => h) (Or.inl ⟨by rfl, ?_⟩) (by assumption) ?_
                        rotate_left 1
                        · intro wz hSw
                          obtain ⟨k0, k1, k2, k3⟩ := hSw
                          first | (go_simp; done) | (go_simp; with_reducible rfl)
                        simp only [List.set_cons_zero, List.set_cons_succ]
                        refine take_at (i := 8) (n := 166) (v := ?_) rfl rfl (by kernel_rfl) (by kernel_rfl) (by kernel_rfl) (fun _ _ _ h => h) (Or.inl ⟨by rfl, ?_⟩) (by assumption) ?_
                        rotate_left 1
                        · intro wz hSw
                          obtain ⟨k0, k1, k2, k3⟩ := hSw
                          first | (go_simp; done) | (go_simp; with_reducible rfl)
                        simp only [List.set_cons_zero, List.set_cons_succ]
                        refine take_at (i := 9) (n := 167) (v := ?_) rfl rfl (by kernel_rfl) (by kernel_rfl) (by kernel_rfl) (fun _ _ _ h => h) (Or.inl ⟨by rfl, ?_⟩) (by assumption) ?_
                        rotate_left 1
                        · intro wz hSw
                          obtain ⟨k0, k1, k2, k3⟩ := hSw
                          first | (go_simp; done) | (go_simp; with_reducible rfl)
                        simp only [List.set_cons_zero, List.set_cons_succ]
                        refine take_at (i := 10) (n := 168) (v := ?_) rfl rfl (by kernel_rfl) (by kernel_rfl) (by kernel_rfl) (fun _ _ _ h => h) (Or.inl ⟨by rfl, ?_⟩) (by assumption) ?_
                        rotate_left 1
                        · intro wz hSw
                          obtain ⟨k0, k1, k2, k3⟩ := hSw
                          first | (go_simp; done) | (go_simp; with_reducible rfl)
                        simp only [List.set_cons_zero, List.set_cons_succ]
                        refine take_at (i := 11) (n := 169) (v := ?_) rfl rfl (by kernel_rfl) (by kernel_rfl) (by kernel_rfl) (fun _ _ _ h => h) (Or.inl ⟨by rfl, ?_⟩) (by assumption) ?_
                        rotate_left 1
                        · intro wz hSw
                          obtain ⟨k0, k1, k2, k3⟩ := hSw
                          first | (go_simp; done) | (go_simp; with_reducible rfl)
                        simp only [List.set_cons_zero, List.set_cons_succ]
                        refine take_at (i := 12) (n := 170) (v := ?_) rfl rfl (by kernel_rfl) (by kernel_rfl) (by kernel_rfl) (fun _ _ _ h => h) (Or.inl ⟨by rfl, ?_⟩) (by assumption) ?_
                        rotate_left 1
                        · intro wz hSw
                          obtain ⟨k0, k1, k2, k3⟩ := hSw
                          first | (go_simp; done) | (go_simp; with_reducible rfl)
                        simp only [List.set_cons_zero, List.set_cons_succ]
                        refine take_at (i := 13) (n := 171) (v := ?_) rfl rfl (by kernel_rfl) (by kernel_rfl) (by kernel_rfl) (fun _ _ _ h => h) (Or.inl ⟨by rfl, ?_⟩) (by assumption) ?_
                        rotate_left 1
                        · intro wz hSw
                          obtain ⟨k0, k1, k2, k3⟩ := hSw
                          first | (go_simp; done) | (go_simp; with_reducible rfl)
                        simp only [List.set_cons_zero, List.set_cons_succ]
                        refine take_at (i := 14) (n := 172) (v := ?_) rfl rfl (by kernel_rfl) (by kernel_rfl) (by kernel_rfl) (fun _ _ _ h => h) (Or.inl ⟨by rfl, ?_⟩) (by assumption) ?_
                        rotate_left 1
                        · intro wz hSw
                          obtain ⟨k0, k1, k2, k3⟩ := hSw
                          first | (go_simp; done) | (go_simp; with_reducible rfl)
                        simp only [List.set_cons_zero, List.set_cons_succ]
                        refine take_at (i := 15) (n := 173) (v := ?_) rfl rfl (by kernel_rfl) (by kernel_rfl) (by kernel_rfl) (fun _ _ _ h => h) (Or.inl ⟨by rfl, ?_⟩) (by assumption) ?_
                        rotate_left 1
                        · intro wz hSw
                          obtain ⟨k0, k1, k2, k3⟩ := hSw
                          first | (go_simp; done) | (go_simp; with_reducible rfl)
                        simp only [List.set_cons_zero, List.set_cons_succ]
                        refine take_at (i := 16) (n := 174) (v := ?_) rfl rfl (by kernel_rfl) (by kernel_rfl) (by kernel_rfl) (fun _ _ _ h => h) (Or.inl ⟨by rfl, ?_⟩) (by assumption) ?_
                        rotate_left 1
                        · intro wz hSw
                          obtain ⟨k0, k1, k2, k3⟩ := hSw
                          first | (go_simp; done) | (go_simp; with_reducible rfl)
                        simp only [List.set_cons_zero, List.set_cons_succ]
                        refine take_at (i := 17) (n := 175) (v := undef) rfl rfl (by kernel_rfl) (by kernel_rfl) (by kernel_rfl) (fun _ _ _ h => h) (Or.inr ⟨by rfl, rfl⟩) (by assumption) ?_
                        simp only [List.set_cons_zero, List.set_cons_succ]
                        refine take_at (i := 18) (n := 176) (v := undef) rfl rfl (by kernel_rfl) (by kernel_rfl) (by kernel_rfl) (fun _ _ _ h => h) (Or.inr ⟨by rfl, rfl⟩) (by assumption) ?_
                        simp only [List.set_cons_zero, List.set_cons_succ]
                        refine take_at (i := 19) (n := 177) (v := undef) rfl rfl (by kernel_rfl) (by kernel_rfl) (by kernel_rfl) (fun _ _ _ h => h) (Or.inr ⟨by rfl, rfl⟩) (by assumption) ?_
                        simp only [List.set_cons_zero, List.set_cons_succ]
                        refine take_at (i := 20) (n := 178) (v := undef) rfl rfl (by kernel_rfl) (by kernel_rfl) (by kernel_rfl) (fun _ _ _ h => h) (Or.inr ⟨by rfl, rfl⟩) (by assumption) ?_
                        simp only [List.set_cons_zero, List.set_cons_succ]
                        refine take_at (i := 21) (n := 179) (v := undef) rfl rfl (by kernel_rfl) (by kernel_rfl) (by kernel_rfl) (fun _ _ _ h => h) (Or.inr ⟨by rfl, rfl⟩) (by assumption) ?_
                        simp only [List.set_cons_zero, List.set_cons_succ]
                        refine take_at (i := 22) (n := 180) (v := undef) rfl rfl (by kernel_rfl) (by kernel_rfl) (by kernel_rfl) (fun _ _ _ h => h) (Or.inr ⟨by rfl, rfl⟩) (by assumption) ?_
                        simp only [List.set_cons_zero, List.set_cons_succ]
                        refine take_at (i := 23) (n := 181) (v := ?_) rfl rfl (by kernel_rfl) (by kernel_rfl) (by kernel_rfl) (fun _ _ _ h => h) (Or.inl ⟨by rfl, ?_⟩) (by assumption) ?_
                        rotate_left 1
                        · intro wz hSw
                          obtain ⟨k0, k1, k2, k3⟩ := hSw
                          first | (go_simp; done) | (go_simp; with_reducible rfl)
                        simp only [List.set_cons_zero, List.set_cons_succ]
                        refine take_at (i := 24) (n := 182) (v := ?_) rfl rfl (by kernel_rfl) (by kernel_rfl) (by kernel_rfl) (fun _ _ _ h => h) (Or.inl ⟨by rfl, ?_⟩) (by assumption) ?_
                        rotate_left 1
                        · intro wz hSw
                          obtain ⟨k0, k1, k2, k3⟩ := hSw
                          first | (go_simp; done) | (go_simp; with_reducible rfl)
                        simp only [List.set_cons_zero, List.set_cons_succ]
                        refine take_at (i := 25) (n := 183) (v := undef) rfl rfl (by kernel_rfl) (by kernel_rfl) (by kernel_rfl) (fun _ _ _ h => h) (Or.inr ⟨by rfl, rfl⟩) (by assumption) ?_
                        simp only [List.set_cons_zero, List.set_cons_succ]
                        refine take_at (i := 26) (n := 184) (v := undef) rfl rfl (by kernel_rfl) (by kernel_rfl) (by kernel_rfl) (fun _ _ _ h => h) (Or.inr ⟨by rfl, rfl⟩) (by assumption) ?_
                        simp only [List.set_cons_zero, List.set_cons_succ]
                        refine take_at (i := 27) (n := 185) (v := undef) rfl rfl (by kernel_rfl) (by kernel_rfl) (by kernel_rfl) (fun _ _ _ h => h) (Or.inr ⟨by rfl, rfl⟩) (by assumption) ?_
                        simp only [List.set_cons_zero, List.set_cons_succ]
                        refine take_at (i := 28) (n := 186) (v := undef) rfl rfl (by kernel_rfl) (by kernel_rfl) (by kernel_rfl) (fun _ _ _ h => h) (Or.inr ⟨by rfl, rfl⟩) (by assumption) ?_
                        simp only [List.set_cons_zero, List.set_cons_succ]
                        refine take_at (i := 29) (n := 187) (v := undef) rfl rfl (by kernel_rfl) (by kernel_rfl) (by kernel_rfl) (fun _ _ _ h => h) (Or.inr ⟨by rfl, rfl⟩) (by assumption) ?_
                        simp only [List.set_cons_zero, List.set_cons_succ]
                        refine take_at (i := 30) (n := 188) (v := undef) rfl rfl (by kernel_rfl) (by kernel_rfl) (by kernel_rfl) (fun _ _ _ h => h) (Or.inr ⟨by rfl, rfl⟩) (by assumption) ?_
                        simp only [List.set_cons_zero, List.set_cons_succ]
                        refine take_at (i := 31) (n := 189) (v := undef) rfl rfl (by kernel_rfl) (by kernel_rfl) (by kernel_rfl) (fun _ _ _ h => h) (Or.inr ⟨by rfl, rfl⟩) (by assumption) ?_
                        simp only [List.set_cons_zero, List.set_cons_succ]
                        refine take_at (i := 32) (n := 190) (v := undef) rfl rfl (by kernel_rfl) (by kernel_rfl) (by kernel_rfl) (fun _ _ _ h => h) (Or.inr ⟨by rfl, rfl⟩) (by assumption) ?_
                        simp only [List.set_cons_zero, List.set_cons_succ]
                        refine take_at (i := 33) (n := 191) (v := undef) rfl rfl (by kernel_rfl) (by kernel_rfl) (by kernel_rfl) (fun _ _ _ h => h) (Or.inr ⟨by rfl, rfl⟩) (by assumption) ?_
                        simp only [List.set_cons_zero, List.set_cons_succ]
                        refine take_at (i := 34) (n := 192) (v := undef) rfl rfl (by kernel_rfl) (by kernel_rfl) (by kernel_rfl) (fun _ _ _ h => h) (Or.inr ⟨by rfl, rfl⟩) (by assumption) ?_
                        simp only [List.set_cons_zero, List.set_cons_succ]
                        refine take_at (i := 35) (n := 193) (v := undef) rfl rfl (by kernel_rfl) (by kernel_rfl) (by kernel_rfl) (fun _ _ _ h => h) (Or.inr ⟨by rfl, rfl⟩) (by assumption) ?_
                        simp only [List.set_cons_zero, List.set_cons_succ]
                        refine take_at (i := 36) (n := 194) (v := ?_) rfl rfl (by kernel_rfl) (by kernel_rfl) (by kernel_rfl) (fun _ _ _ h => h) (Or.inl ⟨by rfl, ?_⟩) (by assumption) ?_
                        rotate_left 1
                        · intro wz hSw
                          obtain ⟨k0, k1, k2, k3⟩ := hSw
                          first | (go_simp; done) | (go_simp; with_reducible rfl)
                        simp only [List.set_cons_zero, List.set_cons_succ]
                        refine take_at (i := 37) (n := 195) (v := ?_) rfl rfl (by kernel_rfl) (by kernel_rfl) (by kernel_rfl) (fun _ _ _ h => h) (Or.inl ⟨by rfl, ?_⟩) (by assumption) ?_
                        rotate_left 1
                        · intro wz hSw
                          obtain ⟨k0, k1, k2, k3⟩ := hSw
                          first | (go_simp; done) | (go_simp; with_reducible rfl)
                        simp only [List.set_cons_zero, List.set_cons_succ]
                        refine wpAnyH_done (by kernel_rfl) ?_ _
                        refine NoPanic.normal ?_
                        clear hHeld
                        go_wp2_with fail
                        first
                          | exact ⟨⟨j + 1, by omega, by simp, (below_seq HB10.out (below_new _ _)).drew⟩, by simp [intOf]; omega⟩
                          | fail
                    · have hje2 : j = l.length := by omega
                      subst hje2
                      go_wp2_with fail
                      go_ret
                      exact ⟨rfl, below_seq (below_seq H5.out.1 GY.out.1) HBL.out⟩
          · have hgb : (g1 != 0) = true := by simpa using hg
            have hcn : cs = [] := comesF_bad HEC.out hg
            subst hcn
            go_wp2_with (go_at_call 16; refine A16.mono ?_; rintro r w5 ⟨u5, rfl, ho5, hb5⟩; obtain ⟨a5, c5, rfl⟩ := owns_value ho5; have H5 : Hid (Below w.heap.size w w5) := below_seq HB.out hb5; clear hb5 ho5 A16)
            all_goals
              go_ret
              exact ⟨rfl, below_seq H5.out (below_new _ _)⟩
  · have hzb : ((chkX l).1 != 0) = true := by simpa using hX
    clear hv
    generalize (chkX l).1 = z1 at *
    generalize (chkX l).2 = z2 at *
    have hfd := fun W => field_29 W z1 z2
    go_enter Try.func4, Try.ntmps4
    go_wp2_with (go_at_call 6; refine (responds_any _).mono ?_; rintro r w1 ⟨rfl, hb1⟩; have H1 : Hid (Below w.heap.size w w1) := hb1; clear hb1)
    go_wp2_with (go_at_call 7; refine (S8.runs_any _).mono ?_; rintro r w2 ⟨rfl, hb2⟩; have H2 : Hid (Below w.heap.size w w2) := below_seq H1.out hb2; clear hb2 H1)
    go_wp2_with (go_at_call 15; refine (HC _ H2.out).mono ?_; rintro r w3 ⟨rfl, hb3⟩; have H3 : Hid (Below w.heap.size w w3) := below_seq H2.out hb3; clear hb3 H2 HC)
    first
      | (go_ret
         exact ⟨rfl, H3.out⟩)
      | fail
end Go.Proofs.Ytdligmnboalagaf
