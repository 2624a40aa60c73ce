import Derived.Test.YtgemadoieielcacDoorGRB
namespace Go.Proofs.YtgemadoieielcacDoor
open Go.ChangeShapes Go.WideShapes Go.ChangeAt Go.RowKit

/-- Where an image lies that was read. -/
def ImAt (w' : World) (p : Value) (iv : Value) (rs : List (Nat × Nat)) : Prop := ∃ mb gv, p = .pointer (some ⟨mb, 0, none⟩) ∧ w'.cell? ⟨mb, 0, none⟩ = some iv ∧ w'.cell? ⟨mb, 1, none⟩ = some gv ∧ RegSl w' rs gv

theorem RS.im {w wr : World} {mb : Nat} {iv : Value} {l : List In} {os : List Nat} {ov : Value} {rs : List (Nat × Nat)} {gv : Value} (h : RS w wr mb iv l os ov rs gv) {W : World} (hb : ∀ k, k ≠ w.heap.size + 1 → k < wr.heap.size → W.heap[k]? = wr.heap[k]?) : W.cell? ⟨mb, 0, none⟩ = some iv ∧ W.cell? ⟨mb, 1, none⟩ = some gv ∧ RegSl W rs gv := by
  have hm := (hb mb (by have := h.ord; omega) (by have := h.bas; omega)).trans h.img
  obtain ⟨c, -, -⟩ := cells_of (l := [_, _]) hm
  refine ⟨c 0 _ rfl, c 1 _ rfl, reg_of_own (B := mb + 2) (ownsRow_keep h.reg fun k hk => ?_)⟩
  have := h.reg.lt k hk
  exact hb k (by have := h.ord; omega) this.2

def RIpost (w : World) (l : List In) (c k : Int) (r : Ending) (w' : World) : Prop := (∃ p, r = .returned (.tuple #[p, .agg #[.int .i64 c, .int .i64 k]]) ∧ (c = 0 → ∃ rs, docNest l l 0 [] [] = .inr ([], rs) ∧ ∃ iv, InSl w' l iv ∧ ImAt w' p iv rs)) ∧ Below w.heap.size w w'

/-- What is proved apart. -/
structure RIB (P : Prop) : Prop where
  out : P

set_option maxRecDepth 20000 in
set_option maxHeartbeats 16000000 in
def RIp : (P0 : Prop) ×' (P1 : Prop) ×' (P2 : Prop) ×' (P3 : Prop) ×' (P4 : Prop) ×' (P5 : Prop) ×' (P6 : Prop) ×' (P7 : Prop) ×' (P8 : Prop) ×' (P9 : Prop) ×' (P10 : Prop) ×' (P11 : Prop) ×' (P12 : Prop) ×' (P13 : Prop) ×' (P14 : Prop) ×' (P15 : Prop) ×' (P16 : Prop) ×' (P17 : Prop) ×' (P18 : Prop) ×' (P19 : Prop) ×' (P20 : Prop) ×' (P21 : Prop) ×' (P22 : Prop) ×' (P23 : Prop) ×' (P24 : Prop) ×' (RIB P0 → RIB P1 → RIB P2 → RIB P3 → RIB P4 → RIB P5 → RIB P6 → RIB P7 → RIB P8 → RIB P9 → RIB P10 → RIB P11 → RIB P12 → RIB P13 → RIB P14 → RIB P15 → RIB P16 → RIB P17 → RIB P18 → RIB P19 → RIB P20 → RIB P21 → RIB P22 → RIB P23 → RIB P24 → ∀ (_ : ∀ (w : World) (l : List In) (iad : Option Addr) (ic : Nat) (_ : InSl w l (.slice iad l.length ic)) (_ : l.length ≤ 2000) (_ : ∀ j, j < l.length → formErr (l.getD j in0) = 0) (c k : Int) (_ : stackEnd l = (c, k)), Calls Tryd.prog 57 #[.slice iad l.length ic] w fun r w' => r = .returned (.agg #[.int .i64 c, .int .i64 k]) ∧ Below w.heap.size w w') (w : World) (l : List In) (iad : Option Addr) (ic : Nat) (_ : InSl w l (.slice iad l.length ic)) (_ : l.length ≤ 2000) (c k : Int) (_ : docI l = (c, k)), Calls Tryd.prog 24 #[.slice iad l.length ic] w fun r w' => RIpost w l c k r w') := by
  apply PSigma.mk
  apply PSigma.mk
  apply PSigma.mk
  apply PSigma.mk
  apply PSigma.mk
  apply PSigma.mk
  apply PSigma.mk
  apply PSigma.mk
  apply PSigma.mk
  apply PSigma.mk
  apply PSigma.mk
  apply PSigma.mk
  apply PSigma.mk
  apply PSigma.mk
  apply PSigma.mk
  apply PSigma.mk
  apply PSigma.mk
  apply PSigma.mk
  apply PSigma.mk
  apply PSigma.mk
  apply PSigma.mk
  apply PSigma.mk
  apply PSigma.mk
  apply PSigma.mk
  apply PSigma.mk
  · intro hp_e13 hp_e16 hp_e14 hp_e17 hp_e15 hp_eo hp_f13n hp_f13y hp_f16n hp_f16y hp_f14d hp_f14c hp_f14b hp_f14a hp_f17d hp_f17b hp_f17a hp_f15n hp_f15y hp_fo hp_O9 hp_O10 hp_J11 hp_J12 hp_S
    intro hstk w l iad ic h hl c k hc
    have hg : ¬ ((2000 : Int) < (l.length : Int)) := by omega
    have hmm := @run_makeMap Tryd.prog
    have HK : Hid (InSl w l (.slice iad l.length ic) ∧ docI l = (c, k)) := ⟨h, hc⟩
    have HT : Hid _ := hstk
    clear h hc hstk
    go_enter Tryd.func24, Tryd.ntmps24
    go_wp2_with fail
    have H1 : Hid (R1 w ((w.alloc (.cells #[.slice iad l.length ic] 22)).alloc (.cells #[.int .i64 0, .int .i64 0] 30)) (.slice iad l.length ic)) := R1.start w _
    generalize ((w.alloc (.cells #[.slice iad l.length ic] 22)).alloc (.cells #[.int .i64 0, .int .i64 0] 30)) = w1 at *
    go_loopw [26] (fun i wr => ∃ j : Nat, j ≤ l.length ∧ i = .int .i64 j ∧ scan (fun _ x => formErr x) (l.drop j) j = scan (fun _ x => formErr x) l 0 ∧ R1 w wr (.slice iad l.length ic)) (fun i _ => l.length - (intOf i).toNat)
    case atStart => exact ⟨0, Nat.zero_le _, rfl, rfl, H1.out⟩
    case round =>
      obtain ⟨j, hj, rfl, hsc, hr1⟩ := hrel
      by_cases hlt : j < l.length
      · obtain ⟨iad', ic', e, himg⟩ := HK.out.1.below hr1.bel
        cases e
        rcases himg with h0 | ⟨b, o, rfl, himg⟩
        · rw [h0] at hlt; simp at hlt
        obtain ⟨x0, x1, x2⟩ := himg j hlt
        rw [scan_at _ hlt] at hsc
        have HS : Hid (_ ∧ _) := ⟨hsc, hr1⟩
        clear himg hsc hr1
        generalize l.getD j in0 = x at *
        obtain ⟨xo, xa, xb⟩ := x
        dsimp only at x0 x1 x2
        obtain ⟨z, hze⟩ : ∃ z, formErr ⟨xo, xa, xb⟩ = z := ⟨_, rfl⟩
        rw [hze] at HS
        by_cases hz : z = 0
        · subst hz
          go_wp2_with (go_at_call 54; refine (wrongIns_any _ ⟨xo, xa, xb⟩).mono ?_; rw [hze]; rintro r w9 ⟨rfl, hb9⟩; have H9 : Hid (Below _ _ w9) := hb9; clear hb9)
          go_roundw
          case rel => exact ⟨j + 1, by omega, by go_num, by have := HS.out.1; rw [if_neg (by simp)] at this; exact this, HS.out.2.grow (below_seq (below_new _ _) H9.out)⟩
          case measure => simp [intOf]; omega
        · have hzb : (z != 0) = true := by simpa using hz
          have hck : docI l = (z, (j : Int)) := by
            have := HS.out.1
            rw [if_pos (by simpa using hz)] at this
            exact docI_form hl this.symm
          have hcc := HK.out.2.symm.trans hck
          simp only [Prod.mk.injEq] at hcc
          obtain ⟨rfl, rfl⟩ := hcc
          go_wp2_with (first
            | (go_at_call 54; refine (wrongIns_any _ ⟨xo, xa, xb⟩).mono ?_; rw [hze]; rintro r w8 ⟨rfl, hb8⟩; have H8 : Hid (R1 w w8 (.slice (some ⟨b, o, none⟩) l.length ic)) := HS.out.2.grow (below_seq (below_new _ _) hb8); clear hb8)
            | (go_at_call 25; refine (F_any c (j : Int) _).mono ?_; rintro r w9 ⟨rfl, hb9⟩; have H9 : Hid (R1 w w9 (.slice (some ⟨b, o, none⟩) l.length ic)) := H8.out.grow (below_seq (Below.refl _ _) hb9); obtain ⟨rs9, rf9, rl9⟩ := cells_of (l := [_, _]) H9.out.res; have r90 := rs9 0 _ rfl; have r91 := rs9 1 _ rfl; clear hb9 rs9))
          exact bodyPost_ret (v := .tuple #[.pointer none, .agg #[.int .i64 c, .int .i64 (j : Int)]]) (RI_ends (by simpa using setCell_at (i := 1) (u := .int .i64 (j : Int)) (setCell_at (i := 0) (u := .int .i64 c) H9.out.res)) rfl rfl) rfl ⟨⟨_, rfl, (fun h0 => absurd h0 (by first | decide | assumption | omega))⟩, (H9.out.bel.setCell (by show w.heap.size ≤ w.heap.size + 1; omega) _).setCell (by show w.heap.size ≤ w.heap.size + 1; omega) _⟩
      · have hje : j = l.length := by omega
        subst hje
        rw [List.drop_length] at hsc
        have HF : Hid (scan (fun _ x => formErr x) l 0 = none ∧ R1 w wr (.slice iad l.length ic)) := ⟨hsc.symm, hr1⟩
        obtain ⟨ls1, lf1, ll1⟩ := cells_of (l := [_]) hr1.lbk
        have lc1 := ls1 0 _ rfl
        clear hsc hr1 ls1 lf1
        go_wp2_with fail
        have H2 : Hid (RS w ((wr.alloc (.cells #[.slice iad l.length ic, .slice none 0 0] 102)).alloc (.cells #[.slice none 0 0] 23)) wr.heap.size (.slice iad l.length ic) l [] (.slice none 0 0) [] (.slice none 0 0)) := RS.start HF.out.2 l
        have HFO : Hid (scan (fun _ x => formErr x) l 0 = none) := HF.out.1
        clear HF
        generalize ((wr.alloc (.cells #[.slice iad l.length ic, .slice none 0 0] 102)).alloc (.cells #[.slice none 0 0] 23)) = w2 at *
        generalize wr.heap.size = mb at *
        clear lc1
        go_loopw [44] (fun i wr => ∃ (j : Nat) (os : List Nat) (ov : Value) (rs : List (Nat × Nat)) (gv : Value), j ≤ l.length ∧ i = .int .i64 j ∧ docNest l (l.drop j) j os rs = docNest l l 0 [] [] ∧ os.length ≤ j ∧ rs.length ≤ j ∧ RS w wr mb (.slice iad l.length ic) l os ov rs gv) (fun i _ => l.length - (intOf i).toNat)
        case atStart => exact ⟨0, [], _, [], _, Nat.zero_le _, rfl, rfl, Nat.le_refl _, Nat.le_refl _, H2.out⟩
        case round =>
          clear H1 H2
          obtain ⟨j, os, ov, rs, gv, hj, rfl, hsc, hol, hrl, hrs⟩ := hrel
          by_cases hlt : j < l.length
          · obtain ⟨iad', ic', e, himg⟩ := HK.out.1.below hrs.bel
            cases e
            rcases himg with h0 | ⟨b, o, rfl, himg⟩
            · rw [h0] at hlt; simp at hlt
            obtain ⟨x0, x1, x2⟩ := himg j hlt
            have hE := docNest_step hl HFO.out hlt hsc
            have HI : Hid _ := himg
            clear himg hsc
            generalize l.getD j in0 = x at *
            obtain ⟨xo, xa, xb⟩ := x
            dsimp only at x0 x1 x2
            obtain ⟨ls2, lf2, ll2⟩ := cells_of (l := [_]) hrs.lbk
            have cl := ls2 0 _ rfl
            obtain ⟨os2, of2, ol2⟩ := cells_of (l := [_]) hrs.opn
            have co := os2 0 _ rfl
            have fo := of2 0
            obtain ⟨ms2, mf2, ml2⟩ := cells_of (l := [_, _]) hrs.img
            have cm0 := ms2 0 _ rfl
            have cm1 := ms2 1 _ rfl
            have fm1 := mf2 1
            have ord2 := hrs.ord
            have HS : Hid ((∀ z os', docOf l j ⟨xo, xa, xb⟩ os = (z, os') → (z ≠ 0 → docI l = (z, (j : Int))) ∧ (z = 0 → docNest l (l.drop (j + 1)) (j + 1) os' (if xo = 14 ∨ xo = 17 then rs ++ [(os.getLast?.getD 0, j)] else rs) = docNest l l 0 [] [])) ∧ RS w wr mb (.slice (some ⟨b, o, none⟩) l.length ic) l os ov rs gv) := ⟨hE, hrs⟩
            clear ls2 lf2 os2 of2 ms2 mf2 hE
            by_cases hne : os = []
            · subst hne
              obtain ⟨ad0, cap0, hov⟩ := owns_value hrs.own
              subst hov
              simp only [List.length_nil] at co HS
              clear hrs
              by_cases h13 : xo = 13
              · subst h13
                have hamong : amongI l [] 13 xa = false := rfl
                rename_i zq1 zq2 zq3 zq4 zq5 zq6 zq7 zq8 zq9 zq10 zq11
                revert w l ic hl c k hmm HT zq1 zq2 hg w1 zq3 zq4 u4 u5 u6 u27 u28 u29 u30 u31 u32 u33 u34 u35 u36 u37 u38 zq5 zq6 zq7 zq8 zq9 HFO w2 mb ll1 wr u2 u9 u10 u11 u12 u45 u46 u47 u48 u49 u50 u51 u52 u53 u54 u55 u56 u57 u58 u59 u60 u61 u62 u63 u64 u65 u66 u67 u68 u69 u70 u71 u72 u73 u74 u75 u76 u77 u78 u79 u80 u81 u82 u83 u84 u85 u86 u87 u88 u89 u90 u91 u92 u93 u94 u95 u96 u97 u98 u99 u100 u101 u102 u103 u104 u105 u106 u107 u108 u109 u110 u111 u112 u113 u114 u115 u116 u117 u118 u119 u120 u121 u122 u123 u124 u125 u126 u127 u128 u129 u130 u131 u132 u133 u134 u135 u136 u137 u138 u139 u140 u141 u142 u143 u144 u145 u146 u147 u148 u149 u150 j rs gv hj hrl hlt b o HK zq10 zq11 HI xa xb x1 x2 ll2 cl ol2 fo ml2 cm0 cm1 fm1 ord2 hol ad0 cap0 co x0 HS hamong
                exact hp_e13.out
              by_cases h16 : xo = 16
              · subst h16
                have hamong : amongI l [] 16 xa = false := rfl
                rename_i zq1 zq2 zq3 zq4 zq5 zq6 zq7 zq8 zq9 zq10 zq11
                revert w l ic hl c k hmm HT zq1 zq2 hg w1 zq3 zq4 u4 u5 u6 u27 u28 u29 u30 u31 u32 u33 u34 u35 u36 u37 u38 zq5 zq6 zq7 zq8 zq9 HFO w2 mb ll1 wr u2 u9 u10 u11 u12 u45 u46 u47 u48 u49 u50 u51 u52 u53 u54 u55 u56 u57 u58 u59 u60 u61 u62 u63 u64 u65 u66 u67 u68 u69 u70 u71 u72 u73 u74 u75 u76 u77 u78 u79 u80 u81 u82 u83 u84 u85 u86 u87 u88 u89 u90 u91 u92 u93 u94 u95 u96 u97 u98 u99 u100 u101 u102 u103 u104 u105 u106 u107 u108 u109 u110 u111 u112 u113 u114 u115 u116 u117 u118 u119 u120 u121 u122 u123 u124 u125 u126 u127 u128 u129 u130 u131 u132 u133 u134 u135 u136 u137 u138 u139 u140 u141 u142 u143 u144 u145 u146 u147 u148 u149 u150 j rs gv hj hrl hlt b o HK zq10 zq11 HI xa xb x1 x2 ll2 cl ol2 fo ml2 cm0 cm1 fm1 ord2 hol ad0 cap0 co x0 HS h13 hamong
                exact hp_e16.out
              by_cases h14 : xo = 14
              · subst h14
                rename_i zq1 zq2 zq3 zq4 zq5 zq6 zq7 zq8 zq9 zq10 zq11
                revert w l ic hl c k hmm HT zq1 zq2 hg w1 zq3 zq4 u4 u5 u6 u27 u28 u29 u30 u31 u32 u33 u34 u35 u36 u37 u38 zq5 zq6 zq7 zq8 zq9 HFO w2 mb ll1 wr u2 u9 u10 u11 u12 u45 u46 u47 u48 u49 u50 u51 u52 u53 u54 u55 u56 u57 u58 u59 u60 u61 u62 u63 u64 u65 u66 u67 u68 u69 u70 u71 u72 u73 u74 u75 u76 u77 u78 u79 u80 u81 u82 u83 u84 u85 u86 u87 u88 u89 u90 u91 u92 u93 u94 u95 u96 u97 u98 u99 u100 u101 u102 u103 u104 u105 u106 u107 u108 u109 u110 u111 u112 u113 u114 u115 u116 u117 u118 u119 u120 u121 u122 u123 u124 u125 u126 u127 u128 u129 u130 u131 u132 u133 u134 u135 u136 u137 u138 u139 u140 u141 u142 u143 u144 u145 u146 u147 u148 u149 u150 j rs gv hj hrl hlt b o HK zq10 zq11 HI xa xb x1 x2 ll2 cl ol2 fo ml2 cm0 cm1 fm1 ord2 hol ad0 cap0 co x0 HS h13 h16
                exact hp_e14.out
              by_cases h17 : xo = 17
              · subst h17
                rename_i zq1 zq2 zq3 zq4 zq5 zq6 zq7 zq8 zq9 zq10 zq11
                revert w l ic hl c k hmm HT zq1 zq2 hg w1 zq3 zq4 u4 u5 u6 u27 u28 u29 u30 u31 u32 u33 u34 u35 u36 u37 u38 zq5 zq6 zq7 zq8 zq9 HFO w2 mb ll1 wr u2 u9 u10 u11 u12 u45 u46 u47 u48 u49 u50 u51 u52 u53 u54 u55 u56 u57 u58 u59 u60 u61 u62 u63 u64 u65 u66 u67 u68 u69 u70 u71 u72 u73 u74 u75 u76 u77 u78 u79 u80 u81 u82 u83 u84 u85 u86 u87 u88 u89 u90 u91 u92 u93 u94 u95 u96 u97 u98 u99 u100 u101 u102 u103 u104 u105 u106 u107 u108 u109 u110 u111 u112 u113 u114 u115 u116 u117 u118 u119 u120 u121 u122 u123 u124 u125 u126 u127 u128 u129 u130 u131 u132 u133 u134 u135 u136 u137 u138 u139 u140 u141 u142 u143 u144 u145 u146 u147 u148 u149 u150 j rs gv hj hrl hlt b o HK zq10 zq11 HI xa xb x1 x2 ll2 cl ol2 fo ml2 cm0 cm1 fm1 ord2 hol ad0 cap0 co x0 HS h13 h16 h14
                exact hp_e17.out
              by_cases h15 : xo = 15
              · subst h15
                have hamong : amongI l [] 13 xa = false := rfl
                rename_i zq1 zq2 zq3 zq4 zq5 zq6 zq7 zq8 zq9 zq10 zq11
                revert w l ic hl c k hmm HT zq1 zq2 hg w1 zq3 zq4 u4 u5 u6 u27 u28 u29 u30 u31 u32 u33 u34 u35 u36 u37 u38 zq5 zq6 zq7 zq8 zq9 HFO w2 mb ll1 wr u2 u9 u10 u11 u12 u45 u46 u47 u48 u49 u50 u51 u52 u53 u54 u55 u56 u57 u58 u59 u60 u61 u62 u63 u64 u65 u66 u67 u68 u69 u70 u71 u72 u73 u74 u75 u76 u77 u78 u79 u80 u81 u82 u83 u84 u85 u86 u87 u88 u89 u90 u91 u92 u93 u94 u95 u96 u97 u98 u99 u100 u101 u102 u103 u104 u105 u106 u107 u108 u109 u110 u111 u112 u113 u114 u115 u116 u117 u118 u119 u120 u121 u122 u123 u124 u125 u126 u127 u128 u129 u130 u131 u132 u133 u134 u135 u136 u137 u138 u139 u140 u141 u142 u143 u144 u145 u146 u147 u148 u149 u150 j rs gv hj hrl hlt b o HK zq10 zq11 HI xa xb x1 x2 ll2 cl ol2 fo ml2 cm0 cm1 fm1 ord2 hol ad0 cap0 co x0 HS h13 h16 h14 h17 hamong
                exact hp_e15.out
              · rename_i zq1 zq2 zq3 zq4 zq5 zq6 zq7 zq8 zq9 zq10 zq11
                revert w l ic hl c k hmm HT zq1 zq2 hg w1 zq3 zq4 u4 u5 u6 u27 u28 u29 u30 u31 u32 u33 u34 u35 u36 u37 u38 zq5 zq6 zq7 zq8 zq9 HFO w2 mb ll1 wr u2 u9 u10 u11 u12 u45 u46 u47 u48 u49 u50 u51 u52 u53 u54 u55 u56 u57 u58 u59 u60 u61 u62 u63 u64 u65 u66 u67 u68 u69 u70 u71 u72 u73 u74 u75 u76 u77 u78 u79 u80 u81 u82 u83 u84 u85 u86 u87 u88 u89 u90 u91 u92 u93 u94 u95 u96 u97 u98 u99 u100 u101 u102 u103 u104 u105 u106 u107 u108 u109 u110 u111 u112 u113 u114 u115 u116 u117 u118 u119 u120 u121 u122 u123 u124 u125 u126 u127 u128 u129 u130 u131 u132 u133 u134 u135 u136 u137 u138 u139 u140 u141 u142 u143 u144 u145 u146 u147 u148 u149 u150 j rs gv hj hrl hlt b o HK zq10 zq11 HI xo xa xb x0 x1 x2 ll2 cl ol2 fo ml2 cm0 cm1 fm1 ord2 hol ad0 cap0 co HS h13 h16 h14 h17 h15
                exact hp_eo.out
            · obtain ⟨lb, lo, n, lc, hov, hn, clast, cfirst, hmem⟩ := last_of (at_of_own hrs.own) hne
              subst hov
              have llb : lb < wr.heap.size := World.block_lt_of_cell? _ _ clast
              have hlow := hrs.low _ hmem
              obtain ⟨y0, y1, y2⟩ := HI.out _ hlow
              generalize hzl : os.getLast?.getD 0 = z at *
              have HZ : Hid (os.getLast?.getD 0 = z) := hzl
              clear hrs hmem cfirst hzl
              generalize hy : l.getD z in0 = y at *
              have HY : Hid (l.getD z in0 = y) := hy
              clear hy
              obtain ⟨yo, ya, yb⟩ := y
              dsimp only at y0 y1 y2
              have hwr : IntKind.i64.wrap ((z : Int) + 1) = (z : Int) + 1 := by rw [IntKind.wrap_i64]; omega
              have hz0 : decide ((z : Int) < 0) = false := by first | (simp; done) | (simp; omega)
              by_cases h13 : xo = 13
              · subst h13
                cases hamong : amongI l os 13 xa
                · rename_i zq1 zq2 zq3 zq4 zq5 zq6 zq7 zq8 zq9 zq10 zq11
                  revert w l ic hl c k hmm HT zq1 zq2 hg w1 zq3 zq4 u4 u5 u6 u27 u28 u29 u30 u31 u32 u33 u34 u35 u36 u37 u38 zq5 zq6 zq7 zq8 zq9 HFO w2 mb ll1 wr u2 u9 u10 u11 u12 u45 u46 u47 u48 u49 u50 u51 u52 u53 u54 u55 u56 u57 u58 u59 u60 u61 u62 u63 u64 u65 u66 u67 u68 u69 u70 u71 u72 u73 u74 u75 u76 u77 u78 u79 u80 u81 u82 u83 u84 u85 u86 u87 u88 u89 u90 u91 u92 u93 u94 u95 u96 u97 u98 u99 u100 u101 u102 u103 u104 u105 u106 u107 u108 u109 u110 u111 u112 u113 u114 u115 u116 u117 u118 u119 u120 u121 u122 u123 u124 u125 u126 u127 u128 u129 u130 u131 u132 u133 u134 u135 u136 u137 u138 u139 u140 u141 u142 u143 u144 u145 u146 u147 u148 u149 u150 j os rs gv hj hol hrl hlt b o HK zq10 zq11 HI xa xb x1 x2 ll2 cl ol2 fo ml2 cm0 cm1 fm1 ord2 hne lb lo n lc hn co llb z clast hlow HZ yo ya yb y0 y1 y2 HY hwr hz0 x0 HS hamong
                  exact hp_f13n.out
                · rename_i zq1 zq2 zq3 zq4 zq5 zq6 zq7 zq8 zq9 zq10 zq11
                  revert w l ic hl c k hmm HT zq1 zq2 hg w1 zq3 zq4 u4 u5 u6 u27 u28 u29 u30 u31 u32 u33 u34 u35 u36 u37 u38 zq5 zq6 zq7 zq8 zq9 HFO w2 mb ll1 wr u2 u9 u10 u11 u12 u45 u46 u47 u48 u49 u50 u51 u52 u53 u54 u55 u56 u57 u58 u59 u60 u61 u62 u63 u64 u65 u66 u67 u68 u69 u70 u71 u72 u73 u74 u75 u76 u77 u78 u79 u80 u81 u82 u83 u84 u85 u86 u87 u88 u89 u90 u91 u92 u93 u94 u95 u96 u97 u98 u99 u100 u101 u102 u103 u104 u105 u106 u107 u108 u109 u110 u111 u112 u113 u114 u115 u116 u117 u118 u119 u120 u121 u122 u123 u124 u125 u126 u127 u128 u129 u130 u131 u132 u133 u134 u135 u136 u137 u138 u139 u140 u141 u142 u143 u144 u145 u146 u147 u148 u149 u150 j os rs gv hj hol hrl hlt b o HK zq10 zq11 HI xa xb x1 x2 ll2 cl ol2 fo ml2 cm0 cm1 fm1 ord2 hne lb lo n lc hn co llb z clast hlow HZ yo ya yb y0 y1 y2 HY hwr hz0 x0 HS hamong
                  exact hp_f13y.out
              by_cases h16 : xo = 16
              · subst h16
                cases hamong : amongI l os 16 xa
                · rename_i zq1 zq2 zq3 zq4 zq5 zq6 zq7 zq8 zq9 zq10 zq11
                  revert w l ic hl c k hmm HT zq1 zq2 hg w1 zq3 zq4 u4 u5 u6 u27 u28 u29 u30 u31 u32 u33 u34 u35 u36 u37 u38 zq5 zq6 zq7 zq8 zq9 HFO w2 mb ll1 wr u2 u9 u10 u11 u12 u45 u46 u47 u48 u49 u50 u51 u52 u53 u54 u55 u56 u57 u58 u59 u60 u61 u62 u63 u64 u65 u66 u67 u68 u69 u70 u71 u72 u73 u74 u75 u76 u77 u78 u79 u80 u81 u82 u83 u84 u85 u86 u87 u88 u89 u90 u91 u92 u93 u94 u95 u96 u97 u98 u99 u100 u101 u102 u103 u104 u105 u106 u107 u108 u109 u110 u111 u112 u113 u114 u115 u116 u117 u118 u119 u120 u121 u122 u123 u124 u125 u126 u127 u128 u129 u130 u131 u132 u133 u134 u135 u136 u137 u138 u139 u140 u141 u142 u143 u144 u145 u146 u147 u148 u149 u150 j os rs gv hj hol hrl hlt b o HK zq10 zq11 HI xa xb x1 x2 ll2 cl ol2 fo ml2 cm0 cm1 fm1 ord2 hne lb lo n lc hn co llb z clast hlow HZ yo ya yb y0 y1 y2 HY hwr hz0 x0 HS h13 hamong
                  exact hp_f16n.out
                · rename_i zq1 zq2 zq3 zq4 zq5 zq6 zq7 zq8 zq9 zq10 zq11
                  revert w l ic hl c k hmm HT zq1 zq2 hg w1 zq3 zq4 u4 u5 u6 u27 u28 u29 u30 u31 u32 u33 u34 u35 u36 u37 u38 zq5 zq6 zq7 zq8 zq9 HFO w2 mb ll1 wr u2 u9 u10 u11 u12 u45 u46 u47 u48 u49 u50 u51 u52 u53 u54 u55 u56 u57 u58 u59 u60 u61 u62 u63 u64 u65 u66 u67 u68 u69 u70 u71 u72 u73 u74 u75 u76 u77 u78 u79 u80 u81 u82 u83 u84 u85 u86 u87 u88 u89 u90 u91 u92 u93 u94 u95 u96 u97 u98 u99 u100 u101 u102 u103 u104 u105 u106 u107 u108 u109 u110 u111 u112 u113 u114 u115 u116 u117 u118 u119 u120 u121 u122 u123 u124 u125 u126 u127 u128 u129 u130 u131 u132 u133 u134 u135 u136 u137 u138 u139 u140 u141 u142 u143 u144 u145 u146 u147 u148 u149 u150 j os rs gv hj hol hrl hlt b o HK zq10 zq11 HI xa xb x1 x2 ll2 cl ol2 fo ml2 cm0 cm1 fm1 ord2 hne lb lo n lc hn co llb z clast hlow HZ yo ya yb y0 y1 y2 HY hwr hz0 x0 HS h13 hamong
                  exact hp_f16y.out
              by_cases h14 : xo = 14
              · subst h14
                have hS0 : ((wr.alloc (.cells #[.int .i64 14, .int .i64 xa, .int .i64 xb] 35)).drew).cell? ⟨w.heap.size, 0, none⟩ = some (.slice (some ⟨b, o, none⟩) l.length ic) ∧ ((wr.alloc (.cells #[.int .i64 14, .int .i64 xa, .int .i64 xb] 35)).drew).cell? ⟨wr.heap.size, 0, none⟩ = some (.int .i64 14) ∧ ((wr.alloc (.cells #[.int .i64 14, .int .i64 xa, .int .i64 xb] 35)).drew).cell? ⟨wr.heap.size, 1, none⟩ = some (.int .i64 xa) ∧ ((wr.alloc (.cells #[.int .i64 14, .int .i64 xa, .int .i64 xb] 35)).drew).cell? ⟨wr.heap.size, 2, none⟩ = some (.int .i64 xb) ∧ ((wr.alloc (.cells #[.int .i64 14, .int .i64 xa, .int .i64 xb] 35)).drew).cell? ⟨b, o + z * 3, none⟩ = some (.int .i64 yo) ∧ ((wr.alloc (.cells #[.int .i64 14, .int .i64 xa, .int .i64 xb] 35)).drew).cell? ⟨b, o + z * 3 + 1, none⟩ = some (.int .i64 ya) := by have hbb := below_new wr (.cells #[.int .i64 14, .int .i64 xa, .int .i64 xb] 35); refine ⟨below_cell hbb cl, by go_simp, by go_simp, by go_simp, below_cell hbb y0, below_cell hbb y1⟩
                obtain ⟨w5, w6, hr5, hr6, hl5, hl6, hb5, hb6⟩ := in_map ((wr.alloc (.cells #[.int .i64 14, .int .i64 xa, .int .i64 xb] 35)).drew) 14 17 13 16 (by omega) (by omega) (by omega) (by omega) (by decide)
                rw [show ((wr.alloc (.cells #[.int .i64 14, .int .i64 xa, .int .i64 xb] 35)).drew).heap.size = wr.heap.size + 1 by simp] at hr5 hr6 hl5 hl6
                rw [show (((wr.alloc (.cells #[.int .i64 14, .int .i64 xa, .int .i64 xb] 35)).drew).alloc (.map #[] 0)) = ((wr.alloc (.cells #[.int .i64 14, .int .i64 xa, .int .i64 xb] 35)).alloc (.map #[] 0)).drew from rfl] at hr5
                have hS5 : w5.cell? ⟨w.heap.size, 0, none⟩ = some (.slice (some ⟨b, o, none⟩) l.length ic) ∧ w5.cell? ⟨wr.heap.size, 0, none⟩ = some (.int .i64 14) ∧ w5.cell? ⟨wr.heap.size, 1, none⟩ = some (.int .i64 xa) ∧ w5.cell? ⟨wr.heap.size, 2, none⟩ = some (.int .i64 xb) ∧ w5.cell? ⟨b, o + z * 3, none⟩ = some (.int .i64 yo) ∧ w5.cell? ⟨b, o + z * 3 + 1, none⟩ = some (.int .i64 ya) := keep6 hb5 hS0
                have hS6 : w6.cell? ⟨w.heap.size, 0, none⟩ = some (.slice (some ⟨b, o, none⟩) l.length ic) ∧ w6.cell? ⟨wr.heap.size, 0, none⟩ = some (.int .i64 14) ∧ w6.cell? ⟨wr.heap.size, 1, none⟩ = some (.int .i64 xa) ∧ w6.cell? ⟨wr.heap.size, 2, none⟩ = some (.int .i64 xb) ∧ w6.cell? ⟨b, o + z * 3, none⟩ = some (.int .i64 yo) ∧ w6.cell? ⟨b, o + z * 3 + 1, none⟩ = some (.int .i64 ya) := keep6 hb6 hS0
                have H6 : Hid (RS w w6 mb (.slice (some ⟨b, o, none⟩) l.length ic) l os _ rs gv) := HS.out.2.grow (below_seq (below_new _ _) (below_seq (Below.refl _ _).drew hb6))
                obtain ⟨w7, w8, hr7, hr8, hl7, hl8, hb7, hb8⟩ := er_map w6 14 17 9 10 (by omega) (by omega) (by omega) (by omega) (by decide)
                have d8 : w8.cell? ⟨wr.heap.size, 0, none⟩ = some (.int .i64 14) := below_cell hb8 hS6.2.1
                have H8 : Hid (RS w w8 mb (.slice (some ⟨b, o, none⟩) l.length ic) l os _ rs gv) := H6.out.grow hb8
                clear hb5 hb6 hb7 hb8
                obtain ⟨v5, v6, hr5v, hr6v, hl5v, hl6v, hb5v, hb6v⟩ := in_map ((wr.alloc (.cells #[.int .i64 14, .int .i64 xa, .int .i64 xb] 35)).drew) 17 14 16 13 (by omega) (by omega) (by omega) (by omega) (by decide)
                rw [show ((wr.alloc (.cells #[.int .i64 14, .int .i64 xa, .int .i64 xb] 35)).drew).heap.size = wr.heap.size + 1 by simp] at hr5v hr6v hl5v hl6v
                rw [show (((wr.alloc (.cells #[.int .i64 14, .int .i64 xa, .int .i64 xb] 35)).drew).alloc (.map #[] 0)) = ((wr.alloc (.cells #[.int .i64 14, .int .i64 xa, .int .i64 xb] 35)).alloc (.map #[] 0)).drew from rfl] at hr5v
                have hS5v : v5.cell? ⟨w.heap.size, 0, none⟩ = some (.slice (some ⟨b, o, none⟩) l.length ic) ∧ v5.cell? ⟨wr.heap.size, 0, none⟩ = some (.int .i64 14) ∧ v5.cell? ⟨wr.heap.size, 1, none⟩ = some (.int .i64 xa) ∧ v5.cell? ⟨wr.heap.size, 2, none⟩ = some (.int .i64 xb) ∧ v5.cell? ⟨b, o + z * 3, none⟩ = some (.int .i64 yo) ∧ v5.cell? ⟨b, o + z * 3 + 1, none⟩ = some (.int .i64 ya) := keep6 hb5v hS0
                have hS6v : v6.cell? ⟨w.heap.size, 0, none⟩ = some (.slice (some ⟨b, o, none⟩) l.length ic) ∧ v6.cell? ⟨wr.heap.size, 0, none⟩ = some (.int .i64 14) ∧ v6.cell? ⟨wr.heap.size, 1, none⟩ = some (.int .i64 xa) ∧ v6.cell? ⟨wr.heap.size, 2, none⟩ = some (.int .i64 xb) ∧ v6.cell? ⟨b, o + z * 3, none⟩ = some (.int .i64 yo) ∧ v6.cell? ⟨b, o + z * 3 + 1, none⟩ = some (.int .i64 ya) := keep6 hb6v hS0
                have H6v : Hid (RS w v6 mb (.slice (some ⟨b, o, none⟩) l.length ic) l os _ rs gv) := HS.out.2.grow (below_seq (below_new _ _) (below_seq (Below.refl _ _).drew hb6v))
                obtain ⟨v7, v8, hr7v, hr8v, hl7v, hl8v, hb7v, hb8v⟩ := er_map v6 14 17 9 10 (by omega) (by omega) (by omega) (by omega) (by decide)
                have d8v : v8.cell? ⟨wr.heap.size, 0, none⟩ = some (.int .i64 14) := below_cell hb8v hS6v.2.1
                have H8v : Hid (RS w v8 mb (.slice (some ⟨b, o, none⟩) l.length ic) l os _ rs gv) := H6v.out.grow hb8v
                clear hb5v hb6v hb7v hb8v
                by_cases e1 : yo = 13
                · subst e1
                  by_cases e2 : xa = ya
                  · subst e2
                    by_cases e3 : xb = (z : Int) + 1
                    · subst e3
                      rename_i zq1 zq2 zq3 zq4 zq5 zq6 zq7 zq8 zq9 zq10 zq11
                      revert w l ic hl c k hmm HT zq1 zq2 hg w1 zq3 zq4 u4 u5 u6 u27 u28 u29 u30 u31 u32 u33 u34 u35 u36 u37 u38 zq5 zq6 zq7 zq8 zq9 HFO w2 mb ll1 wr u2 u9 u10 u11 u12 u45 u46 u47 u48 u49 u50 u51 u52 u53 u54 u55 u56 u57 u58 u59 u60 u61 u62 u63 u64 u65 u66 u67 u68 u69 u70 u71 u72 u73 u74 u75 u76 u77 u78 u79 u80 u81 u82 u83 u84 u85 u86 u87 u88 u89 u90 u91 u92 u93 u94 u95 u96 u97 u98 u99 u100 u101 u102 u103 u104 u105 u106 u107 u108 u109 u110 u111 u112 u113 u114 u115 u116 u117 u118 u119 u120 u121 u122 u123 u124 u125 u126 u127 u128 u129 u130 u131 u132 u133 u134 u135 u136 u137 u138 u139 u140 u141 u142 u143 u144 u145 u146 u147 u148 u149 u150 j os rs gv hj hol hrl hlt b o HK zq10 zq11 HI xa x1 ll2 cl ol2 fo ml2 cm0 cm1 fm1 ord2 hne lb lo n lc hn co llb z clast hlow HZ yb y2 hwr hz0 x0 h13 h16 w5 w6 hr6 hl5 hl6 H6 w7 w8 hr7 hr8 hl7 hl8 d8 H8 v5 v6 hr6v hl5v hl6v H6v v7 v8 hr7v hr8v hl7v hl8v d8v H8v y0 y1 HY x2 HS hr5 hr5v hS0 hS5 hS6 hS5v hS6v
                      exact hp_f14d.out
                    · have g3 : (xb != (z : Int) + 1) = true := by simpa using e3
                      rename_i zq1 zq2 zq3 zq4 zq5 zq6 zq7 zq8 zq9 zq10 zq11
                      revert w l ic hl c k hmm HT zq1 zq2 hg w1 zq3 zq4 u4 u5 u6 u27 u28 u29 u30 u31 u32 u33 u34 u35 u36 u37 u38 zq5 zq6 zq7 zq8 zq9 HFO w2 mb ll1 wr u2 u9 u10 u11 u12 u45 u46 u47 u48 u49 u50 u51 u52 u53 u54 u55 u56 u57 u58 u59 u60 u61 u62 u63 u64 u65 u66 u67 u68 u69 u70 u71 u72 u73 u74 u75 u76 u77 u78 u79 u80 u81 u82 u83 u84 u85 u86 u87 u88 u89 u90 u91 u92 u93 u94 u95 u96 u97 u98 u99 u100 u101 u102 u103 u104 u105 u106 u107 u108 u109 u110 u111 u112 u113 u114 u115 u116 u117 u118 u119 u120 u121 u122 u123 u124 u125 u126 u127 u128 u129 u130 u131 u132 u133 u134 u135 u136 u137 u138 u139 u140 u141 u142 u143 u144 u145 u146 u147 u148 u149 u150 j os rs gv hj hol hrl hlt b o HK zq10 zq11 HI xa xb x1 x2 ll2 cl ol2 fo ml2 cm0 cm1 fm1 ord2 hne lb lo n lc hn co llb z clast hlow HZ yb y2 hwr hz0 x0 HS h13 h16 w5 w6 hr5 hr6 hl5 hl6 H6 w7 w8 hr7 hr8 hl7 hl8 d8 H8 v5 v6 hr5v hr6v hl5v hl6v H6v v7 v8 hr7v hr8v hl7v hl8v d8v H8v y0 y1 HY hS0 hS5 hS6 hS5v hS6v e3 g3
                      exact hp_f14c.out
                  · have g2 : (ya != xa) = true := by simpa using fun e => e2 e.symm
                    rename_i zq1 zq2 zq3 zq4 zq5 zq6 zq7 zq8 zq9 zq10 zq11
                    revert w l ic hl c k hmm HT zq1 zq2 hg w1 zq3 zq4 u4 u5 u6 u27 u28 u29 u30 u31 u32 u33 u34 u35 u36 u37 u38 zq5 zq6 zq7 zq8 zq9 HFO w2 mb ll1 wr u2 u9 u10 u11 u12 u45 u46 u47 u48 u49 u50 u51 u52 u53 u54 u55 u56 u57 u58 u59 u60 u61 u62 u63 u64 u65 u66 u67 u68 u69 u70 u71 u72 u73 u74 u75 u76 u77 u78 u79 u80 u81 u82 u83 u84 u85 u86 u87 u88 u89 u90 u91 u92 u93 u94 u95 u96 u97 u98 u99 u100 u101 u102 u103 u104 u105 u106 u107 u108 u109 u110 u111 u112 u113 u114 u115 u116 u117 u118 u119 u120 u121 u122 u123 u124 u125 u126 u127 u128 u129 u130 u131 u132 u133 u134 u135 u136 u137 u138 u139 u140 u141 u142 u143 u144 u145 u146 u147 u148 u149 u150 j os rs gv hj hol hrl hlt b o HK zq10 zq11 HI xa xb x1 x2 ll2 cl ol2 fo ml2 cm0 cm1 fm1 ord2 hne lb lo n lc hn co llb z clast hlow HZ ya yb y1 y2 hwr hz0 x0 HS h13 h16 w5 w6 hr5 hr6 hl5 hl6 H6 w7 w8 hr7 hr8 hl7 hl8 d8 H8 v5 v6 hr5v hr6v hl5v hl6v H6v v7 v8 hr7v hr8v hl7v hl8v d8v H8v y0 HY hS0 hS5 hS6 hS5v hS6v e2 g2
                    exact hp_f14b.out
                · have g1 : (yo != 13) = true := by simpa using e1
                  rename_i zq1 zq2 zq3 zq4 zq5 zq6 zq7 zq8 zq9 zq10 zq11
                  revert w l ic hl c k hmm HT zq1 zq2 hg w1 zq3 zq4 u4 u5 u6 u27 u28 u29 u30 u31 u32 u33 u34 u35 u36 u37 u38 zq5 zq6 zq7 zq8 zq9 HFO w2 mb ll1 wr u2 u9 u10 u11 u12 u45 u46 u47 u48 u49 u50 u51 u52 u53 u54 u55 u56 u57 u58 u59 u60 u61 u62 u63 u64 u65 u66 u67 u68 u69 u70 u71 u72 u73 u74 u75 u76 u77 u78 u79 u80 u81 u82 u83 u84 u85 u86 u87 u88 u89 u90 u91 u92 u93 u94 u95 u96 u97 u98 u99 u100 u101 u102 u103 u104 u105 u106 u107 u108 u109 u110 u111 u112 u113 u114 u115 u116 u117 u118 u119 u120 u121 u122 u123 u124 u125 u126 u127 u128 u129 u130 u131 u132 u133 u134 u135 u136 u137 u138 u139 u140 u141 u142 u143 u144 u145 u146 u147 u148 u149 u150 j os rs gv hj hol hrl hlt b o HK zq10 zq11 HI xa xb x1 x2 ll2 cl ol2 fo ml2 cm0 cm1 fm1 ord2 hne lb lo n lc hn co llb z clast hlow HZ yo ya yb y0 y1 y2 HY hwr hz0 x0 HS h13 h16 hS0 w5 w6 hr5 hr6 hl5 hl6 hS5 hS6 H6 w7 w8 hr7 hr8 hl7 hl8 d8 H8 v5 v6 hr5v hr6v hl5v hl6v hS5v hS6v H6v v7 v8 hr7v hr8v hl7v hl8v d8v H8v e1 g1
                  exact hp_f14a.out
              by_cases h17 : xo = 17
              · subst h17
                have hS0 : ((wr.alloc (.cells #[.int .i64 17, .int .i64 xa, .int .i64 xb] 35)).drew).cell? ⟨w.heap.size, 0, none⟩ = some (.slice (some ⟨b, o, none⟩) l.length ic) ∧ ((wr.alloc (.cells #[.int .i64 17, .int .i64 xa, .int .i64 xb] 35)).drew).cell? ⟨wr.heap.size, 0, none⟩ = some (.int .i64 17) ∧ ((wr.alloc (.cells #[.int .i64 17, .int .i64 xa, .int .i64 xb] 35)).drew).cell? ⟨wr.heap.size, 1, none⟩ = some (.int .i64 xa) ∧ ((wr.alloc (.cells #[.int .i64 17, .int .i64 xa, .int .i64 xb] 35)).drew).cell? ⟨wr.heap.size, 2, none⟩ = some (.int .i64 xb) ∧ ((wr.alloc (.cells #[.int .i64 17, .int .i64 xa, .int .i64 xb] 35)).drew).cell? ⟨b, o + z * 3, none⟩ = some (.int .i64 yo) ∧ ((wr.alloc (.cells #[.int .i64 17, .int .i64 xa, .int .i64 xb] 35)).drew).cell? ⟨b, o + z * 3 + 1, none⟩ = some (.int .i64 ya) := by have hbb := below_new wr (.cells #[.int .i64 17, .int .i64 xa, .int .i64 xb] 35); refine ⟨below_cell hbb cl, by go_simp, by go_simp, by go_simp, below_cell hbb y0, below_cell hbb y1⟩
                obtain ⟨w5, w6, hr5, hr6, hl5, hl6, hb5, hb6⟩ := in_map ((wr.alloc (.cells #[.int .i64 17, .int .i64 xa, .int .i64 xb] 35)).drew) 14 17 13 16 (by omega) (by omega) (by omega) (by omega) (by decide)
                rw [show ((wr.alloc (.cells #[.int .i64 17, .int .i64 xa, .int .i64 xb] 35)).drew).heap.size = wr.heap.size + 1 by simp] at hr5 hr6 hl5 hl6
                rw [show (((wr.alloc (.cells #[.int .i64 17, .int .i64 xa, .int .i64 xb] 35)).drew).alloc (.map #[] 0)) = ((wr.alloc (.cells #[.int .i64 17, .int .i64 xa, .int .i64 xb] 35)).alloc (.map #[] 0)).drew from rfl] at hr5
                have hS5 : w5.cell? ⟨w.heap.size, 0, none⟩ = some (.slice (some ⟨b, o, none⟩) l.length ic) ∧ w5.cell? ⟨wr.heap.size, 0, none⟩ = some (.int .i64 17) ∧ w5.cell? ⟨wr.heap.size, 1, none⟩ = some (.int .i64 xa) ∧ w5.cell? ⟨wr.heap.size, 2, none⟩ = some (.int .i64 xb) ∧ w5.cell? ⟨b, o + z * 3, none⟩ = some (.int .i64 yo) ∧ w5.cell? ⟨b, o + z * 3 + 1, none⟩ = some (.int .i64 ya) := keep6 hb5 hS0
                have hS6 : w6.cell? ⟨w.heap.size, 0, none⟩ = some (.slice (some ⟨b, o, none⟩) l.length ic) ∧ w6.cell? ⟨wr.heap.size, 0, none⟩ = some (.int .i64 17) ∧ w6.cell? ⟨wr.heap.size, 1, none⟩ = some (.int .i64 xa) ∧ w6.cell? ⟨wr.heap.size, 2, none⟩ = some (.int .i64 xb) ∧ w6.cell? ⟨b, o + z * 3, none⟩ = some (.int .i64 yo) ∧ w6.cell? ⟨b, o + z * 3 + 1, none⟩ = some (.int .i64 ya) := keep6 hb6 hS0
                have H6 : Hid (RS w w6 mb (.slice (some ⟨b, o, none⟩) l.length ic) l os _ rs gv) := HS.out.2.grow (below_seq (below_new _ _) (below_seq (Below.refl _ _).drew hb6))
                obtain ⟨w7, w8, hr7, hr8, hl7, hl8, hb7, hb8⟩ := er_map w6 14 17 9 10 (by omega) (by omega) (by omega) (by omega) (by decide)
                have d8 : w8.cell? ⟨wr.heap.size, 0, none⟩ = some (.int .i64 17) := below_cell hb8 hS6.2.1
                have H8 : Hid (RS w w8 mb (.slice (some ⟨b, o, none⟩) l.length ic) l os _ rs gv) := H6.out.grow hb8
                clear hb5 hb6 hb7 hb8
                obtain ⟨v5, v6, hr5v, hr6v, hl5v, hl6v, hb5v, hb6v⟩ := in_map ((wr.alloc (.cells #[.int .i64 17, .int .i64 xa, .int .i64 xb] 35)).drew) 17 14 16 13 (by omega) (by omega) (by omega) (by omega) (by decide)
                rw [show ((wr.alloc (.cells #[.int .i64 17, .int .i64 xa, .int .i64 xb] 35)).drew).heap.size = wr.heap.size + 1 by simp] at hr5v hr6v hl5v hl6v
                rw [show (((wr.alloc (.cells #[.int .i64 17, .int .i64 xa, .int .i64 xb] 35)).drew).alloc (.map #[] 0)) = ((wr.alloc (.cells #[.int .i64 17, .int .i64 xa, .int .i64 xb] 35)).alloc (.map #[] 0)).drew from rfl] at hr5v
                have hS5v : v5.cell? ⟨w.heap.size, 0, none⟩ = some (.slice (some ⟨b, o, none⟩) l.length ic) ∧ v5.cell? ⟨wr.heap.size, 0, none⟩ = some (.int .i64 17) ∧ v5.cell? ⟨wr.heap.size, 1, none⟩ = some (.int .i64 xa) ∧ v5.cell? ⟨wr.heap.size, 2, none⟩ = some (.int .i64 xb) ∧ v5.cell? ⟨b, o + z * 3, none⟩ = some (.int .i64 yo) ∧ v5.cell? ⟨b, o + z * 3 + 1, none⟩ = some (.int .i64 ya) := keep6 hb5v hS0
                have hS6v : v6.cell? ⟨w.heap.size, 0, none⟩ = some (.slice (some ⟨b, o, none⟩) l.length ic) ∧ v6.cell? ⟨wr.heap.size, 0, none⟩ = some (.int .i64 17) ∧ v6.cell? ⟨wr.heap.size, 1, none⟩ = some (.int .i64 xa) ∧ v6.cell? ⟨wr.heap.size, 2, none⟩ = some (.int .i64 xb) ∧ v6.cell? ⟨b, o + z * 3, none⟩ = some (.int .i64 yo) ∧ v6.cell? ⟨b, o + z * 3 + 1, none⟩ = some (.int .i64 ya) := keep6 hb6v hS0
                have H6v : Hid (RS w v6 mb (.slice (some ⟨b, o, none⟩) l.length ic) l os _ rs gv) := HS.out.2.grow (below_seq (below_new _ _) (below_seq (Below.refl _ _).drew hb6v))
                obtain ⟨v7, v8, hr7v, hr8v, hl7v, hl8v, hb7v, hb8v⟩ := er_map v6 14 17 9 10 (by omega) (by omega) (by omega) (by omega) (by decide)
                have d8v : v8.cell? ⟨wr.heap.size, 0, none⟩ = some (.int .i64 17) := below_cell hb8v hS6v.2.1
                have H8v : Hid (RS w v8 mb (.slice (some ⟨b, o, none⟩) l.length ic) l os _ rs gv) := H6v.out.grow hb8v
                clear hb5v hb6v hb7v hb8v
                by_cases e1 : yo = 16
                · subst e1
                  by_cases e2 : xa = ya
                  · subst e2
                    rename_i zq1 zq2 zq3 zq4 zq5 zq6 zq7 zq8 zq9 zq10 zq11
                    revert w l ic hl c k hmm HT zq1 zq2 hg w1 zq3 zq4 u4 u5 u6 u27 u28 u29 u30 u31 u32 u33 u34 u35 u36 u37 u38 zq5 zq6 zq7 zq8 zq9 HFO w2 mb ll1 wr u2 u9 u10 u11 u12 u45 u46 u47 u48 u49 u50 u51 u52 u53 u54 u55 u56 u57 u58 u59 u60 u61 u62 u63 u64 u65 u66 u67 u68 u69 u70 u71 u72 u73 u74 u75 u76 u77 u78 u79 u80 u81 u82 u83 u84 u85 u86 u87 u88 u89 u90 u91 u92 u93 u94 u95 u96 u97 u98 u99 u100 u101 u102 u103 u104 u105 u106 u107 u108 u109 u110 u111 u112 u113 u114 u115 u116 u117 u118 u119 u120 u121 u122 u123 u124 u125 u126 u127 u128 u129 u130 u131 u132 u133 u134 u135 u136 u137 u138 u139 u140 u141 u142 u143 u144 u145 u146 u147 u148 u149 u150 j os rs gv hj hol hrl hlt b o HK zq10 zq11 HI xa xb x1 x2 ll2 cl ol2 fo ml2 cm0 cm1 fm1 ord2 hne lb lo n lc hn co llb z clast hlow HZ yb y2 hwr hz0 x0 HS h13 h16 h14 w5 w6 hr5 hr6 hl5 hl6 H6 w7 w8 hr7 hr8 hl7 hl8 d8 H8 v5 v6 hr5v hr6v hl5v hl6v H6v v7 v8 hr7v hr8v hl7v hl8v d8v H8v y0 y1 HY hS0 hS5 hS6 hS5v hS6v
                    exact hp_f17d.out
                  · have g2 : (ya != xa) = true := by simpa using fun e => e2 e.symm
                    rename_i zq1 zq2 zq3 zq4 zq5 zq6 zq7 zq8 zq9 zq10 zq11
                    revert w l ic hl c k hmm HT zq1 zq2 hg w1 zq3 zq4 u4 u5 u6 u27 u28 u29 u30 u31 u32 u33 u34 u35 u36 u37 u38 zq5 zq6 zq7 zq8 zq9 HFO w2 mb ll1 wr u2 u9 u10 u11 u12 u45 u46 u47 u48 u49 u50 u51 u52 u53 u54 u55 u56 u57 u58 u59 u60 u61 u62 u63 u64 u65 u66 u67 u68 u69 u70 u71 u72 u73 u74 u75 u76 u77 u78 u79 u80 u81 u82 u83 u84 u85 u86 u87 u88 u89 u90 u91 u92 u93 u94 u95 u96 u97 u98 u99 u100 u101 u102 u103 u104 u105 u106 u107 u108 u109 u110 u111 u112 u113 u114 u115 u116 u117 u118 u119 u120 u121 u122 u123 u124 u125 u126 u127 u128 u129 u130 u131 u132 u133 u134 u135 u136 u137 u138 u139 u140 u141 u142 u143 u144 u145 u146 u147 u148 u149 u150 j os rs gv hj hol hrl hlt b o HK zq10 zq11 HI xa xb x1 x2 ll2 cl ol2 fo ml2 cm0 cm1 fm1 ord2 hne lb lo n lc hn co llb z clast hlow HZ ya yb y1 y2 hwr hz0 x0 HS h13 h16 h14 w5 w6 hr5 hr6 hl5 hl6 H6 w7 w8 hr7 hr8 hl7 hl8 d8 H8 v5 v6 hr5v hr6v hl5v hl6v H6v v7 v8 hr7v hr8v hl7v hl8v d8v H8v y0 HY hS0 hS5 hS6 hS5v hS6v e2 g2
                    exact hp_f17b.out
                · have g1 : (yo != 16) = true := by simpa using e1
                  rename_i zq1 zq2 zq3 zq4 zq5 zq6 zq7 zq8 zq9 zq10 zq11
                  revert w l ic hl c k hmm HT zq1 zq2 hg w1 zq3 zq4 u4 u5 u6 u27 u28 u29 u30 u31 u32 u33 u34 u35 u36 u37 u38 zq5 zq6 zq7 zq8 zq9 HFO w2 mb ll1 wr u2 u9 u10 u11 u12 u45 u46 u47 u48 u49 u50 u51 u52 u53 u54 u55 u56 u57 u58 u59 u60 u61 u62 u63 u64 u65 u66 u67 u68 u69 u70 u71 u72 u73 u74 u75 u76 u77 u78 u79 u80 u81 u82 u83 u84 u85 u86 u87 u88 u89 u90 u91 u92 u93 u94 u95 u96 u97 u98 u99 u100 u101 u102 u103 u104 u105 u106 u107 u108 u109 u110 u111 u112 u113 u114 u115 u116 u117 u118 u119 u120 u121 u122 u123 u124 u125 u126 u127 u128 u129 u130 u131 u132 u133 u134 u135 u136 u137 u138 u139 u140 u141 u142 u143 u144 u145 u146 u147 u148 u149 u150 j os rs gv hj hol hrl hlt b o HK zq10 zq11 HI xa xb x1 x2 ll2 cl ol2 fo ml2 cm0 cm1 fm1 ord2 hne lb lo n lc hn co llb z clast hlow HZ yo ya yb y0 y1 y2 HY hwr hz0 x0 HS h13 h16 h14 hS0 w5 w6 hr5 hr6 hl5 hl6 hS5 hS6 H6 w7 w8 hr7 hr8 hl7 hl8 d8 H8 v5 v6 hr5v hr6v hl5v hl6v hS5v hS6v H6v v7 v8 hr7v hr8v hl7v hl8v d8v H8v e1 g1
                  exact hp_f17a.out
              by_cases h15 : xo = 15
              · subst h15
                cases hamong : amongI l os 13 xa
                · rename_i zq1 zq2 zq3 zq4 zq5 zq6 zq7 zq8 zq9 zq10 zq11
                  revert w l ic hl c k hmm HT zq1 zq2 hg w1 zq3 zq4 u4 u5 u6 u27 u28 u29 u30 u31 u32 u33 u34 u35 u36 u37 u38 zq5 zq6 zq7 zq8 zq9 HFO w2 mb ll1 wr u2 u9 u10 u11 u12 u45 u46 u47 u48 u49 u50 u51 u52 u53 u54 u55 u56 u57 u58 u59 u60 u61 u62 u63 u64 u65 u66 u67 u68 u69 u70 u71 u72 u73 u74 u75 u76 u77 u78 u79 u80 u81 u82 u83 u84 u85 u86 u87 u88 u89 u90 u91 u92 u93 u94 u95 u96 u97 u98 u99 u100 u101 u102 u103 u104 u105 u106 u107 u108 u109 u110 u111 u112 u113 u114 u115 u116 u117 u118 u119 u120 u121 u122 u123 u124 u125 u126 u127 u128 u129 u130 u131 u132 u133 u134 u135 u136 u137 u138 u139 u140 u141 u142 u143 u144 u145 u146 u147 u148 u149 u150 j os rs gv hj hol hrl hlt b o HK zq10 zq11 HI xa xb x1 x2 ll2 cl ol2 fo ml2 cm0 cm1 fm1 ord2 hne lb lo n lc hn co llb z clast hlow HZ yo ya yb y0 y1 y2 HY hwr hz0 x0 HS h13 h16 h14 h17 hamong
                  exact hp_f15n.out
                · rename_i zq1 zq2 zq3 zq4 zq5 zq6 zq7 zq8 zq9 zq10 zq11
                  revert w l ic hl c k hmm HT zq1 zq2 hg w1 zq3 zq4 u4 u5 u6 u27 u28 u29 u30 u31 u32 u33 u34 u35 u36 u37 u38 zq5 zq6 zq7 zq8 zq9 HFO w2 mb ll1 wr u2 u9 u10 u11 u12 u45 u46 u47 u48 u49 u50 u51 u52 u53 u54 u55 u56 u57 u58 u59 u60 u61 u62 u63 u64 u65 u66 u67 u68 u69 u70 u71 u72 u73 u74 u75 u76 u77 u78 u79 u80 u81 u82 u83 u84 u85 u86 u87 u88 u89 u90 u91 u92 u93 u94 u95 u96 u97 u98 u99 u100 u101 u102 u103 u104 u105 u106 u107 u108 u109 u110 u111 u112 u113 u114 u115 u116 u117 u118 u119 u120 u121 u122 u123 u124 u125 u126 u127 u128 u129 u130 u131 u132 u133 u134 u135 u136 u137 u138 u139 u140 u141 u142 u143 u144 u145 u146 u147 u148 u149 u150 j os rs gv hj hol hrl hlt b o HK zq10 zq11 HI xa xb x1 x2 ll2 cl ol2 fo ml2 cm0 cm1 fm1 ord2 hne lb lo n lc hn co llb z clast hlow HZ yo ya yb y0 y1 y2 HY hwr hz0 x0 HS h13 h16 h14 h17 hamong
                  exact hp_f15y.out
              · rename_i zq1 zq2 zq3 zq4 zq5 zq6 zq7 zq8 zq9 zq10 zq11
                revert w l ic hl c k hmm HT zq1 zq2 hg w1 zq3 zq4 u4 u5 u6 u27 u28 u29 u30 u31 u32 u33 u34 u35 u36 u37 u38 zq5 zq6 zq7 zq8 zq9 HFO w2 mb ll1 wr u2 u9 u10 u11 u12 u45 u46 u47 u48 u49 u50 u51 u52 u53 u54 u55 u56 u57 u58 u59 u60 u61 u62 u63 u64 u65 u66 u67 u68 u69 u70 u71 u72 u73 u74 u75 u76 u77 u78 u79 u80 u81 u82 u83 u84 u85 u86 u87 u88 u89 u90 u91 u92 u93 u94 u95 u96 u97 u98 u99 u100 u101 u102 u103 u104 u105 u106 u107 u108 u109 u110 u111 u112 u113 u114 u115 u116 u117 u118 u119 u120 u121 u122 u123 u124 u125 u126 u127 u128 u129 u130 u131 u132 u133 u134 u135 u136 u137 u138 u139 u140 u141 u142 u143 u144 u145 u146 u147 u148 u149 u150 j os rs gv hj hol hrl hlt b o HK zq10 zq11 HI xo xa xb x0 x1 x2 ll2 cl ol2 fo ml2 cm0 cm1 fm1 ord2 hne lb lo n lc hn co llb z clast HS hlow HZ yo ya yb y0 y1 y2 HY hwr hz0 h13 h16 h14 h17 h15
                exact hp_fo.out
          · have hje : j = l.length := by omega
            subst hje
            rw [List.drop_length, docNest] at hsc
            obtain ⟨ls2, lf2, ll2⟩ := cells_of (l := [_]) hrs.lbk
            have cl := ls2 0 _ rfl
            obtain ⟨os2, of2, ol2⟩ := cells_of (l := [_]) hrs.opn
            have co := os2 0 _ rfl
            have ord2 := hrs.ord
            have HN : Hid (docNest l l 0 [] [] = .inr (os, rs) ∧ RS w wr mb (.slice iad l.length ic) l os ov rs gv) := ⟨hsc.symm, hrs⟩
            clear hsc ls2 lf2 os2 of2
            cases os with
            | cons z os =>
              obtain ⟨lb, lo, n, lc, hov, hn, clast, cfirst, hmem⟩ := last_of (at_of_own hrs.own) (List.cons_ne_nil _ _)
              subst hov
              have hlow := hrs.low z (by simp)
              obtain ⟨iad', ic', e, himg⟩ := HK.out.1.below hrs.bel
              cases e
              rcases himg with h0 | ⟨b, o, rfl, himg⟩
              · rw [h0] at hlow; simp at hlow
              obtain ⟨y0, y1, y2⟩ := himg z hlow
              have llb : lb < wr.heap.size := World.block_lt_of_cell? _ _ clast
              simp only [List.getD_cons_zero] at cfirst
              have hck := docI_open hl HFO.out HN.out.1
              clear hrs himg clast hmem
              generalize l.getD z in0 = y at *
              obtain ⟨yo, ya, yb⟩ := y
              dsimp only at y0 y1 y2 hck
              have hcc := HK.out.2.symm.trans hck
              simp only [Prod.mk.injEq] at hcc
              obtain ⟨hc1, rfl⟩ := hcc
              by_cases e13 : yo = 13
              · subst e13
                rw [if_pos rfl] at hc1
                subst hc1
                rename_i zq1 zq2 zq3 zq4 zq5 zq6 zq7 zq8 zq9 zq10 zq11
                revert w l ic hl hmm HT zq1 hg w1 zq2 zq3 u4 u5 u6 u27 u28 u29 u30 u31 u32 u33 u34 u35 u36 u37 u38 zq4 zq5 zq6 zq7 HFO w2 mb ll1 wr u2 u9 u10 u11 u12 u45 u46 u47 u48 u49 u50 u51 u52 u53 u54 u55 u56 u57 u58 u59 u60 u61 u62 u63 u64 u65 u66 u67 u68 u69 u70 u71 u72 u73 u74 u75 u76 u77 u78 u79 u80 u81 u82 u83 u84 u85 u86 u87 u88 u89 u90 u91 u92 u93 u94 u95 u96 u97 u98 u99 u100 u101 u102 u103 u104 u105 u106 u107 u108 u109 u110 u111 u112 u113 u114 u115 u116 u117 u118 u119 u120 u121 u122 u123 u124 u125 u126 u127 u128 u129 u130 u131 u132 u133 u134 u135 u136 u137 u138 u139 u140 u141 u142 u143 u144 u145 u146 u147 u148 u149 u150 rs gv hj hrl hlt ll2 ol2 ord2 z os hol lb lo n lc hn co hlow b o cl HN llb cfirst ya yb y1 y2 y0 hck zq8 zq9 HK zq10 zq11
                exact hp_O9.out
              · have g13 : (yo == 13) = false := by simpa using e13
                rw [if_neg e13] at hc1
                subst hc1
                rename_i zq1 zq2 zq3 zq4 zq5 zq6 zq7 zq8 zq9 zq10 zq11
                revert w l ic hl hmm HT zq1 hg w1 zq2 zq3 u4 u5 u6 u27 u28 u29 u30 u31 u32 u33 u34 u35 u36 u37 u38 zq4 zq5 zq6 zq7 HFO w2 mb ll1 wr u2 u9 u10 u11 u12 u45 u46 u47 u48 u49 u50 u51 u52 u53 u54 u55 u56 u57 u58 u59 u60 u61 u62 u63 u64 u65 u66 u67 u68 u69 u70 u71 u72 u73 u74 u75 u76 u77 u78 u79 u80 u81 u82 u83 u84 u85 u86 u87 u88 u89 u90 u91 u92 u93 u94 u95 u96 u97 u98 u99 u100 u101 u102 u103 u104 u105 u106 u107 u108 u109 u110 u111 u112 u113 u114 u115 u116 u117 u118 u119 u120 u121 u122 u123 u124 u125 u126 u127 u128 u129 u130 u131 u132 u133 u134 u135 u136 u137 u138 u139 u140 u141 u142 u143 u144 u145 u146 u147 u148 u149 u150 rs gv hj hrl hlt ll2 ol2 ord2 z os hol lb lo n lc hn co hlow b o cl HN llb cfirst yo ya yb y0 y1 y2 hck e13 g13 zq8 zq9 HK zq10 zq11
                exact hp_O10.out
            | nil =>
              obtain ⟨ad0, cap0, hov⟩ := owns_value hrs.own
              subst hov
              simp only [List.length_nil] at co HN
              clear hrs
              go_wp2_with fail
              go_loopw [172] (fun i wq => ∃ j : Nat, j ≤ l.length ∧ i = .int .i64 j ∧ scan (docJump l rs) (l.drop j) j = scan (docJump l rs) l 0 ∧ RS w wq mb (.slice iad l.length ic) l [] (.slice ad0 0 cap0) rs gv) (fun i _ => l.length - (intOf i).toNat)
              case atStart => exact ⟨0, Nat.zero_le _, rfl, rfl, HN.out.2⟩
              case round =>
                obtain ⟨j, hj, rfl, hsc, hrs⟩ := hrel
                by_cases hlt : j < l.length
                · obtain ⟨iad', ic', e, himg⟩ := HK.out.1.below hrs.bel
                  cases e
                  rcases himg with h0 | ⟨b, o, rfl, himg⟩
                  · rw [h0] at hlt; simp at hlt
                  obtain ⟨x0, x1, x2⟩ := himg j hlt
                  rw [scan_at _ hlt] at hsc
                  have hfo := scan_none _ l 0 HFO.out j hlt
                  have HS : Hid (_ ∧ _ ∧ _) := ⟨hsc, hrs, hfo⟩
                  clear himg hsc hrs hfo
                  generalize l.getD j in0 = x at *
                  obtain ⟨xo, xa, xb⟩ := x
                  dsimp only at x0 x1 x2
                  by_cases ho : xo ≠ 11 ∧ xo ≠ 12
                  · have f1 : (xo != 11) = true := by simpa using ho.1
                    have f2 : (xo != 12) = true := by simpa using ho.2
                    have hz : docJump l rs j ⟨xo, xa, xb⟩ = 0 := by unfold docJump; rw [if_pos ho]
                    rw [hz] at HS
                    go_wp2_with fail
                    go_roundw
                    case rel => exact ⟨j + 1, by omega, by go_num, by have := HS.out.1; rw [if_neg (by simp)] at this; exact this, HS.out.2.1.grow (below_new _ _)⟩
                    case measure => simp [intOf]; omega
                  · have hop : xo = 11 ∨ xo = 12 := by omega
                    have hlo := low_a (x := ⟨xo, xa, xb⟩) (by simpa using HS.out.2.2) hop
                    dsimp only at hlo
                    obtain ⟨m, rfl⟩ : ∃ m : Nat, xa = m := ⟨xa.toNat, by omega⟩
                    rcases hop with rfl | rfl
                    · rename_i zq1 zq2 zq3 zq4 zq5 zq6 zq7 zq8 zq9 zq10 zq11 zq12 zq13 zq14 zq15 zq16 zq17 zq18 zq19
                      revert w l ic hl c k hmm HT zq1 zq2 hg w1 zq3 zq4 u4 u5 u6 u27 u28 u29 u30 u31 u32 u33 u34 u35 u36 u37 u38 zq5 zq6 zq7 zq8 HFO w2 mb ll1 zq9 zq10 u9 u10 u11 u12 u45 u46 u47 u48 u49 u50 u51 u52 u53 u54 u55 u56 u57 u58 u59 u60 u61 u62 u63 u64 u65 u66 u67 u68 u69 u70 u71 u72 u73 u74 u75 u76 u77 u78 u79 u80 u81 u82 u83 u84 u85 u86 u87 u88 u89 u90 u91 u92 u93 u94 u95 u96 u97 u98 u99 u100 u101 u102 u103 u104 u105 u106 u107 u108 u109 u110 u111 u112 u113 u114 u115 u116 u117 u118 u119 u120 u121 u122 u123 u124 u125 u126 u127 u128 u129 u130 u131 u132 u133 u134 u135 u136 u137 u138 u139 u140 u141 u142 u143 u144 u145 u146 u147 u148 u149 u150 rs gv zq11 hrl zq12 ll2 ol2 ord2 hol ad0 cap0 co zq13 zq14 zq15 wr u2 u13 u14 u15 u16 u17 u18 u173 u174 u175 u176 u177 u178 u179 u180 u181 u182 u183 u184 u185 u186 u187 u188 u189 u190 u191 u192 u193 u194 u195 u196 u197 u198 u199 u200 u201 u202 u203 u204 u205 u206 u207 u208 u209 u210 u211 u212 u213 u214 u215 u216 u217 u218 u219 u220 u221 j hj hlt b o HK zq16 zq17 cl HN zq18 zq19 xb x2 m x1 hlo x0 ho HS
                      exact hp_J11.out
                    · rename_i zq1 zq2 zq3 zq4 zq5 zq6 zq7 zq8 zq9 zq10 zq11 zq12 zq13 zq14 zq15 zq16 zq17 zq18 zq19
                      revert w l ic hl c k hmm HT zq1 zq2 hg w1 zq3 zq4 u4 u5 u6 u27 u28 u29 u30 u31 u32 u33 u34 u35 u36 u37 u38 zq5 zq6 zq7 zq8 HFO w2 mb ll1 zq9 zq10 u9 u10 u11 u12 u45 u46 u47 u48 u49 u50 u51 u52 u53 u54 u55 u56 u57 u58 u59 u60 u61 u62 u63 u64 u65 u66 u67 u68 u69 u70 u71 u72 u73 u74 u75 u76 u77 u78 u79 u80 u81 u82 u83 u84 u85 u86 u87 u88 u89 u90 u91 u92 u93 u94 u95 u96 u97 u98 u99 u100 u101 u102 u103 u104 u105 u106 u107 u108 u109 u110 u111 u112 u113 u114 u115 u116 u117 u118 u119 u120 u121 u122 u123 u124 u125 u126 u127 u128 u129 u130 u131 u132 u133 u134 u135 u136 u137 u138 u139 u140 u141 u142 u143 u144 u145 u146 u147 u148 u149 u150 rs gv zq11 hrl zq12 ll2 ol2 ord2 hol ad0 cap0 co zq13 zq14 zq15 wr u2 u13 u14 u15 u16 u17 u18 u173 u174 u175 u176 u177 u178 u179 u180 u181 u182 u183 u184 u185 u186 u187 u188 u189 u190 u191 u192 u193 u194 u195 u196 u197 u198 u199 u200 u201 u202 u203 u204 u205 u206 u207 u208 u209 u210 u211 u212 u213 u214 u215 u216 u217 u218 u219 u220 u221 j hj hlt b o HK zq16 zq17 cl HN zq18 zq19 xb x2 m x1 hlo x0 ho HS
                      exact hp_J12.out
                · have hje : j = l.length := by omega
                  subst hje
                  rw [List.drop_length] at hsc
                  rename_i zq1 zq2 zq3 zq4 zq5 zq6 zq7 zq8 zq9 zq10 zq11 zq12 zq13 zq14 zq15 zq16 zq17 zq18 zq19
                  revert w l iad ic hl c k hmm HK HT zq1 zq2 hg w1 zq3 zq4 u4 u5 u6 u27 u28 u29 u30 u31 u32 u33 u34 u35 u36 u37 u38 zq5 zq6 zq7 zq8 zq9 zq10 HFO w2 mb ll1 zq11 zq12 u9 u10 u11 u12 u45 u46 u47 u48 u49 u50 u51 u52 u53 u54 u55 u56 u57 u58 u59 u60 u61 u62 u63 u64 u65 u66 u67 u68 u69 u70 u71 u72 u73 u74 u75 u76 u77 u78 u79 u80 u81 u82 u83 u84 u85 u86 u87 u88 u89 u90 u91 u92 u93 u94 u95 u96 u97 u98 u99 u100 u101 u102 u103 u104 u105 u106 u107 u108 u109 u110 u111 u112 u113 u114 u115 u116 u117 u118 u119 u120 u121 u122 u123 u124 u125 u126 u127 u128 u129 u130 u131 u132 u133 u134 u135 u136 u137 u138 u139 u140 u141 u142 u143 u144 u145 u146 u147 u148 u149 u150 rs gv zq13 hrl zq14 ll2 cl ol2 ord2 hol ad0 cap0 co HN zq15 zq16 zq17 zq18 zq19 wr u2 u13 u14 u15 u16 u17 u18 u173 u174 u175 u176 u177 u178 u179 u180 u181 u182 u183 u184 u185 u186 u187 u188 u189 u190 u191 u192 u193 u194 u195 u196 u197 u198 u199 u200 u201 u202 u203 u204 u205 u206 u207 u208 u209 u210 u211 u212 u213 u214 u215 u216 u217 u218 u219 u220 u221 hrs hj hsc hlt
                  exact hp_S.out
end Go.Proofs.YtgemadoieielcacDoor
