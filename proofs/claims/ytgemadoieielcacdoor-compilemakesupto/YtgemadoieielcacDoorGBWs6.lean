import Derived.Test.YtgemadoieielcacDoorGBWsP
import Derived.Test.YtgemadoieielcacDoorGBSame
import Derived.Deep.CutRange
namespace Go.Proofs.YtgemadoieielcacDoor.B
open Go.ChangeShapes Go.WideShapes Go.ChangeAt Go.RowKit

set_option maxRecDepth 20000 in
set_option maxHeartbeats 4000000 in
theorem ws6 (w : World) (sn ck ek en ak an bk bn d : Int) (ead aad bad yad lad lo : Option Addr) (em ec am ac bm bc ly yc ll lc lm lcap : Nat) (se sca scb : Ex)
    (h1 : se.In w (.agg #[.int .i64 ek, .int .i64 en, .slice ead em ec])) (h2 : sca.In w (.agg #[.int .i64 ak, .int .i64 an, .slice aad am ac])) (h3 : scb.In w (.agg #[.int .i64 bk, .int .i64 bn, .slice bad bm bc]))
    (_hn : se.nodes ≤ 1048576 ∧ sca.nodes ≤ 1048576 ∧ scb.nodes ≤ 1048576) (ls : List Int) (hlk : LocksIn w (.slice lo lm lcap) ls) (hlm : ls.length ≤ 1000) :
    Calls Tryd.prog 98 #[.agg #[.int .i64 6, .int .i64 sn, .int .i64 ek, .int .i64 en, .slice ead em ec, .int .i64 ck, .int .i64 ak, .int .i64 an, .slice aad am ac, .int .i64 bk, .int .i64 bn, .slice bad bm bc, .slice yad ly yc, .slice lad ll lc, .int .i64 d, .slice lo lm lcap]] w
      fun r w' => r = .returned (.int .i64 (stErr 6 sn (exNone ek en em) (wrongL (se.pre 31) 0) ck (exNone ak an am) (exNone bk bn bm) (wrongL (sca.pre 31) 0) (wrongL (scb.pre 31) 0) ly ll d (decide (sn ∈ ls)))) ∧ Below w.heap.size w w' := by
  have HI : Hid (_ ∧ _ ∧ _ ∧ _) := ⟨h1, h2, h3, hlk⟩
  have hlm' : lm = ls.length := by obtain ⟨_, _, hv, _⟩ := hlk; cases hv; rfl
  subst hlm'
  clear h1 h2 h3 hlk
  have HS := stErr_6 sn (exNone ek en em) (wrongL (se.pre 31) 0) ck (exNone ak an am) (exNone bk bn bm) (wrongL (sca.pre 31) 0) (wrongL (scb.pre 31) 0) ly ll d (decide (sn ∈ ls))
  rw [HS]
  clear HS
  generalize hE : exNone ek en em = eN
  generalize hA : exNone ak an am = aN
  generalize hB : exNone bk bn bm = bN
  generalize hwE : wrongL (se.pre 31) 0 = wE
  generalize hwA : wrongL (sca.pre 31) 0 = wA
  generalize hwB : wrongL (scb.pre 31) 0 = wB
  go_enter Tryd.func98, Tryd.ntmps98
  go_upto_region 6 with fail
  obtain ⟨W, hWe, hBW, hz, b14, b15, d0, d1, d2, d3, d4, d5, d6, d7, d8, d9, d10, d11, d12, d13⟩ := heads w (.int .i64 6) (.int .i64 sn) (.int .i64 ek) (.int .i64 en) (.slice ead em ec) (.int .i64 ck) (.int .i64 ak) (.int .i64 an) (.slice aad am ac) (.int .i64 bk) (.int .i64 bn) (.slice bad bm bc) (.slice yad ly yc) (.slice lad ll lc) (.int .i64 d) (.slice lo ls.length lcap) #[.int .i64 0, .int .i64 0, .int .i64 0, .int .i64 0, .int .i64 0, .int .i64 0, .int .i64 0, .int .i64 1] #[.int .i64 0, .int .i64 7, .int .i64 3, .int .i64 0, .int .i64 1000, .int .i64 1000, .int .i64 3, .int .i64 1000] 3 3
  rw [← hWe]
  clear hWe
  have hz' : w.heap.size < W.heap.size := by omega
  have HB : Hid (Below w.heap.size w W) := hBW
  have HW : Hid (Below W.heap.size W W) := Below.refl _ _
  clear hBW
  go_wp2_with (first
    | (go_at_call_of 128 ek; refine (emptyExpr_any _ _ _ _ _ _).mono ?_; rintro e w' ⟨rfl, hb'⟩; rw [hE]; obtain ⟨HW, hc⟩ := next_world HW hb'; clear hb')
    | (go_at_call_of 128 ak; refine (emptyExpr_any _ _ _ _ _ _).mono ?_; rintro e w' ⟨rfl, hb'⟩; rw [hA]; obtain ⟨HW, hc⟩ := next_world HW hb'; clear hb')
    | (go_at_call_of 128 bk; refine (emptyExpr_any _ _ _ _ _ _).mono ?_; rintro e w' ⟨rfl, hb'⟩; rw [hB]; obtain ⟨HW, hc⟩ := next_world HW hb'; clear hb')
    | (go_at_call_of 129 ek; refine (wrongExpr_any se _ _ _hn.1 (Ex.In.below (below_seq HB.out HW.out) _ HI.out.1)).mono ?_; rintro e w' ⟨rfl, hb'⟩; rw [hwE]; obtain ⟨HW, hc⟩ := next_world HW hb'; clear hb')
    | (go_at_call_of 129 ak; refine (wrongExpr_any sca _ _ _hn.2.1 (Ex.In.below (below_seq HB.out HW.out) _ HI.out.2.1)).mono ?_; rintro e w' ⟨rfl, hb'⟩; rw [hwA]; obtain ⟨HW, hc⟩ := next_world HW hb'; clear hb')
    | (go_at_call_of 129 bk; refine (wrongExpr_any scb _ _ _hn.2.2 (Ex.In.below (below_seq HB.out HW.out) _ HI.out.2.2.1)).mono ?_; rintro e w' ⟨rfl, hb'⟩; rw [hwB]; obtain ⟨HW, hc⟩ := next_world HW hb'; clear hb'))
  all_goals first
    | (go_ret
       refine ⟨ret_int ?_, below_seq HB.out HW.out⟩
       clear HB HW HI b14 b15 d0 d1 d2 d3 d4 d5 d6 d7 d8 d9 d10 d11 d12 d13 hE hA hB hwE hwA hwB
       grind)
    | skip
  have hlk := HI.out.2.2.2.keep (keepsInts_below (below_seq HB.out HW.out))
  have HL : Hid _ := hlk
  clear hlk d0 d2 d3 d4 d5 d6 d7 d8 d9 d10 d11 d12 d13 b14 b15
  go_loop [13, 161] (fun _ i => ∃ j : Nat, j ≤ ls.length ∧ i = .int .i64 j ∧ sn ∉ ls.take j) (fun _ i => ls.length - (intOf i).toNat)
  case atStart => exact ⟨0, Nat.zero_le _, rfl, by simp⟩
  case round =>
    obtain ⟨j, hj, rfl, hni⟩ := hrel
    by_cases hlt : j < ls.length
    · obtain ⟨ad, c, hv, -, hl⟩ := HL.out
      cases hv
      rcases hl with hl | ⟨b, o, rfl, -, hcell⟩
      · subst hl; simp at hlt
      have hcj := hcell j ls[j] (by simp [hlt])
      have htk := List.take_succ_eq_append_getElem hlt
      by_cases he : ls[j] = sn
      · have hm : Hid (sn ∈ ls) := by rw [← he]; exact List.getElem_mem hlt
        rw [he] at hcj
        clear hcell hni htk
        go_wp2_with fail
        all_goals
          go_ret
          refine ⟨ret_int ?_, below_seq HB.out HW.out⟩
          have hm' := hm.out
          clear HB HW HI HL hE hA hB hwE hwA hwB hm
          grind
      · have hne : (ls[j] == sn) = false := by simpa using he
        have HN : Hid (sn ∉ ls.take (j + 1)) := by
          rw [htk]
          simp only [List.mem_append, List.mem_singleton, not_or]
          exact ⟨hni, fun h => he h.symm⟩
        clear hcell hni htk
        generalize ls[j] = y at *
        go_wp2_with fail
        go_round
        case rel => exact ⟨j + 1, by omega, by go_num, HN.out⟩
        case measure => simp [intOf]; omega
    · have hm : Hid (sn ∉ ls) := by rw [List.take_of_length_le (by omega)] at hni; exact hni
      clear hni
      go_wp2_with fail
      all_goals
        go_ret
        refine ⟨ret_int ?_, below_seq HB.out HW.out⟩
        have hm' := hm.out
        clear HB HW HI HL hE hA hB hwE hwA hwB hm
        grind
end Go.Proofs.YtgemadoieielcacDoor.B
