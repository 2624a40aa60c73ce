import Derived.Test.YtgemadoieielcacDoorGBWsP
import Derived.Test.YtgemadoieielcacDoorGBSame
import Derived.Deep.CutRange
namespace Go.Proofs.YtgemadoieielcacDoor.B
open Go.ChangeShapes Go.WideShapes Go.ChangeAt Go.RowKit

set_option maxRecDepth 20000 in
set_option maxHeartbeats 4000000 in
theorem ws5 (w : World) (sn ck ek en ak an bk bn d : Int) (ead aad bad yad lad lo : Option Addr) (em ec am ac bm bc ly yc ll lc lm lcap : Nat) (se sca scb : Ex)
    (h1 : se.In w (.agg #[.int .i64 ek, .int .i64 en, .slice ead em ec])) (h2 : sca.In w (.agg #[.int .i64 ak, .int .i64 an, .slice aad am ac])) (h3 : scb.In w (.agg #[.int .i64 bk, .int .i64 bn, .slice bad bm bc]))
    (hn : se.nodes ≤ 1048576 ∧ sca.nodes ≤ 1048576 ∧ scb.nodes ≤ 1048576) (lk : Bool) :
    Calls Tryd.prog 98 #[.agg #[.int .i64 5, .int .i64 sn, .int .i64 ek, .int .i64 en, .slice ead em ec, .int .i64 ck, .int .i64 ak, .int .i64 an, .slice aad am ac, .int .i64 bk, .int .i64 bn, .slice bad bm bc, .slice yad ly yc, .slice lad ll lc, .int .i64 d, .slice lo lm lcap]] w
      fun r w' => r = .returned (.int .i64 (stErr 5 sn (exNone ek en em) (wrongL (se.pre 31) 0) ck (exNone ak an am) (exNone bk bn bm) (wrongL (sca.pre 31) 0) (wrongL (scb.pre 31) 0) ly ll d lk)) ∧ Below w.heap.size w w' := by
  have HI : Hid (_ ∧ _ ∧ _) := ⟨h1, h2, h3⟩
  clear h1 h2 h3
  have HS := stErr_5 sn (exNone ek en em) (wrongL (se.pre 31) 0) ck (exNone ak an am) (exNone bk bn bm) (wrongL (sca.pre 31) 0) (wrongL (scb.pre 31) 0) ly ll d lk
  rw [HS]
  clear HS
  generalize hE : exNone ek en em = eN
  generalize hA : exNone ak an am = aN
  generalize hB : exNone bk bn bm = bN
  generalize hwE : wrongL (se.pre 31) 0 = wE
  generalize hwA : wrongL (sca.pre 31) 0 = wA
  generalize hwB : wrongL (scb.pre 31) 0 = wB
  go_enter Tryd.func98, Tryd.ntmps98
  go_upto_region 6 with fail
  obtain ⟨W, hWe, hBW, hz, b14, b15, d0, d1, d2, d3, d4, d5, d6, d7, d8, d9, d10, d11, d12, d13⟩ := heads w (.int .i64 5) (.int .i64 sn) (.int .i64 ek) (.int .i64 en) (.slice ead em ec) (.int .i64 ck) (.int .i64 ak) (.int .i64 an) (.slice aad am ac) (.int .i64 bk) (.int .i64 bn) (.slice bad bm bc) (.slice yad ly yc) (.slice lad ll lc) (.int .i64 d) (.slice lo lm lcap) #[.int .i64 0, .int .i64 0, .int .i64 0, .int .i64 0, .int .i64 0, .int .i64 0, .int .i64 0, .int .i64 1] #[.int .i64 0, .int .i64 7, .int .i64 3, .int .i64 0, .int .i64 1000, .int .i64 1000, .int .i64 3, .int .i64 1000] 3 3
  rw [← hWe]
  clear hWe
  have hz' : w.heap.size < W.heap.size := by omega
  have HB : Hid (Below w.heap.size w W) := hBW
  have HW : Hid (Below W.heap.size W W) := Below.refl _ _
  clear hBW
  go_wp2_with (first
    | (go_at_call_of 128 ek; refine (emptyExpr_any _ _ _ _ _ _).mono ?_; rintro e w' ⟨rfl, hb'⟩; rw [hE]; obtain ⟨HW, hc⟩ := next_world HW hb'; clear hb')
    | (go_at_call_of 128 ak; refine (emptyExpr_any _ _ _ _ _ _).mono ?_; rintro e w' ⟨rfl, hb'⟩; rw [hA]; obtain ⟨HW, hc⟩ := next_world HW hb'; clear hb')
    | (go_at_call_of 128 bk; refine (emptyExpr_any _ _ _ _ _ _).mono ?_; rintro e w' ⟨rfl, hb'⟩; rw [hB]; obtain ⟨HW, hc⟩ := next_world HW hb'; clear hb')
    | (go_at_call_of 129 ek; refine (wrongExpr_any se _ _ hn.1 (Ex.In.below (below_seq HB.out HW.out) _ HI.out.1)).mono ?_; rintro e w' ⟨rfl, hb'⟩; rw [hwE]; obtain ⟨HW, hc⟩ := next_world HW hb'; clear hb')
    | (go_at_call_of 129 ak; refine (wrongExpr_any sca _ _ hn.2.1 (Ex.In.below (below_seq HB.out HW.out) _ HI.out.2.1)).mono ?_; rintro e w' ⟨rfl, hb'⟩; rw [hwA]; obtain ⟨HW, hc⟩ := next_world HW hb'; clear hb')
    | (go_at_call_of 129 bk; refine (wrongExpr_any scb _ _ hn.2.2 (Ex.In.below (below_seq HB.out HW.out) _ HI.out.2.2)).mono ?_; rintro e w' ⟨rfl, hb'⟩; rw [hwB]; obtain ⟨HW, hc⟩ := next_world HW hb'; clear hb'))
  all_goals
    go_ret
    refine ⟨ret_int ?_, below_seq HB.out HW.out⟩
    clear HB HW HI b14 b15 d0 d1 d2 d3 d4 d5 d6 d7 d8 d9 d10 d11 d12 d13 hE hA hB hwE hwA hwB
    grind
end Go.Proofs.YtgemadoieielcacDoor.B
