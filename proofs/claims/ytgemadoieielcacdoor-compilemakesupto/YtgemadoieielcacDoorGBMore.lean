import Derived.Test.YtgemadoieielcacDoorGBLooks
import Derived.Test.YtgemadoieielcacDoorGBSame
import Derived.Deep.CutRange
namespace Go.Proofs.YtgemadoieielcacDoor.B
open Go.ChangeShapes Go.WideShapes Go.ChangeAt Go.RowKit

/-- Has a statement something that its kind doesn't use? -/
def moreS (hv hc hi ho eN : Bool) (ck : Int) (aN bN : Bool) (ly ll : Nat) : Bool :=
  (!hv && !eN) || (!hc && (!decide (ck = 0) || !aN || !bN)) || (!hi && decide (0 < ly)) || (!ho && decide (0 < ll))

set_option maxRecDepth 20000 in
set_option maxHeartbeats 4000000 in
theorem hasMore_any (w : World) (sk sn ck ek en ak an bk bn lo mo : Int) (ead aad bad yad lad : Option Addr) (em ec am ac bm bc ly yc ll lc : Nat) (hv hc hi ho : Bool) :
    Calls Tryd.prog 138 #[.agg #[.int .i64 sk, .int .i64 sn, .int .i64 ek, .int .i64 en, .slice ead em ec, .int .i64 ck, .int .i64 ak, .int .i64 an, .slice aad am ac, .int .i64 bk, .int .i64 bn, .slice bad bm bc, .slice yad ly yc, .slice lad ll lc], .agg #[.int .i64 lo, .int .i64 mo, .bool hv, .bool hc, .bool hi, .bool ho]] w
      fun r w' => r = .returned (.bool (moreS hv hc hi ho (exNone ek en em) ck (exNone ak an am) (exNone bk bn bm) ly ll)) ∧ Below w.heap.size w w' := by
  generalize hE : exNone ek en em = eN
  generalize hA : exNone ak an am = aN
  generalize hB : exNone bk bn bm = bN
  have hW : ∃ W, W = (w.alloc (.cells #[.int .i64 sk, .int .i64 sn, .int .i64 ek, .int .i64 en, .slice ead em ec, .int .i64 ck, .int .i64 ak, .int .i64 an, .slice aad am ac, .int .i64 bk, .int .i64 bn, .slice bad bm bc, .slice yad ly yc, .slice lad ll lc] 123)).alloc (.cells #[.int .i64 lo, .int .i64 mo, .bool hv, .bool hc, .bool hi, .bool ho] 203) := ⟨_, rfl⟩
  obtain ⟨W, hWe⟩ := hW
  have hBW : Below w.heap.size w W := by rw [hWe]; exact ((Below.refl _ _).alloc (Nat.le_refl _) _).alloc (by simp) _
  have hz : w.heap.size + 1 < W.heap.size := by rw [hWe]; simp
  have hz' : w.heap.size < W.heap.size := by omega
  have hcell : ∀ (i : Nat) (u : Value), #[Value.int .i64 sk, .int .i64 sn, .int .i64 ek, .int .i64 en, .slice ead em ec, .int .i64 ck, .int .i64 ak, .int .i64 an, .slice aad am ac, .int .i64 bk, .int .i64 bn, .slice bad bm bc, .slice yad ly yc, .slice lad ll lc][i]? = some u → W.cell? ⟨w.heap.size, i, none⟩ = some u := by
    intro i u hu
    rw [hWe, World.cell?_alloc_past _ _ _ (by simp), World.cell?_alloc_at _ _ _ _ rfl]; exact hu
  have hcel2 : ∀ (i : Nat) (u : Value), #[Value.int .i64 lo, .int .i64 mo, .bool hv, .bool hc, .bool hi, .bool ho][i]? = some u → W.cell? ⟨w.heap.size + 1, i, none⟩ = some u := by
    intro i u hu
    rw [hWe, World.cell?_alloc_at _ _ _ _ (by simp)]; exact hu
  have d2 := hcell 2 _ rfl
  have d3 := hcell 3 _ rfl
  have d4 := hcell 4 _ rfl
  have d5 := hcell 5 _ rfl
  have d6 := hcell 6 _ rfl
  have d7 := hcell 7 _ rfl
  have d8 := hcell 8 _ rfl
  have d9 := hcell 9 _ rfl
  have d10 := hcell 10 _ rfl
  have d11 := hcell 11 _ rfl
  have d12 := hcell 12 _ rfl
  have d13 := hcell 13 _ rfl
  have e2 := hcel2 2 _ rfl
  have e3 := hcel2 3 _ rfl
  have e4 := hcel2 4 _ rfl
  have e5 := hcel2 5 _ rfl
  clear hcell hcel2
  have HB : Hid (Below w.heap.size w W) := hBW
  have HW : Hid (Below W.heap.size W W) := Below.refl _ _
  clear hBW
  go_enter Tryd.func138, Tryd.ntmps138
  go_upto_region 1 with fail
  rw [← hWe]
  clear hWe
  go_wp2_with (first
    | (go_at_call_of 152 ek; refine (isNone_any _ _ _ _ _ _).mono ?_; rintro e w' ⟨rfl, hb'⟩; rw [hE]; obtain ⟨HW, hcc⟩ := next_world HW hb'; clear hb')
    | (go_at_call_of 152 ak; refine (isNone_any _ _ _ _ _ _).mono ?_; rintro e w' ⟨rfl, hb'⟩; rw [hA]; obtain ⟨HW, hcc⟩ := next_world HW hb'; clear hb')
    | (go_at_call_of 152 bk; refine (isNone_any _ _ _ _ _ _).mono ?_; rintro e w' ⟨rfl, hb'⟩; rw [hB]; obtain ⟨HW, hcc⟩ := next_world HW hb'; clear hb'))
  all_goals
    go_ret
    refine ⟨ret_bool ?_, below_seq HB.out HW.out⟩
    clear HB HW d2 d3 d4 d5 d6 d7 d8 d9 d10 d11 d12 d13 e2 e3 e4 e5 hE hA hB
    unfold moreS
    grind
end Go.Proofs.YtgemadoieielcacDoor.B
