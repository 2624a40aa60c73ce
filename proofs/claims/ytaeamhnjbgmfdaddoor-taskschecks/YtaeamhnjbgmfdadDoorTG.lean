import Derived.Test.YtaeamhnjbgmfdadDoorTM
import Derived.Test.YtaeamhnjbgmfdadDoorTT
namespace Go.Proofs.YtaeamhnjbgmfdadDoor
open Go.ChangeShapes Go.WideShapes Go.ChangeAt Go.RowKit

theorem field_25 (W : World) (a b : Int) : (Instr.field 37 (.agg #[.int .i64 a, .int .i64 b]) 0).run Tryd.prog W = .ok (.int .i64 a) W := by kernel_rfl

set_option maxRecDepth 20000 in
set_option maxHeartbeats 4000000 in
theorem checks_walk (w : World) (l : List Ta) (v : Value) (hS : ∀ x ∈ l, x.nm.size ≤ 9223372036854775807) (hg : TaAt w 1 0 noT) (hv : RowSl Ta.vals w l v) :
    Calls Tryd.prog 7 #[v] w fun r w' => r = .returned (.bool true) ∧ Below w.heap.size w w' := by
  obtain ⟨ad, c, rfl⟩ := hv.len
  have HV : Hid ((∀ x ∈ l, x.nm.size ≤ 9223372036854775807) ∧ TaAt w 1 0 noT ∧ RowSl Ta.vals w l (.slice ad l.length c)) := ⟨hS, hg, hv⟩
  clear hS hg hv
  have HL := LendT_any
  have HT := StillT_any
  unfold Ta.val at HL HT
  have hfd := fun W => field_25 W 0 0
  go_enter Tryd.func7, Tryd.ntmps7
  go_wp2_with (go_at_call 20; refine (three_any _).mono ?_; rintro r w1 ⟨v1, rfl, hr1, hb1⟩; have H1 : Hid (Below w.heap.size w w1) := hb1; have HC := Check_any w1 threeL v1 hr1; rw [chk_three] at HC; clear hr1 hb1)
  go_wp2_with (go_at_call 19; refine HC.mono ?_; rintro r w2 ⟨rfl, hb2⟩; have H2 : Hid (Below w.heap.size w w2) := below_seq H1.out hb2; have HC2 := Check_any w2 [] (.slice none 0 0) (RowSl.nil _ _); rw [chk_nil] at HC2; clear HC hb2 H1)
  go_wp2_with (go_at_call 19; refine HC2.mono ?_; rintro r w3 ⟨rfl, hb3⟩; have H3 : Hid (Below w.heap.size w w3) := below_seq H2.out hb3; clear HC2 hb3 H2)
  go_wp2_with (go_at_call 21; refine (F_any _ _ _).mono ?_; rintro r w4 ⟨rfl, hb4⟩; have H4 : Hid (Below w.heap.size w w4) := below_seq H3.out hb4; clear hb4 H3)
  by_cases hl : l.length ≤ 5000
  · have hl' : decide ((l.length : Int) ≤ 5000) = true := by simp; omega
    go_wp2_with (go_at_call 22; refine (few_any _ _).mono ?_; rintro r w5 ⟨rfl, rfl⟩; rw [hl']; obtain ⟨e0, e1, e2, e3, e4, e5, e6⟩ := HV.out.2.1.below H4.out)
    go_wp2_with (go_at_call 23; refine (HL _ l noT _ (by omega) (HV.out.2.2.below H4.out)).mono ?_; rintro r w6 ⟨u6, rfl, hlent, hb6⟩; have H6 : Hid (Below w.heap.size w w6 ∧ Lent Ta.vals w6 l noT u6) := ⟨below_seq H4.out hb6, hlent⟩; clear e0 e1 e2 e3 e4 e5 e6 hlent hb6 H4)
    go_wp2_with (go_at_call 19; refine (Check_any _ l _ H6.out.2.plain).mono ?_; rintro r w7 ⟨rfl, hb7⟩; have H7 : Hid (Below w.heap.size w w7 ∧ Lent Ta.vals w7 l noT u6) := ⟨below_seq H6.out.1 hb7, H6.out.2.below hb7⟩; clear hb7 H6)
    go_wp2_with (go_at_call 24; refine (CheckSet_any _ l _ HV.out.1 (HV.out.2.2.below H7.out.1)).mono ?_; rintro r w8 ⟨rfl, hb8⟩; have H8 : Hid (Below w.heap.size w w8 ∧ Lent Ta.vals w8 l noT u6) := ⟨below_seq H7.out.1 hb8, H7.out.2.below hb8⟩; obtain ⟨e0, e1, e2, e3, e4, e5, e6⟩ := HV.out.2.1.below H8.out.1; clear hb8 H7)
    go_wp2_with (go_at_call 25; refine (HT _ l noT _ _ (by omega) H8.out.2 (HV.out.2.2.below H8.out.1)).mono ?_; rintro r w9 ⟨rfl, hb9⟩; have H9 : Hid (Below w.heap.size w w9) := below_seq H8.out.1 hb9)
    go_ret
    exact ⟨rfl, H9.out⟩
  · have hl' : decide ((l.length : Int) ≤ 5000) = false := by simp; omega
    go_wp2_with (go_at_call 22; refine (few_any _ _).mono ?_; rintro r w5 ⟨rfl, rfl⟩; rw [hl'])
    go_ret
    exact ⟨rfl, H4.out⟩
end Go.Proofs.YtaeamhnjbgmfdadDoor
