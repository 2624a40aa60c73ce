import Derived.Test.YtccoobcggbbciadDoorRB0
import Derived.Test.YtccoobcggbbciadDoorTW
import Derived.Deep.CutRange
import Derived.Deep.CutBlock
import Derived.Deep.RegionHeld3
import Derived.IntWalk
namespace Go.Proofs.YtccoobcggbbciadDoor
open Go.ChangeShapes Go.WideShapes Go.ChangeAt Go.RowKit

def allD (s : ByteArray) : Bool := s.data.toList.all (fun b => decide (48 ≤ b.toNat) && decide (b.toNat ≤ 57))
theorem allD_is (s : ByteArray) : allD s = s.data.toList.all isD := rfl

set_option maxRecDepth 20000 in
set_option maxHeartbeats 4000000 in
theorem allDigits_any (w : World) (s : ByteArray) : Calls Tryd.prog 113 #[.string s, .int .i32 48, .int .i32 57] w fun r w' => r = .returned (.bool (allD s)) ∧ Below w.heap.size w w' := by
  go_enter Tryd.func113, Tryd.ntmps113
  go_wp2_with fail
  go_loopw [11] (fun _ w' => ∃ pos : Nat, w' = w.iter s pos ∧ pos ≤ s.size ∧ ∀ i (h : i < s.size), i < pos → (decide (48 ≤ (s[i]'h).toNat) && decide ((s[i]'h).toNat ≤ 57)) = true) (fun _ w' => s.size - w'.iterPos w.heap.size)
  case atStart => exact ⟨0, rfl, Nat.zero_le _, fun i _ h => by omega⟩
  case round =>
    obtain ⟨pos, rfl, hps, hok⟩ := hrel
    by_cases hp : pos < s.size
    · by_cases ha : (s[pos]'hp).toNat < 128
      · have hnx : ∀ ty, (Instr.next (.pointer (some ⟨w.heap.size, 0, none⟩)) true ty).run Tryd.prog (w.iter s pos) = .ok (.tuple #[.bool true, .int .i64 pos, .int .i32 (s[pos]'hp).toNat]) (w.iter s (pos + 1)) := fun ty => by rw [run_next_any w s pos ty hp, decode_ascii s pos hp ha]
        have hb : 0 ≤ ((s[pos]'hp).toNat : Int) := by omega
        by_cases hlo : 48 ≤ (s[pos]'hp).toNat
        · by_cases hhi : (s[pos]'hp).toNat ≤ 57
          · have g1 : ¬ ((s[pos]'hp).toNat : Int) < 48 := by omega
            have g2 : ¬ (57 : Int) < ((s[pos]'hp).toNat : Int) := by omega
            go_wp2_with fail
            go_roundw
            case rel =>
              refine ⟨pos + 1, rfl, by omega, fun i hi hlt => ?_⟩
              by_cases e : i = pos
              · subst e; simp [hlo, hhi]
              · exact hok i hi (by omega)
            case measure => simp; omega
          · have g1 : ¬ ((s[pos]'hp).toNat : Int) < 48 := by omega
            have g2 : (57 : Int) < ((s[pos]'hp).toNat : Int) := by omega
            have e : allD s = false := all_high (P := fun b => decide (48 ≤ b.toNat) && decide (b.toNat ≤ 57)) hp (by simp; omega)
            go_wp2_with fail
            go_ret
            exact ⟨by first | rfl | (rw [e]; rfl), below_new _ _⟩
        · have g1 : ((s[pos]'hp).toNat : Int) < 48 := by omega
          have e : allD s = false := all_high (P := fun b => decide (48 ≤ b.toNat) && decide (b.toNat ≤ 57)) hp (by simp; omega)
          go_wp2_with fail
          go_ret
          exact ⟨by first | rfl | (rw [e]; rfl), below_new _ _⟩
      · have hnx : ∀ ty, (Instr.next (.pointer (some ⟨w.heap.size, 0, none⟩)) true ty).run Tryd.prog (w.iter s pos) = _ := fun ty => run_next_any w s pos ty hp
        have hd := (decode_high s pos hp (by omega)).1
        have g1 : ¬ ((Utf8.decode s pos).1 : Int) < 48 := by omega
        have g2 : (57 : Int) < ((Utf8.decode s pos).1 : Int) := by omega
        have e : allD s = false := all_high (P := fun b => decide (48 ≤ b.toNat) && decide (b.toNat ≤ 57)) hp (by simp; omega)
        go_wp2_with fail
        go_ret
        exact ⟨by first | rfl | (rw [e]; rfl), below_new _ _⟩
    · have hnx : ∀ ty, (Instr.next (.pointer (some ⟨w.heap.size, 0, none⟩)) true ty).run Tryd.prog (w.iter s pos) = _ := fun ty => run_next_end w s pos ty hp
      have e : allD s = true := all_done (s := s) (P := fun b => decide (48 ≤ b.toNat) && decide (b.toNat ≤ 57)) (fun i hi => hok i hi (by omega))
      go_wp2_with fail
      go_ret
      exact ⟨by first | rfl | (rw [e]; rfl), below_new _ _⟩


/-- What number tells. -/
def numR (s : ByteArray) : Int × Bool := match numF s.data.toList with
  | some n => (n, true)
  | none => (0, false)

theorem size_list (s : ByteArray) : s.data.toList.length = s.size := by first | rfl | simp

theorem numR_none {s : ByteArray} (h : ¬ (1 ≤ s.size ∧ s.size ≤ 5 ∧ allD s = true ∧ ¬ (s.data.toList.head? = some 48 ∧ 1 < s.size))) : numR s = (0, false) := by
  unfold numR numF
  rw [size_list, ← allD_is, if_neg h]

theorem numR_some {s : ByteArray} (h : 1 ≤ s.size ∧ s.size ≤ 5 ∧ allD s = true ∧ ¬ (s.data.toList.head? = some 48 ∧ 1 < s.size)) : numR s = ((valN s.data.toList : Int), true) := by
  unfold numR numF
  rw [size_list, ← allD_is, if_pos h]

theorem head_is {s : ByteArray} (h : 0 < s.size) : s.data.toList.head? = some (s[0]'h) := by
  rw [List.head?_eq_getElem?]
  exact Lib.data_getElem? s 0 h

theorem valN_take {s : ByteArray} {pos : Nat} (h : pos < s.size) : valN (s.data.toList.take (pos + 1)) = 10 * valN (s.data.toList.take pos) + ((s[pos]'h).toNat - 48) := by
  rw [List.take_add_one, Lib.data_getElem? s pos h]
  exact valN_snoc _ _

theorem digit_at {s : ByteArray} {pos : Nat} (hd : allD s = true) (h : pos < s.size) : 48 ≤ (s[pos]'h).toNat ∧ (s[pos]'h).toNat ≤ 57 := by
  have := List.all_eq_true.1 hd (s[pos]'h) (List.mem_of_getElem? (Lib.data_getElem? s pos h))
  simpa using this

theorem valN_small {s : ByteArray} {pos : Nat} (hd : allD s = true) (h5 : s.size ≤ 5) (h : pos ≤ s.size) : valN (s.data.toList.take pos) < 100000 := by
  have h1 := valN_lt _ (s.data.toList.take pos) rfl (by
    apply List.all_eq_true.2
    intro b hb
    exact List.all_eq_true.1 (show s.data.toList.all isD = true from hd) b (List.mem_of_mem_take hb))
  have h2 : (10 : Nat) ^ (s.data.toList.take pos).length ≤ 10 ^ 5 := Nat.pow_le_pow_right (by omega) (by rw [List.length_take, size_list]; omega)
  omega

set_option maxRecDepth 20000 in
set_option maxHeartbeats 4000000 in
theorem number_any (w : World) (s : ByteArray) : Calls Tryd.prog 93 #[.string s] w fun r w' => r = .returned (.tuple #[.int .i64 (numR s).1, .bool (numR s).2]) ∧ Below w.heap.size w w' := by
  by_cases hl : 1 ≤ s.size ∧ s.size ≤ 5
  rotate_left 1
  · have hw : within (s.size : Int) 1 5 = false := by unfold within; simp; omega
    rw [numR_none (fun h => hl ⟨h.1, h.2.1⟩)]
    go_enter Tryd.func93, Tryd.ntmps93
    go_wp2_with (go_at_call 49; refine (within_any _ _ _ _).mono ?_; rintro r w1 ⟨rfl, hw1⟩; have hw2 := hw1.symm; subst hw2; clear hw1; rw [hw])
    go_ret2
    exact ⟨rfl, Below.refl _ _⟩
  have hw : within (s.size : Int) 1 5 = true := by unfold within; simp; omega
  cases hd : allD s with
  | false =>
    rw [numR_none (fun h => by rw [hd] at h; cases h.2.2.1)]
    go_enter Tryd.func93, Tryd.ntmps93
    go_wp2_with (first
      | (go_at_call 49; refine (within_any _ _ _ _).mono ?_; rintro r w1 ⟨rfl, hw1⟩; have hw2 := hw1.symm; subst hw2; clear hw1; rw [hw])
      | (go_at_call 113; refine (allDigits_any _ _).mono ?_; rintro r w1 ⟨rfl, hb1⟩; rw [hd]; have H1 : Hid (Below w.heap.size w w1) := hb1; clear hb1))
    go_ret2
    exact ⟨rfl, H1.out⟩
  | true =>
    have h0 : 0 < s.size := by omega
    have hi0 : (0 : Int) < (s.size : Int) := by omega
    have hh := head_is h0
    by_cases hb : s.data.toList.head? = some 48 ∧ 1 < s.size
    · have hz : (s[0]'h0).toNat = 48 := by
        have := hb.1
        rw [hh] at this
        rw [Option.some.inj this]
        rfl
      have h1' : (1 : Int) < (s.size : Int) := by omega
      rw [numR_none (fun h => h.2.2.2 hb)]
      go_enter Tryd.func93, Tryd.ntmps93
      go_wp2_with (first
        | (go_at_call 49; refine (within_any _ _ _ _).mono ?_; rintro r w1 ⟨rfl, hw1⟩; have hw2 := hw1.symm; subst hw2; clear hw1; rw [hw])
        | (go_at_call 113; refine (allDigits_any _ _).mono ?_; rintro r w1 ⟨rfl, hb1⟩; rw [hd]; have H1 : Hid (Below w.heap.size w w1) := hb1; clear hb1))
      go_ret2
      exact ⟨rfl, H1.out⟩
    · rw [numR_some ⟨hl.1, hl.2, hd, hb⟩]
      go_enter Tryd.func93, Tryd.ntmps93
      go_upto_region 3 with (first
        | (go_at_call 49; refine (within_any _ _ _ _).mono ?_; rintro r w1 ⟨rfl, hw1⟩; have hw2 := hw1.symm; subst hw2; clear hw1; rw [hw])
        | (go_at_call 113; refine (allDigits_any _ _).mono ?_; rintro r w1 ⟨rfl, hb1⟩; rw [hd]; have H1 : Hid (Below w.heap.size w w1) := hb1; clear hb1))
      go_cut [23] from 16 to 22 (fun cv W => cv = .bool false ∧ W = w1)
      case first =>
        by_cases hz : (s[0]'h0).toNat = 48
        · have h1' : ¬ (1 : Int) < (s.size : Int) := fun h => hb ⟨by rw [hh]; exact congrArg some (UInt8.toNat_inj.1 hz), by omega⟩
          go_wp2_with fail
          go_meet
          case rel => exact ⟨rfl, rfl⟩
        · have hz' : ¬ (((s[0]'h0).toNat : Nat) : Int) = 48 := by omega
          go_wp2_with fail
          go_meet
          case rel => exact ⟨rfl, rfl⟩
      case rest =>
        obtain ⟨rfl, hwc⟩ := hcut
        have hwc' := hwc.symm
        subst hwc'
        clear hwc hw hb hh
        go_wp2_with fail
        go_loopw [4, 26] (fun nv _ w' => ∃ pos : Nat, nv = .int .i64 (valN (s.data.toList.take pos) : Int) ∧ w' = w1.iter s pos ∧ pos ≤ s.size) (fun _ _ w' => s.size - w'.iterPos w1.heap.size)
        case atStart => exact ⟨0, by simp [valN], rfl, Nat.zero_le _⟩
        case round =>
          obtain ⟨pos, rfl, rfl, hps⟩ := hrel
          by_cases hp : pos < s.size
          · have hdg := digit_at hd hp
            have hnx : ∀ ty, (Instr.next (.pointer (some ⟨w1.heap.size, 0, none⟩)) true ty).run Tryd.prog (w1.iter s pos) = .ok (.tuple #[.bool true, .int .i64 pos, .int .i32 (s[pos]'hp).toNat]) (w1.iter s (pos + 1)) := fun ty => by rw [run_next_any w1 s pos ty hp, decode_ascii s pos hp (by omega)]
            have hv := valN_take hp
            have hs := valN_small hd hl.2 hps
            have HV : Hid (((valN (s.data.toList.take (pos + 1)) : Nat) : Int) = 10 * ((valN (s.data.toList.take pos) : Nat) : Int) + (((s[pos]'hp).toNat : Int) - 48)) := by
              have h9 : ((valN (s.data.toList.take (pos + 1)) : Nat) : Int) = 10 * ((valN (s.data.toList.take pos) : Nat) : Int) + (((s[pos]'hp).toNat : Int) - 48) := by rw [hv]; omega
              exact h9
            generalize valN (s.data.toList.take pos) = vn at *
            have q1 : IntKind.i64.wrap (10 * (vn : Int)) = 10 * (vn : Int) := by rw [IntKind.wrap_i64]; omega
            have q2 : IntKind.i32.wrap (((s[pos]'hp).toNat : Int) - 48) = ((s[pos]'hp).toNat : Int) - 48 := by rw [IntKind.wrap_i32]; omega
            have q3 : IntKind.i64.wrap (((s[pos]'hp).toNat : Int) - 48) = ((s[pos]'hp).toNat : Int) - 48 := by rw [IntKind.wrap_i64]; omega
            have q4 : IntKind.i64.wrap (10 * (vn : Int) + (((s[pos]'hp).toNat : Int) - 48)) = 10 * (vn : Int) + (((s[pos]'hp).toNat : Int) - 48) := by rw [IntKind.wrap_i64]; omega
            clear hv
            go_wp2_with fail
            go_roundw
            case rel => exact ⟨pos + 1, by rw [HV.out], rfl, by omega⟩
            case measure => simp; omega
          · have hpe : pos = s.size := by omega
            subst hpe
            have hnx : ∀ ty, (Instr.next (.pointer (some ⟨w1.heap.size, 0, none⟩)) true ty).run Tryd.prog (w1.iter s s.size) = _ := fun ty => run_next_end w1 s s.size ty hp
            go_wp2_with fail
            go_ret2
            refine ⟨?_, below_seq H1.out (below_new _ _)⟩
            rw [List.take_of_length_le (by rw [size_list]; exact Nat.le_refl _)]
            rfl
end Go.Proofs.YtccoobcggbbciadDoor
