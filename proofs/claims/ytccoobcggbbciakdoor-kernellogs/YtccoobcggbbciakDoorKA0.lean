import Derived.Test.YtccoobcggbbciakDoorRA0
namespace Go.Proofs.YtccoobcggbbciakDoor
open Go.RowKit

theorem fold_ge : ∀ (l : List UInt8) (acc : Nat), acc ≤ l.foldl (fun a b => 10 * a + (b.toNat - 48)) acc
  | [], _ => Nat.le_refl _
  | c :: r, acc => Nat.le_trans (by omega) (fold_ge r (10 * acc + (c.toNat - 48)))

/-- What is read of digits, as long as it is no more than a number's magnitude. -/
theorem parse_big : ∀ (l : List UInt8) (acc : Nat), l.all isD = true → l.foldl (fun a b => 10 * a + (b.toNat - 48)) acc ≤ 9223372036854775808 → Lib.parseUint10 acc l = .ok (l.foldl (fun a b => 10 * a + (b.toNat - 48)) acc)
  | [], _, _, _ => rfl
  | c :: r, acc, hd, hv => by
    simp only [List.all_cons, Bool.and_eq_true] at hd
    have hc := (isD_iff c).1 hd.1
    have hg := fold_ge r (10 * acc + (c.toNat - 48))
    rw [List.foldl_cons] at hv ⊢
    rw [Lib.parseUint10, if_pos hc, if_neg (by omega), if_neg (by omega), Nat.mul_comm acc 10]
    exact parse_big r _ hd.2 hv

/-- There and back, of any int. -/
theorem atoi_itoa (n : Int) (h0 : -9223372036854775808 ≤ n) (h1 : n ≤ 9223372036854775807) : Lib.atoiAll (Lib.itoa n) = .ok n := by
  unfold Lib.itoa
  split
  · rename_i hn
    obtain ⟨d1, d2, d3, d4⟩ := dec_spec n.natAbs
    have hp := parse_big (Lib.decDigits n.natAbs) 0 d1 (by
      have : valN (Lib.decDigits n.natAbs) = n.natAbs := d2
      unfold valN at this
      rw [this]
      omega)
    have e : (Lib.decDigits n.natAbs).foldl (fun a b => 10 * a + (b.toNat - 48)) 0 = n.natAbs := d2
    rw [e] at hp
    unfold Lib.atoiAll Lib.parseMag
    have hc : (45 : UInt8).toNat = 45 := rfl
    simp only [hc, or_true, if_true, if_neg d3, hp]
    rw [if_neg (by simp), if_neg (by omega)]
    simp
    omega
  · rename_i hn
    obtain ⟨d1, d2, d3, d4⟩ := dec_spec n.toNat
    have e : (Lib.decDigits n.toNat).foldl (fun a b => 10 * a + (b.toNat - 48)) 0 = n.toNat := d2
    have hp := parse_big (Lib.decDigits n.toNat) 0 d1 (by rw [e]; omega)
    rw [e] at hp
    cases hd : Lib.decDigits n.toNat with
    | nil => exact absurd hd d3
    | cons c r =>
      rw [hd] at hp d1
      simp at d1
      have hc := (isD_iff c).1 d1.1
      unfold Lib.atoiAll Lib.parseMag
      simp only
      rw [if_neg (show ¬ (c.toNat = 43 ∨ c.toNat = 45) by omega), if_neg (show ¬ (c :: r = []) by simp), hp]
      have h45 : ¬ c.toNat = 45 := by omega
      have e1 : (n.toNat : Int) = n := by omega
      simp only [h45, not_false_eq_true, true_and, false_and, if_false, e1]
      rw [if_neg (by omega)]
end Go.Proofs.YtccoobcggbbciakDoor
