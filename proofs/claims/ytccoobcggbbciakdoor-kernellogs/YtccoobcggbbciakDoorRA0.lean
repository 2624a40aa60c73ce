import Derived.Test.YtccoobcggbbciakDoorRows
import Derived.RowKit
import Derived.Lib.Split
import Derived.Lib.AtoiAll
import Derived.Lib.ItoaMem
import Derived.Lib.IndexBytes
import Derived.Lib.IndexLaws
namespace Go.Proofs.YtccoobcggbbciakDoor
open Go.RowKit

/-- The pieces between the bytes c; behind each but the last one sv. -/
def pcsS (c : UInt8) (sv : List UInt8) : List UInt8 → List (List UInt8)
  | [] => [[]]
  | b :: r => if b = c then sv :: pcsS c sv r else (b :: (pcsS c sv r).headD []) :: (pcsS c sv r).tail

def pcs (c : UInt8) (l : List UInt8) : List (List UInt8) := pcsS c [] l

theorem pcsS_none {c : UInt8} {sv : List UInt8} : ∀ {l : List UInt8}, c ∉ l → pcsS c sv l = [l]
  | [], _ => rfl
  | b :: r, h => by
    have hb : b ≠ c := fun e => h (by rw [e]; exact List.mem_cons_self)
    have hr : c ∉ r := fun e => h (List.mem_cons_of_mem _ e)
    rw [pcsS, if_neg hb, pcsS_none hr]
    rfl

theorem pcsS_hit {c : UInt8} {sv : List UInt8} {r : List UInt8} : ∀ {a : List UInt8}, c ∉ a → pcsS c sv (a ++ c :: r) = (a ++ sv) :: pcsS c sv r
  | [], _ => by rw [List.nil_append, pcsS, if_pos rfl]; rfl
  | b :: a, h => by
    have hb : b ≠ c := fun e => h (by rw [e]; exact List.mem_cons_self)
    have hr : c ∉ a := fun e => h (List.mem_cons_of_mem _ e)
    rw [List.cons_append, pcsS, if_neg hb, pcsS_hit hr]
    rfl

theorem cut_of {c : UInt8} {l : List UInt8} {o : Nat} (h : Lib.indexByte l c = o) : l = l.take o ++ c :: l.drop (o + 1) ∧ c ∉ l.take o := by
  obtain ⟨h1, h2⟩ := Lib.indexByte_some h
  have hlt := (List.getElem?_eq_some_iff.1 h1).1
  constructor
  · have e : l.drop o = c :: l.drop (o + 1) := by
      rw [List.drop_eq_getElem_cons hlt]
      rw [(List.getElem?_eq_some_iff.1 h1).2]
    rw [← e, List.take_append_drop]
  · intro hm
    obtain ⟨k, hk, he⟩ := List.getElem_of_mem hm
    have hko : k < o := by simp at hk; omega
    refine h2 k hko ?_
    rw [List.getElem_take] at he
    rw [← he]
    exact List.getElem?_eq_getElem (by omega)

theorem no_of {c : UInt8} {l : List UInt8} (h : Lib.indexByte l c = -1) : c ∉ l := by
  intro hm
  obtain ⟨k, hk, he⟩ := List.getElem_of_mem hm
  exact Lib.indexByte_none h k (by rw [← he]; exact List.getElem?_eq_getElem hk)

theorem count_hit {c : UInt8} {l : List UInt8} {o : Nat} (h : Lib.indexByte l c = o) : l.count c = (l.drop (o + 1)).count c + 1 := by
  obtain ⟨h1, h2⟩ := cut_of h
  have := congrArg (List.count c) h1
  rw [List.count_append, List.count_cons_self, List.count_eq_zero.2 h2] at this
  omega

theorem splitK_is (c : UInt8) (save : Nat) (sv : List UInt8) (hs : (save = 0 ∧ sv = []) ∨ (save = 1 ∧ sv = [c])) : ∀ (n : Nat) (l : List UInt8), l.length ≤ n → Lib.splitK [c] save (l.count c) l = pcsS c sv l := by
  intro n
  induction n with
  | zero =>
    intro l hl
    have : l = [] := List.eq_nil_of_length_eq_zero (by omega)
    subst this
    rfl
  | succ n ih =>
    intro l hl
    have hg := Lib.indexByte_ge l c
    by_cases hi : Lib.indexByte l c = -1
    · have h0 := no_of hi
      rw [List.count_eq_zero.2 h0, pcsS_none h0]
      rfl
    · obtain ⟨o, ho⟩ : ∃ o : Nat, Lib.indexByte l c = o := ⟨(Lib.indexByte l c).toNat, by omega⟩
      obtain ⟨h1, h2⟩ := cut_of ho
      have hlt : o < l.length := (List.getElem?_eq_some_iff.1 (Lib.indexByte_some ho).1).1
      rw [count_hit ho, Lib.splitK]
      have hix : Lib.index l [c] = o := by rw [Lib.index_one]; exact ho
      rw [hix, if_neg (by simp)]
      conv => rhs; rw [h1]
      rw [pcsS_hit h2, Int.toNat_natCast, show ([c] : List UInt8).length = 1 from rfl, ih (l.drop (o + 1)) (by simp; omega)]
      congr 1
      rcases hs with ⟨rfl, rfl⟩ | ⟨rfl, rfl⟩
      · simp
      · conv => lhs; rw [h1]
        have hl9 : (l.take o).length = o := by rw [List.length_take]; omega
        rw [List.take_append, hl9, List.take_take, Nat.min_eq_right (by omega), show o + 1 - o = 1 by omega]
        rfl

/-- Pieces that are joined again. -/
def glue (c : UInt8) : List (List UInt8) → List UInt8
  | [] => []
  | [a] => a
  | a :: b :: r => a ++ c :: glue c (b :: r)

theorem pcsS_ne {c : UInt8} {sv : List UInt8} : ∀ l : List UInt8, pcsS c sv l ≠ []
  | [] => by simp [pcsS]
  | b :: r => by rw [pcsS]; split <;> simp

theorem glue_pcs (c : UInt8) : ∀ l : List UInt8, glue c (pcs c l) = l
  | [] => rfl
  | b :: r => by
    have ih := glue_pcs c r
    unfold pcs at ih ⊢
    have hne := pcsS_ne (c := c) (sv := []) r
    rw [pcsS]
    cases hp : pcsS c [] r with
    | nil => exact absurd hp hne
    | cons a t =>
      rw [hp] at ih
      split
      · rename_i h
        rw [h, glue, ih]; rfl
      · cases t with
        | nil => simp [glue] at ih ⊢; exact ih
        | cons t0 t1 => simp [glue] at ih ⊢; exact ih

theorem pcs_glue (c : UInt8) : ∀ (ps : List (List UInt8)), ps ≠ [] → (∀ p ∈ ps, c ∉ p) → pcs c (glue c ps) = ps
  | [], h, _ => absurd rfl h
  | [a], _, h => by
    rw [glue]
    exact pcsS_none (h a (by simp))
  | a :: b :: r, _, h => by
    rw [glue]
    unfold pcs
    rw [pcsS_hit (h a (by simp)), List.append_nil]
    have := pcs_glue c (b :: r) (by simp) (fun p hp => h p (List.mem_cons_of_mem _ hp))
    unfold pcs at this
    rw [this]

theorem pcs_mem {c : UInt8} : ∀ (l : List UInt8) (p : List UInt8), p ∈ pcs c l → c ∉ p
  | [], p, h => by
    simp [pcs, pcsS] at h
    subst h
    simp
  | b :: r, p, h => by
    unfold pcs at h
    rw [pcsS] at h
    have hne := pcsS_ne (c := c) (sv := []) r
    have ih := fun q hq => pcs_mem (c := c) r q hq
    unfold pcs at ih
    cases hp : pcsS c [] r with
    | nil => exact absurd hp hne
    | cons a t =>
      rw [hp] at h ih
      split at h
      · rcases List.mem_cons.1 h with rfl | h
        · simp
        · exact ih p h
      · rename_i hb
        rcases List.mem_cons.1 h with rfl | h
        · intro hm
          rcases List.mem_cons.1 hm with e | hm
          · exact hb e.symm
          · exact ih a (by simp) (by simpa using hm)
        · exact ih p (List.mem_cons_of_mem _ (by simpa using h))

theorem pcs_count {c : UInt8} : ∀ l : List UInt8, (pcs c l).length ≤ l.length + 1
  | [] => by simp [pcs, pcsS]
  | b :: r => by
    have ih := pcs_count (c := c) r
    unfold pcs at ih ⊢
    rw [pcsS]
    split
    · simp at ih ⊢; omega
    · simp at ih ⊢; omega

theorem pcs_len {c : UInt8} : ∀ (l : List UInt8) (p : List UInt8), p ∈ pcs c l → p.length ≤ l.length
  | [], p, h => by
    simp [pcs, pcsS] at h
    subst h
    simp
  | b :: r, p, h => by
    unfold pcs at h
    rw [pcsS] at h
    have ih := fun q hq => pcs_len (c := c) r q hq
    unfold pcs at ih
    split at h
    · rcases List.mem_cons.1 h with rfl | h
      · simp
      · have := ih p h; simp; omega
    · have hne := pcsS_ne (c := c) (sv := []) r
      cases hp : pcsS c [] r with
      | nil => exact absurd hp hne
      | cons a t =>
        rw [hp] at h ih
        rcases List.mem_cons.1 h with rfl | h
        · have := ih a (by simp)
          simp
          omega
        · have := ih p (List.mem_cons_of_mem _ (by simpa using h)); simp; omega

/-- With the separators: the same pieces, each but the last one with c behind it. -/
theorem after_is (c : UInt8) : ∀ l : List UInt8, pcsS c [c] l = ((pcs c l).dropLast.map (· ++ [c])) ++ [(pcs c l).getLastD []]
  | [] => rfl
  | b :: r => by
    have ih := after_is c r
    unfold pcs at ih ⊢
    have hne := pcsS_ne (c := c) (sv := []) r
    rw [pcsS, pcsS, ih]
    cases hp : pcsS c [] r with
    | nil => exact absurd hp hne
    | cons a t =>
      split
      · simp
      · cases t with
        | nil => simp
        | cons t0 t1 => simp

/-- A digit. -/
def isD (b : UInt8) : Bool := decide (48 ≤ b.toNat) && decide (b.toNat ≤ 57)
def valN (w : List UInt8) : Nat := w.foldl (fun a b => 10 * a + (b.toNat - 48)) 0
def numF (w : List UInt8) : Option Int := if 1 ≤ w.length ∧ w.length ≤ 5 ∧ w.all isD = true ∧ ¬ (w.head? = some 48 ∧ 1 < w.length) then some (valN w : Int) else none

theorem valN_snoc (w : List UInt8) (b : UInt8) : valN (w ++ [b]) = 10 * valN w + (b.toNat - 48) := by
  unfold valN
  rw [List.foldl_append]
  rfl

theorem isD_iff (b : UInt8) : isD b = true ↔ 48 ≤ b.toNat ∧ b.toNat ≤ 57 := by unfold isD; simp

/-- What is written of a number. -/
theorem dec_spec : ∀ n : Nat, (Lib.decDigits n).all isD = true ∧ valN (Lib.decDigits n) = n ∧ (Lib.decDigits n) ≠ [] ∧ ((Lib.decDigits n).head? = some 48 → n = 0) := by
  intro n
  induction n using Nat.strongRecOn with
  | ind n ih =>
    by_cases h : n < 10
    · rw [Lib.decDigits, dif_pos h]
      have e : (UInt8.ofNat (48 + n)).toNat = 48 + n := by rw [UInt8.toNat_ofNat']; omega
      generalize UInt8.ofNat (48 + n) = x at *
      refine ⟨by simp [isD, e]; omega, by simp [valN, e], by simp, fun hh => ?_⟩
      simp at hh
      rw [hh] at e
      have e48 : (48 : UInt8).toNat = 48 := rfl
      omega
    · rw [Lib.decDigits, dif_neg h]
      obtain ⟨h1, h2, h3, h4⟩ := ih (n / 10) (by omega)
      have e : (UInt8.ofNat (48 + n % 10)).toNat = 48 + n % 10 := by rw [UInt8.toNat_ofNat']; omega
      generalize UInt8.ofNat (48 + n % 10) = y at *
      refine ⟨by rw [List.all_append, h1]; simp [isD, e]; omega, by rw [valN_snoc, h2, e]; omega, by simp, fun hh => ?_⟩
      rw [List.head?_append] at hh
      cases hd : (Lib.decDigits (n / 10)).head? with
      | none => rw [List.head?_eq_none_iff] at hd; exact absurd hd h3
      | some x =>
        rw [hd] at hh h4
        simp at hh
        have := h4 (by rw [hh])
        omega

theorem dec_len : ∀ (k n : Nat), n < 10 ^ (k + 1) → (Lib.decDigits n).length ≤ k + 1
  | 0, n, h => by rw [Lib.decDigits, dif_pos (by simpa using h)]; simp
  | k + 1, n, h => by
    by_cases h0 : n < 10
    · rw [Lib.decDigits, dif_pos h0]; simp
    · rw [Lib.decDigits, dif_neg h0, List.length_append]
      have := dec_len k (n / 10) (by rw [Nat.pow_succ] at h; omega)
      simp
      omega

theorem dec_one {n : Nat} (h : (Lib.decDigits n).length = 1) : n < 10 := by
  apply Classical.byContradiction
  intro h0
  rw [Lib.decDigits, dif_neg h0, List.length_append] at h
  have := (dec_spec (n / 10)).2.2.1
  cases hd : Lib.decDigits (n / 10) with
  | nil => exact this hd
  | cons a r => rw [hd] at h; simp at h

theorem numF_dec {n : Nat} (h : n ≤ 99999) : numF (Lib.decDigits n) = some (n : Int) := by
  obtain ⟨h1, h2, h3, h4⟩ := dec_spec n
  have h5 := dec_len 4 n (by omega)
  unfold numF
  have hpos : 1 ≤ (Lib.decDigits n).length := by
    cases hd : Lib.decDigits n with
    | nil => exact absurd hd h3
    | cons a r => simp
  have hz : ¬ ((Lib.decDigits n).head? = some 48 ∧ 1 < (Lib.decDigits n).length) := by
    rintro ⟨a, b⟩
    have := h4 a
    subst this
    rw [Lib.decDigits, dif_pos (by omega)] at b
    simp at b
  rw [if_pos ⟨hpos, h5, h1, hz⟩, h2]

/-- Digits that begin with none but a lone 0 are what is written of their number. -/
theorem dec_val : ∀ (k : Nat) (w : List UInt8), w.length = k → w ≠ [] → w.all isD = true → ¬ (w.head? = some 48 ∧ 1 < w.length) → Lib.decDigits (valN w) = w
  | 0, w, h, hne, _, _ => absurd (List.eq_nil_of_length_eq_zero h) hne
  | k + 1, w, h, hne, hd, hz => by
    obtain ⟨v, b, rfl⟩ : ∃ v b, w = v ++ [b] := ⟨w.dropLast, w.getLast hne, (List.dropLast_concat_getLast hne).symm⟩
    rw [List.all_append] at hd
    have hv : v.all isD = true := by simp at hd ⊢; exact hd.1
    have hb : isD b = true := by simp at hd; exact hd.2
    rw [isD_iff] at hb
    have eb : UInt8.ofNat (48 + (b.toNat - 48)) = b := by
      apply UInt8.toNat_inj.1
      rw [UInt8.toNat_ofNat']
      omega
    by_cases hvn : v = []
    · subst hvn
      have e : valN ([] ++ [b]) = b.toNat - 48 := by simp [valN]
      rw [e, Lib.decDigits, dif_pos (by omega), eb]
      rfl
    · have hhd : v.head? ≠ some 48 := fun e => hz ⟨by rw [List.head?_append, e]; rfl, by
        cases v with
        | nil => exact absurd rfl hvn
        | cons a r => simp⟩
      have hr := dec_val k v (by simpa using h) hvn hv (fun e => hhd e.1)
      have hpos : 1 ≤ valN v := by
        apply Classical.byContradiction
        intro h0
        have e0 : valN v = 0 := by omega
        rw [e0, Lib.decDigits, dif_pos (by omega)] at hr
        rw [← hr] at hhd
        exact hhd rfl
      rw [valN_snoc, Lib.decDigits, dif_neg (by omega), show (10 * valN v + (b.toNat - 48)) / 10 = valN v by omega, show (10 * valN v + (b.toNat - 48)) % 10 = b.toNat - 48 by omega, hr, eb]

theorem valN_lt : ∀ (k : Nat) (w : List UInt8), w.length = k → w.all isD = true → valN w < 10 ^ k
  | 0, w, h, _ => by rw [List.eq_nil_of_length_eq_zero h]; simp [valN]
  | k + 1, w, h, hd => by
    have hne : w ≠ [] := fun e => by rw [e] at h; simp at h
    obtain ⟨v, b, rfl⟩ : ∃ v b, w = v ++ [b] := ⟨w.dropLast, w.getLast hne, (List.dropLast_concat_getLast hne).symm⟩
    rw [List.all_append] at hd
    have hv : v.all isD = true := by simp at hd ⊢; exact hd.1
    have hb : isD b = true := by simp at hd; exact hd.2
    rw [isD_iff] at hb
    have := valN_lt k v (by simpa using h) hv
    rw [valN_snoc, Nat.pow_succ]
    omega

theorem numF_is {w : List UInt8} {n : Int} (h : numF w = some n) : 0 ≤ n ∧ n ≤ 99999 ∧ w = Lib.decDigits n.toNat ∧ w = Lib.itoa n := by
  unfold numF at h
  split at h
  · rename_i hc
    obtain ⟨h1, h2, h3, h4⟩ := hc
    have hne : w ≠ [] := fun e => by rw [e] at h1; simp at h1
    have hl := valN_lt _ w rfl h3
    have hle : (10 : Nat) ^ w.length ≤ 10 ^ 5 := Nat.pow_le_pow_right (by omega) h2
    have hd := dec_val _ w rfl hne h3 h4
    simp at h
    subst h
    refine ⟨by omega, by omega, by rw [Int.toNat_natCast, hd], by rw [Lib.itoa_nonneg, hd]⟩
  · cases h

theorem parse10 : ∀ (l : List UInt8) (acc m : Nat), acc < 10 ^ m → m + l.length ≤ 18 → l.all isD = true → Lib.parseUint10 acc l = .ok (l.foldl (fun a b => 10 * a + (b.toNat - 48)) acc)
  | [], acc, m, _, _, _ => rfl
  | c :: r, acc, m, ha, hm, hd => by
    simp at hd
    have hc := (isD_iff c).1 hd.1
    have hp : (10 : Nat) ^ m ≤ 10 ^ 17 := Nat.pow_le_pow_right (by omega) (by simp at hm; omega)
    rw [Lib.parseUint10, if_pos hc, if_neg (by omega), if_neg (by omega), parse10 r (acc * 10 + (c.toNat - 48)) (m + 1) (by rw [Nat.pow_succ]; omega) (by simp at hm; omega) (by simp; exact hd.2), List.foldl_cons, Nat.mul_comm acc 10]

/-- The document's way: the library's number, and what is written of it. -/
def numD (w : List UInt8) : Option Int := match Lib.atoiAll w with
  | .ok n => if 0 ≤ n ∧ n ≤ 99999 ∧ Lib.itoa n = w then some n else none
  | _ => none

theorem atoi_dec {n : Nat} (h : n ≤ 99999) : Lib.atoiAll (Lib.decDigits n) = .ok (n : Int) := by
  obtain ⟨h1, h2, h3, h4⟩ := dec_spec n
  have h5 := dec_len 4 n (by omega)
  have hp := parse10 (Lib.decDigits n) 0 1 (by omega) (by omega) h1
  cases hd : Lib.decDigits n with
  | nil => exact absurd hd h3
  | cons c r =>
    rw [hd] at hp h1 h2
    simp at h1
    have hc := (isD_iff c).1 h1.1
    unfold Lib.atoiAll Lib.parseMag
    simp only
    rw [if_neg (show ¬ (c.toNat = 43 ∨ c.toNat = 45) by omega), if_neg (show ¬ (c :: r = []) by simp), hp]
    have e : (c :: r).foldl (fun a b => 10 * a + (b.toNat - 48)) 0 = n := h2
    simp only [e]
    have h45 : ¬ c.toNat = 45 := by omega
    simp [h45]
    omega

theorem numD_eq (w : List UInt8) : numD w = numF w := by
  cases hf : numF w with
  | some n =>
    obtain ⟨h1, h2, h3, h4⟩ := numF_is hf
    obtain ⟨m, rfl⟩ : ∃ m : Nat, n = (m : Int) := ⟨n.toNat, by omega⟩
    unfold numD
    have ha := atoi_dec (n := m) (by omega)
    rw [Int.toNat_natCast] at h3
    rw [← h3] at ha
    rw [ha]
    simp only
    rw [if_pos ⟨h1, h2, h4.symm⟩]
  | none =>
    unfold numD
    split
    · split
      · rename_i n _ hc
        exfalso
        obtain ⟨h1, h2, h3⟩ := hc
        obtain ⟨m, rfl⟩ : ∃ m : Nat, n = (m : Int) := ⟨n.toNat, by omega⟩
        rw [Lib.itoa_nonneg] at h3
        rw [← h3, numF_dec (by omega)] at hf
        cases hf
      · rfl
    · rfl
end Go.Proofs.YtccoobcggbbciakDoor
