import Derived.Test.YtccoobcggbbciadDoorRA0
namespace Go.Proofs.YtccoobcggbbciadDoor
open Go.ChangeShapes Go.WideShapes Go.ChangeAt Go.RowKit

def Ta.nums (x : Ta) : List Int := [x.c, x.t, x.d, x.j, x.o, x.p]

/-- A line, read. -/
def taskF (line : List UInt8) : Option Ta := match pcs 32 line with
  | [w0, w1, w2, w3, w4, w5, w6] => match numF w1, numF w2, numF w3, numF w4, numF w5, numF w6 with
    | some c, some t, some d, some j, some o, some p => some ⟨⟨w0.toArray⟩, c, t, d, j, o, p⟩
    | _, _, _, _, _, _ => none
  | _ => none

def scanF : List (List UInt8) → List Ta → List Ta × (Int × Int)
  | [], acc => (acc, (0, 0))
  | [z], acc => if z = [] then (acc, (0, 0)) else ([], (1, (acc.length : Int)))
  | a :: b :: r, acc => match taskF a with
    | none => ([], (1, (acc.length : Int)))
    | some t => scanF (b :: r) (acc ++ [t])

def parseF (text : List UInt8) : List Ta × (Int × Int) :=
  if 20000 < text.length then ([], (2, 0)) else if (scanF (pcs 10 text) []).2.1 ≠ 0 then ([], (scanF (pcs 10 text) []).2)
  else if (chkF (scanF (pcs 10 text) []).1).1 ≠ 0 then ([], chkF (scanF (pcs 10 text) []).1) else ((scanF (pcs 10 text) []).1, (0, 0))

/-- A number behind a blank. -/
def spcF (ns : List Int) : List UInt8 := ns.flatMap fun n => 32 :: Lib.itoa n
def bodyF (x : Ta) : List UInt8 := x.nm.data.toList ++ spcF x.nums
def lineF (x : Ta) : List UInt8 := bodyF x ++ [10]
def printF (l : List Ta) : List UInt8 := if (chkF l).1 ≠ 0 then [] else l.flatMap lineF

theorem taskF_is {line : List UInt8} {x : Ta} (h : taskF line = some x) : bodyF x = line := by
  have hg := glue_pcs 32 line
  unfold taskF at h
  split at h
  · rename_i w0 w1 w2 w3 w4 w5 w6 hp
    split at h
    · rename_i c t d j o p h1 h2 h3 h4 h5 h6
      simp at h
      subst h
      rw [hp] at hg
      rw [← hg]
      rw [(numF_is h1).2.2.2, (numF_is h2).2.2.2, (numF_is h3).2.2.2, (numF_is h4).2.2.2, (numF_is h5).2.2.2, (numF_is h6).2.2.2]
      simp [bodyF, spcF, Ta.nums, glue]
    · cases h
  · cases h

theorem scanF_len : ∀ (ps : List (List UInt8)) (acc : List Ta), (scanF ps acc).2.1 = 0 ∨ (scanF ps acc).2.1 = 1
  | [], acc => .inl rfl
  | [z], acc => by rw [scanF]; split <;> simp
  | a :: b :: r, acc => by
    rw [scanF]
    split
    · exact .inr rfl
    · exact scanF_len (b :: r) _

/-- What was read is written so. -/
theorem scanF_back : ∀ (ps : List (List UInt8)) (acc : List Ta), ps ≠ [] → (scanF ps acc).2.1 = 0 → ∃ r, (scanF ps acc).1 = acc ++ r ∧ r.flatMap lineF = glue 10 ps
  | [], _, h, _ => absurd rfl h
  | [z], acc, _, h => by
    rw [scanF] at h ⊢
    split at h
    · rename_i hz
      subst hz
      exact ⟨[], by simp, rfl⟩
    · cases h
  | a :: b :: r, acc, _, h => by
    rw [scanF] at h ⊢
    cases ht : taskF a with
    | none => rw [ht] at h; cases h
    | some x =>
      rw [ht] at h
      dsimp only at h ⊢
      obtain ⟨q, h1, h2⟩ := scanF_back (b :: r) (acc ++ [x]) (by simp) h
      refine ⟨x :: q, by rw [h1]; simp, ?_⟩
      rw [List.flatMap_cons, h2, glue, lineF, taskF_is ht]
      simp

theorem parse_print {text : List UInt8} (h : (parseF text).2.1 = 0) : printF (parseF text).1 = text := by
  unfold parseF at h ⊢
  split at h
  · cases h
  · rename_i h0
    rw [if_neg h0]
    split at h
    · rename_i h1
      exact absurd h h1
    · rename_i h1
      rw [if_neg h1]
      split at h
      · rename_i h2
        exact absurd h h2
      · rename_i h2
        rw [if_neg h2]
        obtain ⟨r, h3, h4⟩ := scanF_back (pcs 10 text) [] (pcsS_ne _) (by simpa using h1)
        unfold printF
        dsimp only
        rw [if_neg h2, h3, List.nil_append, h4, glue_pcs]

theorem itoa_clean {n : Int} (h : 0 ≤ n ∧ n ≤ 99999) : (∀ b ∈ Lib.itoa n, b ≠ 32 ∧ b ≠ 10) ∧ (Lib.itoa n).length ≤ 5 ∧ numF (Lib.itoa n) = some n := by
  obtain ⟨m, rfl⟩ : ∃ m : Nat, n = (m : Int) := ⟨n.toNat, by omega⟩
  rw [Lib.itoa_nonneg]
  refine ⟨fun b hb => ?_, dec_len 4 m (by omega), numF_dec (by omega)⟩
  have := (isD_iff b).1 (List.all_eq_true.1 (dec_spec m).1 b hb)
  refine ⟨fun e => ?_, fun e => ?_⟩ <;> subst e <;> simp at this

theorem nm_clean {x : Ta} (h : isNm x.nm = true) : (∀ b ∈ x.nm.data.toList, b ≠ 32 ∧ b ≠ 10) ∧ x.nm.data.toList.length ≤ 10 := by
  unfold isNm at h
  simp only [Bool.and_eq_true] at h
  obtain ⟨h1, h2⟩ := h
  constructor
  · intro b hb
    unfold allLo at h2
    have := List.all_eq_true.1 h2 b hb
    simp only [Bool.and_eq_true, decide_eq_true_eq] at this
    refine ⟨fun e => ?_, fun e => ?_⟩ <;> subst e <;> simp at this
  · unfold within at h1
    simp only [Bool.and_eq_true, decide_eq_true_eq] at h1
    have : x.nm.size = x.nm.data.toList.length := by first | rfl | simp
    omega

theorem chkF_names : ∀ (r l : List Ta) (k : Nat), (chkFrom l r k).1 = 0 → ∀ x ∈ r, isNm x.nm = true ∧ stands x = true
  | [], _, _, _, x, hx => by simp at hx
  | y :: r, l, k, h, x, hx => by
    rw [chkFrom] at h
    have hw : wrongF y (l.take k) = 0 := by
      apply Classical.byContradiction
      intro hc
      first
        | (rw [if_pos hc] at h; exact hc h)
        | (simp only [hc] at h; simp at h; exact hc h)
        | (split at h <;> simp_all)
    rcases List.mem_cons.1 hx with rfl | hx
    · unfold wrongF at hw
      split at hw
      · cases hw
      · rename_i h1
        split at hw
        · cases hw
        · split at hw
          · cases hw
          · rename_i h3
            exact ⟨by simpa using h1, by simpa using h3⟩
    · refine chkF_names r l (k + 1) ?_ x hx
      first
        | (rw [if_neg (by simp [hw])] at h; exact h)
        | (simp only [hw] at h; simpa using h)

theorem chkF_good {l : List Ta} (h : (chkF l).1 = 0) : l.length ≠ 0 ∧ l.length ≤ 8 ∧ ∀ x ∈ l, isNm x.nm = true ∧ stands x = true := by
  unfold chkF at h
  split at h
  · cases h
  · rename_i h0
    exact ⟨by omega, by omega, chkF_names l l 0 h⟩

theorem nums_in {x : Ta} (h : stands x = true) : ∀ n ∈ x.nums, 0 ≤ n ∧ n ≤ 99999 := by
  unfold stands within at h
  simp only [Bool.and_eq_true, decide_eq_true_eq] at h
  intro n hn
  simp [Ta.nums] at hn
  rcases hn with rfl | rfl | rfl | rfl | rfl | rfl <;> omega

theorem taskF_body {x : Ta} (hn : isNm x.nm = true) (hs : stands x = true) : taskF (bodyF x) = some x ∧ (10 : UInt8) ∉ bodyF x ∧ (bodyF x).length ≤ 46 := by
  obtain ⟨n1, n2⟩ := nm_clean hn
  have hk := nums_in hs
  obtain ⟨⟨nd⟩, c, t, d, j, o, p⟩ := x
  have i1 := itoa_clean (hk c (by simp [Ta.nums]))
  have i2 := itoa_clean (hk t (by simp [Ta.nums]))
  have i3 := itoa_clean (hk d (by simp [Ta.nums]))
  have i4 := itoa_clean (hk j (by simp [Ta.nums]))
  have i5 := itoa_clean (hk o (by simp [Ta.nums]))
  have i6 := itoa_clean (hk p (by simp [Ta.nums]))
  dsimp only at n1 n2 i1 i2 i3 i4 i5 i6
  have e : bodyF ⟨⟨nd⟩, c, t, d, j, o, p⟩ = glue 32 [nd.toList, Lib.itoa c, Lib.itoa t, Lib.itoa d, Lib.itoa j, Lib.itoa o, Lib.itoa p] := by simp [bodyF, spcF, Ta.nums, glue]
  have hp : pcs 32 (bodyF ⟨⟨nd⟩, c, t, d, j, o, p⟩) = [nd.toList, Lib.itoa c, Lib.itoa t, Lib.itoa d, Lib.itoa j, Lib.itoa o, Lib.itoa p] := by
    rw [e]
    refine pcs_glue 32 _ (by simp) (fun q hq => ?_)
    simp at hq
    rcases hq with rfl | rfl | rfl | rfl | rfl | rfl | rfl
    · exact fun h => (n1 _ h).1 rfl
    · exact fun h => (i1.1 _ h).1 rfl
    · exact fun h => (i2.1 _ h).1 rfl
    · exact fun h => (i3.1 _ h).1 rfl
    · exact fun h => (i4.1 _ h).1 rfl
    · exact fun h => (i5.1 _ h).1 rfl
    · exact fun h => (i6.1 _ h).1 rfl
  refine ⟨?_, ?_, ?_⟩
  · unfold taskF
    rw [hp]
    dsimp only
    rw [i1.2.2, i2.2.2, i3.2.2, i4.2.2, i5.2.2, i6.2.2]
  · rw [e]
    simp only [glue]
    intro h
    simp only [List.mem_append, List.mem_cons] at h
    rcases h with h | h | h | h | h | h | h | h | h | h | h | h | h
    · exact (n1 _ h).2 rfl
    · exact absurd h (by decide)
    · exact (i1.1 _ h).2 rfl
    · exact absurd h (by decide)
    · exact (i2.1 _ h).2 rfl
    · exact absurd h (by decide)
    · exact (i3.1 _ h).2 rfl
    · exact absurd h (by decide)
    · exact (i4.1 _ h).2 rfl
    · exact absurd h (by decide)
    · exact (i5.1 _ h).2 rfl
    · exact absurd h (by decide)
    · exact (i6.1 _ h).2 rfl
  · have n2' := n2
    have j1 := i1.2.1
    have j2 := i2.2.1
    have j3 := i3.2.1
    have j4 := i4.2.1
    have j5 := i5.2.1
    have j6 := i6.2.1
    rw [e]
    simp only [glue, List.length_append, List.length_cons]
    omega

theorem scan_lines : ∀ (l acc : List Ta), (∀ x ∈ l, isNm x.nm = true ∧ stands x = true) → scanF (pcs 10 (l.flatMap lineF)) acc = (acc ++ l, (0, 0)) ∧ (l.flatMap lineF).length ≤ 47 * l.length
  | [], acc, _ => by
    refine ⟨?_, by simp⟩
    rw [List.flatMap_nil, List.append_nil]
    rfl
  | x :: r, acc, h => by
    obtain ⟨h1, h2⟩ := h x (by simp)
    obtain ⟨t1, t2, t3⟩ := taskF_body h1 h2
    obtain ⟨s1, s2⟩ := scan_lines r (acc ++ [x]) (fun y hy => h y (List.mem_cons_of_mem _ hy))
    have e : (x :: r).flatMap lineF = bodyF x ++ 10 :: r.flatMap lineF := by rw [List.flatMap_cons, lineF]; simp
    constructor
    · rw [e]
      have hp : pcs 10 (bodyF x ++ 10 :: r.flatMap lineF) = bodyF x :: pcs 10 (r.flatMap lineF) := by
        unfold pcs
        rw [pcsS_hit t2, List.append_nil]
      rw [hp]
      cases hq : pcs 10 (r.flatMap lineF) with
      | nil => exact absurd hq (pcsS_ne _)
      | cons a t =>
        rw [scanF, t1]
        dsimp only
        rw [← hq, s1]
        simp
    · rw [e]
      simp only [List.length_append, List.length_cons]
      omega

theorem print_parse {l : List Ta} (h : printF l ≠ []) : parseF (printF l) = (l, (0, 0)) := by
  unfold printF at h ⊢
  split at h
  · exact absurd rfl h
  · rename_i hc
    rw [if_neg hc]
    have hc0 : (chkF l).1 = 0 := by simpa using hc
    obtain ⟨-, h8, hx⟩ := chkF_good hc0
    obtain ⟨s1, s2⟩ := scan_lines l [] hx
    unfold parseF
    rw [if_neg (by omega), s1]
    dsimp only
    rw [List.nil_append, if_neg (by simp), if_neg hc]
end Go.Proofs.YtccoobcggbbciadDoor
