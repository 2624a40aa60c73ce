import Derived.Test.YtccoobcggbbciakDoorKB0
namespace Go.Proofs.YtccoobcggbbciakDoor
open Go.RowKit

/-- A line, if it is one that Print writes. -/
def acceptF (w : List UInt8) : Option Ev := if standsE (candF w) ∧ bodyE (candF w) = w then some (candF w) else none

theorem acceptF_is {w : List UInt8} {e : Ev} (h : acceptF w = some e) : e = candF w ∧ standsE e ∧ bodyE e = w := by
  unfold acceptF at h
  split at h
  · rename_i hc
    cases h
    exact ⟨rfl, hc.1, hc.2⟩
  · cases h

theorem acceptF_body {e : Ev} (h : standsE e) (hi : inE e) : acceptF (bodyE e) = some e := by
  unfold acceptF
  rw [candF_body h hi, if_pos ⟨h, rfl⟩]

/-- Whatever way one comes to an event that is written just so: it is the line's. -/
theorem acceptF_of {w : List UInt8} {e : Ev} (h : standsE e) (hi : inE e) (hw : bodyE e = w) : acceptF w = some e := by
  subst hw
  exact acceptF_body h hi

def lastE (acc : List Ev) : Int := match acc.getLast? with
  | some e => e.at_
  | none => 0

theorem lastE_snoc (acc : List Ev) (e : Ev) : lastE (acc ++ [e]) = e.at_ := by unfold lastE; simp

def scanE : List (List UInt8) → List Ev → List Ev × (Int × Int)
  | [], acc => (acc, (0, 0))
  | [z], acc => if z = [] then (acc, (0, 0)) else ([], (1, (acc.length : Int)))
  | a :: b :: r, acc => match acceptF a with
    | none => ([], (1, (acc.length : Int)))
    | some e => if lastE acc ≤ e.at_ then scanE (b :: r) (acc ++ [e]) else ([], (1, (acc.length : Int)))

def readE (text : List UInt8) : List Ev × (Int × Int) := scanE (pcs 10 text) []

/-- May events stand behind one another, from a time on? -/
def okFrom : Int → List Ev → Prop
  | _, [] => True
  | b, e :: r => standsE e ∧ b ≤ e.at_ ∧ okFrom e.at_ r
instance okFrom_dec : ∀ (b : Int) (l : List Ev), Decidable (okFrom b l)
  | _, [] => isTrue trivial
  | b, e :: r => by
    unfold okFrom
    have := okFrom_dec e.at_ r
    infer_instance

def printE (l : List Ev) : List UInt8 := if okFrom 0 l then l.flatMap lineE else []

theorem scanE_back : ∀ (ps : List (List UInt8)) (acc : List Ev), ps ≠ [] → (scanE ps acc).2.1 = 0 → ∃ r, (scanE ps acc).1 = acc ++ r ∧ r.flatMap lineE = glue 10 ps ∧ okFrom (lastE acc) r
  | [], _, h, _ => absurd rfl h
  | [z], acc, _, h => by
    rw [scanE] at h ⊢
    split at h
    · rename_i hz
      subst hz
      exact ⟨[], by simp, rfl, trivial⟩
    · cases h
  | a :: b :: r, acc, _, h => by
    rw [scanE] at h ⊢
    cases ht : acceptF a with
    | none => rw [ht] at h; cases h
    | some x =>
      rw [ht] at h
      dsimp only at h ⊢
      split at h
      · rename_i hl
        rw [if_pos hl]
        obtain ⟨q, h1, h2, h3⟩ := scanE_back (b :: r) (acc ++ [x]) (by simp) h
        obtain ⟨-, k1, k2⟩ := acceptF_is ht
        rw [lastE_snoc] at h3
        refine ⟨x :: q, by rw [h1]; simp, ?_, ⟨k1, hl, h3⟩⟩
        rw [List.flatMap_cons, h2, glue, lineE, k2]
        simp
      · cases h

theorem read_print {text : List UInt8} (h : (readE text).2.1 = 0) : printE (readE text).1 = text := by
  obtain ⟨r, h1, h2, h3⟩ := scanE_back (pcs 10 text) [] (pcsS_ne _) h
  unfold readE printE
  have h4 : okFrom 0 r := h3
  rw [h1, List.nil_append, if_pos h4, h2, glue_pcs]

theorem body_nl {e : Ev} (h : standsE e) : (10 : UInt8) ∉ bodyE e := by
  have key : ∀ ps : List (List UInt8), (∀ p ∈ ps, ∀ b ∈ p, b ≠ 32 ∧ b ≠ 10) → (10 : UInt8) ∉ glue 32 ps := by
    intro ps
    induction ps with
    | nil => intro _ hm; simp [glue] at hm
    | cons a r ih =>
      intro hc hm
      cases r with
      | nil => rw [glue] at hm; exact (hc a (by simp) 10 hm).2 rfl
      | cons b r' =>
        rw [glue] at hm
        rcases List.mem_append.1 hm with hm | hm
        · exact (hc a (by simp) 10 hm).2 rfl
        · rcases List.mem_cons.1 hm with hm | hm
          · cases hm
          · exact ih (fun p hp => hc p (List.mem_cons_of_mem _ hp)) hm
  exact key _ (parts_clean h)

theorem scan_linesE : ∀ (l acc : List Ev), okFrom (lastE acc) l → (∀ x ∈ l, inE x) → scanE (pcs 10 (l.flatMap lineE)) acc = (acc ++ l, (0, 0))
  | [], acc, _, _ => by
    rw [List.flatMap_nil, List.append_nil]
    rfl
  | x :: r, acc, h, hi => by
    obtain ⟨h1, h2, h3⟩ := h
    have ih := scan_linesE r (acc ++ [x]) (by rw [lastE_snoc]; exact h3) (fun y hy => hi y (List.mem_cons_of_mem _ hy))
    have e : (x :: r).flatMap lineE = bodyE x ++ 10 :: r.flatMap lineE := by rw [List.flatMap_cons, lineE]; simp
    rw [e]
    have hp : pcs 10 (bodyE x ++ 10 :: r.flatMap lineE) = bodyE x :: pcs 10 (r.flatMap lineE) := by
      unfold pcs
      rw [pcsS_hit (body_nl h1), List.append_nil]
    rw [hp]
    cases hq : pcs 10 (r.flatMap lineE) with
    | nil => exact absurd hq (pcsS_ne _)
    | cons a t =>
      rw [scanE, acceptF_body h1 (hi x (by simp))]
      dsimp only
      rw [if_pos h2, ← hq, ih]
      simp

theorem print_read {l : List Ev} (h : printE l ≠ []) (hi : ∀ x ∈ l, inE x) : readE (printE l) = (l, (0, 0)) := by
  unfold printE at h ⊢
  split at h
  · rename_i hc
    rw [if_pos hc]
    have := scan_linesE l [] hc hi
    rw [List.nil_append] at this
    exact this
  · exact absurd rfl h
end Go.Proofs.YtccoobcggbbciakDoor
