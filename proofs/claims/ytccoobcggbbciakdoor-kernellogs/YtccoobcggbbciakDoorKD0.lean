import Derived.Test.YtccoobcggbbciakDoorKC0
import Derived.Lib.Fields
namespace Go.Proofs.YtccoobcggbbciakDoor
open Go.RowKit

/-- A byte of a word: no blank, and of the first half. -/
def plainB (b : UInt8) : Prop := Lib.isSp b = false ∧ b.toNat < 128

theorem dig_plain {b : UInt8} (h : isD b = true) : plainB b := by
  have h2 := (isD_iff b).1 h
  refine ⟨?_, by omega⟩
  unfold Lib.isSp
  simp only [Bool.or_eq_false_iff, beq_eq_false_iff_ne, ne_eq]
  refine ⟨⟨⟨⟨⟨?_, ?_⟩, ?_⟩, ?_⟩, ?_⟩, ?_⟩ <;> (rintro rfl; revert h2; decide)

theorem itoa_plain (n : Int) : Lib.itoa n ≠ [] ∧ ∀ b ∈ Lib.itoa n, plainB b := by
  have key : ∀ u : Nat, ∀ b ∈ Lib.decDigits u, plainB b := fun u b hb => dig_plain (List.all_eq_true.1 (dec_spec u).1 b hb)
  unfold Lib.itoa
  split
  · refine ⟨by simp, fun b hb => ?_⟩
    rcases List.mem_cons.1 hb with rfl | h
    · exact ⟨by decide, by decide⟩
    · exact key _ b h
  · exact ⟨(dec_spec _).2.2.1, key _⟩

theorem word_plain {k : Int} (h1 : 1 ≤ k) (h6 : k ≤ 6) : wordE k ≠ [] ∧ ∀ b ∈ wordE k, plainB b := by
  have : k = 1 ∨ k = 2 ∨ k = 3 ∨ k = 4 ∨ k = 5 ∨ k = 6 := by omega
  unfold plainB
  rcases this with rfl | rfl | rfl | rfl | rfl | rfl <;> exact ⟨by decide, by decide⟩

theorem parts_plain {e : Ev} (h : standsE e) : ∀ p ∈ partsE e, p ≠ [] ∧ ∀ b ∈ p, plainB b := by
  intro p hp
  unfold partsE at hp
  rcases List.mem_cons.1 hp with rfl | hp
  · exact itoa_plain _
  · rcases List.mem_cons.1 hp with rfl | hp
    · exact word_plain h.1 h.2.1
    · obtain ⟨x, -, rfl⟩ := List.mem_map.1 hp
      exact itoa_plain x

theorem fields_word : ∀ (p cur rest : List UInt8), (∀ b ∈ p, plainB b) → Lib.fieldsGo cur (p ++ rest) = Lib.fieldsGo (cur ++ p) rest
  | [], cur, rest, _ => by simp
  | b :: p, cur, rest, h => by
    rw [List.cons_append, Lib.fieldsGo_more _ _ _ (h b (by simp)).1, fields_word p (cur ++ [b]) rest (fun c hc => h c (List.mem_cons_of_mem _ hc))]
    simp

theorem fields_glue : ∀ (ps : List (List UInt8)), ps ≠ [] → (∀ p ∈ ps, p ≠ [] ∧ ∀ b ∈ p, plainB b) → Lib.fieldsGo [] (glue 32 ps ++ [10]) = ps
  | [], h, _ => absurd rfl h
  | [a], _, h => by
    rw [glue, fields_word a [] [10] (h a (by simp)).2, List.nil_append, Lib.fieldsGo_end _ _ _ (by decide) (h a (by simp)).1]
    rfl
  | a :: b :: r, _, h => by
    rw [glue, List.append_assoc, fields_word a [] _ (h a (by simp)).2, List.nil_append, List.cons_append, Lib.fieldsGo_end _ _ _ (by decide) (h a (by simp)).1]
    rw [fields_glue (b :: r) (by simp) (fun p hp => h p (List.mem_cons_of_mem _ hp))]

theorem fields_line {e : Ev} (h : standsE e) : Lib.fields (lineE e) = partsE e := by
  unfold Lib.fields lineE bodyE
  exact fields_glue _ (by unfold partsE; simp) (parts_plain h)

theorem line_ascii {e : Ev} (h : standsE e) : ∀ b ∈ lineE e, b.toNat < 128 := by
  have key : ∀ ps : List (List UInt8), (∀ p ∈ ps, ∀ b ∈ p, plainB b) → ∀ b ∈ glue 32 ps, b.toNat < 128 := by
    intro ps
    induction ps with
    | nil => intro _ b hm; simp [glue] at hm
    | cons a r ih =>
      intro hc b hm
      cases r with
      | nil => rw [glue] at hm; exact (hc a (by simp) b hm).2
      | cons c r' =>
        rw [glue] at hm
        rcases List.mem_append.1 hm with hm | hm
        · exact (hc a (by simp) b hm).2
        · rcases List.mem_cons.1 hm with hm | hm
          · subst hm; decide
          · exact ih (fun p hp => hc p (List.mem_cons_of_mem _ hp)) b hm
  intro b hb
  unfold lineE at hb
  rcases List.mem_append.1 hb with hb | hb
  · exact key _ (fun p hp => (parts_plain h p hp).2) b hb
  · rw [List.mem_singleton.1 hb]; decide

/-- The document's number of a word. -/
def vOf (w : List UInt8) : Int := (atoF w).getD (-1152921504606846976)

/-- The document's way to an event, and how many numbers the line has. -/
def candW (ws : List (List UInt8)) : Ev × Nat :=
  let k : Int := match ws[1]? with
    | some w => kindE w
    | none => 0
  match (ws.eraseIdx 1).map vOf with
  | [a, t, n] => (⟨a, k, t, 0, n⟩, 3)
  | [a, t, m, n] => (⟨a, k, t, m, n⟩, 4)
  | l => (⟨0, k, 0, 0, 0⟩, l.length)

theorem vOf_itoa {n : Int} (h0 : -9223372036854775808 ≤ n) (h1 : n ≤ 9223372036854775807) : vOf (Lib.itoa n) = n := by
  unfold vOf
  rw [atoF_itoa h0 h1]
  rfl

theorem candW_parts {e : Ev} (h : standsE e) (hi : inE e) : candW (partsE e) = (e, if e.k = 6 then 4 else 3) := by
  obtain ⟨h1, h6, ha0, ha1, ht0, ht1, hp, hq⟩ := h
  have hk := (wordE_kind h1 h6).1
  obtain ⟨a, k, t, m, n⟩ := e
  unfold inE at hi
  dsimp only at *
  unfold candW partsE tailE
  dsimp only
  by_cases h : k = 6
  · have hm := hp h
    rw [if_pos h, if_pos h]
    simp only [List.map_cons, List.map_nil, List.getElem?_cons_succ, List.getElem?_cons_zero, List.eraseIdx_cons_succ, List.eraseIdx_cons_zero]
    rw [hk, vOf_itoa (by omega) (by omega), vOf_itoa (by omega) (by omega), vOf_itoa (by omega) (by omega), vOf_itoa hi.1 hi.2]
  · have hm := hq h
    rw [if_neg h, if_neg h]
    simp only [List.map_cons, List.map_nil, List.getElem?_cons_succ, List.getElem?_cons_zero, List.eraseIdx_cons_succ, List.eraseIdx_cons_zero]
    rw [hk, vOf_itoa (by omega) (by omega), vOf_itoa (by omega) (by omega), vOf_itoa (by omega) (by omega), hm.1]
end Go.Proofs.YtccoobcggbbciakDoor
