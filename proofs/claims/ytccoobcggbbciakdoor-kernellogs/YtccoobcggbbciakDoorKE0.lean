import Derived.Test.YtccoobcggbbciakDoorKD0
namespace Go.Proofs.YtccoobcggbbciakDoor
open Go.RowKit

theorem atoF_in {w : List UInt8} {n : Int} (h : atoF w = some n) : -9223372036854775808 ≤ n ∧ n ≤ 9223372036854775807 := by
  unfold atoF at h
  split at h
  · rename_i m hm
    cases h
    unfold Lib.atoiAll at hm
    split at hm
    · cases hm
    · rename_i c r
      dsimp only at hm
      split at hm
      · cases hm
      · cases hm
      · split at hm
        · cases hm
        · rename_i h1
          split at hm
          · cases hm
          · rename_i h2
            cases hm
            split
            · rename_i h3
              have : ¬ 9223372036854775808 < _ := fun hc => h2 ⟨h3, hc⟩
              omega
            · rename_i h3
              have : ¬ 9223372036854775808 ≤ _ := fun hc => h1 ⟨h3, hc⟩
              omega
  · cases h

theorem vOf_in (w : List UInt8) : -9223372036854775808 ≤ vOf w ∧ vOf w ≤ 9223372036854775807 := by
  unfold vOf
  cases h : atoF w with
  | none => exact ⟨by decide, by decide⟩
  | some n => exact atoF_in h

theorem candF_in (w : List UInt8) : inE (candF w) := by
  have hz : inE zeroE := ⟨by decide, by decide⟩
  unfold candF
  split
  · split
    · split
      · split
        · rename_i h
          exact atoF_in h
        · exact hz
      · exact hz
    · split
      · split
        · rename_i h
          exact atoF_in h
        · exact hz
      · exact hz
  · exact hz

theorem candW_in (ws : List (List UInt8)) : inE (candW ws).1 := by
  unfold candW
  dsimp only
  split
  · rename_i h
    have h2 := congrArg (·[2]?) h
    simp only [List.getElem?_map] at h2
    cases hw : (ws.eraseIdx 1)[2]? with
    | none => rw [hw] at h2; simp at h2
    | some w =>
      rw [hw] at h2
      simp at h2
      unfold inE
      dsimp only
      rw [← h2]
      exact vOf_in w
  · rename_i h
    have h2 := congrArg (·[3]?) h
    simp only [List.getElem?_map] at h2
    cases hw : (ws.eraseIdx 1)[3]? with
    | none => rw [hw] at h2; simp at h2
    | some w =>
      rw [hw] at h2
      simp at h2
      unfold inE
      dsimp only
      rw [← h2]
      exact vOf_in w
  · unfold inE
    dsimp only
    exact ⟨by decide, by decide⟩

/-- Where the program takes a line, the document does. -/
theorem doc_yes {F : List UInt8 → List (List UInt8)} (hF : ∀ l, (∀ b ∈ l, b.toNat < 128) → F l = Lib.fields l) {a : List UInt8} {e : Ev} (h : acceptF a = some e) : candW (F (a ++ [10])) = (e, if e.k = 6 then 4 else 3) ∧ standsE e ∧ lineE e = a ++ [10] ∧ inE e := by
  obtain ⟨h1, h2, h3⟩ := acceptF_is h
  have hi : inE e := by rw [h1]; exact candF_in a
  have hl : lineE e = a ++ [10] := by unfold lineE; rw [h3]
  refine ⟨?_, h2, hl, hi⟩
  rw [← hl, hF _ (line_ascii h2), fields_line h2, candW_parts h2 hi]

/-- Where the program doesn't take a line, the document doesn't. -/
theorem doc_no {a : List UInt8} (ws : List (List UInt8)) (h : acceptF a = none) : ¬ (standsE (candW ws).1 ∧ lineE (candW ws).1 = a ++ [10]) := by
  rintro ⟨h1, h2⟩
  unfold lineE at h2
  have h3 : bodyE (candW ws).1 = a := by simpa using h2
  rw [acceptF_of h1 (candW_in ws) h3] at h
  cases h
end Go.Proofs.YtccoobcggbbciakDoor
