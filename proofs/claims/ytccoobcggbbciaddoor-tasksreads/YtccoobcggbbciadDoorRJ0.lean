import Derived.Test.YtccoobcggbbciadDoorRI0
import Derived.Test.YtccoobcggbbciadDoorTM
namespace Go.Proofs.YtccoobcggbbciadDoor
open Go.ChangeShapes Go.WideShapes Go.ChangeAt Go.RowKit

theorem trim_nl (p : List UInt8) : Lib.trimSuffix (p ++ [10]) [10] = p ∧ Lib.hasSuffix (p ++ [10]) [10] = true := by
  have h : Lib.hasSuffix (p ++ [10]) [10] = true := by
    unfold Lib.hasSuffix
    rw [List.isSuffixOf_iff_suffix]
    exact ⟨p, rfl⟩
  refine ⟨?_, h⟩
  unfold Lib.trimSuffix
  rw [if_pos h]
  simp

theorem trim_no {p : List UInt8} (h : (10 : UInt8) ∉ p) : Lib.trimSuffix p [10] = p ∧ Lib.hasSuffix p [10] = false := by
  have h1 : Lib.hasSuffix p [10] = false := by
    cases hc : Lib.hasSuffix p [10] with
    | false => rfl
    | true =>
      unfold Lib.hasSuffix at hc
      rw [List.isSuffixOf_iff_suffix] at hc
      obtain ⟨t, rfl⟩ := hc
      exact absurd (by simp) h
  refine ⟨?_, h1⟩
  unfold Lib.trimSuffix
  rw [h1]
  rfl

/-- A line of the document's, of the pieces. -/
def LineAt (ps : List (List UInt8)) (LL : List ByteArray) (k : Nat) (lb : ByteArray) (p : List UInt8) (has : Bool) : Prop :=
  LL[k]? = some lb ∧ Lib.trimSuffix lb.data.toList [10] = p ∧ Lib.hasSuffix lb.data.toList [10] = has ∧ lb.size ≤ p.length + 1 ∧ ((has = true ∧ ps.drop k = p :: ps.drop (k + 1) ∧ ps.drop (k + 1) ≠ []) ∨ (has = false ∧ ps.drop k = [p]))

theorem line_at {ps : List (List UInt8)} {LL : List ByteArray} (hL : LL.map (·.data.toList) = ps.dropLast.map (· ++ [10]) ++ [ps.getLastD []]) (hc : ∀ p ∈ ps, (10 : UInt8) ∉ p) {k : Nat} (hk : k < ps.length) : ∃ lb p has, LineAt ps LL k lb p has ∧ p ∈ ps ∧ (has = false → p = ps.getLastD []) ∧ (has = false → k + 1 = ps.length) := by
  have hlen : LL.length = ps.length := by
    have := congrArg List.length hL
    simp at this
    omega
  have hkl : k < LL.length := by omega
  have hm : (LL.map (·.data.toList))[k]? = some (LL[k].data.toList) := by rw [List.getElem?_map, List.getElem?_eq_getElem hkl]; rfl
  rw [hL] at hm
  have hdk : ps.drop k = ps[k] :: ps.drop (k + 1) := List.drop_eq_getElem_cons hk
  by_cases hmid : k + 1 < ps.length
  · rw [List.getElem?_append_left (by simp; omega), List.getElem?_map, List.getElem?_dropLast, if_pos (by omega), List.getElem?_eq_getElem hk] at hm
    have hb : LL[k].data.toList = ps[k] ++ [10] := by simpa using hm.symm
    obtain ⟨t1, t2⟩ := trim_nl ps[k]
    refine ⟨LL[k], ps[k], true, ⟨List.getElem?_eq_getElem hkl, by rw [hb]; exact t1, by rw [hb]; exact t2, by rw [← size_list, hb]; simp, .inl ⟨rfl, hdk, ?_⟩⟩, List.getElem_mem hk, (fun e => by cases e), (fun e => by cases e)⟩
    intro e
    have := congrArg List.length e
    simp at this
    omega
  · have hke : k = ps.length - 1 := by omega
    rw [List.getElem?_append_right (by simp; omega)] at hm
    have hb : LL[k].data.toList = ps.getLastD [] := by
      simp only [List.length_map, List.length_dropLast] at hm
      rw [show k - (ps.length - 1) = 0 by omega] at hm
      simpa using hm.symm
    have hlast : ps.getLastD [] = ps[k] := by
      rw [List.getLastD_eq_getLast?, List.getLast?_eq_getElem?, ← hke, List.getElem?_eq_getElem hk]
      rfl
    obtain ⟨t1, t2⟩ := trim_no (hc ps[k] (List.getElem_mem hk))
    rw [hlast] at hb
    refine ⟨LL[k], ps[k], false, ⟨List.getElem?_eq_getElem hkl, by rw [hb]; exact t1, by rw [hb]; exact t2, by rw [← size_list, hb]; omega, .inr ⟨rfl, ?_⟩⟩, List.getElem_mem hk, fun _ => hlast.symm, fun _ => by omega⟩
    rw [hdk, List.drop_eq_nil_of_le (by omega)]

theorem scan_bad {ps : List (List UInt8)} {LL : List ByteArray} {k : Nat} {lb : ByteArray} {p : List UInt8} {has : Bool} {acc : List Ta} (h : LineAt ps LL k lb p has) (hn : has = false → p ≠ []) (hb : ¬ (has = true ∧ taskF p ≠ none)) : scanF (ps.drop k) acc = ([], (1, (acc.length : Int))) := by
  obtain ⟨-, -, -, -, ⟨rfl, h1, h2⟩ | ⟨rfl, h1⟩⟩ := h
  · have ht : taskF p = none := by
      cases ht : taskF p with
      | none => rfl
      | some x => exact absurd ⟨rfl, by rw [ht]; simp⟩ hb
    rw [h1]
    cases hq : ps.drop (k + 1) with
    | nil => exact absurd hq h2
    | cons a t => rw [scanF, ht]
  · rw [h1, scanF, if_neg (hn rfl)]

theorem scan_good {ps : List (List UInt8)} {LL : List ByteArray} {k : Nat} {lb : ByteArray} {p : List UInt8} {acc : List Ta} {x : Ta} (h : LineAt ps LL k lb p true) (ht : taskF p = some x) : scanF (ps.drop k) acc = scanF (ps.drop (k + 1)) (acc ++ [x]) := by
  obtain ⟨-, -, -, -, ⟨-, h1, h2⟩ | ⟨e, -⟩⟩ := h
  · rw [h1]
    cases hq : ps.drop (k + 1) with
    | nil => exact absurd hq h2
    | cons a t => rw [scanF, ht]
  · cases e

theorem taskF_words {p : List UInt8} {ws : List ByteArray} (hw : ws.map (·.data.toList) = pcs 32 p) : (ws.length ≠ 7 → taskF p = none) ∧ (∀ (k : Nat) (b : ByteArray), 1 ≤ k → k < 7 → ws[k]? = some b → numF b.data.toList = none → taskF p = none) := by
  have hR := taskR_len (s := ⟨p.toArray⟩) (ws := ws) (by rw [back_list]; exact hw)
  have hB := fun k b => taskR_bad (s := ⟨p.toArray⟩) (ws := ws) (by rw [back_list]; exact hw) (k := k) (b := b)
  have key : taskR ⟨p.toArray⟩ = (⟨⟨#[]⟩, 0, 0, 0, 0, 0, 0⟩, false) → taskF p = none := fun h => by
    unfold taskR at h
    rw [back_list] at h
    cases ht : taskF p with
    | none => rfl
    | some x => rw [ht] at h; cases (Prod.mk.inj h).2
  refine ⟨fun h => key (hR h), fun k b h1 h7 hb hn => ?_⟩
  obtain ⟨k', rfl⟩ : ∃ k', k = k' + 1 := ⟨k - 1, by omega⟩
  refine key (hB k' b (by omega) hb ?_)
  unfold numR
  rw [hn]

theorem taskF_all {p : List UInt8} {b0 b1 b2 b3 b4 b5 b6 : ByteArray} {n1 n2 n3 n4 n5 n6 : Int} (hw : [b0, b1, b2, b3, b4, b5, b6].map (·.data.toList) = pcs 32 p) (h1 : numF b1.data.toList = some n1) (h2 : numF b2.data.toList = some n2) (h3 : numF b3.data.toList = some n3) (h4 : numF b4.data.toList = some n4) (h5 : numF b5.data.toList = some n5) (h6 : numF b6.data.toList = some n6) : taskF p = some ⟨b0, n1, n2, n3, n4, n5, n6⟩ := by
  unfold taskF
  rw [← hw]
  simp only [List.map_cons, List.map_nil]
  rw [h1, h2, h3, h4, h5, h6]

theorem ReadSet_ends {w : World} {g : Nat} {c k p : Value} {a : Act} (h : w.heap[g]? = some (.cells #[c, k] 37 (0, 0))) (h2 : a.tmps[2]?.getD undef = p) (h3 : a.tmps[3]?.getD undef = .pointer (some ⟨g, 0, none⟩)) :
    (results Tryd.f29 a.tmps).run Tryd.prog w = .ok (.tuple #[p, .agg #[c, k]]) w := by
  obtain ⟨c1, f1, l1⟩ := cells_of (l := [_, _]) h
  have c10 := c1 0 _ rfl
  have c11 := c1 1 _ rfl
  simp [results, Tryd.results29, go_sem, h2, h3, c10, c11]
end Go.Proofs.YtccoobcggbbciadDoor
