import Derived.Test.YtccoobcggbbciakDoorKT0
import Derived.Shelf.Strings.FieldsAny
namespace Go.Proofs.YtccoobcggbbciakDoor
open Go.ChangeShapes Go.WideShapes Go.ChangeAt Go.RowKit

theorem fieldsGoD_sum : ∀ (f : Nat) (cur l : List UInt8), ((Lib.fieldsGoD f cur l).map List.length).sum ≤ cur.length + l.length ∧ ∀ p ∈ Lib.fieldsGoD f cur l, p ≠ []
  | 0, cur, l => by
    unfold Lib.fieldsGoD
    split
    · simp
    · rename_i h
      simp [h]
  | f + 1, cur, l => by
    unfold Lib.fieldsGoD
    split
    · split
      · simp
      · rename_i h
        simp [h]
    · split
      · obtain ⟨h1, h2⟩ := fieldsGoD_sum f [] (l.drop (Lib.decodeL l).2)
        have h3 : (l.drop (Lib.decodeL l).2).length ≤ l.length := by rw [List.length_drop]; omega
        rw [List.length_nil] at h1
        split
        · rw [List.nil_append]
          exact ⟨by omega, h2⟩
        · rename_i hc
          refine ⟨?_, fun p hp => ?_⟩
          · rw [List.map_append, List.sum_append]
            simp
            simp at h1
            omega
          · rcases List.mem_append.1 hp with h | h
            · rw [List.mem_singleton.1 h]
              exact hc
            · exact h2 p h
      · obtain ⟨h1, h2⟩ := fieldsGoD_sum f (cur ++ l.take (Lib.decodeL l).2) (l.drop (Lib.decodeL l).2)
        refine ⟨?_, h2⟩
        have h3 : (l.take (Lib.decodeL l).2).length + (l.drop (Lib.decodeL l).2).length = l.length := by rw [← List.length_append, List.take_append_drop]
        rw [List.length_append] at h1
        omega

theorem sum_count : ∀ (ps : List (List UInt8)), (∀ p ∈ ps, p ≠ []) → ps.length ≤ (ps.map List.length).sum
  | [], _ => by simp
  | p :: r, h => by
    have h1 := sum_count r (fun q hq => h q (List.mem_cons_of_mem _ hq))
    have h2 : p.length ≠ 0 := fun e => h p (by simp) (List.eq_nil_of_length_eq_zero e)
    simp
    omega

theorem sum_mem : ∀ (ps : List (List UInt8)) (p : List UInt8), p ∈ ps → p.length ≤ (ps.map List.length).sum
  | q :: r, p, h => by
    rcases List.mem_cons.1 h with rfl | h
    · simp
    · have := sum_mem r p h
      simp
      omega

theorem fieldsD_max (l : List UInt8) : (Lib.fieldsD l).length ≤ l.length ∧ ∀ p ∈ Lib.fieldsD l, p.length ≤ l.length := by
  obtain ⟨h1, h2⟩ := fieldsGoD_sum (l.length + 1) [] l
  rw [List.length_nil, Nat.zero_add] at h1
  unfold Lib.fieldsD
  exact ⟨Nat.le_trans (sum_count _ h2) h1, fun p hp => Nat.le_trans (sum_mem _ p hp) h1⟩

/-- The numbers and the kind of the first words. -/
def nsAt (ws : List (List UInt8)) (j : Nat) : List Int := ((ws.take j).eraseIdx 1).map vOf
def kAt (ws : List (List UInt8)) (j : Nat) : Int := match (ws.take j)[1]? with
  | some w => kindE w
  | none => 0

theorem nsAt_step {ws : List (List UInt8)} {j : Nat} {b : List UInt8} (h : ws[j]? = some b) (h1 : j ≠ 1) : nsAt ws (j + 1) = nsAt ws j ++ [vOf b] := by
  unfold nsAt
  rw [List.take_add_one, h]
  have hl : j < ws.length := (List.getElem?_eq_some_iff.1 h).1
  have ht : (ws.take j).length = j := by rw [List.length_take]; omega
  by_cases h0 : j = 0
  · subst h0
    simp
  · rw [List.eraseIdx_append_of_lt_length (by omega)]
    simp

theorem nsAt_one {ws : List (List UInt8)} {b : List UInt8} (h : ws[1]? = some b) : nsAt ws 2 = nsAt ws 1 ∧ kAt ws 2 = kindE b ∧ kAt ws 1 = 0 := by
  match ws, h with
  | a :: c :: r, h =>
    simp at h
    subst h
    simp [nsAt, kAt]

theorem kAt_step {ws : List (List UInt8)} {j : Nat} {b : List UInt8} (h : ws[j]? = some b) (h1 : j ≠ 1) : kAt ws (j + 1) = kAt ws j := by
  unfold kAt
  have hl : j < ws.length := (List.getElem?_eq_some_iff.1 h).1
  have ht : (ws.take j).length = j := by rw [List.length_take]; omega
  rw [List.take_add_one, h]
  by_cases h0 : j = 0
  · subst h0
    simp
  · rw [List.getElem?_append_left (by omega)]

theorem nsAt_zero (ws : List (List UInt8)) : nsAt ws 0 = [] ∧ kAt ws 0 = 0 := by simp [nsAt, kAt]

theorem nsAt_len {ws : List (List UInt8)} {j : Nat} : (nsAt ws j).length ≤ j := by
  unfold nsAt
  rw [List.length_map]
  have := List.length_eraseIdx_le (ws.take j) 1
  rw [List.length_take] at this
  omega

theorem candW_at (ws : List (List UInt8)) : candW ws = (match nsAt ws ws.length with
  | [a, t, n] => (⟨a, kAt ws ws.length, t, 0, n⟩, 3)
  | [a, t, m, n] => (⟨a, kAt ws ws.length, t, m, n⟩, 4)
  | l => (⟨0, kAt ws ws.length, 0, 0, 0⟩, l.length)) := by
  unfold candW nsAt kAt
  rw [List.take_length]
  rfl

/-- A line of the document's, of the pieces. -/
def LineAt (ps : List (List UInt8)) (LL : List ByteArray) (k : Nat) (lb : ByteArray) (p : List UInt8) : Prop :=
  LL[k]? = some lb ∧ p ∈ ps ∧ ((lb.data.toList = p ++ [10] ∧ ps.drop k = p :: ps.drop (k + 1) ∧ ps.drop (k + 1) ≠ []) ∨ (lb.data.toList = p ∧ ps.drop k = [p] ∧ p = ps.getLastD [] ∧ k + 1 = ps.length))

theorem line_at {ps : List (List UInt8)} {LL : List ByteArray} (hL : LL.map (·.data.toList) = ps.dropLast.map (· ++ [10]) ++ [ps.getLastD []]) {k : Nat} (hk : k < ps.length) : ∃ lb p, LineAt ps LL k lb p := by
  have hlen : LL.length = ps.length := by
    have := congrArg List.length hL
    simp at this
    omega
  have hkl : k < LL.length := by omega
  have hm : (LL.map (·.data.toList))[k]? = some (LL[k].data.toList) := by rw [List.getElem?_map, List.getElem?_eq_getElem hkl]; rfl
  rw [hL] at hm
  have hdk : ps.drop k = ps[k] :: ps.drop (k + 1) := List.drop_eq_getElem_cons hk
  by_cases hmid : k + 1 < ps.length
  · rw [List.getElem?_append_left (by simp; omega), List.getElem?_map, List.getElem?_dropLast, if_pos (by omega), List.getElem?_eq_getElem hk] at hm
    have hb : LL[k].data.toList = ps[k] ++ [10] := by simpa using hm.symm
    refine ⟨LL[k], ps[k], List.getElem?_eq_getElem hkl, List.getElem_mem hk, .inl ⟨hb, hdk, ?_⟩⟩
    intro e
    have := congrArg List.length e
    simp at this
    omega
  · have hke : k = ps.length - 1 := by omega
    rw [List.getElem?_append_right (by simp; omega)] at hm
    have hb : LL[k].data.toList = ps.getLastD [] := by
      simp only [List.length_map, List.length_dropLast] at hm
      rw [show k - (ps.length - 1) = 0 by omega] at hm
      simpa using hm.symm
    have hlast : ps.getLastD [] = ps[k] := by
      rw [List.getLastD_eq_getLast?, List.getLast?_eq_getElem?, ← hke, List.getElem?_eq_getElem hk]
      rfl
    rw [hlast] at hb
    refine ⟨LL[k], ps[k], List.getElem?_eq_getElem hkl, List.getElem_mem hk, .inr ⟨hb, ?_, hlast.symm, by omega⟩⟩
    rw [hdk, List.drop_eq_nil_of_le (by omega)]

theorem print_one (e : Ev) : printE [e] = if standsE e then lineE e else [] := by
  unfold printE
  by_cases h : standsE e
  · rw [if_pos h, if_pos ⟨h, h.2.2.1, trivial⟩]
    simp
  · rw [if_neg h, if_neg (fun hk => h hk.1)]

/-- What the document takes. -/
def Takes (ws : List (List UInt8)) (lb : List UInt8) (acc : List Ev) : Prop := 3 ≤ (candW ws).2 ∧ (candW ws).2 ≤ 4 ∧ printE [(candW ws).1] = lb ∧ lastE acc ≤ (candW ws).1.at_

theorem takes_good {ps : List (List UInt8)} {LL : List ByteArray} {k : Nat} {lb : ByteArray} {p : List UInt8} {acc : List Ev} (h : LineAt ps LL k lb p) (hc : (10 : UInt8) ∉ p) (hn : lb.data.toList ≠ []) (ws : List (List UInt8)) (ht : Takes ws lb.data.toList acc) : scanE (ps.drop k) acc = scanE (ps.drop (k + 1)) (acc ++ [(candW ws).1]) ∧ k + 1 < ps.length := by
  obtain ⟨-, -, h3, h4⟩ := ht
  rw [print_one] at h3
  by_cases hs : standsE (candW ws).1
  rotate_left 1
  · rw [if_neg hs] at h3
    exact absurd h3.symm hn
  rw [if_pos hs] at h3
  obtain ⟨-, -, ⟨h5, h6, h7⟩ | ⟨h5, -⟩⟩ := h
  · rw [h5] at h3
    have hb : bodyE (candW ws).1 = p := by
      unfold lineE at h3
      simpa using h3
    have ha := acceptF_of hs (candW_in ws) hb
    constructor
    · rw [h6]
      cases hq : ps.drop (k + 1) with
      | nil => exact absurd hq h7
      | cons a t =>
        rw [scanE, ha]
        simp only
        rw [if_pos h4]
    · have : (ps.drop (k + 1)).length ≠ 0 := fun e => h7 (List.eq_nil_of_length_eq_zero e)
      rw [List.length_drop] at this
      omega
  · rw [h5] at h3
    exact absurd (by rw [← h3]; unfold lineE; simp) hc

theorem takes_bad {ps : List (List UInt8)} {LL : List ByteArray} {k : Nat} {lb : ByteArray} {p : List UInt8} {acc : List Ev} (h : LineAt ps LL k lb p) (hn : lb.data.toList ≠ []) (ht : ¬ Takes (Lib.fieldsD lb.data.toList) lb.data.toList acc) : scanE (ps.drop k) acc = ([], (1, (acc.length : Int))) := by
  obtain ⟨-, -, ⟨h5, h6, h7⟩ | ⟨h5, h6, -⟩⟩ := h
  · rw [h6]
    cases hq : ps.drop (k + 1) with
    | nil => exact absurd hq h7
    | cons a t =>
      rw [scanE]
      cases ha : acceptF p with
      | none => rfl
      | some e =>
        simp only
        rw [if_neg]
        intro hle
        obtain ⟨g1, g2, g3, -⟩ := doc_yes Lib.fieldsD_ascii ha
        refine ht ?_
        unfold Takes
        rw [h5, g1]
        dsimp only
        refine ⟨by split <;> omega, by split <;> omega, ?_, hle⟩
        rw [print_one, if_pos g2, g3]
  · rw [h6, scanE, if_neg (by rw [← h5]; exact hn)]
end Go.Proofs.YtccoobcggbbciakDoor
