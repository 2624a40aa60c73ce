import Derived.Test.YtcgncdpohaoejafDoorRB
import Derived.Test.YtcgncdpohaoejafDoorRM
import Derived.Test.YtcgncdpohaoejafDoorYA
import Derived.Test.YtcgncdpohaoejafDoorKS
namespace Go.Proofs.YtcgncdpohaoejafDoor
open Go.ChangeShapes Go.WideShapes Go.ChangeAt Go.RowKit

/-- What has been found so far, from the greatest place on. -/
def Fnd (l : List Ta) (bs : List Int) (left : List Nat) (q : Nat) (f : Int) : Prop :=
  (f = -1 ∧ ∀ k, q ≤ k → k ∈ left → lastIn l bs left k = false) ∨ (∃ m : Nat, f = (m : Int) ∧ q ≤ m ∧ m ∈ left ∧ lastIn l bs left m = true ∧ ∀ k, q ≤ k → k < m → k ∈ left → lastIn l bs left k = false)

theorem Fnd.start {l : List Ta} {bs : List Int} {left : List Nat} {n : Nat} (h : ∀ k ∈ left, k < n) : Fnd l bs left n (-1) := .inl ⟨rfl, fun k h1 h2 => by have := h k h2; omega⟩

theorem Fnd.skip {l : List Ta} {bs : List Int} {left : List Nat} {q : Nat} {f : Int} (h : Fnd l bs left (q + 1) f) (hn : q ∈ left → lastIn l bs left q = false) : Fnd l bs left q f := by
  rcases h with ⟨h1, h2⟩ | ⟨m, h1, h2, h3, h4, h5⟩
  · refine .inl ⟨h1, fun k hk hm => ?_⟩
    by_cases e : k = q
    · subst e; exact hn hm
    · exact h2 k (by omega) hm
  · refine .inr ⟨m, h1, by omega, h3, h4, fun k hk hkm hm => ?_⟩
    by_cases e : k = q
    · subst e; exact hn hm
    · exact h5 k (by omega) hkm hm

theorem Fnd.hit {l : List Ta} {bs : List Int} {left : List Nat} {q : Nat} (hm : q ∈ left) (hl : lastIn l bs left q = true) : Fnd l bs left q (q : Int) := .inr ⟨q, rfl, Nat.le_refl _, hm, hl, fun k h1 h2 _ => by omega⟩

theorem Fnd.done {l : List Ta} {bs : List Int} {left : List Nat} {f : Int} (hs : left.Pairwise (· < ·)) (h : Fnd l bs left 0 f) : (f = -1 ∧ left.findIdx? (lastIn l bs left) = none) ∨ (∃ (a : Nat) (ha : a < left.length), f = (left[a] : Int) ∧ left.findIdx? (lastIn l bs left) = some a) := by
  rcases h with ⟨h1, h2⟩ | ⟨m, h1, h2, h3, h4, h5⟩
  · refine .inl ⟨h1, ?_⟩
    rw [List.findIdx?_eq_none_iff]
    intro x hx
    exact h2 x (Nat.zero_le _) hx
  · obtain ⟨a, ha, e⟩ := List.getElem_of_mem h3
    refine .inr ⟨a, ha, by rw [h1, e], ?_⟩
    rw [List.findIdx?_eq_some_iff_getElem]
    refine ⟨ha, by rw [e]; exact h4, fun b hb => ?_⟩
    have hlt := List.pairwise_iff_getElem.1 hs b a (by omega) ha hb
    rw [h5 left[b] (Nat.zero_le _) (by omega) (List.getElem_mem _)]
    simp

/-- Which have priorities, and which. -/
structure Pri (l : List Ta) (left : List Nat) (out : List Ta) (pm : Nat → Int) : Prop where
  len : out.length = l.length
  same : ∀ k, k < l.length → SameT (Tk out k) (Tk l k)
  srt : left.Pairwise (· < ·)
  rng : ∀ k ∈ left, k < l.length
  ll : left.length ≤ l.length
  z : ∀ k, k < l.length → (k ∈ left ↔ pm k = 0)
  pos : ∀ k, 0 ≤ pm k ∧ pm k ≤ 1000
  out : ∀ k, k < l.length → k ∉ left → (Tk out k).p = pm k

theorem Pri.start (l : List Ta) : Pri l (List.range l.length) l (fun _ => 0) :=
  ⟨rfl, fun _ _ => ⟨rfl, rfl, rfl, rfl, rfl, rfl⟩, List.pairwise_lt_range, fun k hk => by simpa using hk, by simp, fun k hk => by simp [hk], fun _ => ⟨Int.le_refl _, by omega⟩, fun k hk h => absurd (List.mem_range.2 hk) h⟩

theorem Pri.next {l : List Ta} {left : List Nat} {out : List Ta} {pm : Nat → Int} (h : Pri l left out pm) (a : Nat) (ha : a < left.length) (p : Int) (hp : 1 ≤ p) (hp2 : p ≤ 1000) : Pri l (left.eraseIdx a) (setP out (left.getD a 0) p) (fun k => if k = left[a] then p else pm k) := by
  have hnd : left.Nodup := h.srt.imp (fun h => Nat.ne_of_lt h)
  have hg : left.getD a 0 = left[a] := by simp [List.getD_eq_getElem?_getD, ha]
  have hi : left[a] < l.length := h.rng _ (List.getElem_mem _)
  have hio : left[a] < out.length := by rw [h.len]; exact hi
  have hm := mem_without left a ha hnd
  rw [hg]
  refine ⟨by unfold setP; simp [h.len], fun k hk => ?_, h.srt.sublist (List.eraseIdx_sublist ..), fun k hk => h.rng k ((hm k).1 hk).1, by have := h.ll; rw [List.length_eraseIdx]; split <;> omega, fun k hk => ?_, fun k => ?_, fun k hk hn => ?_⟩
  · rw [Tk_set hio]
    split
    · rename_i e; subst e; exact h.same _ hi
    · exact h.same k hk
  · rw [hm k]
    try dsimp only
    by_cases e : k = left[a]
    · rw [if_pos e]; constructor
      · exact fun h => absurd e h.2
      · intro h; omega
    · rw [if_neg e, ← h.z k hk]
      exact ⟨fun h => h.1, fun h => ⟨h, e⟩⟩
  · try dsimp only
    split
    · omega
    · exact h.pos k
  · rw [Tk_set hio]
    try dsimp only
    by_cases e : k = left[a]
    · rw [if_pos e, if_pos e]
    · rw [if_neg e, if_neg e]
      exact h.out k hk (fun hk2 => hn ((hm k).2 ⟨hk2, e⟩))

/-- What is told in the end. -/
def outP (l : List Ta) (pm : Nat → Int) (i : Nat) : List Ta := (List.range i).map (fun k => { Tk l k with p := pm k }) ++ l.drop i

theorem outP_zero (l : List Ta) (pm : Nat → Int) : outP l pm 0 = l := by simp [outP]
theorem outP_len (l : List Ta) (pm : Nat → Int) (i : Nat) (h : i ≤ l.length) : (outP l pm i).length = l.length := by simp [outP]; omega
theorem outP_at (l : List Ta) (pm : Nat → Int) (i : Nat) (h : i < l.length) : (outP l pm i)[i]? = some (Tk l i) := by
  unfold outP
  rw [List.getElem?_append_right (by simp)]
  simp
  rw [Tk_get h]
theorem outP_set (l : List Ta) (pm : Nat → Int) (i : Nat) (h : i < l.length) : (outP l pm i).set i { Tk l i with p := pm i } = outP l pm (i + 1) := by
  unfold outP
  obtain ⟨x, -, hd⟩ := drop_at h
  rw [List.set_append_right _ _ (by simp), List.range_succ, List.map_append, hd]
  simp

theorem Pri.told {l out : List Ta} {pm : Nat → Int} (h : Pri l [] out pm) : outP l pm l.length = out := by
  apply List.ext_getElem?
  intro k
  by_cases hk : k < l.length
  · rw [Tk_get (l := out) (by rw [h.len]; exact hk)]
    unfold outP
    rw [List.getElem?_append_left (by simpa using hk), List.getElem?_map, List.getElem?_range hk]
    have h1 := h.same k hk
    have h2 := h.out k hk (by simp)
    show some { Tk l k with p := pm k } = some (Tk out k)
    generalize Tk out k = x at *
    generalize Tk l k = y at *
    obtain ⟨x0, x1, x2, x3, x4, x5, x6⟩ := x
    obtain ⟨y0, y1, y2, y3, y4, y5, y6⟩ := y
    obtain ⟨e0, e1, e2, e3, e4, e5⟩ := h1
    simp only at e0 e1 e2 e3 e4 e5 h2
    subst e0 e1 e2 e3 e4 e5 h2
    rfl
  · rw [List.getElem?_eq_none (by rw [outP_len _ _ _ (Nat.le_refl _)]; omega), List.getElem?_eq_none (by rw [h.len]; omega)]
end Go.Proofs.YtcgncdpohaoejafDoor
