import Derived.Test.YtkafihaajpifoagDoorLK
import Derived.Laws.AppendOwnNone
namespace Go.Proofs.YtkafihaajpifoagDoor
open Go.ChangeShapes Go.WideShapes Go.ChangeAt Go.RowKit

theorem infoAc : (Tryd.prog.info? 48).map (fun i => (i.zero, i.size, i.bytes)) = some (some (.agg #[.int .i64 0, .int .i64 0]), 2, 16) := by kernel_rfl
theorem infoLk : (Tryd.prog.info? 44).map (fun i => (i.zero, i.size, i.bytes)) = some (some (.agg #[.int .i64 0, .int .i64 0, .slice none 0 0]), 3, 40) := by kernel_rfl

theorem flatOneAc {l : List Ac} {u : Value} (h : u ∈ l.flatMap Ac.vals) : u.oneCell' = true := by
  obtain ⟨x, h⟩ := flat_mem h
  exact Ac.one h

/-- The same jobs, wherever their acts lie. -/
def Lj.core (x : Lj) : Int × Int × List Ac := (x.a, x.p, x.acts)

/-- A slice of acts of one's own, below which nothing turned. -/
theorem copyActs (W : World) (l : List Ac) (ad : Option Addr) (c : Nat) (hb : l.length * 16 ≤ 140737488355328) (hv : RowSl Ac.vals W l (.slice ad l.length c)) :
    ∃ u W', (Builtin.append_ #[35, 35] 35 #[.slice (some ⟨W.heap.size, 0, none⟩) 0 0, .slice ad l.length c]).run Tryd.prog (W.alloc (.cells #[] 48)) = .ok u W' ∧ RowSl Ac.vals W' l u ∧ Below W.heap.size W W' ∧ ∀ k, u.ownBlock = some k → W.heap.size ≤ k ∧ k < W'.heap.size := by
  obtain ⟨i0, hi0, hz0, hz1, hz2⟩ := info_parts infoAc
  have hown : (W.alloc (.cells #[] 48)).ownsRow W.heap.size 48 2 (.slice (some ⟨W.heap.size, 0, none⟩) 0 0) 0 [] := ⟨rfl, .inr ⟨W.heap.size, 0, #[], rfl, Nat.le_refl _, heap_alloc_new _ _, Nat.le_refl _, by unfold maxLen; omega, rfl, rfl⟩⟩
  obtain ⟨ad', c', e, hnil, hcap, hrow⟩ := hv.below (below_new W (.cells #[] 48))
  cases e
  cases ad with
  | none =>
    obtain ⟨hl0, rfl⟩ := hnil rfl
    have hl : l = [] := List.eq_nil_of_length_eq_zero hl0
    subst hl
    refine ⟨_, _, run_append_owned_none (P := Tryd.prog) (W.alloc (.cells #[] 48)) W.heap.size 35 35 48 i0 2 Tryd.underlying35 hi0 _ 0 [] hown, ⟨_, _, rfl, (fun e => by cases e), Nat.le_refl _, .inl rfl⟩, below_new _ _, fun k hk => by cases hk; exact ⟨Nat.le_refl _, by simp⟩⟩
  | some a =>
    obtain ⟨u, W', hrun, ho, hg, -, hu⟩ := run_append_own_at (P := Tryd.prog) (w := W.alloc (.cells #[] 48)) W.heap.size 35 35 48 i0 _ 2 16 Tryd.underlying35 hi0 hz0 hz1 hz2 rfl (by decide) _ 0 [] hown a l.length c (l.flatMap Ac.vals) (flat_length Ac.vals 2 Ac.len l) (fun j u hj => by
      rcases hrow with h | ⟨b, o, h2, h3⟩
      · subst h; simp at hj
      · cases h2
        rw [Addr.add_lit]
        exact h3 j u hj) (fun u hu => flatOneAc hu) (by unfold maxLen; omega) (by omega) (by simp)
    rw [Nat.zero_add, List.nil_append] at ho
    refine ⟨u, W', hrun, ?_, (below_new _ _).trans ((Below.refl _ _).grown hg (by simp) (by intro k hk; cases hk; exact Nat.le_refl _)), fun k hk => ?_⟩
    · obtain ⟨hl, ⟨h1, h2⟩ | ⟨g, cap, cur, h1, h2, h3, h4, h5, h6, h7⟩⟩ := ho
      · have hl0 : l = [] := List.eq_nil_of_length_eq_zero h2
        subst hl0
        rw [h1]
        exact RowSl.nil _ _
      · refine ⟨_, cap, h1, (fun e => by cases e), h4, .inr ⟨g, 0, rfl, fun q u hq => ?_⟩⟩
        have hql := (List.getElem?_eq_some_iff.1 hq).1
        rw [flat_length Ac.vals 2 Ac.len] at hql
        rw [Nat.zero_add]
        unfold World.cell?
        rw [h3]
        rw [← h7, List.getElem?_take_of_lt hql, Array.getElem?_toList] at hq
        simpa using hq
    · refine ⟨?_, ?_⟩
      · rcases hu with hu | hu
        · rw [hu] at hk; cases hk; exact Nat.le_refl _
        · rw [hu] at hk; simp at hk; omega
      · obtain ⟨-, ⟨h1, -⟩ | ⟨g, cap, cur, h1, -, h3, -⟩⟩ := ho
        · rw [h1] at hk; cases hk
        · rw [h1] at hk; cases hk; exact (Array.getElem?_eq_some_iff.1 h3).1

theorem ownsRow_below' {w w' : World} {B n size : Nat} {e : TypeId} {v : Value} {xs : List Value} (h : w.ownsRow B e size v n xs) (hb : Below w.heap.size w w') : w'.ownsRow B e size v n xs := by
  obtain ⟨hl, h | ⟨g, cap, cur, he, hB, hg, hr⟩⟩ := h
  · exact ⟨hl, .inl h⟩
  · exact ⟨hl, .inr ⟨g, cap, cur, he, hB, (hb.block g (Array.getElem?_eq_some_iff.1 hg).1).trans hg, hr⟩⟩
end Go.Proofs.YtkafihaajpifoagDoor
