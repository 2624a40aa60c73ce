import Derived.Test.YtekbkcgpjkecbalDoorSPX
import Derived.Test.YtekbkcgpjkecbalDoorFX
namespace Go.Proofs.YtekbkcgpjkecbalDoor.S8
open Go.ChangeShapes Go.WideShapes Go.ChangeAt Go.RowKit

/- Playing jobs where faults undo work. u: what each has done since its last checkpoint. -/
structure StR where
  s : St
  u : List Int

def StR.after (q : StR) (sp : Int) (fa : Bool) (t : Nat) (b : Int) : StR :=
  if b < 0 then ⟨q.s.after t (-1), q.u⟩
  else if fa = true then ⟨⟨q.s.left.set b.toNat (L q.s.left b.toNat + L q.u b.toNat), q.s.ends, q.s.runs ++ [b]⟩, q.u.set b.toNat 0⟩
  else ⟨q.s.after t b, if L q.s.left b.toNat - 1 = 0 then q.u else q.u.set b.toNat (if L q.u b.toNat + 1 = sp then 0 else L q.u b.toNat + 1)⟩

def StR.init (l : List Jb) : StR := ⟨St.init l, List.replicate l.length 0⟩

def PlaysR (l : List Jb) (sp : Int) (fa : Nat → Bool) : Nat → StR → Prop
  | 0, q => q = StR.init l
  | t + 1, q => ∃ q0 b, PlaysR l sp fa t q0 ∧ IsBest l 1 q0.s.left (t : Int) b ∧ q = q0.after sp (fa t) t b

theorem playsR_unique {l : List Jb} {sp : Int} {fa : Nat → Bool} : ∀ (t : Nat) (s s' : StR), PlaysR l sp fa t s → PlaysR l sp fa t s' → s = s'
  | 0, s, s', h, h' => by rw [show s = _ from h, show s' = _ from h']
  | t + 1, s, s', ⟨s0, b, h1, h2, h3⟩, ⟨s1, b', g1, g2, g3⟩ => by
    have e := playsR_unique t s0 s1 h1 g1
    subst e
    have e2 := isBest_unique h2 g2
    subst e2
    rw [h3, g3]

structure OkR (l : List Jb) (sp : Int) (t : Nat) (q : StR) : Prop where
  ok : Ok l t q.s
  ul : q.u.length = l.length
  u0 : ∀ i, 0 ≤ L q.u i
  sum : ∀ i, i < l.length → L q.s.left i + L q.u i ≤ (J l i).c
  st : 1 ≤ sp → ∀ i, L q.u i ≤ sp - 1

theorem afterR_none {q : StR} {sp : Int} {fa : Bool} {t : Nat} : q.after sp fa t (-1) = ⟨⟨q.s.left, q.s.ends, q.s.runs ++ [-1]⟩, q.u⟩ := rfl

theorem afterR_fault {q : StR} {sp : Int} {t i : Nat} : q.after sp true t (i : Int) = ⟨⟨q.s.left.set i (L q.s.left i + L q.u i), q.s.ends, q.s.runs ++ [(i : Int)]⟩, q.u.set i 0⟩ := by
  unfold StR.after
  rw [if_neg (by omega), if_pos rfl, Int.toNat_natCast]

theorem afterR_work {q : StR} {sp : Int} {t i : Nat} : q.after sp false t (i : Int) = ⟨⟨q.s.left.set i (L q.s.left i - 1), if L q.s.left i - 1 = 0 then q.s.ends.set i ((t : Int) + 1) else q.s.ends, q.s.runs ++ [(i : Int)]⟩, if L q.s.left i - 1 = 0 then q.u else q.u.set i (if L q.u i + 1 = sp then 0 else L q.u i + 1)⟩ := by
  unfold StR.after St.after
  rw [if_neg (by omega), if_neg (by simp), if_neg (by omega), Int.toNat_natCast]

theorem J_okJ {l : List Jb} (hl : ∀ x ∈ l, okJ x) {i : Nat} (hi : i < l.length) : okJ (J l i) ∧ l[i]? = some (J l i) := by
  have e : l[i]? = some (J l i) := by unfold J; rw [List.getD_eq_getElem?_getD]; simp [hi]
  exact ⟨hl _ (List.mem_of_getElem? e), e⟩

theorem okR_init {l : List Jb} {sp : Int} (hl : ∀ x ∈ l, okJ x) : OkR l sp 0 (StR.init l) := by
  have hz : ∀ i, L (List.replicate l.length (0 : Int)) i = 0 := fun i => by
    unfold L
    rw [List.getD_eq_getElem?_getD, List.getElem?_replicate]
    split <;> rfl
  refine ⟨ok_init hl, by simp [StR.init], fun i => ?_, fun i hi => ?_, fun h i => ?_⟩
  · show 0 ≤ L (List.replicate l.length (0 : Int)) i
    rw [hz]; exact Int.le_refl _
  · show L (l.map (·.c)) i + L (List.replicate l.length (0 : Int)) i ≤ _
    rw [hz]
    unfold L
    rw [List.getD_eq_getElem?_getD, List.getElem?_map, (J_okJ hl hi).2]
    simp
  · show L (List.replicate l.length (0 : Int)) i ≤ _
    rw [hz]; omega

theorem okR_after {l : List Jb} {sp : Int} {fa : Bool} {t : Nat} {q : StR} {b : Int} (hl : ∀ x ∈ l, okJ x) (h : OkR l sp t q) (hb : IsBest l 1 q.s.left (t : Int) b) : OkR l sp (t + 1) (q.after sp fa t b) := by
  have hp : Pick l 1 true t q.s b := .inr ⟨(fun e => by cases e.1), hb⟩
  have ho := ok_after h.ok hp
  rcases hb with ⟨rfl, -⟩ | ⟨i, rfl, hi, -, hpos, -⟩
  · rw [afterR_none]
    exact ⟨ho, h.ul, h.u0, h.sum, h.st⟩
  · have hil : i < q.s.left.length := by rw [h.ok.left]; exact hi
    have hiu : i < q.u.length := by rw [h.ul]; exact hi
    have hs := h.sum i hi
    have hc := (J_okJ hl hi).1
    have hc2 : (J l i).c ≤ 10000 := hc.2.2.2.1
    have hu := h.u0 i
    cases fa with
    | true =>
      rw [afterR_fault]
      refine ⟨⟨by simp [h.ok.left], h.ok.ends, by simp [h.ok.runs], fun j => ?_, fun j => ?_, fun r hr => ?_⟩, by simp [h.ul], fun j => ?_, fun j hj => ?_, fun hsp j => ?_⟩
      · dsimp only; rw [L_set hil]; split
        · omega
        · exact h.ok.nneg j
      · dsimp only; rw [L_set hil]; split
        · omega
        · exact h.ok.small j
      · rcases List.mem_append.1 hr with hr | hr
        · exact h.ok.rng r hr
        · simp at hr; exact .inr ⟨by omega, by omega⟩
      · dsimp only; rw [L_set hiu]; split
        · exact Int.le_refl _
        · exact h.u0 j
      · dsimp only; rw [L_set hil, L_set hiu]
        by_cases e : j = i
        · subst e; rw [if_pos rfl, if_pos rfl]; omega
        · rw [if_neg e, if_neg e]; exact h.sum j hj
      · dsimp only; rw [L_set hiu]; split
        · omega
        · exact h.st hsp j
    | false =>
      have e0 : q.s.after t (i : Int) = ⟨q.s.left.set i (L q.s.left i - 1), if L q.s.left i - 1 = 0 then q.s.ends.set i ((t : Int) + 1) else q.s.ends, q.s.runs ++ [(i : Int)]⟩ := by
        unfold St.after
        rw [if_neg (by omega), Int.toNat_natCast]
      rw [e0] at ho
      rw [afterR_work]
      have key : ∀ U : List Int, (U = q.u ∨ ∃ v, 0 ≤ v ∧ v ≤ L q.u i + 1 ∧ (1 ≤ sp → v ≤ sp - 1) ∧ U = q.u.set i v) → (U.length = l.length) ∧ (∀ i, 0 ≤ L U i) ∧ (∀ j, j < l.length → L (q.s.left.set i (L q.s.left i - 1)) j + L U j ≤ (J l j).c) ∧ (1 ≤ sp → ∀ i, L U i ≤ sp - 1) := by
        rintro U (rfl | ⟨v, v0, v1, v2, rfl⟩)
        · refine ⟨h.ul, h.u0, fun j hj => ?_, h.st⟩
          rw [L_set hil]
          by_cases e : j = i
          · subst e; rw [if_pos rfl]; omega
          · rw [if_neg e]; exact h.sum j hj
        · refine ⟨by simp [h.ul], fun j => ?_, fun j hj => ?_, fun hsp j => ?_⟩
          · rw [L_set hiu]; split
            · exact v0
            · exact h.u0 j
          · rw [L_set hil, L_set hiu]
            by_cases e : j = i
            · subst e; rw [if_pos rfl, if_pos rfl]; omega
            · rw [if_neg e, if_neg e]; exact h.sum j hj
          · rw [L_set hiu]; split
            · exact v2 hsp
            · exact h.st hsp j
      obtain ⟨k1, k2, k3, k4⟩ := key (if L q.s.left i - 1 = 0 then q.u else q.u.set i (if L q.u i + 1 = sp then 0 else L q.u i + 1)) (by
        split
        · exact .inl rfl
        · refine .inr ⟨_, ?_, ?_, ?_, rfl⟩
          · split <;> omega
          · split <;> omega
          · intro hsp
            have := h.st hsp i
            split <;> omega)
      exact ⟨ho, k1, k2, k3, k4⟩

theorem playsR_ok {l : List Jb} {sp : Int} {fa : Nat → Bool} (hl : ∀ x ∈ l, okJ x) : ∀ (t : Nat) (s : StR), PlaysR l sp fa t s → OkR l sp t s
  | 0, s, h => by rw [show s = _ from h]; exact okR_init hl
  | t + 1, s, ⟨s0, b, h1, h2, h3⟩ => by rw [h3]; exact okR_after hl (playsR_ok hl t s0 h1) h2
end Go.Proofs.YtekbkcgpjkecbalDoor.S8
namespace Go.Proofs.YtekbkcgpjkecbalDoor
open Go.ChangeShapes Go.WideShapes Go.ChangeAt Go.RowKit

/- What a fault costs, and how long it takes then. -/
def mostF (p : Int) : List Ta → Int → Int
  | [], m => m
  | x :: r, m => mostF p r (if p ≤ x.p then max m x.c else m)

def lossF (l : List Ta) (p sp : Int) : Int := if sp = 0 then mostF p l 0 else min (mostF p l 0) sp

theorem mostF_le {p : Int} : ∀ (l : List Ta) (m : Int), m ≤ mostF p l m ∧ ∀ x ∈ l, p ≤ x.p → x.c ≤ mostF p l m
  | [], m => ⟨Int.le_refl _, fun x hx => by simp at hx⟩
  | y :: r, m => by
    obtain ⟨h1, h2⟩ := mostF_le (p := p) r (if p ≤ y.p then max m y.c else m)
    rw [mostF]
    refine ⟨?_, fun x hx hp => ?_⟩
    · refine Int.le_trans ?_ h1
      split <;> omega
    · rcases List.mem_cons.1 hx with rfl | hx
      · rw [if_pos hp] at h1 ⊢; omega
      · exact h2 x hx hp

theorem mostF_range {p : Int} : ∀ (l : List Ta) (m : Int), (∀ x ∈ l, stands x = true) → 0 ≤ m → m ≤ 10000 → 0 ≤ mostF p l m ∧ mostF p l m ≤ 10000
  | [], m, _, h0, h1 => ⟨h0, h1⟩
  | y :: r, m, h, h0, h1 => by
    obtain ⟨a1, a2, a3, a4, a5, a6, a7, a8, a9, a10⟩ := stands_t (h y List.mem_cons_self)
    rw [mostF]
    exact mostF_range r _ (fun x hx => h x (List.mem_cons_of_mem _ hx)) (by split <;> omega) (by split <;> omega)

def askR (l : List Ta) (i : Nat) (gap sp : Int) (w : Int) : Int := askF (Tk l i).c (othF (aheadP l i) i l 0) w + (w + gap - 1) / gap * lossF l (Tk l i).p sp

end Go.Proofs.YtekbkcgpjkecbalDoor
