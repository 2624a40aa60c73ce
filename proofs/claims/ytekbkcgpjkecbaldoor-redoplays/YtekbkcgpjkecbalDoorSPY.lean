import Derived.Test.YtekbkcgpjkecbalDoorSPX
namespace Go.Proofs.YtekbkcgpjkecbalDoor.S8
open Go.ChangeShapes Go.WideShapes Go.ChangeAt Go.RowKit

def RK (rk : List Nat) (p : Nat) : Nat := rk.getD p 0

def entsOf (l : List Jb) (rk : List Nat) (left : List Int) : List En := rk.map fun n => ⟨J l n, (n : Int), L left n⟩

structure Ranked (l : List Jb) (pol : Int) (rk : List Nat) : Prop where
  perm : rk.Perm (List.range l.length)
  sorted : ∀ p q, p < q → q < rk.length → lexJ pol l (RK rk p) (RK rk q)

theorem Ranked.len {l : List Jb} {pol : Int} {rk : List Nat} (h : Ranked l pol rk) : rk.length = l.length := by
  have := h.perm.length_eq; simpa using this

theorem RK_get {rk : List Nat} {p : Nat} (h : p < rk.length) : rk[p]? = some (RK rk p) := by
  unfold RK; rw [List.getD_eq_getElem?_getD, List.getElem?_eq_getElem h]; rfl

theorem Ranked.lt {l : List Jb} {pol : Int} {rk : List Nat} (h : Ranked l pol rk) {p : Nat} (hp : p < l.length) : RK rk p < l.length := by
  have := List.mem_of_getElem? (RK_get (rk := rk) (p := p) (by rw [h.len]; exact hp))
  simpa using h.perm.mem_iff.1 this

theorem Ranked.inj {l : List Jb} {pol : Int} {rk : List Nat} (h : Ranked l pol rk) {p q : Nat} (hp : p < l.length) (hq : q < l.length) (e : RK rk p = RK rk q) : p = q := by
  rw [← h.len] at hp hq
  rcases Nat.lt_trichotomy p q with hlt | rfl | hlt
  · have := h.sorted p q hlt hq
    rw [e] at this
    exact absurd this lexJ_irr
  · rfl
  · have := h.sorted q p hlt hp
    rw [e] at this
    exact absurd this lexJ_irr

theorem Ranked.sur {l : List Jb} {pol : Int} {rk : List Nat} (h : Ranked l pol rk) {n : Nat} (hn : n < l.length) : ∃ p, p < l.length ∧ RK rk p = n := by
  have : n ∈ rk := h.perm.mem_iff.2 (by simpa using hn)
  obtain ⟨p, hp, e⟩ := List.mem_iff_getElem.1 this
  refine ⟨p, by rw [← h.len]; exact hp, ?_⟩
  unfold RK
  rw [List.getD_eq_getElem?_getD, List.getElem?_eq_getElem hp, e]
  rfl

structure Coming (l : List Jb) (rk cm : List Nat) : Prop where
  perm : cm.Perm (List.range l.length)
  sorted : cm.Pairwise (fun p q => (J l (RK rk p)).a ≤ (J l (RK rk q)).a)

theorem Coming.len {l : List Jb} {rk cm : List Nat} (h : Coming l rk cm) : cm.length = l.length := by
  have := h.perm.length_eq; simpa using this

theorem Coming.nodup {l : List Jb} {rk cm : List Nat} (h : Coming l rk cm) : cm.Nodup := h.perm.nodup_iff.2 List.nodup_range

theorem Coming.mem {l : List Jb} {rk cm : List Nat} (h : Coming l rk cm) {p : Nat} : p ∈ cm ↔ p < l.length := by
  rw [h.perm.mem_iff]; simp

/-- Who is there: so many have come. -/
structure Core (l : List Jb) (rk cm : List Nat) (k : Nat) (th : List Nat) (left : List Int) : Prop where
  kle : k ≤ cm.length
  asc : th.Pairwise (· < ·)
  mem : ∀ p, p ∈ th ↔ p ∈ cm.take k ∧ 0 < L left (RK rk p)
  pos : ∀ p ∈ cm.drop k, 0 < L left (RK rk p)

theorem Core.lt {l : List Jb} {rk cm : List Nat} {k : Nat} {th : List Nat} {left : List Int} (h : Core l rk cm k th left) (hc : Coming l rk cm) {p : Nat} (hp : p ∈ th) : p < l.length :=
  hc.mem.1 (List.mem_of_mem_take ((h.mem p).1 hp).1)

theorem asc_len {n : Nat} : ∀ (th : List Nat) (m : Nat), m ≤ n → th.Pairwise (· < ·) → (∀ x ∈ th, m ≤ x ∧ x < n) → th.length + m ≤ n
  | [], m, h, _, _ => by simpa using h
  | x :: r, m, h, ha, hb => by
    obtain ⟨h1, h2⟩ := List.pairwise_cons.1 ha
    have hx := hb x List.mem_cons_self
    have := asc_len r (x + 1) (by omega) h2 (fun y hy => ⟨h1 y hy, (hb y (List.mem_cons_of_mem _ hy)).2⟩)
    simp; omega

theorem Core.len {l : List Jb} {rk cm : List Nat} {k : Nat} {th : List Nat} {left : List Int} (h : Core l rk cm k th left) (hc : Coming l rk cm) : th.length ≤ l.length := by
  have := asc_len (n := l.length) th 0 (Nat.zero_le _) h.asc (fun x hx => ⟨Nat.zero_le _, h.lt hc hx⟩)
  omega

/- Numbers that rise. -/
theorem ins_asc {th : List Nat} (p : Nat) (h : th.Pairwise (· < ·)) (hp : p ∉ th) : (th.take (th.countP (· < p)) ++ p :: th.drop (th.countP (· < p))).Pairwise (· < ·) ∧ (∀ x, x ∈ th.take (th.countP (· < p)) → x < p) ∧ (∀ x, x ∈ th.drop (th.countP (· < p)) → p < x) := by
  induction th with
  | nil => simp
  | cons x r ih =>
    obtain ⟨h1, h2⟩ := List.pairwise_cons.1 h
    by_cases hx : x < p
    · have hc : (x :: r).countP (· < p) = r.countP (· < p) + 1 := by rw [List.countP_cons_of_pos (by simpa using hx)]
      obtain ⟨i1, i2, i3⟩ := ih h2 (fun e => hp (List.mem_cons_of_mem _ e))
      rw [hc, List.take_succ_cons, List.drop_succ_cons]
      refine ⟨?_, ?_, i3⟩
      · rw [List.cons_append]
        refine List.pairwise_cons.2 ⟨fun y hy => ?_, i1⟩
        rcases List.mem_append.1 hy with hy | hy
        · exact h1 y (List.mem_of_mem_take hy)
        · rcases List.mem_cons.1 hy with rfl | hy
          · exact hx
          · exact h1 y (List.mem_of_mem_drop hy)
      · intro y hy
        rcases List.mem_cons.1 hy with rfl | hy
        · exact hx
        · exact i2 y hy
    · have hpx : p < x := by
        have : p ≠ x := fun e => hp (by rw [e]; exact List.mem_cons_self)
        omega
      have hc : (x :: r).countP (· < p) = 0 := by
        rw [List.countP_eq_zero]
        intro y hy
        rcases List.mem_cons.1 hy with rfl | hy
        · simpa using hx
        · have := h1 y hy
          simp; omega
      rw [hc]
      simp only [List.take_zero, List.drop_zero, List.nil_append]
      refine ⟨List.pairwise_cons.2 ⟨fun y hy => ?_, h⟩, by simp, fun y hy => ?_⟩
      all_goals
        rcases List.mem_cons.1 hy with rfl | hy
        · exact hpx
        · have := h1 y hy; omega

theorem del_asc {th : List Nat} (p : Nat) (h : th.Pairwise (· < ·)) (hp : p ∈ th) : th.countP (· < p) < th.length ∧ th[th.countP (· < p)]? = some p ∧ (th.take (th.countP (· < p)) ++ th.drop (th.countP (· < p) + 1)).Pairwise (· < ·) ∧ ∀ x, x ∈ th.take (th.countP (· < p)) ++ th.drop (th.countP (· < p) + 1) ↔ x ∈ th ∧ x ≠ p := by
  induction th with
  | nil => simp at hp
  | cons x r ih =>
    obtain ⟨h1, h2⟩ := List.pairwise_cons.1 h
    by_cases hx : x < p
    · have hc : (x :: r).countP (· < p) = r.countP (· < p) + 1 := by rw [List.countP_cons_of_pos (by simpa using hx)]
      have hpr : p ∈ r := by
        rcases List.mem_cons.1 hp with e | e
        · omega
        · exact e
      obtain ⟨i1, i2, i3, i4⟩ := ih h2 hpr
      rw [hc, List.take_succ_cons, List.drop_succ_cons]
      refine ⟨by simp; omega, by simpa using i2, ?_, fun y => ?_⟩
      · rw [List.cons_append]
        refine List.pairwise_cons.2 ⟨fun y hy => ?_, i3⟩
        exact h1 y ((i4 y).1 hy).1
      · rw [List.cons_append, List.mem_cons, List.mem_cons, i4 y]
        constructor
        · rintro (rfl | ⟨a, b⟩)
          · exact ⟨.inl rfl, by omega⟩
          · exact ⟨.inr a, b⟩
        · rintro ⟨rfl | a, b⟩
          · exact .inl rfl
          · exact .inr ⟨a, b⟩
    · have hpx : p = x := by
        rcases List.mem_cons.1 hp with e | e
        · exact e
        · have := h1 p e; omega
      subst hpx
      have hc : (p :: r).countP (· < p) = 0 := by
        rw [List.countP_eq_zero]
        intro y hy
        rcases List.mem_cons.1 hy with rfl | hy
        · simp
        · have := h1 y hy
          simp; omega
      rw [hc]
      simp only [List.take_zero, List.nil_append, Nat.zero_add, List.drop_succ_cons, List.drop_zero]
      refine ⟨by simp, by simp, h2, fun y => ?_⟩
      rw [List.mem_cons]
      constructor
      · intro hy
        have := h1 y hy
        exact ⟨.inr hy, by omega⟩
      · rintro ⟨rfl | a, b⟩
        · exact absurd rfl b
        · exact a

/-- One comes. -/
theorem Core.come {l : List Jb} {rk cm : List Nat} {k : Nat} {th : List Nat} {left : List Int} {p : Nat} (h : Core l rk cm k th left) (hc : Coming l rk cm) (hk : cm[k]? = some p) : Core l rk cm (k + 1) (th.take (th.countP (· < p)) ++ p :: th.drop (th.countP (· < p))) left ∧ p ∉ th := by
  have hlt : k < cm.length := (List.getElem?_eq_some_iff.1 hk).1
  have hdr : cm.drop k = p :: cm.drop (k + 1) := by
    rw [List.drop_eq_getElem_cons hlt, (List.getElem?_eq_some_iff.1 hk).2]
  have hsp : cm.take k ++ cm.drop k = cm := List.take_append_drop _ _
  have hnd : (cm.take k ++ cm.drop k).Nodup := by rw [hsp]; exact hc.nodup
  have hpt : p ∉ cm.take k := fun e => (List.nodup_append.1 hnd).2.2 p e p (by rw [hdr]; exact List.mem_cons_self) rfl
  have hp : p ∉ th := fun e => hpt ((h.mem p).1 e).1
  have hpos : 0 < L left (RK rk p) := h.pos p (by rw [hdr]; exact List.mem_cons_self)
  have htk : cm.take (k + 1) = cm.take k ++ [p] := by rw [List.take_add_one, hk]; rfl
  refine ⟨⟨by omega, (ins_asc p h.asc hp).1, fun x => ?_, fun x hx => h.pos x (by rw [hdr]; exact List.mem_cons_of_mem _ hx)⟩, hp⟩
  have hm : x ∈ th.take (th.countP (· < p)) ++ p :: th.drop (th.countP (· < p)) ↔ x = p ∨ x ∈ th := by
    rw [List.mem_append, List.mem_cons]
    have : x ∈ th ↔ x ∈ th.take (th.countP (· < p)) ∨ x ∈ th.drop (th.countP (· < p)) := by rw [← List.mem_append, List.take_append_drop]
    rw [this]
    constructor
    · rintro (a | a | a)
      · exact .inr (.inl a)
      · exact .inl a
      · exact .inr (.inr a)
    · rintro (a | a | a)
      · exact .inr (.inl a)
      · exact .inl a
      · exact .inr (.inr a)
  rw [hm, h.mem, htk, List.mem_append, List.mem_singleton]
  constructor
  · rintro (rfl | ⟨a, b⟩)
    · exact ⟨.inr rfl, hpos⟩
    · exact ⟨.inl a, b⟩
  · rintro ⟨a | rfl, b⟩
    · exact .inr ⟨a, b⟩
    · exact .inl rfl

/-- All have come that come so early, and no others. -/
structure Now (l : List Jb) (rk cm : List Nat) (k : Nat) (t : Int) : Prop where
  come : ∀ p ∈ cm.take k, (J l (RK rk p)).a ≤ t
  wait : ∀ p ∈ cm.drop k, t < (J l (RK rk p)).a

theorem Coming.wait {l : List Jb} {rk cm : List Nat} {k p : Nat} {t : Int} (hc : Coming l rk cm) (hk : cm[k]? = some p) (hp : t < (J l (RK rk p)).a) : ∀ q ∈ cm.drop k, t < (J l (RK rk q)).a := by
  have hlt : k < cm.length := (List.getElem?_eq_some_iff.1 hk).1
  have hdr : cm.drop k = p :: cm.drop (k + 1) := by
    rw [List.drop_eq_getElem_cons hlt, (List.getElem?_eq_some_iff.1 hk).2]
  have hs : (cm.drop k).Pairwise (fun p q => (J l (RK rk p)).a ≤ (J l (RK rk q)).a) := hc.sorted.drop
  rw [hdr] at hs ⊢
  intro q hq
  rcases List.mem_cons.1 hq with rfl | hq
  · exact hp
  · have := (List.pairwise_cons.1 hs).1 q hq
    omega

theorem Core.there {l : List Jb} {rk cm : List Nat} {k : Nat} {th : List Nat} {left : List Int} {t : Int} (h : Core l rk cm k th left) (hc : Coming l rk cm) (hn : Now l rk cm k t) (p : Nat) : p ∈ th ↔ p < l.length ∧ (J l (RK rk p)).a ≤ t ∧ 0 < L left (RK rk p) := by
  rw [h.mem]
  constructor
  · rintro ⟨a, b⟩
    exact ⟨hc.mem.1 (List.mem_of_mem_take a), hn.come p a, b⟩
  · rintro ⟨a, b, c⟩
    have : p ∈ cm.take k ++ cm.drop k := by rw [List.take_append_drop]; exact hc.mem.2 a
    rcases List.mem_append.1 this with e | e
    · exact ⟨e, c⟩
    · have := hn.wait p e; omega

/-- The foremost one. -/
theorem Core.best_none {l : List Jb} {pol : Int} {rk cm : List Nat} {k : Nat} {left : List Int} {t : Int} (h : Core l rk cm k [] left) (hr : Ranked l pol rk) (hc : Coming l rk cm) (hn : Now l rk cm k t) : IsBest l pol left t (-1) := by
  refine .inl ⟨rfl, fun i hi ⟨h1, h2⟩ => ?_⟩
  obtain ⟨p, hp, rfl⟩ := hr.sur hi
  have := (h.there hc hn p).2 ⟨hp, h1, h2⟩
  simp at this

theorem Core.best_some {l : List Jb} {pol : Int} {rk cm : List Nat} {k p : Nat} {r : List Nat} {left : List Int} {t : Int} (h : Core l rk cm k (p :: r) left) (hr : Ranked l pol rk) (hc : Coming l rk cm) (hn : Now l rk cm k t) : IsBest l pol left t ((RK rk p : Nat) : Int) := by
  obtain ⟨h0, h1, h2⟩ := (h.there hc hn p).1 List.mem_cons_self
  refine .inr ⟨RK rk p, rfl, hr.lt h0, h1, h2, fun j hj g1 g2 hne => ?_⟩
  obtain ⟨q, hq, rfl⟩ := hr.sur hj
  have hm := (h.there hc hn q).2 ⟨hq, g1, g2⟩
  rcases List.mem_cons.1 hm with rfl | hm
  · exact absurd rfl hne
  · exact hr.sorted p q ((List.pairwise_cons.1 h.asc).1 q hm) (by rw [hr.len]; exact hq)

/-- One tick of one that goes on. -/
theorem Core.tick {l : List Jb} {pol : Int} {rk cm : List Nat} {k p : Nat} {th : List Nat} {left : List Int} {v : Int} (h : Core l rk cm k th left) (hr : Ranked l pol rk) (hc : Coming l rk cm) (hl : left.length = l.length) (hp : p ∈ th) (hv : 0 < v) : Core l rk cm k th (left.set (RK rk p) v) := by
  have hpl := h.lt hc hp
  have hL : ∀ q, q < l.length → (0 < L (left.set (RK rk p) v) (RK rk q) ↔ 0 < L left (RK rk q)) := fun q hq => by
    rw [L_set (by rw [hl]; exact hr.lt hpl)]
    by_cases e : RK rk q = RK rk p
    · rw [if_pos e, e]
      exact ⟨fun _ => ((h.mem p).1 hp).2, fun _ => hv⟩
    · rw [if_neg e]
  refine ⟨h.kle, h.asc, fun q => ?_, fun q hq => ?_⟩
  · rw [h.mem]
    constructor
    · rintro ⟨a, b⟩
      exact ⟨a, (hL q (hc.mem.1 (List.mem_of_mem_take a))).2 b⟩
    · rintro ⟨a, b⟩
      exact ⟨a, (hL q (hc.mem.1 (List.mem_of_mem_take a))).1 b⟩
  · exact (hL q (hc.mem.1 (List.mem_of_mem_drop hq))).2 (h.pos q hq)

/-- One is done, and leaves. -/
theorem Core.leave {l : List Jb} {pol : Int} {rk cm : List Nat} {k p : Nat} {th : List Nat} {left : List Int} (h : Core l rk cm k th left) (hr : Ranked l pol rk) (hc : Coming l rk cm) (hl : left.length = l.length) (hp : p ∈ th) : Core l rk cm k (th.take (th.countP (· < p)) ++ th.drop (th.countP (· < p) + 1)) (left.set (RK rk p) 0) := by
  have hpl := h.lt hc hp
  obtain ⟨-, -, ha, hm⟩ := del_asc p h.asc hp
  have hL : ∀ q, q < l.length → (0 < L (left.set (RK rk p) 0) (RK rk q) ↔ 0 < L left (RK rk q) ∧ q ≠ p) := fun q hq => by
    rw [L_set (by rw [hl]; exact hr.lt hpl)]
    by_cases e : RK rk q = RK rk p
    · rw [if_pos e]
      exact ⟨fun h => by omega, fun ⟨_, h⟩ => absurd (hr.inj hq hpl e) h⟩
    · rw [if_neg e]
      exact ⟨fun h => ⟨h, fun e' => e (by rw [e'])⟩, fun h => h.1⟩
  refine ⟨h.kle, ha, fun q => ?_, fun q hq => ?_⟩
  · rw [hm, h.mem]
    constructor
    · rintro ⟨⟨a, b⟩, c⟩
      exact ⟨a, (hL q (hc.mem.1 (List.mem_of_mem_take a))).2 ⟨b, c⟩⟩
    · rintro ⟨a, b⟩
      have := (hL q (hc.mem.1 (List.mem_of_mem_take a))).1 b
      exact ⟨⟨a, this.1⟩, this.2⟩
  · refine (hL q (hc.mem.1 (List.mem_of_mem_drop hq))).2 ⟨h.pos q hq, fun e => ?_⟩
    subst e
    have hnd : (cm.take k ++ cm.drop k).Nodup := by rw [List.take_append_drop]; exact hc.nodup
    exact (List.nodup_append.1 hnd).2.2 q ((h.mem q).1 hp).1 q hq rfl

/-- What the program holds of who runs. -/
def RunAt (rk : List Nat) (th : List Nat) (s : St) (run : Int) : Prop := (¬ s.on ∧ run = -1) ∨ (s.on ∧ ∃ p : Nat, run = (p : Int) ∧ p ∈ th ∧ s.last = ((RK rk p : Nat) : Int))
end Go.Proofs.YtekbkcgpjkecbalDoor.S8
