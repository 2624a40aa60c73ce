import Derived.Test.YtcejfmmcdagnoabDoorDSem
namespace Go.Proofs.YtcejfmmcdagnoabDoor
open Go.ChangeShapes Go.WideShapes Go.ChangeAt Go.RowKit

/-- A slice of positions. -/
def AtSl (w : World) (os : List Nat) (v : Value) : Prop := ∃ ad c, v = .slice ad os.length c ∧ (os = [] ∨ ∃ b o, ad = some ⟨b, o, none⟩ ∧ ∀ j, j < os.length → w.cell? ⟨b, o + j, none⟩ = some (.int .i64 ((os.getD j 0 : Nat) : Int)))

theorem AtSl.below {w w' : World} {os : List Nat} {v : Value} (h : AtSl w os v) (hb : Below w.heap.size w w') : AtSl w' os v := by
  obtain ⟨ad, c, h1, h2⟩ := h
  refine ⟨ad, c, h1, ?_⟩
  rcases h2 with h2 | ⟨b, o, h2, h3⟩
  · exact .inl h2
  · exact .inr ⟨b, o, h2, fun j hj => below_cell hb (h3 j hj)⟩

theorem among_yes {l : List In} {z : Nat} {r : List Nat} {op a : Int} (h : (l.getD z in0).op = op ∧ (l.getD z in0).a = a) : amongI l (z :: r) op a = true := by
  unfold amongI
  rw [List.any_cons, h.1, h.2]
  simp

theorem among_no {l : List In} {z : Nat} {r : List Nat} {op a : Int} (h : ¬ ((l.getD z in0).op = op ∧ (l.getD z in0).a = a)) : amongI l (z :: r) op a = amongI l r op a := by
  unfold amongI
  rw [List.any_cons]
  have e : (decide ((l.getD z in0).op = op) && decide ((l.getD z in0).a = a)) = false := by
    rw [← Bool.decide_and]; exact decide_eq_false h
  rw [e, Bool.false_or]

theorem below_seq' {w w1 : World} {n : Nat} (h : Below w.heap.size w w1) : Below w.heap.size w (w1.drewN n) := below_seq h below_drewN'

set_option maxRecDepth 20000 in
set_option maxHeartbeats 4000000 in
/-- among. -/
theorem among_any (w : World) (ob lb xb : Nat) (l : List In) (os : List Nat) (iv ov : Value) (op xo a xc : Int) (hob : w.cell? ⟨ob, 0, none⟩ = some ov) (hlb : w.cell? ⟨lb, 0, none⟩ = some iv) (hx0 : w.cell? ⟨xb, 0, none⟩ = some (.int .i64 xo)) (hx1 : w.cell? ⟨xb, 1, none⟩ = some (.int .i64 a)) (hx2 : w.cell? ⟨xb, 2, none⟩ = some (.int .i64 xc)) (hi : InSl w l iv) (ho : AtSl w os ov) (hlow : ∀ o ∈ os, o < l.length) (_hl : l.length ≤ 4194304) (hol : os.length ≤ 4194304) :
    Calls Tryd.prog 42 #[.int .i64 op, .pointer (some ⟨ob, 0, none⟩), .pointer (some ⟨lb, 0, none⟩), .pointer (some ⟨xb, 0, none⟩)] w fun r w' => r = .returned (.bool (amongI l os op a)) ∧ Below w.heap.size w w' := by
  obtain ⟨ad, c, rfl, hrow⟩ := ho
  obtain ⟨iad, ic, rfl, himg⟩ := hi
  have HI : Hid (_ ∧ _) := ⟨hrow, himg⟩
  have HC : Hid (_ ∧ _ ∧ _ ∧ _ ∧ _) := ⟨hob, hlb, hx0, hx1, hx2⟩
  have HL : Hid (∀ o ∈ os, o < l.length) := hlow
  clear hrow himg hlb hx0 hx1 hx2 hlow
  obtain ⟨res, hres⟩ : ∃ res, amongI l os op a = res := ⟨_, rfl⟩
  rw [hres]
  have HS : Hid (amongI l os op a = res) := hres
  clear hres
  go_enter Tryd.func42, Tryd.ntmps42
  go_wp2_with fail
  go_loopw [10] (fun i wr => ∃ j : Nat, j ≤ os.length ∧ i = .int .i64 j ∧ amongI l (os.drop j) op a = amongI l os op a ∧ Below w.heap.size w wr) (fun i _ => os.length - (intOf i).toNat)
  case atStart => exact ⟨0, Nat.zero_le _, rfl, rfl, Below.refl _ _⟩
  case round =>
    obtain ⟨j, hj, rfl, hop, hb⟩ := hrel
    by_cases hlt : j < os.length
    · rcases HI.out.1 with h | ⟨b, o, had, hrow⟩
      · rw [h] at hlt; simp at hlt
      subst had
      have hmem : os.getD j 0 ∈ os := by rw [List.getD_eq_getElem?_getD, List.getElem?_eq_getElem hlt]; exact List.getElem_mem hlt
      have hlow := HL.out _ hmem
      rcases HI.out.2 with h | ⟨b', o', had', himg⟩
      · rw [h] at hlow; simp at hlow
      subst had'
      have k := below_cell hb (hrow j hlt)
      have q0 := below_cell hb (himg _ hlow).1
      have q1 := below_cell hb (himg _ hlow).2.1
      have c1 := below_cell hb HC.out.2.1
      have x1 := below_cell hb HC.out.2.2.2.1
      have hdrop : os.drop j = os.getD j 0 :: os.drop (j + 1) := by
        rw [List.getD_eq_getElem?_getD, List.getElem?_eq_getElem hlt]
        exact List.drop_eq_getElem_cons hlt
      rw [hdrop] at hop
      generalize os.getD j 0 = z at *
      have HO : Hid (amongI l (z :: os.drop (j + 1)) op a = amongI l os op a ∧ Below w.heap.size w wr) := ⟨hop, hb⟩
      clear hop hb hrow himg hdrop hmem
      have HY : Hid (((l.getD z in0).op = op ∧ (l.getD z in0).a = a → res = true) ∧ (¬ ((l.getD z in0).op = op ∧ (l.getD z in0).a = a) → amongI l (os.drop (j + 1)) op a = amongI l os op a)) := ⟨fun h => by rw [← HS.out, ← HO.out.1, among_yes h], fun h => by rw [← HO.out.1, among_no h]⟩
      generalize l.getD z in0 = y at *
      obtain ⟨yo, ya, yb⟩ := y
      dsimp only at q0 q1
      by_cases e1 : yo = op
      · subst e1
        by_cases e2 : ya = a
        · subst e2
          have e := HY.out.1 ⟨rfl, rfl⟩
          subst e
          go_wp2_with fail
          go_quiet (fail)
          go_wp2_with fail
          go_ret
          exact ⟨rfl, below_seq' HO.out.2⟩
        · have f2 : (ya == a) = false := by simpa using e2
          go_wp2_with fail
          go_quiet (fail)
          go_wp2_with fail
          go_roundw
          case rel => exact ⟨j + 1, by omega, by go_num, HY.out.2 (fun h => e2 h.2), below_seq' HO.out.2⟩
          case measure => simp [intOf]; omega
      · have f1 : (yo == op) = false := by simpa using e1
        go_wp2_with fail
        go_quiet (fail)
        go_wp2_with fail
        go_roundw
        case rel => exact ⟨j + 1, by omega, by go_num, HY.out.2 (fun h => e1 h.1), below_seq' HO.out.2⟩
        case measure => simp [intOf]; omega
    · have hje : j = os.length := by omega
      subst hje
      have e : res = false := by rw [← HS.out, ← hop, List.drop_length]; rfl
      subst e
      go_wp2_with fail
      go_ret
      exact ⟨rfl, hb⟩
end Go.Proofs.YtcejfmmcdagnoabDoor
