import Derived.Test.YtkafihaajpifoagDoorLR
namespace Go.Proofs.YtkafihaajpifoagDoor
open Go.ChangeShapes Go.WideShapes Go.ChangeAt Go.RowKit

set_option maxRecDepth 20000 in
set_option maxHeartbeats 4000000 in
theorem SameA_quiet (w : World) (l : List Ac) (v v' : Value) (hl : l.length ≤ 9000000000000000000) (h : RowSl Ac.vals w l v) (h' : RowSl Ac.vals w l v') :
    Calls Tryd.prog 35 #[v, v'] w fun r w' => r = .returned (.bool true) ∧ ∃ n, w' = w.drewN n := by
  obtain ⟨ad, c, rfl, -, -, hc⟩ := h
  obtain ⟨ad', c', rfl, -, -, hc'⟩ := h'
  have HR : Hid (_ ∧ _) := ⟨hc, hc'⟩
  clear hc hc'
  go_enter Tryd.func35, Tryd.ntmps35
  go_wp2_with fail
  go_loopw [13] (fun x wr => ∃ j : Nat, j ≤ l.length ∧ x = .int .i64 j ∧ ∃ n, wr = w.drewN n) (fun x _ => l.length - (intOf x).toNat)
  case atStart => exact ⟨0, Nat.zero_le _, rfl, 0, rfl⟩
  case round =>
    obtain ⟨j, hj, rfl, n0, rfl⟩ := hrel
    by_cases hlt : j < l.length
    · obtain ⟨x, hx, -⟩ := drop_at hlt
      rcases HR.out.1 with h | ⟨b1, o1, rfl, hrow1⟩
      · rw [h] at hlt; simp at hlt
      rcases HR.out.2 with h | ⟨b2, o2, rfl, hrow2⟩
      · rw [h] at hlt; simp at hlt
      obtain ⟨c0, c1⟩ := ac_at hrow1 hx
      obtain ⟨d0, d1⟩ := ac_at hrow2 hx
      have hji : (j : Int) < (l.length : Int) := by omega
      clear hrow1 hrow2 hx
      obtain ⟨xd, xn⟩ := x
      dsimp only at c0 c1 d0 d1
      go_wp2_with fail
      go_quiet (fail)
      go_wp2_with fail
      go_roundw
      case rel => exact ⟨j + 1, by omega, by go_num, n0 + nq, rfl⟩
      case measure => simp [intOf]; omega
    · have hje : j = l.length := by omega
      subst hje
      go_wp2_with fail
      go_ret
      exact ⟨rfl, n0, rfl⟩

set_option maxRecDepth 20000 in
set_option maxHeartbeats 4000000 in
/-- punctualsame.SameActs, of the same jobs. -/
theorem SameActs_any (w : World) (js l : List Lj) (v v' : Value) (hl : l.length ≤ 5000) (hs : ∀ x ∈ l, x.acts.length ≤ 9000000000000000000) (he : js.map Lj.core = l.map Lj.core) (hv : LkSl w js v) (hv' : LkSl w l v') :
    Calls Tryd.prog 23 #[v, v'] w fun r w' => r = .returned (.bool true) ∧ Below w.heap.size w w' := by
  have hlen : js.length = l.length := by simpa using congrArg List.length he
  obtain ⟨⟨ad, c, rfl, -, hcap, hrow⟩, hacts⟩ := hv
  obtain ⟨⟨ad', c', rfl, -, hcap', hrow'⟩, hacts'⟩ := hv'
  have HE : Hid (js.map Lj.core = l.map Lj.core ∧ js.length = l.length ∧ ∀ x ∈ l, x.acts.length ≤ 9000000000000000000) := ⟨he, hlen, hs⟩
  rw [hlen] at hcap ⊢
  have HR : Hid ((∀ W, Below w.heap.size w W → (js = [] ∨ ∃ b o, ad = some ⟨b, o, none⟩ ∧ ∀ q u, (js.flatMap Lj.vals)[q]? = some u → W.cell? ⟨b, o + q, none⟩ = some u)) ∧ (∀ W, Below w.heap.size w W → (l = [] ∨ ∃ b o, ad' = some ⟨b, o, none⟩ ∧ ∀ q u, (l.flatMap Lj.vals)[q]? = some u → W.cell? ⟨b, o + q, none⟩ = some u)) ∧ (∀ x ∈ js, RowSl Ac.vals w x.acts x.v) ∧ (∀ x ∈ l, RowSl Ac.vals w x.acts x.v)) := ⟨fun W hb => hrow.imp id (fun ⟨b, o, e, h⟩ => ⟨b, o, e, fun q u hq => below_cell hb (h q u hq)⟩), fun W hb => hrow'.imp id (fun ⟨b, o, e, h⟩ => ⟨b, o, e, fun q u hq => below_cell hb (h q u hq)⟩), hacts, hacts'⟩
  clear hrow hacts hrow' hacts' hlen he hs
  go_enter Tryd.func23, Tryd.ntmps23
  go_wp2_with fail
  go_loopw [13] (fun i wr => ∃ j : Nat, j ≤ l.length ∧ i = .int .i64 j ∧ Below w.heap.size w wr) (fun i _ => l.length - (intOf i).toNat)
  case atStart => exact ⟨0, Nat.zero_le _, rfl, Below.refl _ _⟩
  case round =>
    obtain ⟨j, hj, rfl, hb⟩ := hrel
    have HB : Hid (Below w.heap.size w wr) := hb
    by_cases hlt : j < l.length
    · obtain ⟨y, hy, -⟩ := drop_at hlt
      obtain ⟨x, hx, -⟩ := drop_at (l := js) (k := j) (by rw [HE.out.2.1]; exact hlt)
      have hxy : x.core = y.core := by
        have := congrArg (fun q => q[j]?) HE.out.1
        simpa [hx, hy] using this
      rcases HR.out.1 wr hb with h | ⟨b, o, rfl, hrow⟩
      · have := HE.out.2.1; rw [h] at this; simp at this; omega
      rcases HR.out.2.1 wr hb with h | ⟨b', o', rfl, hrow'⟩
      · rw [h] at hlt; simp at hlt
      have hax := (HR.out.2.2.1 x (List.mem_of_getElem? hx)).below hb
      have hay := (HR.out.2.2.2 y (List.mem_of_getElem? hy)).below hb
      have hsz := HE.out.2.2 y (List.mem_of_getElem? hy)
      have hX := lj_at hrow hx
      have hY := lj_at hrow' hy
      obtain ⟨xa, xp, xacts, xv⟩ := x
      obtain ⟨ya, yp, yacts, yv⟩ := y
      simp only [Lj.core, Prod.mk.injEq] at hxy
      obtain ⟨rfl, rfl, rfl⟩ := hxy
      dsimp only at hax hay hsz
      obtain ⟨xad, xc, rfl⟩ := hax.len
      obtain ⟨yad, yc, rfl⟩ := hay.len
      obtain ⟨c0, c1, c2⟩ := hX
      obtain ⟨d0, d1, d2⟩ := hY
      dsimp only at c0 c1 c2 d0 d1 d2
      have hji : (j : Int) < (l.length : Int) := by omega
      have HS : Hid (RowSl Ac.vals wr xacts (.slice xad xacts.length xc) ∧ RowSl Ac.vals wr xacts (.slice yad xacts.length yc) ∧ xacts.length ≤ 9000000000000000000) := ⟨hax, hay, hsz⟩
      clear hrow hrow' hx hy hax hay hsz hb
      go_wp2_with fail
      go_quiet (first | (go_at_call 35; exact Calls.quiet_of (SameA_quiet _ xacts _ _ HS.out.2.2 (HS.out.1.below below_drewN') (HS.out.2.1.below below_drewN'))))
      go_wp2_with fail
      go_roundw
      case rel => exact ⟨j + 1, by omega, by go_num, below_seq HB.out (below_drewN' (n := nq))⟩
      case measure => simp [intOf]; omega
    · have hje : j = l.length := by omega
      subst hje
      clear hb
      go_wp2_with fail
      go_ret
      exact ⟨rfl, HB.out⟩
end Go.Proofs.YtkafihaajpifoagDoor
