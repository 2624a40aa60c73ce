import Derived.Test.YtfffpemgfddehaaDoorTree
namespace Go.Proofs.YtfffpemgfddehaaDoor
open Go.ChangeShapes Go.WideShapes Go.ChangeAt Go.RowKit

/-- A round: a new block, then a call that only makes memory. -/
theorem below_round {w wr w' : World} {o : Obj} (h : Below w.heap.size w wr) (h' : Below (wr.alloc o).heap.size (wr.alloc o) w') : Below w.heap.size w w' :=
  (h.alloc h.size o).trans (h'.mono (by have := h.size; simp; omega))

mutual
def Ex.deep : Ex → Int
  | .mk _ _ a => Ex.deepAll 1 a
def Ex.deepAll (d : Int) : List Ex → Int
  | [] => d
  | x :: r => Ex.deepAll (max d (1 + x.deep)) r
end

mutual
theorem Ex.deep_le : ∀ e : Ex, 1 ≤ e.deep ∧ e.deep ≤ e.nodes
  | .mk _ _ a => by
    have := Ex.deepAll_le a 1
    unfold Ex.deep Ex.nodes
    omega
theorem Ex.deepAll_le : ∀ (a : List Ex) (d : Int), d ≤ Ex.deepAll d a ∧ Ex.deepAll d a ≤ max d (1 + Ex.nodesAll a)
  | [], d => by unfold Ex.deepAll; omega
  | x :: r, d => by
    have := Ex.deep_le x
    have := Ex.deepAll_le r (max d (1 + x.deep))
    unfold Ex.deepAll Ex.nodesAll
    omega
end

theorem Ex.deepAll_at {a : List Ex} {j : Nat} (h : j < a.length) (d : Int) : Ex.deepAll d (a.drop j) = Ex.deepAll (max d (1 + a[j].deep)) (a.drop (j + 1)) := by
  rw [drop_at h, Ex.deepAll]

set_option maxHeartbeats 400000 in
theorem deepExpr_any (N : Nat) : ∀ (e : Ex) (w : World) (v : Value), e.nodes ≤ N → N ≤ 1048576 → e.In w v →
    Calls Tryd.prog 24 #[v] w fun r w' => r = .returned (.int .i64 e.deep) ∧ Below w.heap.size w w' := by
  induction N with
  | zero => intro e w v h; have := e.nodes_pos; omega
  | succ N ih =>
    intro e w v hN hle hin
    obtain ⟨k, n, a⟩ := e
    unfold Ex.nodes at hN
    have hlen := length_le_nodesAll a
    unfold Ex.In at hin
    obtain ⟨ad, c, rfl, hrow⟩ := hin
    have HR : Hid (a = [] ∨ ∃ b o, ad = some ⟨b, o, none⟩ ∧ Ex.Row w a b o) := hrow
    clear hrow
    have IH : Hid _ := ih
    clear ih
    go_enter Tryd.func24, Tryd.ntmps24
    go_wp2_with fail
    go_loopw [3, 5, 9] (fun x _ i wr => ∃ (j : Nat) (d : Int), j ≤ a.length ∧ i = .int .i64 j ∧ x = .int .i64 d ∧ 1 ≤ d ∧ d ≤ 1 + Ex.nodesAll a ∧ Ex.deepAll d (a.drop j) = Ex.deepAll 1 a ∧ Below w.heap.size w wr) (fun _ _ i _ => a.length - (intOf i).toNat)
    case atStart => exact ⟨0, 1, Nat.zero_le _, rfl, rfl, by omega, by omega, rfl, (Below.refl _ _).alloc (Nat.le_refl _) _⟩
    case round =>
      obtain ⟨j, d, hj, rfl, rfl, hd1, hd2, hdd, hb⟩ := hrel
      by_cases hlt : j < a.length
      · rcases HR.out with h | ⟨b, o, had, hrow⟩
        · subst h; simp at hlt
        · subst had
          obtain ⟨xk, xn, xad, xm, xc, c0, c1, c2, hin⟩ := (Ex.Row.below hb a hrow).shape hlt
          have hnd := nodesAll_at a j a[j] (by simp [hlt])
          have hdl := Ex.deep_le a[j]
          have hdd' : Hid (Ex.deepAll d (a.drop j) = Ex.deepAll 1 a) := hdd
          clear hdd hrow
          have HI : Hid _ := hin
          clear hin
          have HB : Hid _ := hb
          clear hb
          generalize hx : a[j] = x at *
          have HX : Hid _ := hx
          clear hx
          go_wp2_with (go_at_call 24; refine (IH.out x _ _ (by omega) (by omega) ?hx).mono ?_; rotate_left 1; rintro e w' ⟨rfl, hb'⟩)
          case hx => exact Ex.In.below ((Below.refl _ _).alloc (Nat.le_refl _) _) _ HI.out
          go_roundw
          case rel => 
            refine ⟨j + 1, max d (1 + x.deep), by omega, by go_num, ?_, by omega, by omega, ?_, ?_⟩
            · congr 1; split <;> omega
            · rw [← hdd'.out, Ex.deepAll_at hlt, HX.out]
            · exact below_round HB.out hb'
          case measure => simp [intOf]; omega
      · go_wp2_with fail
        go_ret
        rw [List.drop_of_length_le (by omega), Ex.deepAll] at hdd
        exact ⟨ret_int (by rw [Ex.deep, hdd]), hb⟩
end Go.Proofs.YtfffpemgfddehaaDoor
