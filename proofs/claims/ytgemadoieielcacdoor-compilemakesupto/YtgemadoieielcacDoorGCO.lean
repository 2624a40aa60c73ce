import Derived.Test.YtgemadoieielcacDoorGCM
import Derived.Test.YtgemadoieielcacDoorGCG
namespace Go.Proofs.YtgemadoieielcacDoor.B
open Go.ChangeShapes Go.WideShapes Go.ChangeAt Go.RowKit

theorem region_append {P : Program} {ops : Array Oper} {o : Oper} {a : Act} {w : World} {K : Act → World → Prop} {Q : Exit → Act → World → Prop} {E : Prop} [Decidable (Region.wanted o (yielded ops a.tmps) = true)] (hgd : o.guard = none) (s x : Operand) (t : TypeId)
    (ho : o.op = .call { callee := .builtin .append, args := #[s, x], argTypes := #[t, t] }) {v u v' : Value} {w' : World} (hs : a.eval s = v) (hx : a.eval x = u)
    (hrun : (Builtin.append_ #[t, t] o.type #[v, u]).run P w = .ok v' w') (h : K (a.put o.dst v') w') : if Region.wanted o (yielded ops a.tmps) = true then Oper.wp P o a w K Q else E := by
  have hw : Region.wanted o (yielded ops a.tmps) = true := by simp [Region.wanted, hgd]
  rw [if_pos hw]
  unfold Oper.wp
  simp [execOp, ho, resolve, invoke, builtin, hs, hx, hrun, Result.andThen]
  exact h

set_option maxRecDepth 20000 in
set_option maxHeartbeats 400000 in
theorem condPiece_any (w : World) (ck : Int) (ca cb : Ex) (ak an bk bn : Int) (aad bad : Option Addr) (am ac bm bc : Nat) (ha : ca.In w (.agg #[.int .i64 ak, .int .i64 an, .slice aad am ac])) (hb : cb.In w (.agg #[.int .i64 bk, .int .i64 bn, .slice bad bm bc])) (hla : ca.Lay) (hlb : cb.Lay) (hna : ca.nodes ≤ 20000) (hnb : cb.nodes ≤ 20000) :
    Calls Tryd.prog 132 #[.agg #[.int .i64 ck, .int .i64 ak, .int .i64 an, .slice aad am ac, .int .i64 bk, .int .i64 bn, .slice bad bm bc]] w fun r w' => ∃ v', r = .returned v' ∧ Ow w' w.heap.size v' (cdP ck ca cb) ∧ Below w.heap.size w w' := by
  have hpa := Ex.pc_len ca
  have hpb := Ex.pc_len cb
  obtain ⟨i0, hi0, hz0, hz1, hz2⟩ := info_parts infoN
  have HI : Hid (ca.In w (.agg #[.int .i64 ak, .int .i64 an, .slice aad am ac]) ∧ cb.In w (.agg #[.int .i64 bk, .int .i64 bn, .slice bad bm bc]) ∧ ca.Lay ∧ cb.Lay) := ⟨ha, hb, hla, hlb⟩
  clear ha hb hla hlb
  have hcd : cdP ck ca cb = ca.pc ++ cb.pc ++ [⟨if ck = 2 ∨ ck = 3 then 8 else 7, 0, 0⟩] ++ (if 3 ≤ ck then [⟨1, 0, 0⟩, ⟨8, 0, 0⟩] else []) := rfl
  go_enter Tryd.func132, Tryd.ntmps132
  go_wp2_with fail
  have x0 : (w.alloc (.cells #[.int .i64 ck, .int .i64 ak, .int .i64 an, .slice aad am ac, .int .i64 bk, .int .i64 bn, .slice bad bm bc] 121)).cell? ⟨w.heap.size, 0, none⟩ = some (.int .i64 ck) := by go_simp
  have x1 : (w.alloc (.cells #[.int .i64 ck, .int .i64 ak, .int .i64 an, .slice aad am ac, .int .i64 bk, .int .i64 bn, .slice bad bm bc] 121)).cell? ⟨w.heap.size, 1, none⟩ = some (.int .i64 ak) := by go_simp
  have x2 : (w.alloc (.cells #[.int .i64 ck, .int .i64 ak, .int .i64 an, .slice aad am ac, .int .i64 bk, .int .i64 bn, .slice bad bm bc] 121)).cell? ⟨w.heap.size, 2, none⟩ = some (.int .i64 an) := by go_simp
  have x3 : (w.alloc (.cells #[.int .i64 ck, .int .i64 ak, .int .i64 an, .slice aad am ac, .int .i64 bk, .int .i64 bn, .slice bad bm bc] 121)).cell? ⟨w.heap.size, 3, none⟩ = some (.slice aad am ac) := by go_simp
  have x4 : (w.alloc (.cells #[.int .i64 ck, .int .i64 ak, .int .i64 an, .slice aad am ac, .int .i64 bk, .int .i64 bn, .slice bad bm bc] 121)).cell? ⟨w.heap.size, 4, none⟩ = some (.int .i64 bk) := by go_simp
  have x5 : (w.alloc (.cells #[.int .i64 ck, .int .i64 ak, .int .i64 an, .slice aad am ac, .int .i64 bk, .int .i64 bn, .slice bad bm bc] 121)).cell? ⟨w.heap.size, 5, none⟩ = some (.int .i64 bn) := by go_simp
  have x6 : (w.alloc (.cells #[.int .i64 ck, .int .i64 ak, .int .i64 an, .slice aad am ac, .int .i64 bk, .int .i64 bn, .slice bad bm bc] 121)).cell? ⟨w.heap.size, 6, none⟩ = some (.slice bad bm bc) := by go_simp
  have hbw : Below w.heap.size w (w.alloc (.cells #[.int .i64 ck, .int .i64 ak, .int .i64 an, .slice aad am ac, .int .i64 bk, .int .i64 bn, .slice bad bm bc] 121)) := below_new _ _
  have hs1 : (w.alloc (.cells #[.int .i64 ck, .int .i64 ak, .int .i64 an, .slice aad am ac, .int .i64 bk, .int .i64 bn, .slice bad bm bc] 121)).heap.size = w.heap.size + 1 := by simp
  generalize w.alloc (.cells #[.int .i64 ck, .int .i64 ak, .int .i64 an, .slice aad am ac, .int .i64 bk, .int .i64 bn, .slice bad bm bc] 121) = W1 at *
  have HA : Hid (∀ W, Below W1.heap.size W1 W → Calls Tryd.prog 131 #[.agg #[.int .i64 ak, .int .i64 an, .slice aad am ac]] W fun r w' => ∃ v', r = .returned v' ∧ Ow w' W.heap.size v' ca.pc ∧ Below W.heap.size W w') := fun W hW => exprPiece_any 100001 ca W _ (by omega) (by omega) (Ex.In.below (below_seq hbw hW) _ HI.out.1) HI.out.2.2.1
  have HB : Hid (∀ W, Below W1.heap.size W1 W → Calls Tryd.prog 131 #[.agg #[.int .i64 bk, .int .i64 bn, .slice bad bm bc]] W fun r w' => ∃ v', r = .returned v' ∧ Ow w' W.heap.size v' cb.pc ∧ Below W.heap.size W w') := fun W hW => exprPiece_any 100001 cb W _ (by omega) (by omega) (Ex.In.below (below_seq hbw hW) _ HI.out.2.1) HI.out.2.2.2
  have HBW : Hid (Below w.heap.size w W1 ∧ W1.heap.size = w.heap.size + 1 ∧ cdP ck ca cb = ca.pc ++ cb.pc ++ [⟨if ck = 2 ∨ ck = 3 then 8 else 7, 0, 0⟩] ++ (if 3 ≤ ck then [⟨1, 0, 0⟩, ⟨8, 0, 0⟩] else [])) := ⟨hbw, hs1, hcd⟩
  clear hbw hs1 hcd HI
  obtain ⟨A, hA⟩ : ∃ A, ca.pc = A := ⟨_, rfl⟩
  obtain ⟨B, hB⟩ : ∃ B, cb.pc = B := ⟨_, rfl⟩
  rw [hA] at HA HBW hpa
  rw [hB] at HB HBW hpb
  clear hA hB
  refine wp_region_noPanic ?_
  refine wp_region_held_drew (S := fun w' => Below W1.heap.size W1 w' ∧ w'.cell? ⟨w.heap.size, 1, none⟩ = some (.int .i64 ak) ∧ w'.cell? ⟨w.heap.size, 2, none⟩ = some (.int .i64 an) ∧ w'.cell? ⟨w.heap.size, 3, none⟩ = some (.slice aad am ac) ∧ w'.cell? ⟨w.heap.size, 4, none⟩ = some (.int .i64 bk) ∧ w'.cell? ⟨w.heap.size, 5, none⟩ = some (.int .i64 bn) ∧ w'.cell? ⟨w.heap.size, 6, none⟩ = some (.slice bad bm bc)) (by kernel_rfl) ⟨(Below.refl _ _).drew, x1, x2, x3, x4, x5, x6⟩ (fun hHeld => ?_)
  refine take_at (i := 0) (n := 5) (v := ?_) rfl rfl (by kernel_rfl) (by kernel_rfl) (by kernel_rfl) (fun _ _ _ h => h) (Or.inl ⟨by rfl, ?_⟩) (by assumption) ?_
  rotate_left 1
  · intro wz hSw
    obtain ⟨-, s0, s1, s2, s3, s4, s5⟩ := hSw
    first | (go_simp; done) | (go_simp; with_reducible rfl)
  simp only [List.set_cons_zero, List.set_cons_succ]
  refine take_at (i := 1) (n := 6) (v := ?_) rfl rfl (by kernel_rfl) (by kernel_rfl) (by kernel_rfl) (fun _ _ _ h => h) (Or.inl ⟨by rfl, ?_⟩) (by assumption) ?_
  rotate_left 1
  · intro wz hSw
    obtain ⟨-, s0, s1, s2, s3, s4, s5⟩ := hSw
    first | (go_simp; done) | (go_simp; with_reducible rfl)
  simp only [List.set_cons_zero, List.set_cons_succ]
  refine take_at (i := 3) (n := 8) (v := ?_) rfl rfl (by kernel_rfl) (by kernel_rfl) (by kernel_rfl) (fun _ _ _ h => h) (Or.inl ⟨by rfl, ?_⟩) (by assumption) ?_
  rotate_left 1
  · intro wz hSw
    obtain ⟨-, s0, s1, s2, s3, s4, s5⟩ := hSw
    first | (go_simp; done) | (go_simp; with_reducible rfl)
  simp only [List.set_cons_zero, List.set_cons_succ]
  refine take_at (i := 4) (n := 9) (v := ?_) rfl rfl (by kernel_rfl) (by kernel_rfl) (by kernel_rfl) (fun _ _ _ h => h) (Or.inl ⟨by rfl, ?_⟩) (by assumption) ?_
  rotate_left 1
  · intro wz hSw
    obtain ⟨-, s0, s1, s2, s3, s4, s5⟩ := hSw
    first | (go_simp; done) | (go_simp; with_reducible rfl)
  simp only [List.set_cons_zero, List.set_cons_succ]
  refine wpAnyH_ready (rs := [2]) (by kernel_rfl) (by simp) ?_
  refine AllReadyH.cons rfl (fun K hK => ?_) AllReadyH.nil
  · go_simp
    refine (HA.out _ hHeld.1).mono ?_
    rintro r wA ⟨vA, rfl, hoA, hbA⟩
    obtain ⟨adA, cA, hvA⟩ := hoA.shape
    subst hvA
    refine hK.out _ _ ⟨below_seq hHeld.1 hbA, below_cell hbA hHeld.2.1, below_cell hbA hHeld.2.2.1, below_cell hbA hHeld.2.2.2.1, below_cell hbA hHeld.2.2.2.2.1, below_cell hbA hHeld.2.2.2.2.2.1, below_cell hbA hHeld.2.2.2.2.2.2⟩ (fun hHeld => ?_)
    clear hK K
    have hsA := hbA.size
    refine wpAnyH_ready (rs := [5]) (by kernel_rfl) (by simp) ?_
    refine AllReadyH.cons rfl (fun K hK => ?_) AllReadyH.nil
    · go_simp
      refine (HB.out _ hHeld.1).mono ?_
      rintro r wB ⟨vB, rfl, hoB, hbB⟩
      obtain ⟨adB, cB, hvB⟩ := hoB.shape
      subst hvB
      refine hK.out _ _ ⟨below_seq hHeld.1 hbB, below_cell hbB hHeld.2.1, below_cell hbB hHeld.2.2.1, below_cell hbB hHeld.2.2.2.1, below_cell hbB hHeld.2.2.2.2.1, below_cell hbB hHeld.2.2.2.2.2.1, below_cell hbB hHeld.2.2.2.2.2.2⟩ (fun hHeld => ?_)
      clear hK K
      have hoA := hoA.below hbB
      have hsB := hbB.size
      refine wpAnyH_ready (rs := [6]) (by kernel_rfl) (by simp) ?_
      refine AllReadyH.cons rfl (fun K hK => ?_) AllReadyH.nil
      · obtain ⟨v6, w6, hrun, ho6, hg6, -⟩ := append_two (P := Tryd.prog) wB _ _ 22 22 35 i0 _ 3 24 Tryd.underlying22 hi0 hz0 hz1 hz2 rfl (by decide) _ _ (insVs A) hoA _ _ (insVs B) hoB (insVs_one _) (by unfold maxLen; omega) (by omega) (by first | omega | (simp at *; omega))
        obtain ⟨ad6, c6, rfl⟩ := owns_value ho6
        refine region_append rfl (.tmp 7) (.tmp 10) 22 rfl rfl rfl hrun ?_
        have hB6 : Below W1.heap.size W1 w6 := hHeld.1.grown hg6 hHeld.1.size (fun k hk => by have := (hoA.lt k hk).1; first | omega | (simp at *; omega))
        refine hK.out _ _ ⟨hB6, below_cell hB6 x1, below_cell hB6 x2, below_cell hB6 x3, below_cell hB6 x4, below_cell hB6 x5, below_cell hB6 x6⟩ (fun hHeld => ?_)
        clear hK K
        simp only [Act.put, List.setIfInBounds_toArray]
        refine take_at (i := 7) (n := 3) (v := ?_) rfl rfl (by kernel_rfl) (by kernel_rfl) (by kernel_rfl) (fun _ _ _ h => h) (Or.inl ⟨by rfl, ?_⟩) (by assumption) ?_
        rotate_left 1
        · intro wz hSw
          obtain ⟨-, s0, s1, s2, s3, s4, s5⟩ := hSw
          first | (go_simp; done) | (go_simp; with_reducible rfl)
        simp only [List.set_cons_zero, List.set_cons_succ]
        refine wpAnyH_done (by kernel_rfl) ?_ _
        refine NoPanic.normal ?_
        have H6 : Hid (w6.ownsRow W1.heap.size 35 3 (.slice ad6 (A.length + B.length) c6) (A.length + B.length) (insVs A ++ insVs B) ∧ Below W1.heap.size W1 w6) := ⟨owns_low ho6 (by first | exact Nat.le_refl _ | omega | (simp at *; omega)), hHeld.1⟩
        obtain ⟨C, hC⟩ : ∃ C, A ++ B = C := ⟨_, rfl⟩
        have hCl : A.length + B.length = C.length := by rw [← hC, List.length_append]
        have HQ6 : Hid (Ow w6 W1.heap.size (.slice ad6 C.length c6) C ∧ Below W1.heap.size W1 w6) := ⟨by unfold Ow; rw [← hCl, ← hC, insVs_append]; exact H6.out.1, H6.out.2⟩
        rw [hC] at HBW
        simp only [hCl]
        have y0 := below_cell H6.out.2 x0
        have lw : w.heap.size < w6.heap.size := World.block_lt_of_cell? _ _ y0
        have HX0 : Hid (W1.cell? ⟨w.heap.size, 0, none⟩ = some (.int .i64 ck)) := x0
        have hC9 : C.length ≤ 200000 := by omega
        clear x0 x1 x2 x3 x4 x5 x6 H6 hHeld hoA hoB hbA hbB hrun ho6 hg6 hsA hsB hC hCl
        by_cases h23 : ck = 2 ∨ ck = 3
        · rw [if_pos h23] at HBW
          rcases h23 with h23 | h23
          · subst h23
            go_wp2_with (first
              | (at_builtin; refine wp_app rfl (.tmp 20) (.tmp 23) rfl W1.heap.size w6.heap.size _ _ C [⟨8, 0, 0⟩] rfl rfl (HQ6.out.1.below (below_new _ _)) (Ow.lit w6 [⟨8, 0, 0⟩] _ rfl (by simp)) (by have := HQ6.out.2.size; simp; omega) (by simp; omega) ?_; intro v7 w7 ho7 hg7 _ hsh7; obtain ⟨ad7, c7, hv7⟩ := hsh7; subst hv7; have hb7 : Below W1.heap.size W1 w7 := (HQ6.out.2.alloc HQ6.out.2.size _).grown hg7 (by have := HQ6.out.2.size; simp; omega) (fun k hk => (HQ6.out.1.lt k hk).1); have z0 := below_cell hb7 HX0.out; have H7 : Hid (Ow w7 W1.heap.size (.slice ad7 (C.length + 1) c7) (C ++ [⟨8, 0, 0⟩]) ∧ Below W1.heap.size W1 w7) := ⟨ho7, hb7⟩; have lw7 : w.heap.size < w7.heap.size := World.block_lt_of_cell? _ _ z0; clear ho7 hg7 hb7))
            go_ret
            refine ⟨_, rfl, ?_, below_seq HBW.out.1 H7.out.2⟩
            have hq := H7.out.1.low (B' := w.heap.size) (by have := HBW.out.2.1; omega)
            have e := HBW.out.2.2
            rw [e]
            simpa using hq
          · subst h23
            go_wp2_with (first
              | (at_builtin; refine wp_app rfl (.tmp 20) (.tmp 23) rfl W1.heap.size w6.heap.size _ _ C [⟨8, 0, 0⟩] rfl rfl (HQ6.out.1.below (below_new _ _)) (Ow.lit w6 [⟨8, 0, 0⟩] _ rfl (by simp)) (by have := HQ6.out.2.size; simp; omega) (by simp; omega) ?_; intro v7 w7 ho7 hg7 _ hsh7; obtain ⟨ad7, c7, hv7⟩ := hsh7; subst hv7; have hb7 : Below W1.heap.size W1 w7 := (HQ6.out.2.alloc HQ6.out.2.size _).grown hg7 (by have := HQ6.out.2.size; simp; omega) (fun k hk => (HQ6.out.1.lt k hk).1); have z0 := below_cell hb7 HX0.out; have H7 : Hid (Ow w7 W1.heap.size (.slice ad7 (C.length + 1) c7) (C ++ [⟨8, 0, 0⟩]) ∧ Below W1.heap.size W1 w7) := ⟨ho7, hb7⟩; have lw7 : w.heap.size < w7.heap.size := World.block_lt_of_cell? _ _ z0; clear ho7 hg7 hb7)
              | (at_builtin; refine wp_app rfl (.tmp 28) (.tmp 31) rfl W1.heap.size w7.heap.size _ _ (C ++ [⟨8, 0, 0⟩]) [⟨1, 0, 0⟩, ⟨8, 0, 0⟩] rfl rfl (H7.out.1.below (below_new _ _)) (Ow.lit w7 [⟨1, 0, 0⟩, ⟨8, 0, 0⟩] _ rfl (by simp)) (by have := H7.out.2.size; simp; omega) (by simp; omega) ?_; intro v8 w8 ho8 hg8 _ hsh8; obtain ⟨ad8, c8, hv8⟩ := hsh8; subst hv8; rw [List.length_append] at ho8; have H8 : Hid (Ow w8 W1.heap.size (.slice ad8 (C.length + 1 + 2) c8) (C ++ [⟨8, 0, 0⟩] ++ [⟨1, 0, 0⟩, ⟨8, 0, 0⟩]) ∧ Below W1.heap.size W1 w8) := ⟨ho8, (H7.out.2.alloc H7.out.2.size _).grown hg8 (by have := H7.out.2.size; simp; omega) (fun k hk => (H7.out.1.lt k hk).1)⟩; clear ho8 hg8))
            go_ret
            refine ⟨_, rfl, ?_, below_seq HBW.out.1 H8.out.2⟩
            have hq := H8.out.1.low (B' := w.heap.size) (by have := HBW.out.2.1; omega)
            have e := HBW.out.2.2
            simp only [Nat.add_assoc] at hq e ⊢
            rw [e]
            exact hq
        · rw [if_neg h23] at HBW
          have n2 : (ck == 2) = false := by rw [beq_eq_false_iff_ne]; omega
          have n3 : (ck == 3) = false := by rw [beq_eq_false_iff_ne]; omega
          have n2' : ¬ ck = 2 := by omega
          have n3' : ¬ ck = 3 := by omega
          by_cases h3 : 3 ≤ ck
          · rw [if_pos h3] at HBW
            go_wp2_with (first
              | (at_builtin; refine wp_app rfl (.tmp 20) (.tmp 23) rfl W1.heap.size w6.heap.size _ _ C [⟨7, 0, 0⟩] rfl rfl (HQ6.out.1.below (below_new _ _)) (Ow.lit w6 [⟨7, 0, 0⟩] _ rfl (by simp)) (by have := HQ6.out.2.size; simp; omega) (by simp; omega) ?_; intro v7 w7 ho7 hg7 _ hsh7; obtain ⟨ad7, c7, hv7⟩ := hsh7; subst hv7; have hb7 : Below W1.heap.size W1 w7 := (HQ6.out.2.alloc HQ6.out.2.size _).grown hg7 (by have := HQ6.out.2.size; simp; omega) (fun k hk => (HQ6.out.1.lt k hk).1); have z0 := below_cell hb7 HX0.out; have H7 : Hid (Ow w7 W1.heap.size (.slice ad7 (C.length + 1) c7) (C ++ [⟨7, 0, 0⟩]) ∧ Below W1.heap.size W1 w7) := ⟨ho7, hb7⟩; have lw7 : w.heap.size < w7.heap.size := World.block_lt_of_cell? _ _ z0; clear ho7 hg7 hb7)
              | (at_builtin; refine wp_app rfl (.tmp 28) (.tmp 31) rfl W1.heap.size w7.heap.size _ _ (C ++ [⟨7, 0, 0⟩]) [⟨1, 0, 0⟩, ⟨8, 0, 0⟩] rfl rfl (H7.out.1.below (below_new _ _)) (Ow.lit w7 [⟨1, 0, 0⟩, ⟨8, 0, 0⟩] _ rfl (by simp)) (by have := H7.out.2.size; simp; omega) (by simp; omega) ?_; intro v8 w8 ho8 hg8 _ hsh8; obtain ⟨ad8, c8, hv8⟩ := hsh8; subst hv8; rw [List.length_append] at ho8; have H8 : Hid (Ow w8 W1.heap.size (.slice ad8 (C.length + 1 + 2) c8) (C ++ [⟨7, 0, 0⟩] ++ [⟨1, 0, 0⟩, ⟨8, 0, 0⟩]) ∧ Below W1.heap.size W1 w8) := ⟨ho8, (H7.out.2.alloc H7.out.2.size _).grown hg8 (by have := H7.out.2.size; simp; omega) (fun k hk => (H7.out.1.lt k hk).1)⟩; clear ho8 hg8))
            go_ret
            refine ⟨_, rfl, ?_, below_seq HBW.out.1 H8.out.2⟩
            have hq := H8.out.1.low (B' := w.heap.size) (by have := HBW.out.2.1; omega)
            have e := HBW.out.2.2
            simp only [Nat.add_assoc] at hq e ⊢
            rw [e]
            exact hq
          · rw [if_neg h3] at HBW
            go_wp2_with (first
              | (at_builtin; refine wp_app rfl (.tmp 20) (.tmp 23) rfl W1.heap.size w6.heap.size _ _ C [⟨7, 0, 0⟩] rfl rfl (HQ6.out.1.below (below_new _ _)) (Ow.lit w6 [⟨7, 0, 0⟩] _ rfl (by simp)) (by have := HQ6.out.2.size; simp; omega) (by simp; omega) ?_; intro v7 w7 ho7 hg7 _ hsh7; obtain ⟨ad7, c7, hv7⟩ := hsh7; subst hv7; have hb7 : Below W1.heap.size W1 w7 := (HQ6.out.2.alloc HQ6.out.2.size _).grown hg7 (by have := HQ6.out.2.size; simp; omega) (fun k hk => (HQ6.out.1.lt k hk).1); have z0 := below_cell hb7 HX0.out; have H7 : Hid (Ow w7 W1.heap.size (.slice ad7 (C.length + 1) c7) (C ++ [⟨7, 0, 0⟩]) ∧ Below W1.heap.size W1 w7) := ⟨ho7, hb7⟩; have lw7 : w.heap.size < w7.heap.size := World.block_lt_of_cell? _ _ z0; clear ho7 hg7 hb7))
            go_ret
            refine ⟨_, rfl, ?_, below_seq HBW.out.1 H7.out.2⟩
            have hq := H7.out.1.low (B' := w.heap.size) (by have := HBW.out.2.1; omega)
            have e := HBW.out.2.2
            rw [e]
            simpa using hq

end Go.Proofs.YtgemadoieielcacDoor.B
namespace Go.Proofs.YtgemadoieielcacDoor.B
open Go.ChangeShapes Go.WideShapes Go.ChangeAt Go.RowKit

theorem JB.mono {m m' : Int} {l : List Io} (h : JB m l) (hm : m ≤ m') : JB m' l := fun x hx => ⟨fun e => by have := (h x hx).1 e; omega, fun e => by have := (h x hx).2 e; omega⟩
theorem JB.append {m : Int} {a b : List Io} (h : JB m a) (h' : JB m b) : JB m (a ++ b) := fun x hx => by
  rcases List.mem_append.1 hx with hx | hx
  · exact h x hx
  · exact h' x hx
theorem JB.nil (m : Int) : JB m [] := fun x hx => by cases hx
theorem JB.mov {m d : Int} {l : List Io} (h : JB m l) (hd : 0 ≤ d) : JB (m + d) (mv d l) := fun x hx => by
  obtain ⟨y, hy, rfl⟩ := List.mem_map.1 hx
  have := h y hy
  unfold mvI
  by_cases h1 : y.op = 11 ∨ y.op = 12
  · rw [if_pos h1]
    exact ⟨fun _ => by have := this.1 h1; dsimp only; omega, fun e => by dsimp only at e; omega⟩
  · rw [if_neg h1]
    by_cases h2 : y.op = 14
    · rw [if_pos h2]
      exact ⟨fun e => absurd e h1, fun _ => by have := this.2 h2; dsimp only; omega⟩
    · rw [if_neg h2]
      exact ⟨fun e => absurd e h1, fun e => absurd e h2⟩
theorem JB.join {m : Int} {a b : List Io} (h : JB m a) (h' : JB b.length b) (hm : (a.length : Int) + b.length ≤ m) : JB m (jn a b) :=
  h.append ((h'.mov (d := a.length) (by omega)).mono (by omega))
theorem JB.one {m : Int} (op a b : Int) (h1 : (op = 11 ∨ op = 12) → 0 ≤ a ∧ a ≤ m) (h2 : op = 14 → 0 ≤ b ∧ b ≤ m) : JB m [⟨op, a, b⟩] := fun x hx => by
  have : x = ⟨op, a, b⟩ := by simpa using hx
  subst this
  exact ⟨h1, h2⟩
theorem JB.free {m : Int} {l : List Io} (h : ∀ d, mv d l = l) : JB m l := fun x hx => by
  have h1 : ∀ y ∈ l, mvI 1 y = y := by
    have := h 1
    unfold mv at this
    exact fun y hy => (List.map_inj_left.1 (this.trans (List.map_id l).symm)) y hy
  have := h1 x hx
  unfold mvI at this
  refine ⟨fun e => ?_, fun e => ?_⟩
  · rw [if_pos e] at this
    have := congrArg In.a this
    dsimp only at this
    omega
  · rw [if_neg (by omega), if_pos e] at this
    have := congrArg In.b this
    dsimp only at this
    omega

mutual
theorem St.pc_jb : ∀ (s : St) (i : Int), s.Lay → JB (s.pc i).length (s.pc i)
  | .mk k n e ck ca cb y l, i, h => by
    rw [St.Lay] at h
    have hy := St.pcAll_jb y i h.2.2.2.2.1
    have hy1 := St.pcAll_jb y (i + 1) h.2.2.2.2.1
    have hl := St.pcAll_jb l i h.2.2.2.2.2
    rw [St.pc]
    split
    · rename_i hk
      exact (JB.free (fun d => Ex.pc_mv d e (h.2.1 (.inl hk)))).append (JB.one _ _ _ (by omega) (by omega))
    split
    · rename_i hk
      exact (JB.free (fun d => Ex.pc_mv d e (h.2.1 (.inr hk)))).append (JB.one _ _ _ (by omega) (by omega))
    split
    · rename_i hk
      obtain ⟨-, ha, hb⟩ := h.2.2.1 (.inl hk)
      have hc : ∀ m, JB m (cdP ck ca cb) := fun m => JB.free (fun d => cdP_mv d ck ca cb ha hb)
      generalize cdP ck ca cb = C at *
      generalize St.pcAll y i = A at *
      generalize St.pcAll l i = B at *
      split
      · refine JB.join ((hc _).append (JB.one _ _ _ (fun _ => ?_) (by omega))) hy ?_ <;> simp only [ifP, jn_len, List.length_append, List.length_cons, List.length_nil] <;> omega
      · unfold elP
        refine JB.join ((JB.join ((hc _).append (JB.one _ _ _ (fun _ => ?_) (by omega))) hy ?_).append (JB.one _ _ _ (fun _ => ?_) (by omega))) hl ?_ <;> simp only [jn_len, List.length_append, List.length_cons, List.length_nil] <;> omega
    split
    · generalize St.pcAll y (i + 1) = A at *
      split
      · exact JB.nil _
      · unfold lpP
        refine (JB.join (JB.one _ _ _ (by omega) (by omega)) hy1 ?_).append (JB.one _ _ _ (by omega) (fun _ => ?_)) <;> simp only [jn_len, List.length_append, List.length_cons, List.length_nil] <;> omega
    split
    · rename_i hk
      obtain ⟨-, ha, hb⟩ := h.2.2.1 (.inr hk)
      have hc : ∀ m, JB m (cdP ck ca cb) := fun m => JB.free (fun d => cdP_mv d ck ca cb ha hb)
      generalize cdP ck ca cb = C at *
      generalize St.pcAll y (i + 1) = A at *
      split
      · exact JB.nil _
      · have hw : JB (whP C A i).length (whP C A i) := by
          unfold whP
          refine (JB.join ((hc _).append (JB.one _ _ _ (fun _ => ?_) (by omega))) hy1 ?_).append ((JB.one 11 _ 0 (fun _ => ?_) (by omega)).append (JB.one 15 i 0 (by omega) (by omega))) <;> simp only [jn_len, List.length_append, List.length_cons, List.length_nil] <;> omega
        unfold lpP
        refine (JB.join (JB.one _ _ _ (by omega) (by omega)) hw ?_).append (JB.one _ _ _ (by omega) (fun _ => ?_)) <;> simp only [jn_len, List.length_append, List.length_cons, List.length_nil] <;> omega
    split
    · generalize St.pcAll y i = A at *
      refine (JB.join (JB.one _ _ _ (by omega) (by omega)) hy ?_).append (JB.one _ _ _ (by omega) (by omega))
      simp only [jn_len, List.length_append, List.length_cons, List.length_nil]
      omega
    · exact JB.one _ _ _ (by omega) (by omega)
theorem St.pcAll_jb : ∀ (a : List St) (i : Int), St.LayAll a → JB (St.pcAll a i).length (St.pcAll a i)
  | [], _, _ => JB.nil _
  | s :: r, i, h => by
    have h1 := St.pc_jb s i h.1
    have h2 := St.pcAll_jb r i h.2
    rw [St.pcAll]
    exact JB.join (h1.mono (by rw [jn_len]; omega)) h2 (by rw [jn_len]; omega)
end

/-- The document's pieces, of a statement, of all of a list. -/
def PcC (N : Nat) : Prop := ∀ (s : St) (w : World) (v : Value) (loops : Int), s.bulk ≤ N → s.bulk ≤ 20000 → s.In w v → s.Lay → 0 ≤ loops ∧ loops + s.bulk ≤ 1000000 →
  Calls Tryd.prog 100 #[v, .int .i64 loops] w fun r w' => ∃ v', r = .returned v' ∧ Ow w' w.heap.size v' (s.pc loops) ∧ Below w.heap.size w w'
def PcsC (N : Nat) : Prop := ∀ (a : List St) (w : World) (v : Value) (loops : Int), St.bulkAll a ≤ N → St.bulkAll a ≤ 20000 → St.Sl w a v → St.LayAll a → 0 ≤ loops ∧ loops + St.bulkAll a ≤ 1000000 →
  Calls Tryd.prog 64 #[v, .int .i64 loops] w fun r w' => ∃ v', r = .returned v' ∧ Ow w' w.heap.size v' (St.pcAll a loops) ∧ Below w.heap.size w w'

set_option maxRecDepth 20000 in
set_option maxHeartbeats 400000 in
theorem pieces_of_piece (N : Nat) (hS : PcC N) : PcsC N := by
  intro a w v loops hN hN2 hin hlay hlo
  obtain ⟨ad, c, rfl, hrow⟩ := hin
  have hal := length_le_bulkAll a
  have HR : Hid ((a = [] ∨ ∃ g o, ad = some ⟨g, o, none⟩ ∧ St.Row w a g o) ∧ St.LayAll a) := ⟨hrow, hlay⟩
  have HS : Hid _ := hS
  clear hrow hlay hS
  go_enter Tryd.func64, Tryd.ntmps64
  go_wp2_with fail
  go_loopw [5, 10] (fun x i wr => ∃ (j : Nat) (oad : Option Addr) (oc : Nat), j ≤ a.length ∧ i = .int .i64 j ∧ x = .slice oad (St.pcAll (a.take j) loops).length oc ∧ Ow wr w.heap.size (.slice oad (St.pcAll (a.take j) loops).length oc) (St.pcAll (a.take j) loops) ∧ Below w.heap.size w wr) (fun _ i _ => a.length - (intOf i).toNat)
  case atStart => exact ⟨0, none, 0, Nat.zero_le _, rfl, rfl, Ow.nil _ _, Below.refl _ _⟩
  case round =>
    obtain ⟨j, oad, oc, hj, rfl, rfl, ho, hb⟩ := hrel
    by_cases hjl : j < a.length
    · have hji : (j : Int) < (a.length : Int) := by omega
      rcases HR.out.1 with h | ⟨b, o, rfl, hrow⟩
      · rw [h] at hjl; simp at hjl
      obtain ⟨k, n, e, ck, ca, cb, y, l, hst, ek, en, ead, em, ec, ak, an, aad, am, ac, bk, bn, bad, bm, bc, yad, yc, lad, lc, s0, s1, s2, s3, s4, s5, s6, s7, s8, s9, s10, s11, s12, s13, i1, i2, i3, i4, i5⟩ := hrow.shape hjl
      replace s0 := below_cell hb s0
      replace s1 := below_cell hb s1
      replace s2 := below_cell hb s2
      replace s3 := below_cell hb s3
      replace s4 := below_cell hb s4
      replace s5 := below_cell hb s5
      replace s6 := below_cell hb s6
      replace s7 := below_cell hb s7
      replace s8 := below_cell hb s8
      replace s9 := below_cell hb s9
      replace s10 := below_cell hb s10
      replace s11 := below_cell hb s11
      replace s12 := below_cell hb s12
      replace s13 := below_cell hb s13
      have lb : b < wr.heap.size := World.block_lt_of_cell? _ _ s0
      have hbt := St.bulkAll_take j hjl
      have hpt := St.pcAll_len (a.take j) loops
      have hly := HR.out.2.at j hjl
      have hpn := St.pcAll_take loops j hjl
      rw [hst] at hbt hly hpn
      have hpl := St.pc_len (.mk k n e ck ca cb y l) loops
      have hjb := St.pc_jb _ loops hly
      have hB1 := below_seq hb (below_new wr (.cells #[.int .i64 k, .int .i64 n, .int .i64 ek, .int .i64 en, .slice ead em ec, .int .i64 ck, .int .i64 ak, .int .i64 an, .slice aad am ac, .int .i64 bk, .int .i64 bn, .slice bad bm bc, .slice yad y.length yc, .slice lad l.length lc] 123))
      have HC := HS.out (.mk k n e ck ca cb y l) (wr.alloc (.cells #[.int .i64 k, .int .i64 n, .int .i64 ek, .int .i64 en, .slice ead em ec, .int .i64 ck, .int .i64 ak, .int .i64 an, .slice aad am ac, .int .i64 bk, .int .i64 bn, .slice bad bm bc, .slice yad y.length yc, .slice lad l.length lc] 123)) _ loops (by omega) (by omega) (in_shape (Ex.In.below hB1 _ i1) (Ex.In.below hB1 _ i2) (Ex.In.below hB1 _ i3) (i4.below hB1) (i5.below hB1)) hly (by omega)
      have HO : Hid (Ow wr w.heap.size (.slice oad (St.pcAll (a.take j) loops).length oc) (St.pcAll (a.take j) loops) ∧ Below w.heap.size w wr) := ⟨ho, hb⟩
      obtain ⟨L, hL⟩ : ∃ L, St.pcAll (a.take j) loops = L := ⟨_, rfl⟩
      obtain ⟨L2, hL2⟩ : ∃ L2, (St.mk k n e ck ca cb y l).pc loops = L2 := ⟨_, rfl⟩
      rw [hL, hL2] at hpn
      rw [hL] at HO hpt
      rw [hL2] at HC hpl hjb
      simp only [hL]
      have HPN : Hid (jn L L2 = St.pcAll (a.take (j + 1)) loops ∧ JB L2.length L2) := ⟨hpn, hjb⟩
      clear i1 i2 i3 i4 i5 hrow ho hb hB1 hly hpn hst hL hL2 hjb
      go_wp2_with (first
        | (go_at_call 100; refine HC.mono ?_; rintro r w2 ⟨v2, rfl, ho2, hb2⟩; obtain ⟨ad2, c2, hv2⟩ := ho2.shape; subst hv2; have H2 : Hid (Ow w2 (wr.alloc (.cells #[.int .i64 k, .int .i64 n, .int .i64 ek, .int .i64 en, .slice ead em ec, .int .i64 ck, .int .i64 ak, .int .i64 an, .slice aad am ac, .int .i64 bk, .int .i64 bn, .slice bad bm bc, .slice yad y.length yc, .slice lad l.length lc] 123)).heap.size (.slice ad2 L2.length c2) L2 ∧ Ow w2 w.heap.size (.slice oad L.length oc) L ∧ Below w.heap.size w w2) := ⟨ho2, HO.out.1.below (below_seq (below_new _ _) hb2), below_seq HO.out.2 (below_seq (below_new _ _) hb2)⟩; have HC2 := join_any w2 L L2 _ _ _ H2.out.2.1 H2.out.1.sl (HPN.out.2.mono (by omega)) (by omega); clear ho2 hb2 HC)
        | (go_at_call 99; refine HC2.mono ?_; rintro r w3 ⟨v3, rfl, ho3, hb3⟩; obtain ⟨ad3, c3, hv3⟩ := ho3.shape; subst hv3; have H3 : Hid (Ow w3 w.heap.size (.slice ad3 (jn L L2).length c3) (jn L L2) ∧ Below w.heap.size w w3) := ⟨ho3.low H2.out.2.2.size, below_seq H2.out.2.2 hb3⟩; clear ho3 hb3 HC2))
      have h3 := H3.out
      rw [HPN.out.1] at h3
      exact ⟨⟨j + 1, ad3, c3, by omega, by simp, by rw [HPN.out.1], h3.1, h3.2⟩, by simp [intOf]; omega⟩
    · have hje : j = a.length := by omega
      subst hje
      rw [List.take_length] at ho
      simp only [List.take_length]
      have HO : Hid (Ow wr w.heap.size (.slice oad (St.pcAll a loops).length oc) (St.pcAll a loops) ∧ Below w.heap.size w wr) := ⟨ho, hb⟩
      clear ho hb
      go_wp2_with fail
      go_ret
      exact ⟨_, rfl, HO.out.1, HO.out.2⟩

end Go.Proofs.YtgemadoieielcacDoor.B
