import Derived.Test.YtccoobcggbbciakDoorKT0
import Derived.Deep.CutRange
import Derived.Deep.CutBlock
namespace Go.Proofs.YtccoobcggbbciakDoor
open Go.ChangeShapes Go.WideShapes Go.ChangeAt Go.RowKit

theorem region_append {P : Program} {ops : Array Oper} {o : Oper} {a : Act} {w : World} {K : Act → World → Prop} {Q : Exit → Act → World → Prop} {E : Prop} [Decidable (Region.wanted o (yielded ops a.tmps) = true)] (hgd : o.guard = none) (s x : Operand) (t : TypeId)
    (ho : o.op = .call { callee := .builtin .append, args := #[s, x], argTypes := #[t, t] }) {v u v' : Value} {w' : World} (hs : a.eval s = v) (hx : a.eval x = u)
    (hrun : (Builtin.append_ #[t, t] o.type #[v, u]).run P w = .ok v' w') (h : K (a.put o.dst v') w') : if Region.wanted o (yielded ops a.tmps) = true then Oper.wp P o a w K Q else E := by
  have hw : Region.wanted o (yielded ops a.tmps) = true := by simp [Region.wanted, hgd]
  rw [if_pos hw]
  unfold Oper.wp
  simp [execOp, ho, resolve, invoke, builtin, hs, hx, hrun, Result.andThen]
  exact h

theorem words_cell {W : World} {g kn : Nat} {wb : ByteArray} (h : W.heap[g]? = some (.cells #[.string ⟨#[]⟩, .string ⟨#[99, 111, 109, 101]⟩, .string ⟨#[114, 117, 110]⟩, .string ⟨#[100, 111, 110, 101]⟩, .string ⟨#[107, 105, 108, 108]⟩, .string ⟨#[108, 97, 116, 101]⟩, .string ⟨#[112, 117, 116]⟩] 9 (0, 0))) (hw : wordsB[kn]? = some wb) : W.cell? ⟨g, kn, none⟩ = some (.string wb) :=
  (cells_of (l := wordsB.map Value.string) h).1 kn _ (by rw [List.getElem?_map, hw]; rfl)

set_option maxRecDepth 20000 in
set_option maxHeartbeats 16000000 in
theorem ShowLog_any (w : World) (l : List Ev) (v : Value) (hv : RowSl Ev.vals w l v) (hG : Gr w) (hI : ∀ x ∈ l, inE x) (hl : l.length ≤ 100000) :
    Calls Tryd.prog 11 #[v] w fun r w' => r = .returned (.string ⟨(printE l).toArray⟩) ∧ Below w.heap.size w w' := by
  obtain ⟨ad, c, rfl⟩ := hv.len
  have HV : Hid (RowSl Ev.vals w l (.slice ad l.length c) ∧ Gr w ∧ ∀ x ∈ l, inE x) := ⟨hv, hG, hI⟩
  clear hv hG hI
  go_enter Tryd.func11, Tryd.ntmps11
  go_wp2_with fail
  go_loopw [3, 9] (fun ov iv wr => ∃ (j : Nat) (ob : ByteArray), j ≤ l.length ∧ ov = .string ob ∧ iv = .int .i64 (j : Int) ∧ Hid (ob.data.toList = (l.take j).flatMap lineE ∧ okFrom 0 (l.take j) ∧ Below w.heap.size w wr)) (fun _ iv _ => l.length - (intOf iv).toNat)
  case atStart => exact ⟨0, ⟨#[]⟩, Nat.zero_le _, rfl, rfl, ⟨rfl, trivial, Below.refl _ _⟩⟩
  case round =>
    obtain ⟨j, ob, hj, rfl, rfl, HB⟩ := hrel
    by_cases hjl : j < l.length
    · obtain ⟨x, hx, -⟩ := drop_at hjl
      have htk : l.take (j + 1) = l.take j ++ [x] := by rw [List.take_add_one, hx]; rfl
      have hxi := HV.out.2.2 x (List.mem_of_getElem? hx)
      obtain ⟨ad', c', he, -, hcap, hrow⟩ := HV.out.1
      cases he
      rcases hrow with h | ⟨b, o, rfl, hrow⟩
      · rw [h] at hjl; simp at hjl
      have hrow2 : ∀ (q : Nat) (u : Value), (l.flatMap Ev.vals)[q]? = some u → wr.cell? ⟨b, o + q, none⟩ = some u := fun q u hq => below_cell HB.out.2.2 (hrow q u hq)
      obtain ⟨y0, y1, y2, y3, y4⟩ := ev5_at hrow2 hx
      have HX : Hid (l[j]? = some x ∧ inE x ∧ l.take (j + 1) = l.take j ++ [x]) := ⟨hx, hxi, htk⟩
      have lb : b < wr.heap.size := World.block_lt_of_cell? _ _ y0
      have hji : (j : Int) < (l.length : Int) := by omega
      have HR0 : Hid (∀ W, Calls Tryd.prog 28 #[x.val] W fun r w' => r = .returned (.bool (standsB x)) ∧ Below W.heap.size W w') := fun W => rightEvent_any W x
      have HRow : Hid (∀ (q : Nat) (u : Value), (l.flatMap Ev.vals)[q]? = some u → wr.cell? ⟨b, o + q, none⟩ = some u) := hrow2
      clear hrow hx htk hxi hrow2
      obtain ⟨sb, hsb⟩ : ∃ sb, standsB x = sb := ⟨_, rfl⟩
      have HSB : Hid (standsB x = sb) := hsb
      rw [hsb] at HR0
      clear hsb
      obtain ⟨fb, hfb⟩ : ∃ fb, followsB (l.take j) x = fb := ⟨_, rfl⟩
      have HFB : Hid (followsB (l.take j) x = fb) := hfb
      clear hfb
      obtain ⟨xa, xk, xt, xm, xn⟩ := x
      unfold Ev.val at HR0
      dsimp only at y0 y1 y2 y3 y4 HR0
      go_upto_region 5 with fail
      have H3 : Hid (Below w.heap.size w (wr.alloc (.cells #[.int .i64 xa, .int .i64 xk, .int .i64 xt, .int .i64 xm, .int .i64 xn] 24)) ∧ (wr.alloc (.cells #[.int .i64 xa, .int .i64 xk, .int .i64 xt, .int .i64 xm, .int .i64 xn] 24)).heap[wr.heap.size]? = some (.cells #[.int .i64 xa, .int .i64 xk, .int .i64 xt, .int .i64 xm, .int .i64 xn] 24 (0, 0)) ∧ (∀ (q : Nat) (u : Value), (l.flatMap Ev.vals)[q]? = some u → (wr.alloc (.cells #[.int .i64 xa, .int .i64 xk, .int .i64 xt, .int .i64 xm, .int .i64 xn] 24)).cell? ⟨b, o + q, none⟩ = some u)) := ⟨below_seq HB.out.2.2 (below_new _ _), heap_alloc_new _ _, fun q u hq => below_cell (below_new _ _) (HRow.out q u hq)⟩
      clear y0 y1 y2 y3 y4 lb HRow
      generalize wr.alloc (.cells #[.int .i64 xa, .int .i64 xk, .int .i64 xt, .int .i64 xm, .int .i64 xn] 24) = w3 at *
      generalize wr.heap.size = gt at *
      obtain ⟨xs, -, xl⟩ := cells_of (l := [_, _, _, _, _]) H3.out.2.1
      have x0 := xs 0 _ rfl
      have x1 := xs 1 _ rfl
      have x2 := xs 2 _ rfl
      have x3 := xs 3 _ rfl
      have x4 := xs 4 _ rfl
      clear xs
      have HR : Hid (∀ W, Below w3.heap.size w3 W → Calls Tryd.prog 28 #[.agg #[.int .i64 xa, .int .i64 xk, .int .i64 xt, .int .i64 xm, .int .i64 xn]] W fun r w' => r = .returned (.bool sb) ∧ Below W.heap.size W w') := fun W _ => HR0.out W
      clear HR0
      go_cut [31] from 14 to 30 (fun cv W => cv = .bool (!fb) ∧ Hid (Below w3.heap.size w3 W))
      case first =>
        cases sb with
        | false =>
          have hf : fb = false := by rw [← HFB.out]; unfold followsB; rw [HSB.out, Bool.and_false]
          subst hf
          refine wp_region_noPanic ?_
          refine wp_region_held_drew (S := fun w' => w'.cell? ⟨gt, 0, none⟩ = some (.int .i64 xa) ∧ w'.cell? ⟨gt, 1, none⟩ = some (.int .i64 xk) ∧ w'.cell? ⟨gt, 2, none⟩ = some (.int .i64 xt) ∧ w'.cell? ⟨gt, 3, none⟩ = some (.int .i64 xm) ∧ w'.cell? ⟨gt, 4, none⟩ = some (.int .i64 xn)) (by kernel_rfl) ⟨by go_simp, by go_simp, by go_simp, by go_simp, by go_simp⟩ (fun hHeld => ?_)
          refine take_at (i := 0) (n := 14) (v := ?_) rfl rfl (by kernel_rfl) (by kernel_rfl) (by kernel_rfl) (fun _ _ _ h => h) (Or.inl ⟨by rfl, ?_⟩) (by assumption) ?_
          rotate_left 1
          · intro wz hSw
            obtain ⟨s0, s1, s2, s3, s4⟩ := hSw
            first | (go_simp; done) | (go_simp; with_reducible rfl)
          simp only [List.set_cons_zero, List.set_cons_succ]
          refine wpAnyH_ready (rs := [1]) (by kernel_rfl) (by simp) ?_
          refine AllReadyH.cons rfl (fun K hK => ?_) AllReadyH.nil
          go_simp
          go_wp2_with (go_at_call 28; refine (HR.out _ (Below.refl _ _).drew).mono ?_; rintro r w4 ⟨rfl, hb4⟩)
          have H4 : Hid (Below w3.heap.size w3 w4) := below_seq (Below.refl _ _).drew hb4
          refine hK.out _ _ ⟨below_cell H4.out x0, below_cell H4.out x1, below_cell H4.out x2, below_cell H4.out x3, below_cell H4.out x4⟩ (fun hHeld => ?_)
          clear hb4
          clear hK K
          try simp only [List.set_cons_zero, List.set_cons_succ]
          refine take_at (i := 2) (n := 16) (v := ?_) rfl rfl (by kernel_rfl) (by kernel_rfl) (by kernel_rfl) (fun _ _ _ h => h) (Or.inl ⟨by rfl, ?_⟩) (by assumption) ?_
          rotate_left 1
          · intro wz hSw
            obtain ⟨s0, s1, s2, s3, s4⟩ := hSw
            first | (go_simp; done) | (go_simp; with_reducible rfl)
          simp only [List.set_cons_zero, List.set_cons_succ]
          refine take_at (i := 3) (n := 17) (v := ?_) rfl rfl (by kernel_rfl) (by kernel_rfl) (by kernel_rfl) (fun _ _ _ h => h) (Or.inl ⟨by rfl, ?_⟩) (by assumption) ?_
          rotate_left 1
          · intro wz hSw
            obtain ⟨s0, s1, s2, s3, s4⟩ := hSw
            first | (go_simp; done) | (go_simp; with_reducible rfl)
          simp only [List.set_cons_zero, List.set_cons_succ]
          refine take_at (i := 4) (n := 18) (v := undef) rfl rfl (by kernel_rfl) (by kernel_rfl) (by kernel_rfl) (fun _ _ _ h => h) (Or.inr ⟨by rfl, rfl⟩) (by assumption) ?_
          simp only [List.set_cons_zero, List.set_cons_succ]
          refine take_at (i := 5) (n := 19) (v := undef) rfl rfl (by kernel_rfl) (by kernel_rfl) (by kernel_rfl) (fun _ _ _ h => h) (Or.inr ⟨by rfl, rfl⟩) (by assumption) ?_
          simp only [List.set_cons_zero, List.set_cons_succ]
          refine take_at (i := 6) (n := 20) (v := undef) rfl rfl (by kernel_rfl) (by kernel_rfl) (by kernel_rfl) (fun _ _ _ h => h) (Or.inr ⟨by rfl, rfl⟩) (by assumption) ?_
          simp only [List.set_cons_zero, List.set_cons_succ]
          refine take_at (i := 7) (n := 21) (v := undef) rfl rfl (by kernel_rfl) (by kernel_rfl) (by kernel_rfl) (fun _ _ _ h => h) (Or.inr ⟨by rfl, rfl⟩) (by assumption) ?_
          simp only [List.set_cons_zero, List.set_cons_succ]
          refine take_at (i := 8) (n := 22) (v := undef) rfl rfl (by kernel_rfl) (by kernel_rfl) (by kernel_rfl) (fun _ _ _ h => h) (Or.inr ⟨by rfl, rfl⟩) (by assumption) ?_
          simp only [List.set_cons_zero, List.set_cons_succ]
          refine take_at (i := 9) (n := 23) (v := undef) rfl rfl (by kernel_rfl) (by kernel_rfl) (by kernel_rfl) (fun _ _ _ h => h) (Or.inr ⟨by rfl, rfl⟩) (by assumption) ?_
          simp only [List.set_cons_zero, List.set_cons_succ]
          refine take_at (i := 10) (n := 24) (v := undef) rfl rfl (by kernel_rfl) (by kernel_rfl) (by kernel_rfl) (fun _ _ _ h => h) (Or.inr ⟨by rfl, rfl⟩) (by assumption) ?_
          simp only [List.set_cons_zero, List.set_cons_succ]
          refine take_at (i := 11) (n := 25) (v := undef) rfl rfl (by kernel_rfl) (by kernel_rfl) (by kernel_rfl) (fun _ _ _ h => h) (Or.inr ⟨by rfl, rfl⟩) (by assumption) ?_
          simp only [List.set_cons_zero, List.set_cons_succ]
          refine take_at (i := 12) (n := 26) (v := undef) rfl rfl (by kernel_rfl) (by kernel_rfl) (by kernel_rfl) (fun _ _ _ h => h) (Or.inr ⟨by rfl, rfl⟩) (by assumption) ?_
          simp only [List.set_cons_zero, List.set_cons_succ]
          refine take_at (i := 13) (n := 27) (v := undef) rfl rfl (by kernel_rfl) (by kernel_rfl) (by kernel_rfl) (fun _ _ _ h => h) (Or.inr ⟨by rfl, rfl⟩) (by assumption) ?_
          simp only [List.set_cons_zero, List.set_cons_succ]
          refine take_at (i := 14) (n := 28) (v := undef) rfl rfl (by kernel_rfl) (by kernel_rfl) (by kernel_rfl) (fun _ _ _ h => h) (Or.inr ⟨by rfl, rfl⟩) (by assumption) ?_
          simp only [List.set_cons_zero, List.set_cons_succ]
          refine take_at (i := 15) (n := 29) (v := undef) rfl rfl (by kernel_rfl) (by kernel_rfl) (by kernel_rfl) (fun _ _ _ h => h) (Or.inr ⟨by rfl, rfl⟩) (by assumption) ?_
          simp only [List.set_cons_zero, List.set_cons_succ]
          refine take_at (i := 16) (n := 30) (v := undef) rfl rfl (by kernel_rfl) (by kernel_rfl) (by kernel_rfl) (fun _ _ _ h => h) (Or.inr ⟨by rfl, rfl⟩) (by assumption) ?_
          simp only [List.set_cons_zero, List.set_cons_succ]
          refine take_at (i := 17) (n := 31) (v := ?_) rfl rfl (by kernel_rfl) (by kernel_rfl) (by kernel_rfl) (fun _ _ _ h => h) (Or.inl ⟨by rfl, ?_⟩) (by assumption) ?_
          rotate_left 1
          · intro wz hSw
            obtain ⟨s0, s1, s2, s3, s4⟩ := hSw
            first | (go_simp; done) | (go_simp; with_reducible rfl)
          simp only [List.set_cons_zero, List.set_cons_succ]
          refine wpAnyH_done (by kernel_rfl) ?_ _
          refine NoPanic.normal ?_
          clear hHeld
          go_wp2_with fail
          go_meet
          case rel => exact ⟨rfl, H4⟩
        | true =>
          by_cases hj0 : j = 0
          · have hf : fb = true := by rw [← HFB.out]; unfold followsB; rw [HSB.out, Bool.and_true, hj0]; rfl
            subst hf hj0
            refine wp_region_noPanic ?_
            refine wp_region_held_drew (S := fun w' => w'.cell? ⟨gt, 0, none⟩ = some (.int .i64 xa) ∧ w'.cell? ⟨gt, 1, none⟩ = some (.int .i64 xk) ∧ w'.cell? ⟨gt, 2, none⟩ = some (.int .i64 xt) ∧ w'.cell? ⟨gt, 3, none⟩ = some (.int .i64 xm) ∧ w'.cell? ⟨gt, 4, none⟩ = some (.int .i64 xn)) (by kernel_rfl) ⟨by go_simp, by go_simp, by go_simp, by go_simp, by go_simp⟩ (fun hHeld => ?_)
            refine take_at (i := 0) (n := 14) (v := ?_) rfl rfl (by kernel_rfl) (by kernel_rfl) (by kernel_rfl) (fun _ _ _ h => h) (Or.inl ⟨by rfl, ?_⟩) (by assumption) ?_
            rotate_left 1
            · intro wz hSw
              obtain ⟨s0, s1, s2, s3, s4⟩ := hSw
              first | (go_simp; done) | (go_simp; with_reducible rfl)
            simp only [List.set_cons_zero, List.set_cons_succ]
            refine wpAnyH_ready (rs := [1]) (by kernel_rfl) (by simp) ?_
            refine AllReadyH.cons rfl (fun K hK => ?_) AllReadyH.nil
            go_simp
            go_wp2_with (go_at_call 28; refine (HR.out _ (Below.refl _ _).drew).mono ?_; rintro r w4 ⟨rfl, hb4⟩)
            have H4 : Hid (Below w3.heap.size w3 w4) := below_seq (Below.refl _ _).drew hb4
            refine hK.out _ _ ⟨below_cell H4.out x0, below_cell H4.out x1, below_cell H4.out x2, below_cell H4.out x3, below_cell H4.out x4⟩ (fun hHeld => ?_)
            clear hb4
            clear hK K
            try simp only [List.set_cons_zero, List.set_cons_succ]
            refine take_at (i := 2) (n := 16) (v := ?_) rfl rfl (by kernel_rfl) (by kernel_rfl) (by kernel_rfl) (fun _ _ _ h => h) (Or.inl ⟨by rfl, ?_⟩) (by assumption) ?_
            rotate_left 1
            · intro wz hSw
              obtain ⟨s0, s1, s2, s3, s4⟩ := hSw
              first | (go_simp; done) | (go_simp; with_reducible rfl)
            simp only [List.set_cons_zero, List.set_cons_succ]
            refine take_at (i := 3) (n := 17) (v := ?_) rfl rfl (by kernel_rfl) (by kernel_rfl) (by kernel_rfl) (fun _ _ _ h => h) (Or.inl ⟨by rfl, ?_⟩) (by assumption) ?_
            rotate_left 1
            · intro wz hSw
              obtain ⟨s0, s1, s2, s3, s4⟩ := hSw
              first | (go_simp; done) | (go_simp; with_reducible rfl)
            simp only [List.set_cons_zero, List.set_cons_succ]
            refine take_at (i := 4) (n := 18) (v := ?_) rfl rfl (by kernel_rfl) (by kernel_rfl) (by kernel_rfl) (fun _ _ _ h => h) (Or.inl ⟨by rfl, ?_⟩) (by assumption) ?_
            rotate_left 1
            · intro wz hSw
              obtain ⟨s0, s1, s2, s3, s4⟩ := hSw
              first | (go_simp; done) | (go_simp; with_reducible rfl)
            simp only [List.set_cons_zero, List.set_cons_succ]
            refine take_at (i := 5) (n := 19) (v := ?_) rfl rfl (by kernel_rfl) (by kernel_rfl) (by kernel_rfl) (fun _ _ _ h => h) (Or.inl ⟨by rfl, ?_⟩) (by assumption) ?_
            rotate_left 1
            · intro wz hSw
              obtain ⟨s0, s1, s2, s3, s4⟩ := hSw
              first | (go_simp; done) | (go_simp; with_reducible rfl)
            simp only [List.set_cons_zero, List.set_cons_succ]
            refine take_at (i := 6) (n := 20) (v := ?_) rfl rfl (by kernel_rfl) (by kernel_rfl) (by kernel_rfl) (fun _ _ _ h => h) (Or.inl ⟨by rfl, ?_⟩) (by assumption) ?_
            rotate_left 1
            · intro wz hSw
              obtain ⟨s0, s1, s2, s3, s4⟩ := hSw
              first | (go_simp; done) | (go_simp; with_reducible rfl)
            simp only [List.set_cons_zero, List.set_cons_succ]
            refine take_at (i := 7) (n := 21) (v := undef) rfl rfl (by kernel_rfl) (by kernel_rfl) (by kernel_rfl) (fun _ _ _ h => h) (Or.inr ⟨by rfl, rfl⟩) (by assumption) ?_
            simp only [List.set_cons_zero, List.set_cons_succ]
            refine take_at (i := 8) (n := 22) (v := undef) rfl rfl (by kernel_rfl) (by kernel_rfl) (by kernel_rfl) (fun _ _ _ h => h) (Or.inr ⟨by rfl, rfl⟩) (by assumption) ?_
            simp only [List.set_cons_zero, List.set_cons_succ]
            refine take_at (i := 9) (n := 23) (v := undef) rfl rfl (by kernel_rfl) (by kernel_rfl) (by kernel_rfl) (fun _ _ _ h => h) (Or.inr ⟨by rfl, rfl⟩) (by assumption) ?_
            simp only [List.set_cons_zero, List.set_cons_succ]
            refine take_at (i := 10) (n := 24) (v := undef) rfl rfl (by kernel_rfl) (by kernel_rfl) (by kernel_rfl) (fun _ _ _ h => h) (Or.inr ⟨by rfl, rfl⟩) (by assumption) ?_
            simp only [List.set_cons_zero, List.set_cons_succ]
            refine take_at (i := 11) (n := 25) (v := undef) rfl rfl (by kernel_rfl) (by kernel_rfl) (by kernel_rfl) (fun _ _ _ h => h) (Or.inr ⟨by rfl, rfl⟩) (by assumption) ?_
            simp only [List.set_cons_zero, List.set_cons_succ]
            refine take_at (i := 12) (n := 26) (v := undef) rfl rfl (by kernel_rfl) (by kernel_rfl) (by kernel_rfl) (fun _ _ _ h => h) (Or.inr ⟨by rfl, rfl⟩) (by assumption) ?_
            simp only [List.set_cons_zero, List.set_cons_succ]
            refine take_at (i := 13) (n := 27) (v := undef) rfl rfl (by kernel_rfl) (by kernel_rfl) (by kernel_rfl) (fun _ _ _ h => h) (Or.inr ⟨by rfl, rfl⟩) (by assumption) ?_
            simp only [List.set_cons_zero, List.set_cons_succ]
            refine take_at (i := 14) (n := 28) (v := undef) rfl rfl (by kernel_rfl) (by kernel_rfl) (by kernel_rfl) (fun _ _ _ h => h) (Or.inr ⟨by rfl, rfl⟩) (by assumption) ?_
            simp only [List.set_cons_zero, List.set_cons_succ]
            refine take_at (i := 15) (n := 29) (v := undef) rfl rfl (by kernel_rfl) (by kernel_rfl) (by kernel_rfl) (fun _ _ _ h => h) (Or.inr ⟨by rfl, rfl⟩) (by assumption) ?_
            simp only [List.set_cons_zero, List.set_cons_succ]
            refine take_at (i := 16) (n := 30) (v := ?_) rfl rfl (by kernel_rfl) (by kernel_rfl) (by kernel_rfl) (fun _ _ _ h => h) (Or.inl ⟨by rfl, ?_⟩) (by assumption) ?_
            rotate_left 1
            · intro wz hSw
              obtain ⟨s0, s1, s2, s3, s4⟩ := hSw
              first | (go_simp; done) | (go_simp; with_reducible rfl)
            simp only [List.set_cons_zero, List.set_cons_succ]
            refine take_at (i := 17) (n := 31) (v := ?_) rfl rfl (by kernel_rfl) (by kernel_rfl) (by kernel_rfl) (fun _ _ _ h => h) (Or.inl ⟨by rfl, ?_⟩) (by assumption) ?_
            rotate_left 1
            · intro wz hSw
              obtain ⟨s0, s1, s2, s3, s4⟩ := hSw
              first | (go_simp; done) | (go_simp; with_reducible rfl)
            simp only [List.set_cons_zero, List.set_cons_succ]
            refine wpAnyH_done (by kernel_rfl) ?_ _
            refine NoPanic.normal ?_
            clear hHeld
            go_wp2_with fail
            go_meet
            case rel => exact ⟨rfl, H4⟩
          · obtain ⟨y, hy⟩ : ∃ y, l[j - 1]? = some y := ⟨l[j - 1]'(by omega), List.getElem?_eq_getElem _⟩
            have hla : lastE (l.take j) = y.at_ := by
              unfold lastE
              rw [List.getLast?_eq_getElem?, List.length_take, Nat.min_eq_left hj, List.getElem?_take_of_lt (by omega), hy]
            have hf : fb = decide (y.at_ ≤ xa) := by
              rw [← HFB.out]
              unfold followsB
              rw [HSB.out, Bool.and_true, hla, show decide ((l.take j).length = 0) = false from decide_eq_false (by rw [List.length_take]; omega), Bool.false_or]
            have xla := (ev5_at H3.out.2.2 hy).1
            generalize y.at_ = la at *
            have q9 : IntKind.i64.wrap ((j : Int) - 1) = ((j - 1 : Nat) : Int) := by rw [IntKind.wrap_i64]; omega
            have i9 : ((j - 1 : Nat) : Int) < (l.length : Int) := by omega
            have lbb : b < w3.heap.size := World.block_lt_of_cell? _ _ xla
            have hj9 : (0 : Int) < (j : Int) := by omega
            have hj7 : 0 < j := by omega
            clear hy hla
            refine wp_region_noPanic ?_
            refine wp_region_held_drew (S := fun w' => w'.cell? ⟨gt, 0, none⟩ = some (.int .i64 xa) ∧ w'.cell? ⟨gt, 1, none⟩ = some (.int .i64 xk) ∧ w'.cell? ⟨gt, 2, none⟩ = some (.int .i64 xt) ∧ w'.cell? ⟨gt, 3, none⟩ = some (.int .i64 xm) ∧ w'.cell? ⟨gt, 4, none⟩ = some (.int .i64 xn) ∧ w'.cell? ⟨b, o + (j - 1) * 5, none⟩ = some (.int .i64 la)) (by kernel_rfl) ⟨by go_simp, by go_simp, by go_simp, by go_simp, by go_simp, by go_simp⟩ (fun hHeld => ?_)
            refine take_at (i := 0) (n := 14) (v := ?_) rfl rfl (by kernel_rfl) (by kernel_rfl) (by kernel_rfl) (fun _ _ _ h => h) (Or.inl ⟨by rfl, ?_⟩) (by assumption) ?_
            rotate_left 1
            · intro wz hSw
              obtain ⟨s0, s1, s2, s3, s4, s5⟩ := hSw
              first | (go_simp; done) | (go_simp; with_reducible rfl)
            simp only [List.set_cons_zero, List.set_cons_succ]
            refine wpAnyH_ready (rs := [1]) (by kernel_rfl) (by simp) ?_
            refine AllReadyH.cons rfl (fun K hK => ?_) AllReadyH.nil
            go_simp
            go_wp2_with (go_at_call 28; refine (HR.out _ (Below.refl _ _).drew).mono ?_; rintro r w4 ⟨rfl, hb4⟩)
            have H4 : Hid (Below w3.heap.size w3 w4) := below_seq (Below.refl _ _).drew hb4
            refine hK.out _ _ ⟨below_cell H4.out x0, below_cell H4.out x1, below_cell H4.out x2, below_cell H4.out x3, below_cell H4.out x4, below_cell H4.out xla⟩ (fun hHeld => ?_)
            clear hb4
            clear hK K
            try simp only [List.set_cons_zero, List.set_cons_succ]
            refine take_at (i := 2) (n := 16) (v := ?_) rfl rfl (by kernel_rfl) (by kernel_rfl) (by kernel_rfl) (fun _ _ _ h => h) (Or.inl ⟨by rfl, ?_⟩) (by assumption) ?_
            rotate_left 1
            · intro wz hSw
              obtain ⟨s0, s1, s2, s3, s4, s5⟩ := hSw
              first | (go_simp; done) | (go_simp; with_reducible rfl)
            simp only [List.set_cons_zero, List.set_cons_succ]
            refine take_at (i := 3) (n := 17) (v := ?_) rfl rfl (by kernel_rfl) (by kernel_rfl) (by kernel_rfl) (fun _ _ _ h => h) (Or.inl ⟨by rfl, ?_⟩) (by assumption) ?_
            rotate_left 1
            · intro wz hSw
              obtain ⟨s0, s1, s2, s3, s4, s5⟩ := hSw
              first | (go_simp; done) | (go_simp; with_reducible rfl)
            simp only [List.set_cons_zero, List.set_cons_succ]
            refine take_at (i := 4) (n := 18) (v := ?_) rfl rfl (by kernel_rfl) (by kernel_rfl) (by kernel_rfl) (fun _ _ _ h => h) (Or.inl ⟨by rfl, ?_⟩) (by assumption) ?_
            rotate_left 1
            · intro wz hSw
              obtain ⟨s0, s1, s2, s3, s4, s5⟩ := hSw
              first | (go_simp; done) | (go_simp; with_reducible rfl)
            simp only [List.set_cons_zero, List.set_cons_succ]
            refine take_at (i := 5) (n := 19) (v := ?_) rfl rfl (by kernel_rfl) (by kernel_rfl) (by kernel_rfl) (fun _ _ _ h => h) (Or.inl ⟨by rfl, ?_⟩) (by assumption) ?_
            rotate_left 1
            · intro wz hSw
              obtain ⟨s0, s1, s2, s3, s4, s5⟩ := hSw
              first | (go_simp; done) | (go_simp; with_reducible rfl)
            simp only [List.set_cons_zero, List.set_cons_succ]
            refine take_at (i := 6) (n := 20) (v := ?_) rfl rfl (by kernel_rfl) (by kernel_rfl) (by kernel_rfl) (fun _ _ _ h => h) (Or.inl ⟨by rfl, ?_⟩) (by assumption) ?_
            rotate_left 1
            · intro wz hSw
              obtain ⟨s0, s1, s2, s3, s4, s5⟩ := hSw
              first | (go_simp; done) | (go_simp; with_reducible rfl)
            simp only [List.set_cons_zero, List.set_cons_succ]
            refine take_at (i := 7) (n := 21) (v := ?_) rfl rfl (by kernel_rfl) (by kernel_rfl) (by kernel_rfl) (fun _ _ _ h => h) (Or.inl ⟨by rfl, ?_⟩) (by assumption) ?_
            rotate_left 1
            · intro wz hSw
              obtain ⟨s0, s1, s2, s3, s4, s5⟩ := hSw
              first | (go_simp; done) | (go_simp; with_reducible rfl)
            simp only [List.set_cons_zero, List.set_cons_succ]
            refine take_at (i := 8) (n := 22) (v := ?_) rfl rfl (by kernel_rfl) (by kernel_rfl) (by kernel_rfl) (fun _ _ _ h => h) (Or.inl ⟨by rfl, ?_⟩) (by assumption) ?_
            rotate_left 1
            · intro wz hSw
              obtain ⟨s0, s1, s2, s3, s4, s5⟩ := hSw
              first | (go_simp; done) | (go_simp; with_reducible rfl)
            simp only [List.set_cons_zero, List.set_cons_succ]
            refine take_at (i := 9) (n := 23) (v := ?_) rfl rfl (by kernel_rfl) (by kernel_rfl) (by kernel_rfl) (fun _ _ _ h => h) (Or.inl ⟨by rfl, ?_⟩) (by assumption) ?_
            rotate_left 1
            · intro wz hSw
              obtain ⟨s0, s1, s2, s3, s4, s5⟩ := hSw
              first | (go_simp; done) | (go_simp; with_reducible rfl)
            simp only [List.set_cons_zero, List.set_cons_succ]
            refine take_at (i := 10) (n := 24) (v := ?_) rfl rfl (by kernel_rfl) (by kernel_rfl) (by kernel_rfl) (fun _ _ _ h => h) (Or.inl ⟨by rfl, ?_⟩) (by assumption) ?_
            rotate_left 1
            · intro wz hSw
              obtain ⟨s0, s1, s2, s3, s4, s5⟩ := hSw
              first | (go_simp; done) | (go_simp; with_reducible rfl)
            simp only [List.set_cons_zero, List.set_cons_succ]
            refine take_at (i := 11) (n := 25) (v := ?_) rfl rfl (by kernel_rfl) (by kernel_rfl) (by kernel_rfl) (fun _ _ _ h => h) (Or.inl ⟨by rfl, ?_⟩) (by assumption) ?_
            rotate_left 1
            · intro wz hSw
              obtain ⟨s0, s1, s2, s3, s4, s5⟩ := hSw
              first | (go_simp; done) | (go_simp; with_reducible rfl)
            simp only [List.set_cons_zero, List.set_cons_succ]
            refine take_at (i := 12) (n := 26) (v := ?_) rfl rfl (by kernel_rfl) (by kernel_rfl) (by kernel_rfl) (fun _ _ _ h => h) (Or.inl ⟨by rfl, ?_⟩) (by assumption) ?_
            rotate_left 1
            · intro wz hSw
              obtain ⟨s0, s1, s2, s3, s4, s5⟩ := hSw
              first | (go_simp; done) | (go_simp; with_reducible rfl)
            simp only [List.set_cons_zero, List.set_cons_succ]
            refine take_at (i := 13) (n := 27) (v := ?_) rfl rfl (by kernel_rfl) (by kernel_rfl) (by kernel_rfl) (fun _ _ _ h => h) (Or.inl ⟨by rfl, ?_⟩) (by assumption) ?_
            rotate_left 1
            · intro wz hSw
              obtain ⟨s0, s1, s2, s3, s4, s5⟩ := hSw
              first | (go_simp; done) | (go_simp; with_reducible rfl)
            simp only [List.set_cons_zero, List.set_cons_succ]
            refine take_at (i := 14) (n := 28) (v := ?_) rfl rfl (by kernel_rfl) (by kernel_rfl) (by kernel_rfl) (fun _ _ _ h => h) (Or.inl ⟨by rfl, ?_⟩) (by assumption) ?_
            rotate_left 1
            · intro wz hSw
              obtain ⟨s0, s1, s2, s3, s4, s5⟩ := hSw
              first | (go_simp; done) | (go_simp; with_reducible rfl)
            simp only [List.set_cons_zero, List.set_cons_succ]
            refine take_at (i := 15) (n := 29) (v := ?_) rfl rfl (by kernel_rfl) (by kernel_rfl) (by kernel_rfl) (fun _ _ _ h => h) (Or.inl ⟨by rfl, ?_⟩) (by assumption) ?_
            rotate_left 1
            · intro wz hSw
              obtain ⟨s0, s1, s2, s3, s4, s5⟩ := hSw
              first | (go_simp; done) | (go_simp; with_reducible rfl)
            simp only [List.set_cons_zero, List.set_cons_succ]
            refine take_at (i := 16) (n := 30) (v := ?_) rfl rfl (by kernel_rfl) (by kernel_rfl) (by kernel_rfl) (fun _ _ _ h => h) (Or.inl ⟨by rfl, ?_⟩) (by assumption) ?_
            rotate_left 1
            · intro wz hSw
              obtain ⟨s0, s1, s2, s3, s4, s5⟩ := hSw
              first | (go_simp; done) | (go_simp; with_reducible rfl)
            simp only [List.set_cons_zero, List.set_cons_succ]
            refine take_at (i := 17) (n := 31) (v := ?_) rfl rfl (by kernel_rfl) (by kernel_rfl) (by kernel_rfl) (fun _ _ _ h => h) (Or.inl ⟨by rfl, ?_⟩) (by assumption) ?_
            rotate_left 1
            · intro wz hSw
              obtain ⟨s0, s1, s2, s3, s4, s5⟩ := hSw
              first | (go_simp; done) | (go_simp; with_reducible rfl)
            simp only [List.set_cons_zero, List.set_cons_succ]
            refine wpAnyH_done (by kernel_rfl) ?_ _
            refine NoPanic.normal ?_
            clear hHeld
            go_wp2_with fail
            go_meet
            case rel =>
              refine ⟨?_, H4⟩
              rw [hf]
              by_cases h : la ≤ xa
              · simp [h]
              · simp [h, show xa < la by omega]
      case rest =>
        obtain ⟨rfl, H4⟩ := hcut
        obtain ⟨w4, hw4⟩ : ∃ w4, w4 = wc := ⟨_, rfl⟩
        subst hw4
        have HBw : Hid (Below w.heap.size w w4) := below_seq H3.out.1 H4.out
        cases fb with
        | false =>
          go_wp2_with fail
          go_ret
          exact ⟨by rw [print_stop HX.out.1 HFB.out]; rfl, HBw.out⟩
        | true =>
          simp only [Bool.not_true]
          have HSt := follows_stands HFB.out
          have c0 := below_cell H4.out x0
          have c1 := below_cell H4.out x1
          have c2 := below_cell H4.out x2
          have c3 := below_cell H4.out x3
          have c4 := below_cell H4.out x4
          have lg : gt < w4.heap.size := World.block_lt_of_cell? _ _ c0
          obtain ⟨wb, hwb, hwl, hkk⟩ := word_at HSt
          have hk7 : xk.toNat < 7 := (List.getElem?_eq_some_iff.1 hwb).1
          dsimp only at hwb hwl hkk
          obtain ⟨kn, hkn⟩ : ∃ kn, xk.toNat = kn := ⟨_, rfl⟩
          rw [hkn] at hkk hwb hk7
          subst hkk
          clear hkn
          have hkI : (kn : Int) < 7 := by omega
          have HIt : Hid (∀ n ∈ [xa, xt, xm, xn], ∀ W, Below w.heap.size w W → Calls Tryd.prog 29 #[.int .i64 n] W fun r w' => r = .returned (.string ⟨(Lib.itoa n).toArray⟩) ∧ Below W.heap.size W w') := by
            have h9 : ∀ n ∈ [xa, xt, xm, xn], -9223372036854775808 ≤ n ∧ n ≤ 9223372036854775807 := by
              obtain ⟨-, -, a1, a2, a3, a4, a5, a6⟩ := HSt
              have a7 := HX.out.2.1
              unfold inE at a7
              dsimp only at a1 a2 a3 a4 a5 a6 a7
              simp only [List.mem_cons, List.not_mem_nil, or_false]
              rintro n (rfl | rfl | rfl | rfl)
              · omega
              · omega
              · by_cases h6 : (kn : Int) = 6
                · have := a5 h6; omega
                · have := a6 h6; omega
              · exact a7
            have h10 : ∀ n ∈ [xa, xt, xm, xn], ∀ W, Below w.heap.size w W → Calls Tryd.prog 29 #[.int .i64 n] W fun r w' => r = .returned (.string ⟨(Lib.itoa n).toArray⟩) ∧ Below W.heap.size W w' := fun n hn W hW => by
              refine Calls.mono (sh_strconv_Itoa n (h9 n hn).1 (h9 n hn).2 W (HV.out.2.1.below hW).tb) ?_
              rintro r w' ⟨rfl, kk, os, rfl⟩
              exact ⟨rfl, growB _ _ _⟩
            exact h10
          have HW5 : Hid (standsE ⟨xa, (kn : Int), xt, xm, xn⟩ ∧ wordsB[kn]? = some wb ∧ wb.data.toList = wordE (kn : Int)) := ⟨HSt, hwb, hwl⟩
          clear x0 x1 x2 x3 x4 HSt hwb hwl HR H3
          go_upto_region 7 with fail
          go_cut [6] from 32 to 49 (fun v W => ∃ gw : Nat, v = .slice (some ⟨gw, 0, none⟩) 5 5 ∧ Hid (Below w4.heap.size w4 W ∧ w4.heap.size ≤ gw ∧ W.heap[gw]? = some (.cells #[.string ⟨(Lib.itoa xa).toArray⟩, .string wb, .string ⟨(Lib.itoa xt).toArray⟩, .string ⟨(Lib.itoa xm).toArray⟩, .string ⟨(Lib.itoa xn).toArray⟩] 9 (0, 0))))
          case first =>
            refine wp_region_noPanic ?_
            refine wp_region_held_drew (S := fun w' => Below w4.heap.size w4 w' ∧ w'.cell? ⟨gt, 0, none⟩ = some (.int .i64 xa) ∧ w'.cell? ⟨gt, 1, none⟩ = some (.int .i64 (kn : Int)) ∧ w'.cell? ⟨gt, 2, none⟩ = some (.int .i64 xt) ∧ w'.cell? ⟨gt, 3, none⟩ = some (.int .i64 xm) ∧ w'.cell? ⟨gt, 4, none⟩ = some (.int .i64 xn)) (by kernel_rfl) ⟨(Below.refl _ _).drew, by go_simp, by go_simp, by go_simp, by go_simp, by go_simp⟩ (fun hHeld => ?_)
            refine take_at (i := 0) (n := 32) (v := ?_) rfl rfl (by kernel_rfl) (by kernel_rfl) (by kernel_rfl) (fun _ _ _ h => h) (Or.inl ⟨by rfl, ?_⟩) (by assumption) ?_
            rotate_left 1
            · intro wz hSw
              obtain ⟨sb0, s0, s1, s2, s3, s4⟩ := hSw
              first | (go_simp; done) | (go_simp; with_reducible rfl)
            simp only [List.set_cons_zero, List.set_cons_succ]
            refine take_at (i := 1) (n := 33) (v := ?_) rfl rfl (by kernel_rfl) (by kernel_rfl) (by kernel_rfl) (fun _ _ _ h => h) (Or.inl ⟨by rfl, ?_⟩) (by assumption) ?_
            rotate_left 1
            · intro wz hSw
              obtain ⟨sb0, s0, s1, s2, s3, s4⟩ := hSw
              first | (go_simp; done) | (go_simp; with_reducible rfl)
            simp only [List.set_cons_zero, List.set_cons_succ]
            refine take_at (i := 4) (n := 36) (v := ?_) rfl rfl (by kernel_rfl) (by kernel_rfl) (by kernel_rfl) (fun _ _ _ h => h) (Or.inl ⟨by rfl, ?_⟩) (by assumption) ?_
            rotate_left 1
            · intro wz hSw
              obtain ⟨sb0, s0, s1, s2, s3, s4⟩ := hSw
              first | (go_simp; done) | (go_simp; with_reducible rfl)
            simp only [List.set_cons_zero, List.set_cons_succ]
            refine take_at (i := 5) (n := 37) (v := ?_) rfl rfl (by kernel_rfl) (by kernel_rfl) (by kernel_rfl) (fun _ _ _ h => h) (Or.inl ⟨by rfl, ?_⟩) (by assumption) ?_
            rotate_left 1
            · intro wz hSw
              obtain ⟨sb0, s0, s1, s2, s3, s4⟩ := hSw
              first | (go_simp; done) | (go_simp; with_reducible rfl)
            simp only [List.set_cons_zero, List.set_cons_succ]
            refine take_at (i := 8) (n := 40) (v := ?_) rfl rfl (by kernel_rfl) (by kernel_rfl) (by kernel_rfl) (fun _ _ _ h => h) (Or.inl ⟨by rfl, ?_⟩) (by assumption) ?_
            rotate_left 1
            · intro wz hSw
              obtain ⟨sb0, s0, s1, s2, s3, s4⟩ := hSw
              first | (go_simp; done) | (go_simp; with_reducible rfl)
            simp only [List.set_cons_zero, List.set_cons_succ]
            refine take_at (i := 9) (n := 41) (v := ?_) rfl rfl (by kernel_rfl) (by kernel_rfl) (by kernel_rfl) (fun _ _ _ h => h) (Or.inl ⟨by rfl, ?_⟩) (by assumption) ?_
            rotate_left 1
            · intro wz hSw
              obtain ⟨sb0, s0, s1, s2, s3, s4⟩ := hSw
              first | (go_simp; done) | (go_simp; with_reducible rfl)
            simp only [List.set_cons_zero, List.set_cons_succ]
            refine take_at (i := 11) (n := 43) (v := ?_) rfl rfl (by kernel_rfl) (by kernel_rfl) (by kernel_rfl) (fun _ _ _ h => h) (Or.inl ⟨by rfl, ?_⟩) (by assumption) ?_
            rotate_left 1
            · intro wz hSw
              obtain ⟨sb0, s0, s1, s2, s3, s4⟩ := hSw
              first | (go_simp; done) | (go_simp; with_reducible rfl)
            simp only [List.set_cons_zero, List.set_cons_succ]
            refine take_at (i := 12) (n := 44) (v := ?_) rfl rfl (by kernel_rfl) (by kernel_rfl) (by kernel_rfl) (fun _ _ _ h => h) (Or.inl ⟨by rfl, ?_⟩) (by assumption) ?_
            rotate_left 1
            · intro wz hSw
              obtain ⟨sb0, s0, s1, s2, s3, s4⟩ := hSw
              first | (go_simp; done) | (go_simp; with_reducible rfl)
            simp only [List.set_cons_zero, List.set_cons_succ]
            refine take_at (i := 14) (n := 46) (v := ?_) rfl rfl (by kernel_rfl) (by kernel_rfl) (by kernel_rfl) (fun _ _ _ h => h) (Or.inl ⟨by rfl, ?_⟩) (by assumption) ?_
            rotate_left 1
            · intro wz hSw
              obtain ⟨sb0, s0, s1, s2, s3, s4⟩ := hSw
              first | (go_simp; done) | (go_simp; with_reducible rfl)
            simp only [List.set_cons_zero, List.set_cons_succ]
            refine take_at (i := 15) (n := 47) (v := ?_) rfl rfl (by kernel_rfl) (by kernel_rfl) (by kernel_rfl) (fun _ _ _ h => h) (Or.inl ⟨by rfl, ?_⟩) (by assumption) ?_
            rotate_left 1
            · intro wz hSw
              obtain ⟨sb0, s0, s1, s2, s3, s4⟩ := hSw
              first | (go_simp; done) | (go_simp; with_reducible rfl)
            simp only [List.set_cons_zero, List.set_cons_succ]
            refine wpAnyH_ready (rs := [2, 3]) (by kernel_rfl) (by simp) ?_
            refine AllReadyH.cons rfl (fun K hK => ?_) (AllReadyH.cons rfl (fun K hK => ?_) AllReadyH.nil)
            · go_simp
              go_wp2_with (go_at_call 29; refine (HIt.out xa (by simp) _ (below_seq HBw.out (Below.refl _ _).drew)).mono ?_; rintro r v1 ⟨rfl, hb1⟩)
              have G1 : Hid (Below w4.heap.size w4 v1) := below_seq (Below.refl _ _).drew hb1
              refine hK.out _ _ ⟨G1.out, below_cell G1.out c0, below_cell G1.out c1, below_cell G1.out c2, below_cell G1.out c3, below_cell G1.out c4⟩ (fun hHeld => ?_)
              clear hK K hb1
              try simp only [List.set_cons_zero, List.set_cons_succ]
              refine wpAnyH_ready (rs := [3, 10]) (by kernel_rfl) (by simp) ?_
              refine AllReadyH.cons rfl (fun K hK => ?_) (AllReadyH.cons rfl (fun K hK => ?_) AllReadyH.nil)
              · go_simp
                have G2 : Hid (Below w4.heap.size w4 (v1.alloc (.cells #[.string ⟨#[]⟩, .string ⟨#[99, 111, 109, 101]⟩, .string ⟨#[114, 117, 110]⟩, .string ⟨#[100, 111, 110, 101]⟩, .string ⟨#[107, 105, 108, 108]⟩, .string ⟨#[108, 97, 116, 101]⟩, .string ⟨#[112, 117, 116]⟩] 9))) := below_seq G1.out (below_new _ _)
                have A2 : (v1.alloc (.cells #[.string ⟨#[]⟩, .string ⟨#[99, 111, 109, 101]⟩, .string ⟨#[114, 117, 110]⟩, .string ⟨#[100, 111, 110, 101]⟩, .string ⟨#[107, 105, 108, 108]⟩, .string ⟨#[108, 97, 116, 101]⟩, .string ⟨#[112, 117, 116]⟩] 9)).cell? ⟨v1.heap.size, kn, none⟩ = some (.string wb) := words_cell (heap_alloc_new v1 (.cells #[.string ⟨#[]⟩, .string ⟨#[99, 111, 109, 101]⟩, .string ⟨#[114, 117, 110]⟩, .string ⟨#[100, 111, 110, 101]⟩, .string ⟨#[107, 105, 108, 108]⟩, .string ⟨#[108, 97, 116, 101]⟩, .string ⟨#[112, 117, 116]⟩] 9)) HW5.out.2.1
                generalize (v1.alloc (.cells #[.string ⟨#[]⟩, .string ⟨#[99, 111, 109, 101]⟩, .string ⟨#[114, 117, 110]⟩, .string ⟨#[100, 111, 110, 101]⟩, .string ⟨#[107, 105, 108, 108]⟩, .string ⟨#[108, 97, 116, 101]⟩, .string ⟨#[112, 117, 116]⟩] 9)) = v2 at G2 A2 ⊢
                have L2 := World.block_lt_of_cell? _ _ A2
                refine hK.out _ _ ⟨G2.out, below_cell G2.out c0, below_cell G2.out c1, below_cell G2.out c2, below_cell G2.out c3, below_cell G2.out c4⟩ (fun hHeld => ?_)
                clear hK K
                try simp only [List.set_cons_zero, List.set_cons_succ]
                refine take_at (i := 6) (n := 38) (v := ?_) rfl rfl (by kernel_rfl) (by kernel_rfl) (by kernel_rfl) (fun _ _ _ h => h) (Or.inl ⟨by rfl, ?_⟩) (by assumption) ?_
                rotate_left 1
                · intro wz hSw
                  obtain ⟨sb0, s0, s1, s2, s3, s4⟩ := hSw
                  first | (go_simp; done) | (go_simp; with_reducible rfl)
                simp only [List.set_cons_zero, List.set_cons_succ]
                refine wpAnyH_ready (rs := [7, 10]) (by kernel_rfl) (by simp) ?_
                refine AllReadyH.cons rfl (fun K hK => ?_) (AllReadyH.cons rfl (fun K hK => ?_) AllReadyH.nil)
                · have L3 := World.block_lt_of_cell? _ _ A2
                  go_simp
                  refine hK.out _ _ ⟨G2.out, below_cell G2.out c0, below_cell G2.out c1, below_cell G2.out c2, below_cell G2.out c3, below_cell G2.out c4⟩ (fun hHeld => ?_)
                  clear hK K
                  try simp only [List.set_cons_zero, List.set_cons_succ]
                  refine wpAnyH_ready (rs := [10]) (by kernel_rfl) (by simp) ?_
                  refine AllReadyH.cons rfl (fun K hK => ?_) AllReadyH.nil
                  go_simp
                  go_wp2_with (go_at_call 29; refine (HIt.out xt (by simp) _ (below_seq HBw.out G2.out)).mono ?_; rintro r v4 ⟨rfl, hb4⟩)
                  have G4 : Hid (Below w4.heap.size w4 v4) := below_seq G2.out hb4
                  refine hK.out _ _ ⟨G4.out, below_cell G4.out c0, below_cell G4.out c1, below_cell G4.out c2, below_cell G4.out c3, below_cell G4.out c4⟩ (fun hHeld => ?_)
                  clear hK K hb4
                  try simp only [List.set_cons_zero, List.set_cons_succ]
                  refine wpAnyH_ready (rs := [13]) (by kernel_rfl) (by simp) ?_
                  refine AllReadyH.cons rfl (fun K hK => ?_) AllReadyH.nil
                  go_simp
                  go_wp2_with (go_at_call 29; refine (HIt.out xm (by simp) _ (below_seq HBw.out G4.out)).mono ?_; rintro r v5 ⟨rfl, hb5⟩)
                  have G5 : Hid (Below w4.heap.size w4 v5) := below_seq G4.out hb5
                  refine hK.out _ _ ⟨G5.out, below_cell G5.out c0, below_cell G5.out c1, below_cell G5.out c2, below_cell G5.out c3, below_cell G5.out c4⟩ (fun hHeld => ?_)
                  clear hK K hb5
                  try simp only [List.set_cons_zero, List.set_cons_succ]
                  refine wpAnyH_ready (rs := [16]) (by kernel_rfl) (by simp) ?_
                  refine AllReadyH.cons rfl (fun K hK => ?_) AllReadyH.nil
                  go_simp
                  go_wp2_with (go_at_call 29; refine (HIt.out xn (by simp) _ (below_seq HBw.out G5.out)).mono ?_; rintro r v6 ⟨rfl, hb6⟩)
                  have G6 : Hid (Below w4.heap.size w4 v6) := below_seq G5.out hb6
                  refine hK.out _ _ ⟨G6.out, below_cell G6.out c0, below_cell G6.out c1, below_cell G6.out c2, below_cell G6.out c3, below_cell G6.out c4⟩ (fun hHeld => ?_)
                  clear hK K hb6
                  try simp only [List.set_cons_zero, List.set_cons_succ]
                  refine wpAnyH_ready (rs := [17]) (by kernel_rfl) (by simp) ?_
                  refine AllReadyH.cons rfl (fun K hK => ?_) AllReadyH.nil
                  go_simp
                  have G7 : Hid (Below w4.heap.size w4 (v6.alloc (.cells #[.string ⟨(Lib.itoa xa).toArray⟩, .string wb, .string ⟨(Lib.itoa xt).toArray⟩, .string ⟨(Lib.itoa xm).toArray⟩, .string ⟨(Lib.itoa xn).toArray⟩] 9))) := below_seq G6.out (below_new _ _)
                  have F7 : Hid (w4.heap.size ≤ v6.heap.size ∧ (v6.alloc (.cells #[.string ⟨(Lib.itoa xa).toArray⟩, .string wb, .string ⟨(Lib.itoa xt).toArray⟩, .string ⟨(Lib.itoa xm).toArray⟩, .string ⟨(Lib.itoa xn).toArray⟩] 9)).heap[v6.heap.size]? = some (.cells #[.string ⟨(Lib.itoa xa).toArray⟩, .string wb, .string ⟨(Lib.itoa xt).toArray⟩, .string ⟨(Lib.itoa xm).toArray⟩, .string ⟨(Lib.itoa xn).toArray⟩] 9 (0, 0))) := ⟨G6.out.size, heap_alloc_new _ _⟩
                  generalize (v6.alloc (.cells #[.string ⟨(Lib.itoa xa).toArray⟩, .string wb, .string ⟨(Lib.itoa xt).toArray⟩, .string ⟨(Lib.itoa xm).toArray⟩, .string ⟨(Lib.itoa xn).toArray⟩] 9)) = v7 at G7 F7 ⊢
                  refine hK.out _ _ ⟨G7.out, below_cell G7.out c0, below_cell G7.out c1, below_cell G7.out c2, below_cell G7.out c3, below_cell G7.out c4⟩ (fun hHeld => ?_)
                  clear hK K
                  try simp only [List.set_cons_zero, List.set_cons_succ]
                  refine take_at (i := 18) (n := 6) (v := ?_) rfl rfl (by kernel_rfl) (by kernel_rfl) (by kernel_rfl) (fun _ _ _ h => h) (Or.inl ⟨by rfl, ?_⟩) (by assumption) ?_
                  rotate_left 1
                  · intro wz hSw
                    obtain ⟨sb0, s0, s1, s2, s3, s4⟩ := hSw
                    first | (go_simp; done) | (go_simp; with_reducible rfl)
                  simp only [List.set_cons_zero, List.set_cons_succ]
                  refine wpAnyH_done (by kernel_rfl) ?_ _
                  refine NoPanic.normal ?_
                  clear hHeld
                  go_wp2_with fail
                  go_meet
                  case rel => exact ⟨_, rfl, ⟨G7.out, F7.out.1, F7.out.2⟩⟩
                · go_simp
                  go_wp2_with (go_at_call 29; refine (HIt.out xt (by simp) _ (below_seq HBw.out G2.out)).mono ?_; rintro r v8 ⟨rfl, hb8⟩)
                  have G8 : Hid (Below w4.heap.size w4 v8) := below_seq G2.out hb8
                  refine hK.out _ _ ⟨G8.out, below_cell G8.out c0, below_cell G8.out c1, below_cell G8.out c2, below_cell G8.out c3, below_cell G8.out c4⟩ (fun hHeld => ?_)
                  have A8 := below_cell hb8 A2
                  clear hK K hb8
                  try simp only [List.set_cons_zero, List.set_cons_succ]
                  refine wpAnyH_ready (rs := [7, 13]) (by kernel_rfl) (by simp) ?_
                  refine AllReadyH.cons rfl (fun K hK => ?_) (AllReadyH.cons rfl (fun K hK => ?_) AllReadyH.nil)
                  · have L9 := World.block_lt_of_cell? _ _ A8
                    go_simp
                    refine hK.out _ _ ⟨G8.out, below_cell G8.out c0, below_cell G8.out c1, below_cell G8.out c2, below_cell G8.out c3, below_cell G8.out c4⟩ (fun hHeld => ?_)
                    clear hK K
                    try simp only [List.set_cons_zero, List.set_cons_succ]
                    refine wpAnyH_ready (rs := [13]) (by kernel_rfl) (by simp) ?_
                    refine AllReadyH.cons rfl (fun K hK => ?_) AllReadyH.nil
                    go_simp
                    go_wp2_with (go_at_call 29; refine (HIt.out xm (by simp) _ (below_seq HBw.out G8.out)).mono ?_; rintro r v10 ⟨rfl, hb10⟩)
                    have G10 : Hid (Below w4.heap.size w4 v10) := below_seq G8.out hb10
                    refine hK.out _ _ ⟨G10.out, below_cell G10.out c0, below_cell G10.out c1, below_cell G10.out c2, below_cell G10.out c3, below_cell G10.out c4⟩ (fun hHeld => ?_)
                    clear hK K hb10
                    try simp only [List.set_cons_zero, List.set_cons_succ]
                    refine wpAnyH_ready (rs := [16]) (by kernel_rfl) (by simp) ?_
                    refine AllReadyH.cons rfl (fun K hK => ?_) AllReadyH.nil
                    go_simp
                    go_wp2_with (go_at_call 29; refine (HIt.out xn (by simp) _ (below_seq HBw.out G10.out)).mono ?_; rintro r v11 ⟨rfl, hb11⟩)
                    have G11 : Hid (Below w4.heap.size w4 v11) := below_seq G10.out hb11
                    refine hK.out _ _ ⟨G11.out, below_cell G11.out c0, below_cell G11.out c1, below_cell G11.out c2, below_cell G11.out c3, below_cell G11.out c4⟩ (fun hHeld => ?_)
                    clear hK K hb11
                    try simp only [List.set_cons_zero, List.set_cons_succ]
                    refine wpAnyH_ready (rs := [17]) (by kernel_rfl) (by simp) ?_
                    refine AllReadyH.cons rfl (fun K hK => ?_) AllReadyH.nil
                    go_simp
                    have G12 : Hid (Below w4.heap.size w4 (v11.alloc (.cells #[.string ⟨(Lib.itoa xa).toArray⟩, .string wb, .string ⟨(Lib.itoa xt).toArray⟩, .string ⟨(Lib.itoa xm).toArray⟩, .string ⟨(Lib.itoa xn).toArray⟩] 9))) := below_seq G11.out (below_new _ _)
                    have F12 : Hid (w4.heap.size ≤ v11.heap.size ∧ (v11.alloc (.cells #[.string ⟨(Lib.itoa xa).toArray⟩, .string wb, .string ⟨(Lib.itoa xt).toArray⟩, .string ⟨(Lib.itoa xm).toArray⟩, .string ⟨(Lib.itoa xn).toArray⟩] 9)).heap[v11.heap.size]? = some (.cells #[.string ⟨(Lib.itoa xa).toArray⟩, .string wb, .string ⟨(Lib.itoa xt).toArray⟩, .string ⟨(Lib.itoa xm).toArray⟩, .string ⟨(Lib.itoa xn).toArray⟩] 9 (0, 0))) := ⟨G11.out.size, heap_alloc_new _ _⟩
                    generalize (v11.alloc (.cells #[.string ⟨(Lib.itoa xa).toArray⟩, .string wb, .string ⟨(Lib.itoa xt).toArray⟩, .string ⟨(Lib.itoa xm).toArray⟩, .string ⟨(Lib.itoa xn).toArray⟩] 9)) = v12 at G12 F12 ⊢
                    refine hK.out _ _ ⟨G12.out, below_cell G12.out c0, below_cell G12.out c1, below_cell G12.out c2, below_cell G12.out c3, below_cell G12.out c4⟩ (fun hHeld => ?_)
                    clear hK K
                    try simp only [List.set_cons_zero, List.set_cons_succ]
                    refine take_at (i := 18) (n := 6) (v := ?_) rfl rfl (by kernel_rfl) (by kernel_rfl) (by kernel_rfl) (fun _ _ _ h => h) (Or.inl ⟨by rfl, ?_⟩) (by assumption) ?_
                    rotate_left 1
                    · intro wz hSw
                      obtain ⟨sb0, s0, s1, s2, s3, s4⟩ := hSw
                      first | (go_simp; done) | (go_simp; with_reducible rfl)
                    simp only [List.set_cons_zero, List.set_cons_succ]
                    refine wpAnyH_done (by kernel_rfl) ?_ _
                    refine NoPanic.normal ?_
                    clear hHeld
                    go_wp2_with fail
                    go_meet
                    case rel => exact ⟨_, rfl, ⟨G12.out, F12.out.1, F12.out.2⟩⟩
                  · go_simp
                    go_wp2_with (go_at_call 29; refine (HIt.out xm (by simp) _ (below_seq HBw.out G8.out)).mono ?_; rintro r v13 ⟨rfl, hb13⟩)
                    have G13 : Hid (Below w4.heap.size w4 v13) := below_seq G8.out hb13
                    refine hK.out _ _ ⟨G13.out, below_cell G13.out c0, below_cell G13.out c1, below_cell G13.out c2, below_cell G13.out c3, below_cell G13.out c4⟩ (fun hHeld => ?_)
                    have A13 := below_cell hb13 A8
                    clear hK K hb13
                    try simp only [List.set_cons_zero, List.set_cons_succ]
                    refine wpAnyH_ready (rs := [7, 16]) (by kernel_rfl) (by simp) ?_
                    refine AllReadyH.cons rfl (fun K hK => ?_) (AllReadyH.cons rfl (fun K hK => ?_) AllReadyH.nil)
                    · have L14 := World.block_lt_of_cell? _ _ A13
                      go_simp
                      refine hK.out _ _ ⟨G13.out, below_cell G13.out c0, below_cell G13.out c1, below_cell G13.out c2, below_cell G13.out c3, below_cell G13.out c4⟩ (fun hHeld => ?_)
                      clear hK K
                      try simp only [List.set_cons_zero, List.set_cons_succ]
                      refine wpAnyH_ready (rs := [16]) (by kernel_rfl) (by simp) ?_
                      refine AllReadyH.cons rfl (fun K hK => ?_) AllReadyH.nil
                      go_simp
                      go_wp2_with (go_at_call 29; refine (HIt.out xn (by simp) _ (below_seq HBw.out G13.out)).mono ?_; rintro r v15 ⟨rfl, hb15⟩)
                      have G15 : Hid (Below w4.heap.size w4 v15) := below_seq G13.out hb15
                      refine hK.out _ _ ⟨G15.out, below_cell G15.out c0, below_cell G15.out c1, below_cell G15.out c2, below_cell G15.out c3, below_cell G15.out c4⟩ (fun hHeld => ?_)
                      clear hK K hb15
                      try simp only [List.set_cons_zero, List.set_cons_succ]
                      refine wpAnyH_ready (rs := [17]) (by kernel_rfl) (by simp) ?_
                      refine AllReadyH.cons rfl (fun K hK => ?_) AllReadyH.nil
                      go_simp
                      have G16 : Hid (Below w4.heap.size w4 (v15.alloc (.cells #[.string ⟨(Lib.itoa xa).toArray⟩, .string wb, .string ⟨(Lib.itoa xt).toArray⟩, .string ⟨(Lib.itoa xm).toArray⟩, .string ⟨(Lib.itoa xn).toArray⟩] 9))) := below_seq G15.out (below_new _ _)
                      have F16 : Hid (w4.heap.size ≤ v15.heap.size ∧ (v15.alloc (.cells #[.string ⟨(Lib.itoa xa).toArray⟩, .string wb, .string ⟨(Lib.itoa xt).toArray⟩, .string ⟨(Lib.itoa xm).toArray⟩, .string ⟨(Lib.itoa xn).toArray⟩] 9)).heap[v15.heap.size]? = some (.cells #[.string ⟨(Lib.itoa xa).toArray⟩, .string wb, .string ⟨(Lib.itoa xt).toArray⟩, .string ⟨(Lib.itoa xm).toArray⟩, .string ⟨(Lib.itoa xn).toArray⟩] 9 (0, 0))) := ⟨G15.out.size, heap_alloc_new _ _⟩
                      generalize (v15.alloc (.cells #[.string ⟨(Lib.itoa xa).toArray⟩, .string wb, .string ⟨(Lib.itoa xt).toArray⟩, .string ⟨(Lib.itoa xm).toArray⟩, .string ⟨(Lib.itoa xn).toArray⟩] 9)) = v16 at G16 F16 ⊢
                      refine hK.out _ _ ⟨G16.out, below_cell G16.out c0, below_cell G16.out c1, below_cell G16.out c2, below_cell G16.out c3, below_cell G16.out c4⟩ (fun hHeld => ?_)
                      clear hK K
                      try simp only [List.set_cons_zero, List.set_cons_succ]
                      refine take_at (i := 18) (n := 6) (v := ?_) rfl rfl (by kernel_rfl) (by kernel_rfl) (by kernel_rfl) (fun _ _ _ h => h) (Or.inl ⟨by rfl, ?_⟩) (by assumption) ?_
                      rotate_left 1
                      · intro wz hSw
                        obtain ⟨sb0, s0, s1, s2, s3, s4⟩ := hSw
                        first | (go_simp; done) | (go_simp; with_reducible rfl)
                      simp only [List.set_cons_zero, List.set_cons_succ]
                      refine wpAnyH_done (by kernel_rfl) ?_ _
                      refine NoPanic.normal ?_
                      clear hHeld
                      go_wp2_with fail
                      go_meet
                      case rel => exact ⟨_, rfl, ⟨G16.out, F16.out.1, F16.out.2⟩⟩
                    · go_simp
                      go_wp2_with (go_at_call 29; refine (HIt.out xn (by simp) _ (below_seq HBw.out G13.out)).mono ?_; rintro r v17 ⟨rfl, hb17⟩)
                      have G17 : Hid (Below w4.heap.size w4 v17) := below_seq G13.out hb17
                      refine hK.out _ _ ⟨G17.out, below_cell G17.out c0, below_cell G17.out c1, below_cell G17.out c2, below_cell G17.out c3, below_cell G17.out c4⟩ (fun hHeld => ?_)
                      have A17 := below_cell hb17 A13
                      clear hK K hb17
                      try simp only [List.set_cons_zero, List.set_cons_succ]
                      refine wpAnyH_ready (rs := [7]) (by kernel_rfl) (by simp) ?_
                      refine AllReadyH.cons rfl (fun K hK => ?_) AllReadyH.nil
                      have L18 := World.block_lt_of_cell? _ _ A17
                      go_simp
                      refine hK.out _ _ ⟨G17.out, below_cell G17.out c0, below_cell G17.out c1, below_cell G17.out c2, below_cell G17.out c3, below_cell G17.out c4⟩ (fun hHeld => ?_)
                      clear hK K
                      try simp only [List.set_cons_zero, List.set_cons_succ]
                      refine wpAnyH_ready (rs := [17]) (by kernel_rfl) (by simp) ?_
                      refine AllReadyH.cons rfl (fun K hK => ?_) AllReadyH.nil
                      go_simp
                      have G19 : Hid (Below w4.heap.size w4 (v17.alloc (.cells #[.string ⟨(Lib.itoa xa).toArray⟩, .string wb, .string ⟨(Lib.itoa xt).toArray⟩, .string ⟨(Lib.itoa xm).toArray⟩, .string ⟨(Lib.itoa xn).toArray⟩] 9))) := below_seq G17.out (below_new _ _)
                      have F19 : Hid (w4.heap.size ≤ v17.heap.size ∧ (v17.alloc (.cells #[.string ⟨(Lib.itoa xa).toArray⟩, .string wb, .string ⟨(Lib.itoa xt).toArray⟩, .string ⟨(Lib.itoa xm).toArray⟩, .string ⟨(Lib.itoa xn).toArray⟩] 9)).heap[v17.heap.size]? = some (.cells #[.string ⟨(Lib.itoa xa).toArray⟩, .string wb, .string ⟨(Lib.itoa xt).toArray⟩, .string ⟨(Lib.itoa xm).toArray⟩, .string ⟨(Lib.itoa xn).toArray⟩] 9 (0, 0))) := ⟨G17.out.size, heap_alloc_new _ _⟩
                      generalize (v17.alloc (.cells #[.string ⟨(Lib.itoa xa).toArray⟩, .string wb, .string ⟨(Lib.itoa xt).toArray⟩, .string ⟨(Lib.itoa xm).toArray⟩, .string ⟨(Lib.itoa xn).toArray⟩] 9)) = v19 at G19 F19 ⊢
                      refine hK.out _ _ ⟨G19.out, below_cell G19.out c0, below_cell G19.out c1, below_cell G19.out c2, below_cell G19.out c3, below_cell G19.out c4⟩ (fun hHeld => ?_)
                      clear hK K
                      try simp only [List.set_cons_zero, List.set_cons_succ]
                      refine take_at (i := 18) (n := 6) (v := ?_) rfl rfl (by kernel_rfl) (by kernel_rfl) (by kernel_rfl) (fun _ _ _ h => h) (Or.inl ⟨by rfl, ?_⟩) (by assumption) ?_
                      rotate_left 1
                      · intro wz hSw
                        obtain ⟨sb0, s0, s1, s2, s3, s4⟩ := hSw
                        first | (go_simp; done) | (go_simp; with_reducible rfl)
                      simp only [List.set_cons_zero, List.set_cons_succ]
                      refine wpAnyH_done (by kernel_rfl) ?_ _
                      refine NoPanic.normal ?_
                      clear hHeld
                      go_wp2_with fail
                      go_meet
                      case rel => exact ⟨_, rfl, ⟨G19.out, F19.out.1, F19.out.2⟩⟩
              · go_simp
                go_wp2_with (go_at_call 29; refine (HIt.out xt (by simp) _ (below_seq HBw.out G1.out)).mono ?_; rintro r v20 ⟨rfl, hb20⟩)
                have G20 : Hid (Below w4.heap.size w4 v20) := below_seq G1.out hb20
                refine hK.out _ _ ⟨G20.out, below_cell G20.out c0, below_cell G20.out c1, below_cell G20.out c2, below_cell G20.out c3, below_cell G20.out c4⟩ (fun hHeld => ?_)
                clear hK K hb20
                try simp only [List.set_cons_zero, List.set_cons_succ]
                refine wpAnyH_ready (rs := [3, 13]) (by kernel_rfl) (by simp) ?_
                refine AllReadyH.cons rfl (fun K hK => ?_) (AllReadyH.cons rfl (fun K hK => ?_) AllReadyH.nil)
                · go_simp
                  have G21 : Hid (Below w4.heap.size w4 (v20.alloc (.cells #[.string ⟨#[]⟩, .string ⟨#[99, 111, 109, 101]⟩, .string ⟨#[114, 117, 110]⟩, .string ⟨#[100, 111, 110, 101]⟩, .string ⟨#[107, 105, 108, 108]⟩, .string ⟨#[108, 97, 116, 101]⟩, .string ⟨#[112, 117, 116]⟩] 9))) := below_seq G20.out (below_new _ _)
                  have A21 : (v20.alloc (.cells #[.string ⟨#[]⟩, .string ⟨#[99, 111, 109, 101]⟩, .string ⟨#[114, 117, 110]⟩, .string ⟨#[100, 111, 110, 101]⟩, .string ⟨#[107, 105, 108, 108]⟩, .string ⟨#[108, 97, 116, 101]⟩, .string ⟨#[112, 117, 116]⟩] 9)).cell? ⟨v20.heap.size, kn, none⟩ = some (.string wb) := words_cell (heap_alloc_new v20 (.cells #[.string ⟨#[]⟩, .string ⟨#[99, 111, 109, 101]⟩, .string ⟨#[114, 117, 110]⟩, .string ⟨#[100, 111, 110, 101]⟩, .string ⟨#[107, 105, 108, 108]⟩, .string ⟨#[108, 97, 116, 101]⟩, .string ⟨#[112, 117, 116]⟩] 9)) HW5.out.2.1
                  generalize (v20.alloc (.cells #[.string ⟨#[]⟩, .string ⟨#[99, 111, 109, 101]⟩, .string ⟨#[114, 117, 110]⟩, .string ⟨#[100, 111, 110, 101]⟩, .string ⟨#[107, 105, 108, 108]⟩, .string ⟨#[108, 97, 116, 101]⟩, .string ⟨#[112, 117, 116]⟩] 9)) = v21 at G21 A21 ⊢
                  have L21 := World.block_lt_of_cell? _ _ A21
                  refine hK.out _ _ ⟨G21.out, below_cell G21.out c0, below_cell G21.out c1, below_cell G21.out c2, below_cell G21.out c3, below_cell G21.out c4⟩ (fun hHeld => ?_)
                  clear hK K
                  try simp only [List.set_cons_zero, List.set_cons_succ]
                  refine take_at (i := 6) (n := 38) (v := ?_) rfl rfl (by kernel_rfl) (by kernel_rfl) (by kernel_rfl) (fun _ _ _ h => h) (Or.inl ⟨by rfl, ?_⟩) (by assumption) ?_
                  rotate_left 1
                  · intro wz hSw
                    obtain ⟨sb0, s0, s1, s2, s3, s4⟩ := hSw
                    first | (go_simp; done) | (go_simp; with_reducible rfl)
                  simp only [List.set_cons_zero, List.set_cons_succ]
                  refine wpAnyH_ready (rs := [7, 13]) (by kernel_rfl) (by simp) ?_
                  refine AllReadyH.cons rfl (fun K hK => ?_) (AllReadyH.cons rfl (fun K hK => ?_) AllReadyH.nil)
                  · have L22 := World.block_lt_of_cell? _ _ A21
                    go_simp
                    refine hK.out _ _ ⟨G21.out, below_cell G21.out c0, below_cell G21.out c1, below_cell G21.out c2, below_cell G21.out c3, below_cell G21.out c4⟩ (fun hHeld => ?_)
                    clear hK K
                    try simp only [List.set_cons_zero, List.set_cons_succ]
                    refine wpAnyH_ready (rs := [13]) (by kernel_rfl) (by simp) ?_
                    refine AllReadyH.cons rfl (fun K hK => ?_) AllReadyH.nil
                    go_simp
                    go_wp2_with (go_at_call 29; refine (HIt.out xm (by simp) _ (below_seq HBw.out G21.out)).mono ?_; rintro r v23 ⟨rfl, hb23⟩)
                    have G23 : Hid (Below w4.heap.size w4 v23) := below_seq G21.out hb23
                    refine hK.out _ _ ⟨G23.out, below_cell G23.out c0, below_cell G23.out c1, below_cell G23.out c2, below_cell G23.out c3, below_cell G23.out c4⟩ (fun hHeld => ?_)
                    clear hK K hb23
                    try simp only [List.set_cons_zero, List.set_cons_succ]
                    refine wpAnyH_ready (rs := [16]) (by kernel_rfl) (by simp) ?_
                    refine AllReadyH.cons rfl (fun K hK => ?_) AllReadyH.nil
                    go_simp
                    go_wp2_with (go_at_call 29; refine (HIt.out xn (by simp) _ (below_seq HBw.out G23.out)).mono ?_; rintro r v24 ⟨rfl, hb24⟩)
                    have G24 : Hid (Below w4.heap.size w4 v24) := below_seq G23.out hb24
                    refine hK.out _ _ ⟨G24.out, below_cell G24.out c0, below_cell G24.out c1, below_cell G24.out c2, below_cell G24.out c3, below_cell G24.out c4⟩ (fun hHeld => ?_)
                    clear hK K hb24
                    try simp only [List.set_cons_zero, List.set_cons_succ]
                    refine wpAnyH_ready (rs := [17]) (by kernel_rfl) (by simp) ?_
                    refine AllReadyH.cons rfl (fun K hK => ?_) AllReadyH.nil
                    go_simp
                    have G25 : Hid (Below w4.heap.size w4 (v24.alloc (.cells #[.string ⟨(Lib.itoa xa).toArray⟩, .string wb, .string ⟨(Lib.itoa xt).toArray⟩, .string ⟨(Lib.itoa xm).toArray⟩, .string ⟨(Lib.itoa xn).toArray⟩] 9))) := below_seq G24.out (below_new _ _)
                    have F25 : Hid (w4.heap.size ≤ v24.heap.size ∧ (v24.alloc (.cells #[.string ⟨(Lib.itoa xa).toArray⟩, .string wb, .string ⟨(Lib.itoa xt).toArray⟩, .string ⟨(Lib.itoa xm).toArray⟩, .string ⟨(Lib.itoa xn).toArray⟩] 9)).heap[v24.heap.size]? = some (.cells #[.string ⟨(Lib.itoa xa).toArray⟩, .string wb, .string ⟨(Lib.itoa xt).toArray⟩, .string ⟨(Lib.itoa xm).toArray⟩, .string ⟨(Lib.itoa xn).toArray⟩] 9 (0, 0))) := ⟨G24.out.size, heap_alloc_new _ _⟩
                    generalize (v24.alloc (.cells #[.string ⟨(Lib.itoa xa).toArray⟩, .string wb, .string ⟨(Lib.itoa xt).toArray⟩, .string ⟨(Lib.itoa xm).toArray⟩, .string ⟨(Lib.itoa xn).toArray⟩] 9)) = v25 at G25 F25 ⊢
                    refine hK.out _ _ ⟨G25.out, below_cell G25.out c0, below_cell G25.out c1, below_cell G25.out c2, below_cell G25.out c3, below_cell G25.out c4⟩ (fun hHeld => ?_)
                    clear hK K
                    try simp only [List.set_cons_zero, List.set_cons_succ]
                    refine take_at (i := 18) (n := 6) (v := ?_) rfl rfl (by kernel_rfl) (by kernel_rfl) (by kernel_rfl) (fun _ _ _ h => h) (Or.inl ⟨by rfl, ?_⟩) (by assumption) ?_
                    rotate_left 1
                    · intro wz hSw
                      obtain ⟨sb0, s0, s1, s2, s3, s4⟩ := hSw
                      first | (go_simp; done) | (go_simp; with_reducible rfl)
                    simp only [List.set_cons_zero, List.set_cons_succ]
                    refine wpAnyH_done (by kernel_rfl) ?_ _
                    refine NoPanic.normal ?_
                    clear hHeld
                    go_wp2_with fail
                    go_meet
                    case rel => exact ⟨_, rfl, ⟨G25.out, F25.out.1, F25.out.2⟩⟩
                  · go_simp
                    go_wp2_with (go_at_call 29; refine (HIt.out xm (by simp) _ (below_seq HBw.out G21.out)).mono ?_; rintro r v26 ⟨rfl, hb26⟩)
                    have G26 : Hid (Below w4.heap.size w4 v26) := below_seq G21.out hb26
                    refine hK.out _ _ ⟨G26.out, below_cell G26.out c0, below_cell G26.out c1, below_cell G26.out c2, below_cell G26.out c3, below_cell G26.out c4⟩ (fun hHeld => ?_)
                    have A26 := below_cell hb26 A21
                    clear hK K hb26
                    try simp only [List.set_cons_zero, List.set_cons_succ]
                    refine wpAnyH_ready (rs := [7, 16]) (by kernel_rfl) (by simp) ?_
                    refine AllReadyH.cons rfl (fun K hK => ?_) (AllReadyH.cons rfl (fun K hK => ?_) AllReadyH.nil)
                    · have L27 := World.block_lt_of_cell? _ _ A26
                      go_simp
                      refine hK.out _ _ ⟨G26.out, below_cell G26.out c0, below_cell G26.out c1, below_cell G26.out c2, below_cell G26.out c3, below_cell G26.out c4⟩ (fun hHeld => ?_)
                      clear hK K
                      try simp only [List.set_cons_zero, List.set_cons_succ]
                      refine wpAnyH_ready (rs := [16]) (by kernel_rfl) (by simp) ?_
                      refine AllReadyH.cons rfl (fun K hK => ?_) AllReadyH.nil
                      go_simp
                      go_wp2_with (go_at_call 29; refine (HIt.out xn (by simp) _ (below_seq HBw.out G26.out)).mono ?_; rintro r v28 ⟨rfl, hb28⟩)
                      have G28 : Hid (Below w4.heap.size w4 v28) := below_seq G26.out hb28
                      refine hK.out _ _ ⟨G28.out, below_cell G28.out c0, below_cell G28.out c1, below_cell G28.out c2, below_cell G28.out c3, below_cell G28.out c4⟩ (fun hHeld => ?_)
                      clear hK K hb28
                      try simp only [List.set_cons_zero, List.set_cons_succ]
                      refine wpAnyH_ready (rs := [17]) (by kernel_rfl) (by simp) ?_
                      refine AllReadyH.cons rfl (fun K hK => ?_) AllReadyH.nil
                      go_simp
                      have G29 : Hid (Below w4.heap.size w4 (v28.alloc (.cells #[.string ⟨(Lib.itoa xa).toArray⟩, .string wb, .string ⟨(Lib.itoa xt).toArray⟩, .string ⟨(Lib.itoa xm).toArray⟩, .string ⟨(Lib.itoa xn).toArray⟩] 9))) := below_seq G28.out (below_new _ _)
                      have F29 : Hid (w4.heap.size ≤ v28.heap.size ∧ (v28.alloc (.cells #[.string ⟨(Lib.itoa xa).toArray⟩, .string wb, .string ⟨(Lib.itoa xt).toArray⟩, .string ⟨(Lib.itoa xm).toArray⟩, .string ⟨(Lib.itoa xn).toArray⟩] 9)).heap[v28.heap.size]? = some (.cells #[.string ⟨(Lib.itoa xa).toArray⟩, .string wb, .string ⟨(Lib.itoa xt).toArray⟩, .string ⟨(Lib.itoa xm).toArray⟩, .string ⟨(Lib.itoa xn).toArray⟩] 9 (0, 0))) := ⟨G28.out.size, heap_alloc_new _ _⟩
                      generalize (v28.alloc (.cells #[.string ⟨(Lib.itoa xa).toArray⟩, .string wb, .string ⟨(Lib.itoa xt).toArray⟩, .string ⟨(Lib.itoa xm).toArray⟩, .string ⟨(Lib.itoa xn).toArray⟩] 9)) = v29 at G29 F29 ⊢
                      refine hK.out _ _ ⟨G29.out, below_cell G29.out c0, below_cell G29.out c1, below_cell G29.out c2, below_cell G29.out c3, below_cell G29.out c4⟩ (fun hHeld => ?_)
                      clear hK K
                      try simp only [List.set_cons_zero, List.set_cons_succ]
                      refine take_at (i := 18) (n := 6) (v := ?_) rfl rfl (by kernel_rfl) (by kernel_rfl) (by kernel_rfl) (fun _ _ _ h => h) (Or.inl ⟨by rfl, ?_⟩) (by assumption) ?_
                      rotate_left 1
                      · intro wz hSw
                        obtain ⟨sb0, s0, s1, s2, s3, s4⟩ := hSw
                        first | (go_simp; done) | (go_simp; with_reducible rfl)
                      simp only [List.set_cons_zero, List.set_cons_succ]
                      refine wpAnyH_done (by kernel_rfl) ?_ _
                      refine NoPanic.normal ?_
                      clear hHeld
                      go_wp2_with fail
                      go_meet
                      case rel => exact ⟨_, rfl, ⟨G29.out, F29.out.1, F29.out.2⟩⟩
                    · go_simp
                      go_wp2_with (go_at_call 29; refine (HIt.out xn (by simp) _ (below_seq HBw.out G26.out)).mono ?_; rintro r v30 ⟨rfl, hb30⟩)
                      have G30 : Hid (Below w4.heap.size w4 v30) := below_seq G26.out hb30
                      refine hK.out _ _ ⟨G30.out, below_cell G30.out c0, below_cell G30.out c1, below_cell G30.out c2, below_cell G30.out c3, below_cell G30.out c4⟩ (fun hHeld => ?_)
                      have A30 := below_cell hb30 A26
                      clear hK K hb30
                      try simp only [List.set_cons_zero, List.set_cons_succ]
                      refine wpAnyH_ready (rs := [7]) (by kernel_rfl) (by simp) ?_
                      refine AllReadyH.cons rfl (fun K hK => ?_) AllReadyH.nil
                      have L31 := World.block_lt_of_cell? _ _ A30
                      go_simp
                      refine hK.out _ _ ⟨G30.out, below_cell G30.out c0, below_cell G30.out c1, below_cell G30.out c2, below_cell G30.out c3, below_cell G30.out c4⟩ (fun hHeld => ?_)
                      clear hK K
                      try simp only [List.set_cons_zero, List.set_cons_succ]
                      refine wpAnyH_ready (rs := [17]) (by kernel_rfl) (by simp) ?_
                      refine AllReadyH.cons rfl (fun K hK => ?_) AllReadyH.nil
                      go_simp
                      have G32 : Hid (Below w4.heap.size w4 (v30.alloc (.cells #[.string ⟨(Lib.itoa xa).toArray⟩, .string wb, .string ⟨(Lib.itoa xt).toArray⟩, .string ⟨(Lib.itoa xm).toArray⟩, .string ⟨(Lib.itoa xn).toArray⟩] 9))) := below_seq G30.out (below_new _ _)
                      have F32 : Hid (w4.heap.size ≤ v30.heap.size ∧ (v30.alloc (.cells #[.string ⟨(Lib.itoa xa).toArray⟩, .string wb, .string ⟨(Lib.itoa xt).toArray⟩, .string ⟨(Lib.itoa xm).toArray⟩, .string ⟨(Lib.itoa xn).toArray⟩] 9)).heap[v30.heap.size]? = some (.cells #[.string ⟨(Lib.itoa xa).toArray⟩, .string wb, .string ⟨(Lib.itoa xt).toArray⟩, .string ⟨(Lib.itoa xm).toArray⟩, .string ⟨(Lib.itoa xn).toArray⟩] 9 (0, 0))) := ⟨G30.out.size, heap_alloc_new _ _⟩
                      generalize (v30.alloc (.cells #[.string ⟨(Lib.itoa xa).toArray⟩, .string wb, .string ⟨(Lib.itoa xt).toArray⟩, .string ⟨(Lib.itoa xm).toArray⟩, .string ⟨(Lib.itoa xn).toArray⟩] 9)) = v32 at G32 F32 ⊢
                      refine hK.out _ _ ⟨G32.out, below_cell G32.out c0, below_cell G32.out c1, below_cell G32.out c2, below_cell G32.out c3, below_cell G32.out c4⟩ (fun hHeld => ?_)
                      clear hK K
                      try simp only [List.set_cons_zero, List.set_cons_succ]
                      refine take_at (i := 18) (n := 6) (v := ?_) rfl rfl (by kernel_rfl) (by kernel_rfl) (by kernel_rfl) (fun _ _ _ h => h) (Or.inl ⟨by rfl, ?_⟩) (by assumption) ?_
                      rotate_left 1
                      · intro wz hSw
                        obtain ⟨sb0, s0, s1, s2, s3, s4⟩ := hSw
                        first | (go_simp; done) | (go_simp; with_reducible rfl)
                      simp only [List.set_cons_zero, List.set_cons_succ]
                      refine wpAnyH_done (by kernel_rfl) ?_ _
                      refine NoPanic.normal ?_
                      clear hHeld
                      go_wp2_with fail
                      go_meet
                      case rel => exact ⟨_, rfl, ⟨G32.out, F32.out.1, F32.out.2⟩⟩
                · go_simp
                  go_wp2_with (go_at_call 29; refine (HIt.out xm (by simp) _ (below_seq HBw.out G20.out)).mono ?_; rintro r v33 ⟨rfl, hb33⟩)
                  have G33 : Hid (Below w4.heap.size w4 v33) := below_seq G20.out hb33
                  refine hK.out _ _ ⟨G33.out, below_cell G33.out c0, below_cell G33.out c1, below_cell G33.out c2, below_cell G33.out c3, below_cell G33.out c4⟩ (fun hHeld => ?_)
                  clear hK K hb33
                  try simp only [List.set_cons_zero, List.set_cons_succ]
                  refine wpAnyH_ready (rs := [3, 16]) (by kernel_rfl) (by simp) ?_
                  refine AllReadyH.cons rfl (fun K hK => ?_) (AllReadyH.cons rfl (fun K hK => ?_) AllReadyH.nil)
                  · go_simp
                    have G34 : Hid (Below w4.heap.size w4 (v33.alloc (.cells #[.string ⟨#[]⟩, .string ⟨#[99, 111, 109, 101]⟩, .string ⟨#[114, 117, 110]⟩, .string ⟨#[100, 111, 110, 101]⟩, .string ⟨#[107, 105, 108, 108]⟩, .string ⟨#[108, 97, 116, 101]⟩, .string ⟨#[112, 117, 116]⟩] 9))) := below_seq G33.out (below_new _ _)
                    have A34 : (v33.alloc (.cells #[.string ⟨#[]⟩, .string ⟨#[99, 111, 109, 101]⟩, .string ⟨#[114, 117, 110]⟩, .string ⟨#[100, 111, 110, 101]⟩, .string ⟨#[107, 105, 108, 108]⟩, .string ⟨#[108, 97, 116, 101]⟩, .string ⟨#[112, 117, 116]⟩] 9)).cell? ⟨v33.heap.size, kn, none⟩ = some (.string wb) := words_cell (heap_alloc_new v33 (.cells #[.string ⟨#[]⟩, .string ⟨#[99, 111, 109, 101]⟩, .string ⟨#[114, 117, 110]⟩, .string ⟨#[100, 111, 110, 101]⟩, .string ⟨#[107, 105, 108, 108]⟩, .string ⟨#[108, 97, 116, 101]⟩, .string ⟨#[112, 117, 116]⟩] 9)) HW5.out.2.1
                    generalize (v33.alloc (.cells #[.string ⟨#[]⟩, .string ⟨#[99, 111, 109, 101]⟩, .string ⟨#[114, 117, 110]⟩, .string ⟨#[100, 111, 110, 101]⟩, .string ⟨#[107, 105, 108, 108]⟩, .string ⟨#[108, 97, 116, 101]⟩, .string ⟨#[112, 117, 116]⟩] 9)) = v34 at G34 A34 ⊢
                    have L34 := World.block_lt_of_cell? _ _ A34
                    refine hK.out _ _ ⟨G34.out, below_cell G34.out c0, below_cell G34.out c1, below_cell G34.out c2, below_cell G34.out c3, below_cell G34.out c4⟩ (fun hHeld => ?_)
                    clear hK K
                    try simp only [List.set_cons_zero, List.set_cons_succ]
                    refine take_at (i := 6) (n := 38) (v := ?_) rfl rfl (by kernel_rfl) (by kernel_rfl) (by kernel_rfl) (fun _ _ _ h => h) (Or.inl ⟨by rfl, ?_⟩) (by assumption) ?_
                    rotate_left 1
                    · intro wz hSw
                      obtain ⟨sb0, s0, s1, s2, s3, s4⟩ := hSw
                      first | (go_simp; done) | (go_simp; with_reducible rfl)
                    simp only [List.set_cons_zero, List.set_cons_succ]
                    refine wpAnyH_ready (rs := [7, 16]) (by kernel_rfl) (by simp) ?_
                    refine AllReadyH.cons rfl (fun K hK => ?_) (AllReadyH.cons rfl (fun K hK => ?_) AllReadyH.nil)
                    · have L35 := World.block_lt_of_cell? _ _ A34
                      go_simp
                      refine hK.out _ _ ⟨G34.out, below_cell G34.out c0, below_cell G34.out c1, below_cell G34.out c2, below_cell G34.out c3, below_cell G34.out c4⟩ (fun hHeld => ?_)
                      clear hK K
                      try simp only [List.set_cons_zero, List.set_cons_succ]
                      refine wpAnyH_ready (rs := [16]) (by kernel_rfl) (by simp) ?_
                      refine AllReadyH.cons rfl (fun K hK => ?_) AllReadyH.nil
                      go_simp
                      go_wp2_with (go_at_call 29; refine (HIt.out xn (by simp) _ (below_seq HBw.out G34.out)).mono ?_; rintro r v36 ⟨rfl, hb36⟩)
                      have G36 : Hid (Below w4.heap.size w4 v36) := below_seq G34.out hb36
                      refine hK.out _ _ ⟨G36.out, below_cell G36.out c0, below_cell G36.out c1, below_cell G36.out c2, below_cell G36.out c3, below_cell G36.out c4⟩ (fun hHeld => ?_)
                      clear hK K hb36
                      try simp only [List.set_cons_zero, List.set_cons_succ]
                      refine wpAnyH_ready (rs := [17]) (by kernel_rfl) (by simp) ?_
                      refine AllReadyH.cons rfl (fun K hK => ?_) AllReadyH.nil
                      go_simp
                      have G37 : Hid (Below w4.heap.size w4 (v36.alloc (.cells #[.string ⟨(Lib.itoa xa).toArray⟩, .string wb, .string ⟨(Lib.itoa xt).toArray⟩, .string ⟨(Lib.itoa xm).toArray⟩, .string ⟨(Lib.itoa xn).toArray⟩] 9))) := below_seq G36.out (below_new _ _)
                      have F37 : Hid (w4.heap.size ≤ v36.heap.size ∧ (v36.alloc (.cells #[.string ⟨(Lib.itoa xa).toArray⟩, .string wb, .string ⟨(Lib.itoa xt).toArray⟩, .string ⟨(Lib.itoa xm).toArray⟩, .string ⟨(Lib.itoa xn).toArray⟩] 9)).heap[v36.heap.size]? = some (.cells #[.string ⟨(Lib.itoa xa).toArray⟩, .string wb, .string ⟨(Lib.itoa xt).toArray⟩, .string ⟨(Lib.itoa xm).toArray⟩, .string ⟨(Lib.itoa xn).toArray⟩] 9 (0, 0))) := ⟨G36.out.size, heap_alloc_new _ _⟩
                      generalize (v36.alloc (.cells #[.string ⟨(Lib.itoa xa).toArray⟩, .string wb, .string ⟨(Lib.itoa xt).toArray⟩, .string ⟨(Lib.itoa xm).toArray⟩, .string ⟨(Lib.itoa xn).toArray⟩] 9)) = v37 at G37 F37 ⊢
                      refine hK.out _ _ ⟨G37.out, below_cell G37.out c0, below_cell G37.out c1, below_cell G37.out c2, below_cell G37.out c3, below_cell G37.out c4⟩ (fun hHeld => ?_)
                      clear hK K
                      try simp only [List.set_cons_zero, List.set_cons_succ]
                      refine take_at (i := 18) (n := 6) (v := ?_) rfl rfl (by kernel_rfl) (by kernel_rfl) (by kernel_rfl) (fun _ _ _ h => h) (Or.inl ⟨by rfl, ?_⟩) (by assumption) ?_
                      rotate_left 1
                      · intro wz hSw
                        obtain ⟨sb0, s0, s1, s2, s3, s4⟩ := hSw
                        first | (go_simp; done) | (go_simp; with_reducible rfl)
                      simp only [List.set_cons_zero, List.set_cons_succ]
                      refine wpAnyH_done (by kernel_rfl) ?_ _
                      refine NoPanic.normal ?_
                      clear hHeld
                      go_wp2_with fail
                      go_meet
                      case rel => exact ⟨_, rfl, ⟨G37.out, F37.out.1, F37.out.2⟩⟩
                    · go_simp
                      go_wp2_with (go_at_call 29; refine (HIt.out xn (by simp) _ (below_seq HBw.out G34.out)).mono ?_; rintro r v38 ⟨rfl, hb38⟩)
                      have G38 : Hid (Below w4.heap.size w4 v38) := below_seq G34.out hb38
                      refine hK.out _ _ ⟨G38.out, below_cell G38.out c0, below_cell G38.out c1, below_cell G38.out c2, below_cell G38.out c3, below_cell G38.out c4⟩ (fun hHeld => ?_)
                      have A38 := below_cell hb38 A34
                      clear hK K hb38
                      try simp only [List.set_cons_zero, List.set_cons_succ]
                      refine wpAnyH_ready (rs := [7]) (by kernel_rfl) (by simp) ?_
                      refine AllReadyH.cons rfl (fun K hK => ?_) AllReadyH.nil
                      have L39 := World.block_lt_of_cell? _ _ A38
                      go_simp
                      refine hK.out _ _ ⟨G38.out, below_cell G38.out c0, below_cell G38.out c1, below_cell G38.out c2, below_cell G38.out c3, below_cell G38.out c4⟩ (fun hHeld => ?_)
                      clear hK K
                      try simp only [List.set_cons_zero, List.set_cons_succ]
                      refine wpAnyH_ready (rs := [17]) (by kernel_rfl) (by simp) ?_
                      refine AllReadyH.cons rfl (fun K hK => ?_) AllReadyH.nil
                      go_simp
                      have G40 : Hid (Below w4.heap.size w4 (v38.alloc (.cells #[.string ⟨(Lib.itoa xa).toArray⟩, .string wb, .string ⟨(Lib.itoa xt).toArray⟩, .string ⟨(Lib.itoa xm).toArray⟩, .string ⟨(Lib.itoa xn).toArray⟩] 9))) := below_seq G38.out (below_new _ _)
                      have F40 : Hid (w4.heap.size ≤ v38.heap.size ∧ (v38.alloc (.cells #[.string ⟨(Lib.itoa xa).toArray⟩, .string wb, .string ⟨(Lib.itoa xt).toArray⟩, .string ⟨(Lib.itoa xm).toArray⟩, .string ⟨(Lib.itoa xn).toArray⟩] 9)).heap[v38.heap.size]? = some (.cells #[.string ⟨(Lib.itoa xa).toArray⟩, .string wb, .string ⟨(Lib.itoa xt).toArray⟩, .string ⟨(Lib.itoa xm).toArray⟩, .string ⟨(Lib.itoa xn).toArray⟩] 9 (0, 0))) := ⟨G38.out.size, heap_alloc_new _ _⟩
                      generalize (v38.alloc (.cells #[.string ⟨(Lib.itoa xa).toArray⟩, .string wb, .string ⟨(Lib.itoa xt).toArray⟩, .string ⟨(Lib.itoa xm).toArray⟩, .string ⟨(Lib.itoa xn).toArray⟩] 9)) = v40 at G40 F40 ⊢
                      refine hK.out _ _ ⟨G40.out, below_cell G40.out c0, below_cell G40.out c1, below_cell G40.out c2, below_cell G40.out c3, below_cell G40.out c4⟩ (fun hHeld => ?_)
                      clear hK K
                      try simp only [List.set_cons_zero, List.set_cons_succ]
                      refine take_at (i := 18) (n := 6) (v := ?_) rfl rfl (by kernel_rfl) (by kernel_rfl) (by kernel_rfl) (fun _ _ _ h => h) (Or.inl ⟨by rfl, ?_⟩) (by assumption) ?_
                      rotate_left 1
                      · intro wz hSw
                        obtain ⟨sb0, s0, s1, s2, s3, s4⟩ := hSw
                        first | (go_simp; done) | (go_simp; with_reducible rfl)
                      simp only [List.set_cons_zero, List.set_cons_succ]
                      refine wpAnyH_done (by kernel_rfl) ?_ _
                      refine NoPanic.normal ?_
                      clear hHeld
                      go_wp2_with fail
                      go_meet
                      case rel => exact ⟨_, rfl, ⟨G40.out, F40.out.1, F40.out.2⟩⟩
                  · go_simp
                    go_wp2_with (go_at_call 29; refine (HIt.out xn (by simp) _ (below_seq HBw.out G33.out)).mono ?_; rintro r v41 ⟨rfl, hb41⟩)
                    have G41 : Hid (Below w4.heap.size w4 v41) := below_seq G33.out hb41
                    refine hK.out _ _ ⟨G41.out, below_cell G41.out c0, below_cell G41.out c1, below_cell G41.out c2, below_cell G41.out c3, below_cell G41.out c4⟩ (fun hHeld => ?_)
                    clear hK K hb41
                    try simp only [List.set_cons_zero, List.set_cons_succ]
                    refine wpAnyH_ready (rs := [3]) (by kernel_rfl) (by simp) ?_
                    refine AllReadyH.cons rfl (fun K hK => ?_) AllReadyH.nil
                    go_simp
                    have G42 : Hid (Below w4.heap.size w4 (v41.alloc (.cells #[.string ⟨#[]⟩, .string ⟨#[99, 111, 109, 101]⟩, .string ⟨#[114, 117, 110]⟩, .string ⟨#[100, 111, 110, 101]⟩, .string ⟨#[107, 105, 108, 108]⟩, .string ⟨#[108, 97, 116, 101]⟩, .string ⟨#[112, 117, 116]⟩] 9))) := below_seq G41.out (below_new _ _)
                    have A42 : (v41.alloc (.cells #[.string ⟨#[]⟩, .string ⟨#[99, 111, 109, 101]⟩, .string ⟨#[114, 117, 110]⟩, .string ⟨#[100, 111, 110, 101]⟩, .string ⟨#[107, 105, 108, 108]⟩, .string ⟨#[108, 97, 116, 101]⟩, .string ⟨#[112, 117, 116]⟩] 9)).cell? ⟨v41.heap.size, kn, none⟩ = some (.string wb) := words_cell (heap_alloc_new v41 (.cells #[.string ⟨#[]⟩, .string ⟨#[99, 111, 109, 101]⟩, .string ⟨#[114, 117, 110]⟩, .string ⟨#[100, 111, 110, 101]⟩, .string ⟨#[107, 105, 108, 108]⟩, .string ⟨#[108, 97, 116, 101]⟩, .string ⟨#[112, 117, 116]⟩] 9)) HW5.out.2.1
                    generalize (v41.alloc (.cells #[.string ⟨#[]⟩, .string ⟨#[99, 111, 109, 101]⟩, .string ⟨#[114, 117, 110]⟩, .string ⟨#[100, 111, 110, 101]⟩, .string ⟨#[107, 105, 108, 108]⟩, .string ⟨#[108, 97, 116, 101]⟩, .string ⟨#[112, 117, 116]⟩] 9)) = v42 at G42 A42 ⊢
                    have L42 := World.block_lt_of_cell? _ _ A42
                    refine hK.out _ _ ⟨G42.out, below_cell G42.out c0, below_cell G42.out c1, below_cell G42.out c2, below_cell G42.out c3, below_cell G42.out c4⟩ (fun hHeld => ?_)
                    clear hK K
                    try simp only [List.set_cons_zero, List.set_cons_succ]
                    refine take_at (i := 6) (n := 38) (v := ?_) rfl rfl (by kernel_rfl) (by kernel_rfl) (by kernel_rfl) (fun _ _ _ h => h) (Or.inl ⟨by rfl, ?_⟩) (by assumption) ?_
                    rotate_left 1
                    · intro wz hSw
                      obtain ⟨sb0, s0, s1, s2, s3, s4⟩ := hSw
                      first | (go_simp; done) | (go_simp; with_reducible rfl)
                    simp only [List.set_cons_zero, List.set_cons_succ]
                    refine wpAnyH_ready (rs := [7]) (by kernel_rfl) (by simp) ?_
                    refine AllReadyH.cons rfl (fun K hK => ?_) AllReadyH.nil
                    have L43 := World.block_lt_of_cell? _ _ A42
                    go_simp
                    refine hK.out _ _ ⟨G42.out, below_cell G42.out c0, below_cell G42.out c1, below_cell G42.out c2, below_cell G42.out c3, below_cell G42.out c4⟩ (fun hHeld => ?_)
                    clear hK K
                    try simp only [List.set_cons_zero, List.set_cons_succ]
                    refine wpAnyH_ready (rs := [17]) (by kernel_rfl) (by simp) ?_
                    refine AllReadyH.cons rfl (fun K hK => ?_) AllReadyH.nil
                    go_simp
                    have G44 : Hid (Below w4.heap.size w4 (v42.alloc (.cells #[.string ⟨(Lib.itoa xa).toArray⟩, .string wb, .string ⟨(Lib.itoa xt).toArray⟩, .string ⟨(Lib.itoa xm).toArray⟩, .string ⟨(Lib.itoa xn).toArray⟩] 9))) := below_seq G42.out (below_new _ _)
                    have F44 : Hid (w4.heap.size ≤ v42.heap.size ∧ (v42.alloc (.cells #[.string ⟨(Lib.itoa xa).toArray⟩, .string wb, .string ⟨(Lib.itoa xt).toArray⟩, .string ⟨(Lib.itoa xm).toArray⟩, .string ⟨(Lib.itoa xn).toArray⟩] 9)).heap[v42.heap.size]? = some (.cells #[.string ⟨(Lib.itoa xa).toArray⟩, .string wb, .string ⟨(Lib.itoa xt).toArray⟩, .string ⟨(Lib.itoa xm).toArray⟩, .string ⟨(Lib.itoa xn).toArray⟩] 9 (0, 0))) := ⟨G42.out.size, heap_alloc_new _ _⟩
                    generalize (v42.alloc (.cells #[.string ⟨(Lib.itoa xa).toArray⟩, .string wb, .string ⟨(Lib.itoa xt).toArray⟩, .string ⟨(Lib.itoa xm).toArray⟩, .string ⟨(Lib.itoa xn).toArray⟩] 9)) = v44 at G44 F44 ⊢
                    refine hK.out _ _ ⟨G44.out, below_cell G44.out c0, below_cell G44.out c1, below_cell G44.out c2, below_cell G44.out c3, below_cell G44.out c4⟩ (fun hHeld => ?_)
                    clear hK K
                    try simp only [List.set_cons_zero, List.set_cons_succ]
                    refine take_at (i := 18) (n := 6) (v := ?_) rfl rfl (by kernel_rfl) (by kernel_rfl) (by kernel_rfl) (fun _ _ _ h => h) (Or.inl ⟨by rfl, ?_⟩) (by assumption) ?_
                    rotate_left 1
                    · intro wz hSw
                      obtain ⟨sb0, s0, s1, s2, s3, s4⟩ := hSw
                      first | (go_simp; done) | (go_simp; with_reducible rfl)
                    simp only [List.set_cons_zero, List.set_cons_succ]
                    refine wpAnyH_done (by kernel_rfl) ?_ _
                    refine NoPanic.normal ?_
                    clear hHeld
                    go_wp2_with fail
                    go_meet
                    case rel => exact ⟨_, rfl, ⟨G44.out, F44.out.1, F44.out.2⟩⟩
            · go_simp
              have G45 : Hid (Below w4.heap.size w4 (w4.alloc (.cells #[.string ⟨#[]⟩, .string ⟨#[99, 111, 109, 101]⟩, .string ⟨#[114, 117, 110]⟩, .string ⟨#[100, 111, 110, 101]⟩, .string ⟨#[107, 105, 108, 108]⟩, .string ⟨#[108, 97, 116, 101]⟩, .string ⟨#[112, 117, 116]⟩] 9)).drew) := (below_new _ _).drew
              have A45 : (w4.alloc (.cells #[.string ⟨#[]⟩, .string ⟨#[99, 111, 109, 101]⟩, .string ⟨#[114, 117, 110]⟩, .string ⟨#[100, 111, 110, 101]⟩, .string ⟨#[107, 105, 108, 108]⟩, .string ⟨#[108, 97, 116, 101]⟩, .string ⟨#[112, 117, 116]⟩] 9)).drew.cell? ⟨w4.heap.size, kn, none⟩ = some (.string wb) := words_cell (heap_alloc_new w4 (.cells #[.string ⟨#[]⟩, .string ⟨#[99, 111, 109, 101]⟩, .string ⟨#[114, 117, 110]⟩, .string ⟨#[100, 111, 110, 101]⟩, .string ⟨#[107, 105, 108, 108]⟩, .string ⟨#[108, 97, 116, 101]⟩, .string ⟨#[112, 117, 116]⟩] 9)) HW5.out.2.1
              generalize (w4.alloc (.cells #[.string ⟨#[]⟩, .string ⟨#[99, 111, 109, 101]⟩, .string ⟨#[114, 117, 110]⟩, .string ⟨#[100, 111, 110, 101]⟩, .string ⟨#[107, 105, 108, 108]⟩, .string ⟨#[108, 97, 116, 101]⟩, .string ⟨#[112, 117, 116]⟩] 9)).drew = v45 at G45 A45 ⊢
              have L45 := World.block_lt_of_cell? _ _ A45
              refine hK.out _ _ ⟨G45.out, below_cell G45.out c0, below_cell G45.out c1, below_cell G45.out c2, below_cell G45.out c3, below_cell G45.out c4⟩ (fun hHeld => ?_)
              clear hK K
              try simp only [List.set_cons_zero, List.set_cons_succ]
              refine take_at (i := 6) (n := 38) (v := ?_) rfl rfl (by kernel_rfl) (by kernel_rfl) (by kernel_rfl) (fun _ _ _ h => h) (Or.inl ⟨by rfl, ?_⟩) (by assumption) ?_
              rotate_left 1
              · intro wz hSw
                obtain ⟨sb0, s0, s1, s2, s3, s4⟩ := hSw
                first | (go_simp; done) | (go_simp; with_reducible rfl)
              simp only [List.set_cons_zero, List.set_cons_succ]
              refine wpAnyH_ready (rs := [2, 7]) (by kernel_rfl) (by simp) ?_
              refine AllReadyH.cons rfl (fun K hK => ?_) (AllReadyH.cons rfl (fun K hK => ?_) AllReadyH.nil)
              · go_simp
                go_wp2_with (go_at_call 29; refine (HIt.out xa (by simp) _ (below_seq HBw.out G45.out)).mono ?_; rintro r v46 ⟨rfl, hb46⟩)
                have G46 : Hid (Below w4.heap.size w4 v46) := below_seq G45.out hb46
                refine hK.out _ _ ⟨G46.out, below_cell G46.out c0, below_cell G46.out c1, below_cell G46.out c2, below_cell G46.out c3, below_cell G46.out c4⟩ (fun hHeld => ?_)
                have A46 := below_cell hb46 A45
                clear hK K hb46
                try simp only [List.set_cons_zero, List.set_cons_succ]
                refine wpAnyH_ready (rs := [7, 10]) (by kernel_rfl) (by simp) ?_
                refine AllReadyH.cons rfl (fun K hK => ?_) (AllReadyH.cons rfl (fun K hK => ?_) AllReadyH.nil)
                · have L47 := World.block_lt_of_cell? _ _ A46
                  go_simp
                  refine hK.out _ _ ⟨G46.out, below_cell G46.out c0, below_cell G46.out c1, below_cell G46.out c2, below_cell G46.out c3, below_cell G46.out c4⟩ (fun hHeld => ?_)
                  clear hK K
                  try simp only [List.set_cons_zero, List.set_cons_succ]
                  refine wpAnyH_ready (rs := [10]) (by kernel_rfl) (by simp) ?_
                  refine AllReadyH.cons rfl (fun K hK => ?_) AllReadyH.nil
                  go_simp
                  go_wp2_with (go_at_call 29; refine (HIt.out xt (by simp) _ (below_seq HBw.out G46.out)).mono ?_; rintro r v48 ⟨rfl, hb48⟩)
                  have G48 : Hid (Below w4.heap.size w4 v48) := below_seq G46.out hb48
                  refine hK.out _ _ ⟨G48.out, below_cell G48.out c0, below_cell G48.out c1, below_cell G48.out c2, below_cell G48.out c3, below_cell G48.out c4⟩ (fun hHeld => ?_)
                  clear hK K hb48
                  try simp only [List.set_cons_zero, List.set_cons_succ]
                  refine wpAnyH_ready (rs := [13]) (by kernel_rfl) (by simp) ?_
                  refine AllReadyH.cons rfl (fun K hK => ?_) AllReadyH.nil
                  go_simp
                  go_wp2_with (go_at_call 29; refine (HIt.out xm (by simp) _ (below_seq HBw.out G48.out)).mono ?_; rintro r v49 ⟨rfl, hb49⟩)
                  have G49 : Hid (Below w4.heap.size w4 v49) := below_seq G48.out hb49
                  refine hK.out _ _ ⟨G49.out, below_cell G49.out c0, below_cell G49.out c1, below_cell G49.out c2, below_cell G49.out c3, below_cell G49.out c4⟩ (fun hHeld => ?_)
                  clear hK K hb49
                  try simp only [List.set_cons_zero, List.set_cons_succ]
                  refine wpAnyH_ready (rs := [16]) (by kernel_rfl) (by simp) ?_
                  refine AllReadyH.cons rfl (fun K hK => ?_) AllReadyH.nil
                  go_simp
                  go_wp2_with (go_at_call 29; refine (HIt.out xn (by simp) _ (below_seq HBw.out G49.out)).mono ?_; rintro r v50 ⟨rfl, hb50⟩)
                  have G50 : Hid (Below w4.heap.size w4 v50) := below_seq G49.out hb50
                  refine hK.out _ _ ⟨G50.out, below_cell G50.out c0, below_cell G50.out c1, below_cell G50.out c2, below_cell G50.out c3, below_cell G50.out c4⟩ (fun hHeld => ?_)
                  clear hK K hb50
                  try simp only [List.set_cons_zero, List.set_cons_succ]
                  refine wpAnyH_ready (rs := [17]) (by kernel_rfl) (by simp) ?_
                  refine AllReadyH.cons rfl (fun K hK => ?_) AllReadyH.nil
                  go_simp
                  have G51 : Hid (Below w4.heap.size w4 (v50.alloc (.cells #[.string ⟨(Lib.itoa xa).toArray⟩, .string wb, .string ⟨(Lib.itoa xt).toArray⟩, .string ⟨(Lib.itoa xm).toArray⟩, .string ⟨(Lib.itoa xn).toArray⟩] 9))) := below_seq G50.out (below_new _ _)
                  have F51 : Hid (w4.heap.size ≤ v50.heap.size ∧ (v50.alloc (.cells #[.string ⟨(Lib.itoa xa).toArray⟩, .string wb, .string ⟨(Lib.itoa xt).toArray⟩, .string ⟨(Lib.itoa xm).toArray⟩, .string ⟨(Lib.itoa xn).toArray⟩] 9)).heap[v50.heap.size]? = some (.cells #[.string ⟨(Lib.itoa xa).toArray⟩, .string wb, .string ⟨(Lib.itoa xt).toArray⟩, .string ⟨(Lib.itoa xm).toArray⟩, .string ⟨(Lib.itoa xn).toArray⟩] 9 (0, 0))) := ⟨G50.out.size, heap_alloc_new _ _⟩
                  generalize (v50.alloc (.cells #[.string ⟨(Lib.itoa xa).toArray⟩, .string wb, .string ⟨(Lib.itoa xt).toArray⟩, .string ⟨(Lib.itoa xm).toArray⟩, .string ⟨(Lib.itoa xn).toArray⟩] 9)) = v51 at G51 F51 ⊢
                  refine hK.out _ _ ⟨G51.out, below_cell G51.out c0, below_cell G51.out c1, below_cell G51.out c2, below_cell G51.out c3, below_cell G51.out c4⟩ (fun hHeld => ?_)
                  clear hK K
                  try simp only [List.set_cons_zero, List.set_cons_succ]
                  refine take_at (i := 18) (n := 6) (v := ?_) rfl rfl (by kernel_rfl) (by kernel_rfl) (by kernel_rfl) (fun _ _ _ h => h) (Or.inl ⟨by rfl, ?_⟩) (by assumption) ?_
                  rotate_left 1
                  · intro wz hSw
                    obtain ⟨sb0, s0, s1, s2, s3, s4⟩ := hSw
                    first | (go_simp; done) | (go_simp; with_reducible rfl)
                  simp only [List.set_cons_zero, List.set_cons_succ]
                  refine wpAnyH_done (by kernel_rfl) ?_ _
                  refine NoPanic.normal ?_
                  clear hHeld
                  go_wp2_with fail
                  go_meet
                  case rel => exact ⟨_, rfl, ⟨G51.out, F51.out.1, F51.out.2⟩⟩
                · go_simp
                  go_wp2_with (go_at_call 29; refine (HIt.out xt (by simp) _ (below_seq HBw.out G46.out)).mono ?_; rintro r v52 ⟨rfl, hb52⟩)
                  have G52 : Hid (Below w4.heap.size w4 v52) := below_seq G46.out hb52
                  refine hK.out _ _ ⟨G52.out, below_cell G52.out c0, below_cell G52.out c1, below_cell G52.out c2, below_cell G52.out c3, below_cell G52.out c4⟩ (fun hHeld => ?_)
                  have A52 := below_cell hb52 A46
                  clear hK K hb52
                  try simp only [List.set_cons_zero, List.set_cons_succ]
                  refine wpAnyH_ready (rs := [7, 13]) (by kernel_rfl) (by simp) ?_
                  refine AllReadyH.cons rfl (fun K hK => ?_) (AllReadyH.cons rfl (fun K hK => ?_) AllReadyH.nil)
                  · have L53 := World.block_lt_of_cell? _ _ A52
                    go_simp
                    refine hK.out _ _ ⟨G52.out, below_cell G52.out c0, below_cell G52.out c1, below_cell G52.out c2, below_cell G52.out c3, below_cell G52.out c4⟩ (fun hHeld => ?_)
                    clear hK K
                    try simp only [List.set_cons_zero, List.set_cons_succ]
                    refine wpAnyH_ready (rs := [13]) (by kernel_rfl) (by simp) ?_
                    refine AllReadyH.cons rfl (fun K hK => ?_) AllReadyH.nil
                    go_simp
                    go_wp2_with (go_at_call 29; refine (HIt.out xm (by simp) _ (below_seq HBw.out G52.out)).mono ?_; rintro r v54 ⟨rfl, hb54⟩)
                    have G54 : Hid (Below w4.heap.size w4 v54) := below_seq G52.out hb54
                    refine hK.out _ _ ⟨G54.out, below_cell G54.out c0, below_cell G54.out c1, below_cell G54.out c2, below_cell G54.out c3, below_cell G54.out c4⟩ (fun hHeld => ?_)
                    clear hK K hb54
                    try simp only [List.set_cons_zero, List.set_cons_succ]
                    refine wpAnyH_ready (rs := [16]) (by kernel_rfl) (by simp) ?_
                    refine AllReadyH.cons rfl (fun K hK => ?_) AllReadyH.nil
                    go_simp
                    go_wp2_with (go_at_call 29; refine (HIt.out xn (by simp) _ (below_seq HBw.out G54.out)).mono ?_; rintro r v55 ⟨rfl, hb55⟩)
                    have G55 : Hid (Below w4.heap.size w4 v55) := below_seq G54.out hb55
                    refine hK.out _ _ ⟨G55.out, below_cell G55.out c0, below_cell G55.out c1, below_cell G55.out c2, below_cell G55.out c3, below_cell G55.out c4⟩ (fun hHeld => ?_)
                    clear hK K hb55
                    try simp only [List.set_cons_zero, List.set_cons_succ]
                    refine wpAnyH_ready (rs := [17]) (by kernel_rfl) (by simp) ?_
                    refine AllReadyH.cons rfl (fun K hK => ?_) AllReadyH.nil
                    go_simp
                    have G56 : Hid (Below w4.heap.size w4 (v55.alloc (.cells #[.string ⟨(Lib.itoa xa).toArray⟩, .string wb, .string ⟨(Lib.itoa xt).toArray⟩, .string ⟨(Lib.itoa xm).toArray⟩, .string ⟨(Lib.itoa xn).toArray⟩] 9))) := below_seq G55.out (below_new _ _)
                    have F56 : Hid (w4.heap.size ≤ v55.heap.size ∧ (v55.alloc (.cells #[.string ⟨(Lib.itoa xa).toArray⟩, .string wb, .string ⟨(Lib.itoa xt).toArray⟩, .string ⟨(Lib.itoa xm).toArray⟩, .string ⟨(Lib.itoa xn).toArray⟩] 9)).heap[v55.heap.size]? = some (.cells #[.string ⟨(Lib.itoa xa).toArray⟩, .string wb, .string ⟨(Lib.itoa xt).toArray⟩, .string ⟨(Lib.itoa xm).toArray⟩, .string ⟨(Lib.itoa xn).toArray⟩] 9 (0, 0))) := ⟨G55.out.size, heap_alloc_new _ _⟩
                    generalize (v55.alloc (.cells #[.string ⟨(Lib.itoa xa).toArray⟩, .string wb, .string ⟨(Lib.itoa xt).toArray⟩, .string ⟨(Lib.itoa xm).toArray⟩, .string ⟨(Lib.itoa xn).toArray⟩] 9)) = v56 at G56 F56 ⊢
                    refine hK.out _ _ ⟨G56.out, below_cell G56.out c0, below_cell G56.out c1, below_cell G56.out c2, below_cell G56.out c3, below_cell G56.out c4⟩ (fun hHeld => ?_)
                    clear hK K
                    try simp only [List.set_cons_zero, List.set_cons_succ]
                    refine take_at (i := 18) (n := 6) (v := ?_) rfl rfl (by kernel_rfl) (by kernel_rfl) (by kernel_rfl) (fun _ _ _ h => h) (Or.inl ⟨by rfl, ?_⟩) (by assumption) ?_
                    rotate_left 1
                    · intro wz hSw
                      obtain ⟨sb0, s0, s1, s2, s3, s4⟩ := hSw
                      first | (go_simp; done) | (go_simp; with_reducible rfl)
                    simp only [List.set_cons_zero, List.set_cons_succ]
                    refine wpAnyH_done (by kernel_rfl) ?_ _
                    refine NoPanic.normal ?_
                    clear hHeld
                    go_wp2_with fail
                    go_meet
                    case rel => exact ⟨_, rfl, ⟨G56.out, F56.out.1, F56.out.2⟩⟩
                  · go_simp
                    go_wp2_with (go_at_call 29; refine (HIt.out xm (by simp) _ (below_seq HBw.out G52.out)).mono ?_; rintro r v57 ⟨rfl, hb57⟩)
                    have G57 : Hid (Below w4.heap.size w4 v57) := below_seq G52.out hb57
                    refine hK.out _ _ ⟨G57.out, below_cell G57.out c0, below_cell G57.out c1, below_cell G57.out c2, below_cell G57.out c3, below_cell G57.out c4⟩ (fun hHeld => ?_)
                    have A57 := below_cell hb57 A52
                    clear hK K hb57
                    try simp only [List.set_cons_zero, List.set_cons_succ]
                    refine wpAnyH_ready (rs := [7, 16]) (by kernel_rfl) (by simp) ?_
                    refine AllReadyH.cons rfl (fun K hK => ?_) (AllReadyH.cons rfl (fun K hK => ?_) AllReadyH.nil)
                    · have L58 := World.block_lt_of_cell? _ _ A57
                      go_simp
                      refine hK.out _ _ ⟨G57.out, below_cell G57.out c0, below_cell G57.out c1, below_cell G57.out c2, below_cell G57.out c3, below_cell G57.out c4⟩ (fun hHeld => ?_)
                      clear hK K
                      try simp only [List.set_cons_zero, List.set_cons_succ]
                      refine wpAnyH_ready (rs := [16]) (by kernel_rfl) (by simp) ?_
                      refine AllReadyH.cons rfl (fun K hK => ?_) AllReadyH.nil
                      go_simp
                      go_wp2_with (go_at_call 29; refine (HIt.out xn (by simp) _ (below_seq HBw.out G57.out)).mono ?_; rintro r v59 ⟨rfl, hb59⟩)
                      have G59 : Hid (Below w4.heap.size w4 v59) := below_seq G57.out hb59
                      refine hK.out _ _ ⟨G59.out, below_cell G59.out c0, below_cell G59.out c1, below_cell G59.out c2, below_cell G59.out c3, below_cell G59.out c4⟩ (fun hHeld => ?_)
                      clear hK K hb59
                      try simp only [List.set_cons_zero, List.set_cons_succ]
                      refine wpAnyH_ready (rs := [17]) (by kernel_rfl) (by simp) ?_
                      refine AllReadyH.cons rfl (fun K hK => ?_) AllReadyH.nil
                      go_simp
                      have G60 : Hid (Below w4.heap.size w4 (v59.alloc (.cells #[.string ⟨(Lib.itoa xa).toArray⟩, .string wb, .string ⟨(Lib.itoa xt).toArray⟩, .string ⟨(Lib.itoa xm).toArray⟩, .string ⟨(Lib.itoa xn).toArray⟩] 9))) := below_seq G59.out (below_new _ _)
                      have F60 : Hid (w4.heap.size ≤ v59.heap.size ∧ (v59.alloc (.cells #[.string ⟨(Lib.itoa xa).toArray⟩, .string wb, .string ⟨(Lib.itoa xt).toArray⟩, .string ⟨(Lib.itoa xm).toArray⟩, .string ⟨(Lib.itoa xn).toArray⟩] 9)).heap[v59.heap.size]? = some (.cells #[.string ⟨(Lib.itoa xa).toArray⟩, .string wb, .string ⟨(Lib.itoa xt).toArray⟩, .string ⟨(Lib.itoa xm).toArray⟩, .string ⟨(Lib.itoa xn).toArray⟩] 9 (0, 0))) := ⟨G59.out.size, heap_alloc_new _ _⟩
                      generalize (v59.alloc (.cells #[.string ⟨(Lib.itoa xa).toArray⟩, .string wb, .string ⟨(Lib.itoa xt).toArray⟩, .string ⟨(Lib.itoa xm).toArray⟩, .string ⟨(Lib.itoa xn).toArray⟩] 9)) = v60 at G60 F60 ⊢
                      refine hK.out _ _ ⟨G60.out, below_cell G60.out c0, below_cell G60.out c1, below_cell G60.out c2, below_cell G60.out c3, below_cell G60.out c4⟩ (fun hHeld => ?_)
                      clear hK K
                      try simp only [List.set_cons_zero, List.set_cons_succ]
                      refine take_at (i := 18) (n := 6) (v := ?_) rfl rfl (by kernel_rfl) (by kernel_rfl) (by kernel_rfl) (fun _ _ _ h => h) (Or.inl ⟨by rfl, ?_⟩) (by assumption) ?_
                      rotate_left 1
                      · intro wz hSw
                        obtain ⟨sb0, s0, s1, s2, s3, s4⟩ := hSw
                        first | (go_simp; done) | (go_simp; with_reducible rfl)
                      simp only [List.set_cons_zero, List.set_cons_succ]
                      refine wpAnyH_done (by kernel_rfl) ?_ _
                      refine NoPanic.normal ?_
                      clear hHeld
                      go_wp2_with fail
                      go_meet
                      case rel => exact ⟨_, rfl, ⟨G60.out, F60.out.1, F60.out.2⟩⟩
                    · go_simp
                      go_wp2_with (go_at_call 29; refine (HIt.out xn (by simp) _ (below_seq HBw.out G57.out)).mono ?_; rintro r v61 ⟨rfl, hb61⟩)
                      have G61 : Hid (Below w4.heap.size w4 v61) := below_seq G57.out hb61
                      refine hK.out _ _ ⟨G61.out, below_cell G61.out c0, below_cell G61.out c1, below_cell G61.out c2, below_cell G61.out c3, below_cell G61.out c4⟩ (fun hHeld => ?_)
                      have A61 := below_cell hb61 A57
                      clear hK K hb61
                      try simp only [List.set_cons_zero, List.set_cons_succ]
                      refine wpAnyH_ready (rs := [7]) (by kernel_rfl) (by simp) ?_
                      refine AllReadyH.cons rfl (fun K hK => ?_) AllReadyH.nil
                      have L62 := World.block_lt_of_cell? _ _ A61
                      go_simp
                      refine hK.out _ _ ⟨G61.out, below_cell G61.out c0, below_cell G61.out c1, below_cell G61.out c2, below_cell G61.out c3, below_cell G61.out c4⟩ (fun hHeld => ?_)
                      clear hK K
                      try simp only [List.set_cons_zero, List.set_cons_succ]
                      refine wpAnyH_ready (rs := [17]) (by kernel_rfl) (by simp) ?_
                      refine AllReadyH.cons rfl (fun K hK => ?_) AllReadyH.nil
                      go_simp
                      have G63 : Hid (Below w4.heap.size w4 (v61.alloc (.cells #[.string ⟨(Lib.itoa xa).toArray⟩, .string wb, .string ⟨(Lib.itoa xt).toArray⟩, .string ⟨(Lib.itoa xm).toArray⟩, .string ⟨(Lib.itoa xn).toArray⟩] 9))) := below_seq G61.out (below_new _ _)
                      have F63 : Hid (w4.heap.size ≤ v61.heap.size ∧ (v61.alloc (.cells #[.string ⟨(Lib.itoa xa).toArray⟩, .string wb, .string ⟨(Lib.itoa xt).toArray⟩, .string ⟨(Lib.itoa xm).toArray⟩, .string ⟨(Lib.itoa xn).toArray⟩] 9)).heap[v61.heap.size]? = some (.cells #[.string ⟨(Lib.itoa xa).toArray⟩, .string wb, .string ⟨(Lib.itoa xt).toArray⟩, .string ⟨(Lib.itoa xm).toArray⟩, .string ⟨(Lib.itoa xn).toArray⟩] 9 (0, 0))) := ⟨G61.out.size, heap_alloc_new _ _⟩
                      generalize (v61.alloc (.cells #[.string ⟨(Lib.itoa xa).toArray⟩, .string wb, .string ⟨(Lib.itoa xt).toArray⟩, .string ⟨(Lib.itoa xm).toArray⟩, .string ⟨(Lib.itoa xn).toArray⟩] 9)) = v63 at G63 F63 ⊢
                      refine hK.out _ _ ⟨G63.out, below_cell G63.out c0, below_cell G63.out c1, below_cell G63.out c2, below_cell G63.out c3, below_cell G63.out c4⟩ (fun hHeld => ?_)
                      clear hK K
                      try simp only [List.set_cons_zero, List.set_cons_succ]
                      refine take_at (i := 18) (n := 6) (v := ?_) rfl rfl (by kernel_rfl) (by kernel_rfl) (by kernel_rfl) (fun _ _ _ h => h) (Or.inl ⟨by rfl, ?_⟩) (by assumption) ?_
                      rotate_left 1
                      · intro wz hSw
                        obtain ⟨sb0, s0, s1, s2, s3, s4⟩ := hSw
                        first | (go_simp; done) | (go_simp; with_reducible rfl)
                      simp only [List.set_cons_zero, List.set_cons_succ]
                      refine wpAnyH_done (by kernel_rfl) ?_ _
                      refine NoPanic.normal ?_
                      clear hHeld
                      go_wp2_with fail
                      go_meet
                      case rel => exact ⟨_, rfl, ⟨G63.out, F63.out.1, F63.out.2⟩⟩
              · have L64 := World.block_lt_of_cell? _ _ A45
                go_simp
                refine hK.out _ _ ⟨G45.out, below_cell G45.out c0, below_cell G45.out c1, below_cell G45.out c2, below_cell G45.out c3, below_cell G45.out c4⟩ (fun hHeld => ?_)
                clear hK K
                try simp only [List.set_cons_zero, List.set_cons_succ]
                refine wpAnyH_ready (rs := [2]) (by kernel_rfl) (by simp) ?_
                refine AllReadyH.cons rfl (fun K hK => ?_) AllReadyH.nil
                go_simp
                go_wp2_with (go_at_call 29; refine (HIt.out xa (by simp) _ (below_seq HBw.out G45.out)).mono ?_; rintro r v65 ⟨rfl, hb65⟩)
                have G65 : Hid (Below w4.heap.size w4 v65) := below_seq G45.out hb65
                refine hK.out _ _ ⟨G65.out, below_cell G65.out c0, below_cell G65.out c1, below_cell G65.out c2, below_cell G65.out c3, below_cell G65.out c4⟩ (fun hHeld => ?_)
                clear hK K hb65
                try simp only [List.set_cons_zero, List.set_cons_succ]
                refine wpAnyH_ready (rs := [10]) (by kernel_rfl) (by simp) ?_
                refine AllReadyH.cons rfl (fun K hK => ?_) AllReadyH.nil
                go_simp
                go_wp2_with (go_at_call 29; refine (HIt.out xt (by simp) _ (below_seq HBw.out G65.out)).mono ?_; rintro r v66 ⟨rfl, hb66⟩)
                have G66 : Hid (Below w4.heap.size w4 v66) := below_seq G65.out hb66
                refine hK.out _ _ ⟨G66.out, below_cell G66.out c0, below_cell G66.out c1, below_cell G66.out c2, below_cell G66.out c3, below_cell G66.out c4⟩ (fun hHeld => ?_)
                clear hK K hb66
                try simp only [List.set_cons_zero, List.set_cons_succ]
                refine wpAnyH_ready (rs := [13]) (by kernel_rfl) (by simp) ?_
                refine AllReadyH.cons rfl (fun K hK => ?_) AllReadyH.nil
                go_simp
                go_wp2_with (go_at_call 29; refine (HIt.out xm (by simp) _ (below_seq HBw.out G66.out)).mono ?_; rintro r v67 ⟨rfl, hb67⟩)
                have G67 : Hid (Below w4.heap.size w4 v67) := below_seq G66.out hb67
                refine hK.out _ _ ⟨G67.out, below_cell G67.out c0, below_cell G67.out c1, below_cell G67.out c2, below_cell G67.out c3, below_cell G67.out c4⟩ (fun hHeld => ?_)
                clear hK K hb67
                try simp only [List.set_cons_zero, List.set_cons_succ]
                refine wpAnyH_ready (rs := [16]) (by kernel_rfl) (by simp) ?_
                refine AllReadyH.cons rfl (fun K hK => ?_) AllReadyH.nil
                go_simp
                go_wp2_with (go_at_call 29; refine (HIt.out xn (by simp) _ (below_seq HBw.out G67.out)).mono ?_; rintro r v68 ⟨rfl, hb68⟩)
                have G68 : Hid (Below w4.heap.size w4 v68) := below_seq G67.out hb68
                refine hK.out _ _ ⟨G68.out, below_cell G68.out c0, below_cell G68.out c1, below_cell G68.out c2, below_cell G68.out c3, below_cell G68.out c4⟩ (fun hHeld => ?_)
                clear hK K hb68
                try simp only [List.set_cons_zero, List.set_cons_succ]
                refine wpAnyH_ready (rs := [17]) (by kernel_rfl) (by simp) ?_
                refine AllReadyH.cons rfl (fun K hK => ?_) AllReadyH.nil
                go_simp
                have G69 : Hid (Below w4.heap.size w4 (v68.alloc (.cells #[.string ⟨(Lib.itoa xa).toArray⟩, .string wb, .string ⟨(Lib.itoa xt).toArray⟩, .string ⟨(Lib.itoa xm).toArray⟩, .string ⟨(Lib.itoa xn).toArray⟩] 9))) := below_seq G68.out (below_new _ _)
                have F69 : Hid (w4.heap.size ≤ v68.heap.size ∧ (v68.alloc (.cells #[.string ⟨(Lib.itoa xa).toArray⟩, .string wb, .string ⟨(Lib.itoa xt).toArray⟩, .string ⟨(Lib.itoa xm).toArray⟩, .string ⟨(Lib.itoa xn).toArray⟩] 9)).heap[v68.heap.size]? = some (.cells #[.string ⟨(Lib.itoa xa).toArray⟩, .string wb, .string ⟨(Lib.itoa xt).toArray⟩, .string ⟨(Lib.itoa xm).toArray⟩, .string ⟨(Lib.itoa xn).toArray⟩] 9 (0, 0))) := ⟨G68.out.size, heap_alloc_new _ _⟩
                generalize (v68.alloc (.cells #[.string ⟨(Lib.itoa xa).toArray⟩, .string wb, .string ⟨(Lib.itoa xt).toArray⟩, .string ⟨(Lib.itoa xm).toArray⟩, .string ⟨(Lib.itoa xn).toArray⟩] 9)) = v69 at G69 F69 ⊢
                refine hK.out _ _ ⟨G69.out, below_cell G69.out c0, below_cell G69.out c1, below_cell G69.out c2, below_cell G69.out c3, below_cell G69.out c4⟩ (fun hHeld => ?_)
                clear hK K
                try simp only [List.set_cons_zero, List.set_cons_succ]
                refine take_at (i := 18) (n := 6) (v := ?_) rfl rfl (by kernel_rfl) (by kernel_rfl) (by kernel_rfl) (fun _ _ _ h => h) (Or.inl ⟨by rfl, ?_⟩) (by assumption) ?_
                rotate_left 1
                · intro wz hSw
                  obtain ⟨sb0, s0, s1, s2, s3, s4⟩ := hSw
                  first | (go_simp; done) | (go_simp; with_reducible rfl)
                simp only [List.set_cons_zero, List.set_cons_succ]
                refine wpAnyH_done (by kernel_rfl) ?_ _
                refine NoPanic.normal ?_
                clear hHeld
                go_wp2_with fail
                go_meet
                case rel => exact ⟨_, rfl, ⟨G69.out, F69.out.1, F69.out.2⟩⟩
          case rest =>
            obtain ⟨gw, rfl, H6⟩ := hcut
            obtain ⟨w5, hw5⟩ : ∃ w5, w5 = wc := ⟨_, rfl⟩
            subst hw5
            have d1 := below_cell H6.out.1 c1
            have lg5 : gt < w5.heap.size := World.block_lt_of_cell? _ _ d1
            have HB5 : Hid (Below w.heap.size w w5) := HBw.out.trans (H6.out.1.mono HBw.out.size)
            obtain ⟨PS, hPS⟩ : ∃ PS, PS = (partsB ⟨xa, (kn : Int), xt, xm, xn⟩).take 1 ++ wb :: (partsB ⟨xa, (kn : Int), xt, xm, xn⟩).drop 1 := ⟨_, rfl⟩
            have HPS : Hid (PS = (partsB ⟨xa, (kn : Int), xt, xm, xn⟩).take 1 ++ wb :: (partsB ⟨xa, (kn : Int), xt, xm, xn⟩).drop 1) := hPS
            go_upto_if 52 with fail
            go_cut [6] from 50 to 59 (fun v W => Hid (OwnS W w.heap.size v PS ∧ Below w.heap.size w W))
            case first =>
              by_cases h6 : (kn : Int) = 6
              · have hn6 : ((kn : Int) != 6) = false := by simpa using h6
                have hk6 : kn = 6 := by omega
                subst hk6
                go_wp2_with fail
                go_meet
                case rel =>
                  refine ⟨?_, HB5.out⟩
                  rw [hPS]
                  exact OwnS.mk (cap := 5) (rest := []) rfl (Nat.le_trans HBw.out.size H6.out.2.1) H6.out.2.2 (Nat.le_refl _) (by unfold maxLen; omega) rfl rfl
              · have hn6 : ((kn : Int) != 6) = true := by simpa using h6
                have hn7 : ¬ kn = 6 := by omega
                have hPS2 : PS = [⟨(Lib.itoa xa).toArray⟩, wb, ⟨(Lib.itoa xt).toArray⟩, ⟨(Lib.itoa xn).toArray⟩] := by
                  rw [hPS]
                  unfold partsB numsE
                  rw [if_neg h6]
                  rfl
                clear hPS
                have hPS := hPS2
                clear hPS2
                have HD : Hid (Below w.heap.size w w5.drew ∧ w5.drew.ownsRow w.heap.size 9 1 (.slice (some ⟨gw, 0, none⟩) 3 5) 3 [.string ⟨(Lib.itoa xa).toArray⟩, .string wb, .string ⟨(Lib.itoa xt).toArray⟩]) := ⟨HB5.out.drew, ⟨rfl, .inr ⟨gw, 5, _, rfl, Nat.le_trans HBw.out.size H6.out.2.1, H6.out.2.2, by omega, by unfold maxLen; omega, rfl, rfl⟩⟩⟩
                have c4w : w5.drew.cell? ⟨gw, 4, none⟩ = some (.string ⟨(Lib.itoa xn).toArray⟩) := (cells_of (l := [_, _, _, _, _]) H6.out.2.2).1 4 _ rfl
                have lgw : gw < w5.drew.heap.size := World.block_lt_of_cell? _ _ c4w
                go_upto_region 9 with fail
                refine wp_region_noPanic ?_
                refine wp_region_held_drew (S := fun w' => True) (by kernel_rfl) trivial (fun hHeld => ?_)
                generalize hwz : w5.drew = wz at *
                clear hwz
                refine take_at (i := 0) (n := 53) (v := ?_) rfl rfl (by kernel_rfl) (by kernel_rfl) (by kernel_rfl) (fun _ _ _ h => h) (Or.inl ⟨by rfl, ?_⟩) (by assumption) ?_
                rotate_left 1
                · intro wz hSw
                  clear hSw
                  first | (go_simp; done) | (go_simp; with_reducible rfl)
                simp only [List.set_cons_zero, List.set_cons_succ]
                refine take_at (i := 1) (n := 54) (v := ?_) rfl rfl (by kernel_rfl) (by kernel_rfl) (by kernel_rfl) (fun _ _ _ h => h) (Or.inl ⟨by rfl, ?_⟩) (by assumption) ?_
                rotate_left 1
                · intro wz hSw
                  clear hSw
                  first | (go_simp; done) | (go_simp; with_reducible rfl)
                simp only [List.set_cons_zero, List.set_cons_succ]
                refine take_at (i := 2) (n := 55) (v := ?_) rfl rfl (by kernel_rfl) (by kernel_rfl) (by kernel_rfl) (fun _ _ _ h => h) (Or.inl ⟨by rfl, ?_⟩) (by assumption) ?_
                rotate_left 1
                · intro wz hSw
                  clear hSw
                  first | (go_simp; done) | (go_simp; with_reducible rfl)
                simp only [List.set_cons_zero, List.set_cons_succ]
                refine take_at (i := 3) (n := 56) (v := ?_) rfl rfl (by kernel_rfl) (by kernel_rfl) (by kernel_rfl) (fun _ _ _ h => h) (Or.inl ⟨by rfl, ?_⟩) (by assumption) ?_
                rotate_left 1
                · intro wz hSw
                  clear hSw
                  first | (go_simp; done) | (go_simp; with_reducible rfl)
                simp only [List.set_cons_zero, List.set_cons_succ]
                refine wpAnyH_ready (rs := [4]) (by kernel_rfl) (by simp) ?_
                refine AllReadyH.cons rfl (fun K hK => ?_) AllReadyH.nil
                go_simp
                refine hK.out _ _ trivial (fun hHeld => ?_)
                clear hK K
                try simp only [List.set_cons_zero, List.set_cons_succ]
                refine wpAnyH_ready (rs := [5]) (by kernel_rfl) (by simp) ?_
                refine AllReadyH.cons rfl (fun K hK => ?_) AllReadyH.nil
                go_simp
                refine hK.out _ _ trivial (fun hHeld => ?_)
                clear hK K
                try simp only [List.set_cons_zero, List.set_cons_succ]
                obtain ⟨ad, cc, w9, hrun, h9, hb9, -⟩ := own_push (T := 60) (E := 9) (B := w.heap.size) Tryd.underlying60 infoSt rfl (by omega) HD.out.2 [.string ⟨(Lib.itoa xn).toArray⟩] rfl (fun u hu => by simp at hu; subst hu; rfl) (by omega) (by omega) HD.out.1.size
                have H9 : Hid (OwnS w9 w.heap.size (.slice ad (3 + 1) cc) PS ∧ Below w.heap.size w w9) := ⟨by rw [hPS]; exact h9, HD.out.1.trans hb9⟩
                clear h9 hb9
                refine wpAnyH_ready (rs := [6]) (by kernel_rfl) (by simp) ?_
                refine AllReadyH.cons rfl (fun K hK => ?_) AllReadyH.nil
                refine region_append rfl (.tmp 54) (.tmp 58) 60 rfl rfl rfl hrun ?_
                refine hK.out _ _ trivial (fun hHeld => ?_)
                clear hK K hrun
                simp only [Act.put, List.setIfInBounds_toArray]
                refine take_at (i := 7) (n := 6) (v := ?_) rfl rfl (by kernel_rfl) (by kernel_rfl) (by kernel_rfl) (fun _ _ _ h => h) (Or.inl ⟨by rfl, ?_⟩) (by assumption) ?_
                rotate_left 1
                · intro wz hSw
                  clear hSw
                  first | (go_simp; done) | (go_simp; with_reducible rfl)
                simp only [List.set_cons_zero, List.set_cons_succ]
                refine wpAnyH_done (by kernel_rfl) ?_ _
                refine NoPanic.normal ?_
                clear hHeld
                go_wp2_with fail
                go_meet
                case rel => exact H9
            case rest =>
              have H8 := hcut
              clear hcut
              obtain ⟨w6, hw6⟩ : ∃ w6, w6 = wc := ⟨_, rfl⟩
              subst hw6
              have hpi := partsB_is (e := ⟨xa, (kn : Int), xt, xm, xn⟩) HW5.out.2.2
              rw [← hPS] at hpi
              have hbl := body_len HW5.out.1 HX.out.2.1
              have hPl : 0 < PS.length ∧ PS.length ≤ 5 := by
                have h1 := numsE_max ⟨xa, (kn : Int), xt, xm, xn⟩
                rw [hPS]
                unfold partsB
                simp
                omega
              obtain ⟨g, cap, h1, hJ⟩ := join_own w6 w.heap.size u6 PS H8.out.1 hPl.1 (by omega) (by rw [hpi]; unfold bodyE at hbl; omega)
              subst h1
              rw [hpi] at hJ
              obtain ⟨bd, hbd⟩ : ∃ bd, bodyE ⟨xa, (kn : Int), xt, xm, xn⟩ = bd := ⟨_, rfl⟩
              have HBD : Hid (bodyE ⟨xa, (kn : Int), xt, xm, xn⟩ = bd) := hbd
              unfold bodyE at hbd
              rw [hbd] at hJ
              rw [HBD.out] at hbl
              have hob : ob.size ≤ 10100000 := by
                have q1 := congrArg List.length HB.out.1
                rw [size_list] at q1
                have q2 := lines_len (l.take j) (fun y hy => ⟨ok_stands HB.out.2.1 y hy, HV.out.2.2 y (List.mem_of_mem_take hy)⟩)
                have q3 : (l.take j).length ≤ 100000 := by rw [List.length_take]; omega
                omega
              have g1 : ¬ 9223372036854775807 < bd.length + 1 := by omega
              have g2 : ¬ 9223372036854775807 < ob.size + (bd.length + 1) := by omega
              have HOk : Hid (okFrom 0 (l.take (j + 1))) := (by rw [HX.out.2.2]; exact (okFrom_next _ _).2 ⟨HB.out.2.1, HFB.out⟩ : okFrom 0 (l.take (j + 1)))
              clear hbd hpi hPS hPl
              go_wp2_with (go_at_call 30; refine hJ.mono ?_; rintro r w7 ⟨rfl, hb7⟩; have H7 : Hid (Below w.heap.size w w7) := below_seq H8.out.2 hb7; clear hb7 hJ)
              refine ⟨⟨j + 1, _, by omega, rfl, by simp, ⟨?_, HOk.out, H7.out⟩⟩, by simp [intOf]; omega⟩
              rw [cat_list, cat_list, back_list, HB.out.1, HX.out.2.2, List.flatMap_append, List.flatMap_cons, List.flatMap_nil, List.append_nil]
              unfold lineE
              rw [HBD.out]
    · have hje : j = l.length := by omega
      subst hje
      rw [List.take_length] at HB
      have HE : Hid (ob = ⟨(printE l).toArray⟩) := by
        have h9 : ob = ⟨(printE l).toArray⟩ := bytes_same (by rw [back_list, print_all HB.out.2.1, HB.out.1])
        exact h9
      go_wp2_with fail
      go_ret
      exact ⟨by rw [HE.out]; rfl, HB.out.2.2⟩
end Go.Proofs.YtccoobcggbbciakDoor
