import Derived.Test.YtcmoehednkaehadDoorGMNew
namespace Go.Proofs.YtcmoehednkaehadDoor
open Go.ChangeShapes Go.WideShapes Go.ChangeAt Go.RowKit

theorem eight_of {vs : List Int} (h : vs.length = 8) : ∃ v0 v1 v2 v3 v4 v5 v6 v7, vs = [v0, v1, v2, v3, v4, v5, v6, v7] := by
  match vs, h with
  | [a, b, c, d, e, f, g, i], _ => exact ⟨a, b, c, d, e, f, g, i, rfl⟩
theorem four_of {vs : List Int} (h : vs.length = 4) : ∃ i0 i1 i2 i3, vs = [i0, i1, i2, i3] := by
  match vs, h with
  | [a, b, c, d], _ => exact ⟨a, b, c, d, rfl⟩

/-- What a machine is at first. -/
theorem MM.made {w : World} {l : List In} {iv ov : Value} {vs ins : List Int} (hv : vs.length = 8) (hi : ins.length = 4) (himg : ImgAt w w.heap.size l iv) (hops : OpsAt w w.heap.size ov) :
    MM (w.alloc (.cells (machVs iv vs ins [0, 0, 0, 0, 0, 0, 0, 0] (.slice none 0 0) (.slice none 0 0) 0 0 ov).toArray 87)) w.heap.size (w.heap.size + 1) l iv ov ins 0 (ms0 vs) (.slice none 0 0) (.slice none 0 0) := by
  refine ⟨heap_alloc_new _ _, ⟨rfl, .inl ⟨rfl, rfl⟩⟩, ⟨rfl, .inl ⟨rfl, rfl⟩⟩, (fun k hk => by cases hk), hv, hi, rfl, Nat.lt_succ_self _, by simp, himg.keep (fun k hk => (below_new w _).block k hk), hops.keep (fun k hk => (below_new w _).block k hk)⟩

theorem arr8 (w : World) (b o c : Nat) : (Instr.arrayAt 83 (.slice (some ⟨b, o, none⟩) 8 c)).run Tryd.prog w = .ok (.pointer (some ⟨b, o, none⟩)) w := by
  simp [Instr.arrayAt, run_underlying Tryd.underlying83, Result.andThen]
theorem arr4 (w : World) (b o c : Nat) : (Instr.arrayAt 84 (.slice (some ⟨b, o, none⟩) 4 c)).run Tryd.prog w = .ok (.pointer (some ⟨b, o, none⟩)) w := by
  simp [Instr.arrayAt, run_underlying Tryd.underlying84, Result.andThen]

theorem MM.same {w w' : World} {mb B : Nat} {l : List In} {iv ov : Value} {ins : List Int} {sp : Int} {s : MS} {sv pv : Value} (h : MM w mb B l iv ov ins sp s sv pv) (hh : ∀ k : Nat, w'.heap[k]? = w.heap[k]?) (hz : w'.heap.size = w.heap.size) : MM w' mb B l iv ov ins sp s sv pv :=
  ⟨(hh mb).trans h.blk, ownsRow_same h.stk (fun k _ _ => hh k), ownsRow_same h.pts (fun k _ _ => hh k), h.apt, h.lv, h.li, h.lc, h.nmb, by rw [hz]; exact h.bas, h.img.keep (fun k _ => hh k), h.ops.keep (fun k _ => hh k)⟩

/-- No fault is told where none was. -/
theorem no_fault {w : World} {g : Nat} (h : w.heap[g]? = some (.cells #[.int .i64 0, .int .i64 0] 37 (0, 0))) (k : Nat) : ((w.setCell ⟨g, 0, none⟩ (.int .i64 0)).setCell ⟨g, 1, none⟩ (.int .i64 0)).heap[k]? = w.heap[k]? := by
  by_cases e : k = g
  · subst e
    rw [setCell_at (setCell_at h), h]
    rfl
  · rw [Below.heap_setCell _ _ _ _ (by show k ≠ g; exact e), Below.heap_setCell _ _ _ _ (by show k ≠ g; exact e)]

/-- What New keeps while it makes. -/
abbrev KV (W : World) (b o b' o' : Nat) (v0 v1 v2 v3 v4 v5 v6 v7 i0 i1 i2 i3 : Int) : Prop := (W.cell? ⟨b, o, none⟩ = some (.int .i64 v0) ∧ W.cell? ⟨b, o + 1, none⟩ = some (.int .i64 v1) ∧ W.cell? ⟨b, o + 2, none⟩ = some (.int .i64 v2) ∧ W.cell? ⟨b, o + 3, none⟩ = some (.int .i64 v3) ∧ W.cell? ⟨b, o + 4, none⟩ = some (.int .i64 v4) ∧ W.cell? ⟨b, o + 5, none⟩ = some (.int .i64 v5) ∧ W.cell? ⟨b, o + 6, none⟩ = some (.int .i64 v6) ∧ W.cell? ⟨b, o + 7, none⟩ = some (.int .i64 v7)) ∧ W.cell? ⟨b', o', none⟩ = some (.int .i64 i0) ∧ W.cell? ⟨b', o' + 1, none⟩ = some (.int .i64 i1) ∧ W.cell? ⟨b', o' + 2, none⟩ = some (.int .i64 i2) ∧ W.cell? ⟨b', o' + 3, none⟩ = some (.int .i64 i3)

theorem KV.below {W W' : World} {b o b' o' : Nat} {v0 v1 v2 v3 v4 v5 v6 v7 i0 i1 i2 i3 : Int} (h : KV W b o b' o' v0 v1 v2 v3 v4 v5 v6 v7 i0 i1 i2 i3) (hb : Below W.heap.size W W') : KV W' b o b' o' v0 v1 v2 v3 v4 v5 v6 v7 i0 i1 i2 i3 :=
  ⟨⟨below_cell hb h.1.1, below_cell hb h.1.2.1, below_cell hb h.1.2.2.1, below_cell hb h.1.2.2.2.1, below_cell hb h.1.2.2.2.2.1, below_cell hb h.1.2.2.2.2.2.1, below_cell hb h.1.2.2.2.2.2.2.1, below_cell hb h.1.2.2.2.2.2.2.2⟩, below_cell hb h.2.1, below_cell hb h.2.2.1, below_cell hb h.2.2.2.1, below_cell hb h.2.2.2.2⟩

set_option maxRecDepth 20000 in
set_option maxHeartbeats 4000000 in
theorem New_ok (w : World) (l : List In) (iad : Option Addr) (ic : Nat) (vad nad : Option Addr) (vc nc : Nat) (vs ins : List Int) (hkk : KindsIn w) (h : InSl w l (.slice iad l.length ic)) (hnil : iad = none → l.length = 0 ∧ ic = 0) (k : Int) (hc : checkI l = (0, k)) (hl : l.length ≤ 100000) (hv : vs.length = 8) (hi : ins.length = 4) (hvs : IntSl w vs (.slice vad vs.length vc)) (hins : IntSl w ins (.slice nad ins.length nc)) :
    Calls Tryd.prog 42 #[.slice iad l.length ic, .slice vad 8 vc, .slice nad 4 nc] w fun r w' => ∃ mb iv ov, r = .returned (.tuple #[.pointer (some ⟨mb, 0, none⟩), .agg #[.int .i64 0, .int .i64 0]]) ∧ w.heap.size ≤ mb ∧ MM w' mb (mb + 1) l iv ov ins 0 (ms0 vs) (.slice none 0 0) (.slice none 0 0) ∧ Below w.heap.size w w' := by
  obtain ⟨vb, vo, rfl, hvr⟩ : ∃ b o, vad = some ⟨b, o, none⟩ ∧ ∀ j, j < vs.length → w.cell? ⟨b, o + j, none⟩ = some (.int .i64 (vs.getD j 0)) := by
    obtain ⟨ad, c, e, h0 | ⟨b, o, e2, h2⟩⟩ := hvs
    · rw [h0] at hv; simp at hv
    · cases e; exact ⟨b, o, e2, h2⟩
  obtain ⟨nb, no, rfl, hnr⟩ : ∃ b o, nad = some ⟨b, o, none⟩ ∧ ∀ j, j < ins.length → w.cell? ⟨b, o + j, none⟩ = some (.int .i64 (ins.getD j 0)) := by
    obtain ⟨ad, c, e, h0 | ⟨b, o, e2, h2⟩⟩ := hins
    · rw [h0] at hi; simp at hi
    · cases e; exact ⟨b, o, e2, h2⟩
  obtain ⟨v0, v1, v2, v3, v4, v5, v6, v7, rfl⟩ := eight_of hv
  obtain ⟨i0, i1, i2, i3, rfl⟩ := four_of hi
  have hkv : KV w vb vo nb no v0 v1 v2 v3 v4 v5 v6 v7 i0 i1 i2 i3 := ⟨⟨hvr 0 (by simp), hvr 1 (by simp), hvr 2 (by simp), hvr 3 (by simp), hvr 4 (by simp), hvr 5 (by simp), hvr 6 (by simp), hvr 7 (by simp)⟩, hnr 0 (by simp), hnr 1 (by simp), hnr 2 (by simp), hnr 3 (by simp)⟩
  have HK : Hid (KindsIn w ∧ (InSl w l (.slice iad l.length ic) ∧ (iad = none → l.length = 0 ∧ ic = 0)) ∧ checkI l = (0, k) ∧ KV w vb vo nb no v0 v1 v2 v3 v4 v5 v6 v7 i0 i1 i2 i3) := ⟨hkk, ⟨h, hnil⟩, hc, hkv⟩
  clear hkk h hc hvs hins hvr hnr hnil hkv
  have ha8 := fun W => arr8 W vb vo vc
  have ha4 := fun W => arr4 W nb no nc
  go_enter Tryd.func42, Tryd.ntmps42
  go_wp2_with (go_at_call 32; refine (Check_all _ l _ _ (HK.out.1.below (below_new _ _)) (HK.out.2.1.1.below (below_new _ _)) 0 k HK.out.2.2.1).mono ?_; rintro r w9 ⟨rfl, hb9⟩; have H9 : Hid (FB w w9 w.heap.size) := (FB.start w).grow hb9; obtain ⟨rs9, rf9, rl9⟩ := cells_of (l := [_, _]) H9.out.res; have r90 := rs9 0 _ rfl; have r91 := rs9 1 _ rfl; clear hb9 rs9)
  have H10 : Hid (FB w (w9.alloc (.cells #[.int .i64 0, .int .i64 k] 37)) w.heap.size) := H9.out.grow (below_new _ _)
  generalize hw1 : (w9.alloc (.cells #[.int .i64 0, .int .i64 k] 37)) = w1 at *
  clear hw1 H9 r90 r91 rf9 rl9
  have hS0 : KV w1.drew vb vo nb no v0 v1 v2 v3 v4 v5 v6 v7 i0 i1 i2 i3 := HK.out.2.2.2.below (below_seq H10.out.bel (Below.refl _ _).drew)
  refine wp_region_noPanic ?_
  refine wp_region_held_drew (S := fun w' => KV w' vb vo nb no v0 v1 v2 v3 v4 v5 v6 v7 i0 i1 i2 i3) (by kernel_rfl) hS0 (fun hHeld => ?_)
  refine take_at (i := 0) (n := 24) (v := ?_) rfl rfl (by kernel_rfl) (by kernel_rfl) (by kernel_rfl) (fun _ _ _ h => h) (Or.inl ⟨by rfl, ?_⟩) (by assumption) ?_
  rotate_left 1
  · intro wz hSw
    first | (go_simp; done) | (go_simp; with_reducible rfl)
  simp only [List.set_cons_zero, List.set_cons_succ]
  refine take_at (i := 2) (n := 26) (v := ?_) rfl rfl (by kernel_rfl) (by kernel_rfl) (by kernel_rfl) (fun _ _ _ h => h) (Or.inl ⟨by rfl, ?_⟩) (by assumption) ?_
  rotate_left 1
  · intro wz hSw
    first | (go_simp; done) | (go_simp; with_reducible rfl)
  simp only [List.set_cons_zero, List.set_cons_succ]
  refine take_at (i := 3) (n := 27) (v := ?_) rfl rfl (by kernel_rfl) (by kernel_rfl) (by kernel_rfl) (fun _ _ _ h => h) (Or.inl ⟨by rfl, ?_⟩) (by assumption) ?_
  rotate_left 1
  · intro wz hSw
    first | (go_simp; done) | (go_simp; with_reducible rfl)
  simp only [List.set_cons_zero, List.set_cons_succ]
  refine take_at (i := 4) (n := 28) (v := ?_) rfl rfl (by kernel_rfl) (by kernel_rfl) (by kernel_rfl) (fun _ _ _ h => h) (Or.inl ⟨by rfl, ?_⟩) (by assumption) ?_
  rotate_left 1
  · intro wz hSw
    first | (go_simp; done) | (go_simp; with_reducible rfl)
  simp only [List.set_cons_zero, List.set_cons_succ]
  refine take_at (i := 5) (n := 29) (v := ?_) rfl rfl (by kernel_rfl) (by kernel_rfl) (by kernel_rfl) (fun _ _ _ h => h) (Or.inl ⟨by rfl, ?_⟩) (by assumption) ?_
  rotate_left 1
  · intro wz hSw
    first | (go_simp; done) | (go_simp; with_reducible rfl)
  simp only [List.set_cons_zero, List.set_cons_succ]
  refine take_at (i := 6) (n := 30) (v := ?_) rfl rfl (by kernel_rfl) (by kernel_rfl) (by kernel_rfl) (fun _ _ _ h => h) (Or.inl ⟨by rfl, ?_⟩) (by assumption) ?_
  rotate_left 1
  · intro wz hSw
    first | (go_simp; done) | (go_simp; with_reducible rfl)
  simp only [List.set_cons_zero, List.set_cons_succ]
  refine take_at (i := 7) (n := 31) (v := ?_) rfl rfl (by kernel_rfl) (by kernel_rfl) (by kernel_rfl) (fun _ _ _ h => h) (Or.inl ⟨by rfl, ?_⟩) (by assumption) ?_
  rotate_left 1
  · intro wz hSw
    first | (go_simp; done) | (go_simp; with_reducible rfl)
  simp only [List.set_cons_zero, List.set_cons_succ]
  refine take_at (i := 11) (n := 35) (v := ?_) rfl rfl (by kernel_rfl) (by kernel_rfl) (by kernel_rfl) (fun _ _ _ h => h) (Or.inl ⟨by rfl, ?_⟩) (by assumption) ?_
  rotate_left 1
  · intro wz hSw
    first | (go_simp; done) | (go_simp; with_reducible rfl)
  simp only [List.set_cons_zero, List.set_cons_succ]
  refine wpAnyH_ready (rs := [1]) (by kernel_rfl) (by simp) ?_
  refine AllReadyH.cons rfl (fun K hK => ?_) AllReadyH.nil
  go_simp
  go_wp2_with (go_at_call 79; refine (cloneI_any _ l iad ic hl (HK.out.2.1.1.below (below_seq H10.out.bel (Below.refl _ _).drew)) HK.out.2.1.2).mono ?_; rintro r w2 ⟨iv, rfl, himg, hb2⟩; obtain ⟨ja, jc, e2⟩ : ∃ a c, iv = .slice a l.length c := (by obtain ⟨⟨a, c, e, -⟩, -⟩ := himg; exact ⟨a, c, e⟩); subst e2; have H2 : Hid (FB w w2 w.heap.size ∧ InSl w2 l (.slice ja l.length jc) ∧ ∀ ad n c, Value.slice ja l.length jc = .slice (some ad) n c → ad.block < w2.heap.size) := ⟨H10.out.grow (below_seq (Below.refl _ _).drew hb2), himg.1, fun ad n c e => (himg.2 ad n c e).2⟩; have hS2 := hS0.below hb2; clear himg hb2)
  refine hK.out _ _ hS2 (fun hHeld => ?_)
  clear hK K
  refine wpAnyH_ready (rs := [8]) (by kernel_rfl) (by simp) ?_
  refine AllReadyH.cons rfl (fun K hK => ?_) AllReadyH.nil
  go_simp
  go_wp2_with (go_at_call 80; refine (operators_any _).mono ?_; rintro r w3 ⟨ov, rfl, hop, hb3⟩; obtain ⟨jq, e3⟩ : ∃ q, ov = .map (some q) := (by obtain ⟨q, g, e, -⟩ := hop; exact ⟨q, e⟩); subst e3; have H3 : Hid (FB w w3 w.heap.size ∧ ImgAt w3 w3.heap.size l (.slice ja l.length jc) ∧ OpsAt w3 w3.heap.size (.map (some jq))) := ⟨H2.out.1.grow hb3, ⟨H2.out.2.1.below hb3, fun ad n c e => by have := H2.out.2.2 ad n c e; have := hb3.size; omega⟩, hop⟩; have hS3 := hS2.below hb3; clear hop hb3)
  refine hK.out _ _ hS3 (fun hHeld => ?_)
  clear hK K
  refine take_at (i := 9) (n := 33) (v := ?_) rfl rfl (by kernel_rfl) (by kernel_rfl) (by kernel_rfl) (fun _ _ _ h => h) (Or.inl ⟨by rfl, ?_⟩) (by assumption) ?_
  rotate_left 1
  · intro wz hSw
    first | (go_simp; done) | (go_simp; with_reducible rfl)
  simp only [List.set_cons_zero, List.set_cons_succ]
  refine wpAnyH_ready (rs := [10]) (by kernel_rfl) (by simp) ?_
  refine AllReadyH.cons rfl (fun K hK => ?_) AllReadyH.nil
  go_simp
  have H4 : Hid (FB w (w3.alloc (.cells #[.slice ja l.length jc, .int .i64 v0, .int .i64 v1, .int .i64 v2, .int .i64 v3, .int .i64 v4, .int .i64 v5, .int .i64 v6, .int .i64 v7, .int .i64 i0, .int .i64 i1, .int .i64 i2, .int .i64 i3, .int .i64 0, .int .i64 0, .int .i64 0, .int .i64 0, .int .i64 0, .int .i64 0, .int .i64 0, .int .i64 0, .slice none 0 0, .slice none 0 0, .int .i64 0, .int .i64 0, .map (some jq)] 87)) w.heap.size ∧ MM (w3.alloc (.cells #[.slice ja l.length jc, .int .i64 v0, .int .i64 v1, .int .i64 v2, .int .i64 v3, .int .i64 v4, .int .i64 v5, .int .i64 v6, .int .i64 v7, .int .i64 i0, .int .i64 i1, .int .i64 i2, .int .i64 i3, .int .i64 0, .int .i64 0, .int .i64 0, .int .i64 0, .int .i64 0, .int .i64 0, .int .i64 0, .int .i64 0, .slice none 0 0, .slice none 0 0, .int .i64 0, .int .i64 0, .map (some jq)] 87)) w3.heap.size (w3.heap.size + 1) l (.slice ja l.length jc) (.map (some jq)) [i0, i1, i2, i3] 0 (ms0 [v0, v1, v2, v3, v4, v5, v6, v7]) (.slice none 0 0) (.slice none 0 0)) := ⟨H3.out.1.grow (below_new _ _), MM.made (vs := [v0, v1, v2, v3, v4, v5, v6, v7]) (ins := [i0, i1, i2, i3]) rfl rfl H3.out.2.1 H3.out.2.2⟩
  have l3 : w.heap.size ≤ w3.heap.size := H3.out.1.bel.size
  have hS4 := hS3.below (below_new w3 (.cells #[.slice ja l.length jc, .int .i64 v0, .int .i64 v1, .int .i64 v2, .int .i64 v3, .int .i64 v4, .int .i64 v5, .int .i64 v6, .int .i64 v7, .int .i64 i0, .int .i64 i1, .int .i64 i2, .int .i64 i3, .int .i64 0, .int .i64 0, .int .i64 0, .int .i64 0, .int .i64 0, .int .i64 0, .int .i64 0, .int .i64 0, .slice none 0 0, .slice none 0 0, .int .i64 0, .int .i64 0, .map (some jq)] 87))
  refine hK.out _ _ hS4 (fun hHeld => ?_)
  clear hK K
  generalize hw4 : (w3.alloc (.cells #[.slice ja l.length jc, .int .i64 v0, .int .i64 v1, .int .i64 v2, .int .i64 v3, .int .i64 v4, .int .i64 v5, .int .i64 v6, .int .i64 v7, .int .i64 i0, .int .i64 i1, .int .i64 i2, .int .i64 i3, .int .i64 0, .int .i64 0, .int .i64 0, .int .i64 0, .int .i64 0, .int .i64 0, .int .i64 0, .int .i64 0, .slice none 0 0, .slice none 0 0, .int .i64 0, .int .i64 0, .map (some jq)] 87)) = w4 at *
  clear hw4
  refine take_at (i := 12) (n := 6) (v := ?_) rfl rfl (by kernel_rfl) (by kernel_rfl) (by kernel_rfl) (fun _ _ _ h => h) (Or.inl ⟨by rfl, ?_⟩) (by assumption) ?_
  rotate_left 1
  · intro wz hSw
    first | (go_simp; done) | (go_simp; with_reducible rfl)
  simp only [List.set_cons_zero, List.set_cons_succ]
  obtain ⟨rs9, rf9, rl9⟩ := cells_of (l := [_, _]) H4.out.1.res
  have r90 := rs9 0 _ rfl
  have r91 := rs9 1 _ rfl
  clear rs9
  refine wpAnyH_ready (rs := [13]) (by kernel_rfl) (by simp) ?_
  refine AllReadyH.cons rfl (fun K hK => ?_) AllReadyH.nil
  go_simp
  have hb6 : Below w.heap.size w ((w4.setCell ⟨w.heap.size, 0, none⟩ (.int .i64 0)).setCell ⟨w.heap.size, 1, none⟩ (.int .i64 0)) := (H4.out.1.bel.setCell (Nat.le_refl _) _).setCell (Nat.le_refl _) _
  refine hK.out _ _ (HK.out.2.2.2.below hb6) (fun hHeld => ?_)
  clear hK K
  refine wpAnyH_done (by kernel_rfl) ?_ _
  refine NoPanic.normal ?_
  go_wp2_with fail
  refine bodyPost_ret (v := .tuple #[.pointer (some ⟨w3.heap.size, 0, none⟩), .agg #[.int .i64 0, .int .i64 0]]) (New_ends ((no_fault H4.out.1.res _).trans H4.out.1.res) rfl rfl) rfl ?_
  exact ⟨_, _, _, rfl, l3, H4.out.2.same (no_fault H4.out.1.res) (by simp), hb6⟩
end Go.Proofs.YtcmoehednkaehadDoor
