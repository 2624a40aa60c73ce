import Derived.Test.YtkafihaajpifoagDoorLH
import Derived.Test.YtkafihaajpifoagDoorLJ
import Derived.Test.YtkafihaajpifoagDoorLQ
import Derived.Test.YtkafihaajpifoagDoorLT
import Derived.Test.YtkafihaajpifoagDoorLU
import Derived.Test.YtkafihaajpifoagDoorLV
namespace Go.Proofs.YtkafihaajpifoagDoor
open Go.ChangeShapes Go.WideShapes Go.ChangeAt Go.RowKit

def noA : Ac := ⟨-9, 0⟩

inductive Phase : Nat → Prop
  | mk (n : Nat) : Phase n

theorem lkOne_core {x y : Lj} (h : x.core = y.core) : lkOne x = lkOne y := by
  obtain ⟨xa, xp, xacts, xv⟩ := x
  obtain ⟨ya, yp, yacts, yv⟩ := y
  simp only [Lj.core, Prod.mk.injEq] at h
  obtain ⟨rfl, rfl, rfl⟩ := h
  rfl

theorem chkL_core : ∀ (a b : List Lj) (k : Nat), a.map Lj.core = b.map Lj.core → chkL a k = chkL b k
  | [], [], _, _ => rfl
  | [], _ :: _, _, h => by simp at h
  | _ :: _, [], _, h => by simp at h
  | x :: r, y :: s, k, h => by
    simp only [List.map_cons, List.cons.injEq] at h
    rw [chkL, chkL, lkOne_core h.1, chkL_core r s (k + 1) h.2]

theorem chkLk_core {a b : List Lj} (h : a.map Lj.core = b.map Lj.core) : chkLk a = chkLk b := by
  have hl : a.length = b.length := by simpa using congrArg List.length h
  unfold chkLk
  rw [hl, chkL_core a b 0 h]

theorem topL_core (m : Int) : ∀ (a b : List Lj) (z : Int), a.map Lj.core = b.map Lj.core → topL m a z = topL m b z
  | [], [], _, _ => rfl
  | [], _ :: _, _, h => by simp at h
  | _ :: _, [], _, h => by simp at h
  | x :: r, y :: s, z, h => by
    simp only [List.map_cons, List.cons.injEq] at h
    obtain ⟨xa, xp, xacts, xv⟩ := x
    obtain ⟨ya, yp, yacts, yv⟩ := y
    obtain ⟨h1, h2⟩ := h
    simp only [Lj.core, Prod.mk.injEq] at h1
    obtain ⟨rfl, rfl, rfl⟩ := h1
    rw [topL, topL, topL_core m r s _ h2]

theorem topsF_core {a b : List Lj} (h : a.map Lj.core = b.map Lj.core) : topsF a = topsF b := by
  unfold topsF
  rw [topL_core 0 a b _ h, topL_core 1 a b _ h, topL_core 2 a b _ h, topL_core 3 a b _ h]

theorem Lent.keepB {w w' : World} {l : List Ac} {m : Ac} {b o n cap : Nat} (h : Lent Ac.vals w l m (.slice (some ⟨b, o, none⟩) n cap)) (hk : w'.heap[b]? = w.heap[b]?) : Lent Ac.vals w' l m (.slice (some ⟨b, o, none⟩) n cap) := by
  obtain ⟨b', o', cap', e, h2, h3⟩ := h
  cases e
  exact ⟨b, o, cap, rfl, h2, fun q u hq => by rw [World.cell?_of_block hk]; exact h3 q u hq⟩

theorem Lent.ne {w : World} {l : List Ac} {m : Ac} {b o n cap g : Nat} {x y : Value} {T : TypeId} (h : Lent Ac.vals w l m (.slice (some ⟨b, o, none⟩) n cap)) (hg : w.heap[g]? = some (.cells #[x, y] T (0, 0))) : b ≠ g := by
  intro e
  subst e
  obtain ⟨b', o', cap', e, -, h3⟩ := h
  cases e
  have hlen : ((l ++ [m, m, m]).flatMap Ac.vals).length = (l.length + 3) * 2 := by rw [flat_length Ac.vals 2 Ac.len]; simp
  have h4 := h3 2 _ (List.getElem?_eq_getElem (by omega))
  unfold World.cell? at h4
  rw [hg] at h4
  simp at h4

theorem two_keep {W : World} {g k : Nat} {a b : Value} (h : k ≠ g) : ((W.setCell ⟨g, 0, none⟩ a).setCell ⟨g, 1, none⟩ b).heap[k]? = W.heap[k]? := by
  rw [Below.heap_setCell _ _ _ _ h, Below.heap_setCell _ _ _ _ h]

theorem AcAt.below {w w' : World} {b o : Nat} {x : Ac} (h : AcAt w b o x) (hb : Below w.heap.size w w') : AcAt w' b o x := ⟨below_cell hb h.1, below_cell hb h.2⟩

theorem chk_pair (v0 v1 : Value) : chkLk (pairL v0 v1) = (0, 0) := by kernel_rfl
theorem tops_pair (v0 v1 : Value) : topsF (pairL v0 v1) = [2, -1, -1, -1] := by kernel_rfl
theorem chk_acts : chkActs [⟨1, 1⟩, ⟨2, 0⟩, ⟨1, 3⟩, ⟨3, 0⟩] = (0, 0) := by kernel_rfl
theorem lon_acts : longF [⟨1, 1⟩, ⟨2, 0⟩, ⟨1, 3⟩, ⟨3, 0⟩] = 3 := by kernel_rfl
theorem field_f (W : World) (a b : Int) : (Instr.field 25 (.agg #[.int .i64 a, .int .i64 b]) 0).run Tryd.prog W = .ok (.int .i64 a) W := by kernel_rfl

/-- What the first job of the pair holds. -/
theorem pair_first {w : World} {v v0 v1 : Value} (h : LkSl w (pairL v0 v1) v) : ∃ b o c, v = .slice (some ⟨b, o, none⟩) 2 c ∧ b < w.heap.size ∧ w.cell? ⟨b, o + 2, none⟩ = some v0 ∧ RowSl Ac.vals w [⟨1, 1⟩, ⟨2, 0⟩, ⟨1, 3⟩, ⟨3, 0⟩] v0 := by
  obtain ⟨⟨ad, c, rfl, -, -, hr⟩, ha⟩ := h
  rcases hr with hr | ⟨b, o, rfl, hr⟩
  · simp [pairL] at hr
  · obtain ⟨-, -, c2⟩ := lj_at (j := 0) (x := ⟨0, 1, [⟨1, 1⟩, ⟨2, 0⟩, ⟨1, 3⟩, ⟨3, 0⟩], v0⟩) hr rfl
    simp only [Nat.zero_mul, Nat.add_zero] at c2
    exact ⟨b, o, c, rfl, World.block_lt_of_cell? _ _ c2, c2, ha ⟨0, 1, [⟨1, 1⟩, ⟨2, 0⟩, ⟨1, 3⟩, ⟨3, 0⟩], v0⟩ (by simp [pairL])⟩

/-- What is said of acts. -/
theorem acts_all (l : List Ac) : ∃ z1 z2 n : Int, (∀ W v, RowSl Ac.vals W l v → Calls Tryd.prog 16 #[v] W fun r w' => r = .returned (.agg #[.int .i64 z1, .int .i64 z2]) ∧ Below W.heap.size W w') ∧ (∀ W v, RowSl Ac.vals W l v → Calls Tryd.prog 13 #[v] W fun r w' => r = .returned (.tuple #[.int .i64 n, .agg #[.int .i64 z1, .int .i64 z2]]) ∧ Below W.heap.size W w') ∧ (∀ W v, RowSl Ac.vals W l v → Calls Tryd.prog 18 #[v] W fun r w' => r = .returned (.agg #[.int .i64 z1, .int .i64 z2]) ∧ Below W.heap.size W w') ∧ ((z1 = 0 ∧ ∀ W v, RowSl Ac.vals W l v → Calls Tryd.prog 17 #[v] W fun r w' => r = .returned (.int .i64 n) ∧ Below W.heap.size W w') ∨ (z1 ≠ 0 ∧ n = 0)) := by
  by_cases h : (chkActs l).1 = 0
  · have e := chkActs_zero h
    refine ⟨0, 0, longF l, fun W v hv => ?_, fun W v hv => Longest_good W l v hv e, fun W v hv => ?_, .inl ⟨rfl, fun W v hv => Stretch_any W l v hv e⟩⟩
    · have := CheckActs_any W l v hv
      rw [e] at this
      exact this
    · have := Check_any W l v hv
      rw [e] at this
      exact this
  · exact ⟨(chkActs l).1, (chkActs l).2, 0, fun W v hv => CheckActs_any W l v hv, fun W v hv => Longest_bad W l v hv h, fun W v hv => Check_any W l v hv, .inr ⟨h, rfl⟩⟩

/-- What is said of jobs. -/
theorem jobs_all (l : List Lj) : ∃ (y1 y2 : Int) (T : List Int), T.length ≤ 4 ∧ (∀ W v, LkSl W l v → Calls Tryd.prog 21 #[v] W fun r w' => r = .returned (.agg #[.int .i64 y1, .int .i64 y2]) ∧ Below W.heap.size W w') ∧ (∀ W v js, js.map Lj.core = l.map Lj.core → LkSl W js v → Calls Tryd.prog 11 #[v] W fun r w' => ∃ u, r = .returned (.tuple #[u, .agg #[.int .i64 y1, .int .i64 y2]]) ∧ RowSl nuV w' T u ∧ Below W.heap.size W w' ∧ ∀ k, u.ownBlock = some k → W.heap.size ≤ k) ∧ ((y1 = 0 ∧ ∀ W v, LkSl W l v → Calls Tryd.prog 22 #[v] W fun r w' => ∃ u, r = .returned u ∧ RowSl nuV w' T u ∧ Below W.heap.size W w') ∨ (y1 ≠ 0 ∧ T = [])) := by
  by_cases h : (chkLk l).1 = 0
  · have e := chkLk_zero h
    obtain ⟨h1, h2⟩ := chkLk_right h
    refine ⟨0, 0, topsF l, by simp [topsF], fun W v hv => ?_, fun W v js hjs hv => ?_, .inl ⟨rfl, fun W v hv => Tops_any W l v hv h1 (fun x hx => (h2 x hx).1)⟩⟩
    · have := CheckLocked_any W l v hv
      rw [e] at this
      exact this
    · rw [← topsF_core hjs]
      exact Ceilings_good W js v hv (by rw [chkLk_core hjs]; exact e)
  · refine ⟨(chkLk l).1, (chkLk l).2, [], by simp, fun W v hv => CheckLocked_any W l v hv, fun W v js hjs hv => ?_, .inr ⟨h, rfl⟩⟩
    have hc := chkLk_core hjs
    have := Ceilings_bad W js v hv (by rw [hc]; exact h)
    rw [hc] at this
    refine this.mono ?_
    rintro r w' ⟨rfl, hb⟩
    exact ⟨_, rfl, RowSl.nil _ _, hb, fun k hk => by cases hk⟩

set_option maxRecDepth 20000 in
set_option maxHeartbeats 4000000 in
theorem checks_walk (w : World) (l : List Ac) (js : List Lj) (v v2 : Value) (hs : ∀ x ∈ js, x.acts.length * 16 ≤ 140737488355328) (hg : AcAt w 1 0 noA) (hv : RowSl Ac.vals w l v) (hv2 : LkSl w js v2) :
    Calls Tryd.prog 4 #[v, v2] w fun r w' => r = .returned (.bool true) ∧ Below w.heap.size w w' := by
  obtain ⟨ad, c, rfl⟩ := hv.len
  obtain ⟨ad2, c2, rfl⟩ := hv2.1.len
  have HV : Hid ((∀ x ∈ js, x.acts.length * 16 ≤ 140737488355328) ∧ AcAt w 1 0 noA ∧ RowSl Ac.vals w l (.slice ad l.length c) ∧ LkSl w js (.slice ad2 js.length c2)) := ⟨hs, hg, hv, hv2⟩
  clear hs hg hv hv2
  have HL := LendA_any
  have HT := StillA_any
  unfold Ac.val at HL HT
  have hfd := fun W => field_f W 0 0
  have PH : Phase 1 := .mk 1
  go_enter Tryd.func4, Tryd.ntmps4
  go_wp2_with (go_at_call 12; guard_hyp PH : Phase 1; clear PH; have PH : Phase 2 := .mk 2; refine (pair_any _).mono ?_; rintro r w1 ⟨u1, p0, p1, rfl, hk1, hb1⟩; obtain ⟨pb, po, pc, rfl, -, -, -⟩ := pair_first hk1; have H1 : Hid (Below w.heap.size w w1 ∧ LkSl w1 (pairL p0 p1) (.slice (some ⟨pb, po, none⟩) 2 pc)) := ⟨hb1, hk1⟩; clear hk1 hb1)
  go_wp2_with (go_at_call 11; guard_hyp PH : Phase 2; clear PH; have PH : Phase 3 := .mk 3; refine (Ceilings_good w1 (pairL p0 p1) _ H1.out.2 (chk_pair _ _)).mono ?_; rintro r w2 ⟨u2, rfl, hu2, hb2, -⟩; rw [tops_pair] at hu2; obtain ⟨cad, cc, rfl⟩ := hu2.len; have H2 : Hid (Below w.heap.size w w2 ∧ RowSl nuV w2 [2, -1, -1, -1] (.slice cad 4 cc)) := ⟨below_seq H1.out.1 hb2, hu2⟩; clear hu2 hb2 H1)
  go_wp2_with (go_at_call 12; guard_hyp PH : Phase 3; clear PH; have PH : Phase 4 := .mk 4; refine (pair_any _).mono ?_; rintro r w3 ⟨u3, q0, q1, rfl, hk3, hb3⟩; obtain ⟨qb, qo, qc, rfl, qlt, qcell, qrow⟩ := pair_first hk3; obtain ⟨qa, qcc, rfl⟩ := qrow.len; have H3 : Hid (Below w.heap.size w w3 ∧ RowSl nuV w3 [2, -1, -1, -1] (.slice cad 4 cc) ∧ w3.heap[w2.heap.size]? = some (.cells #[.int .i64 0, .int .i64 0] 25 (0, 0)) ∧ RowSl Ac.vals w3 [⟨1, 1⟩, ⟨2, 0⟩, ⟨1, 3⟩, ⟨3, 0⟩] (.slice qa 4 qcc)) := ⟨below_seq H2.out.1 (below_seq (below_new _ _) hb3), H2.out.2.below (below_seq (below_new _ _) hb3), (hb3.block _ (by simp)).trans (heap_alloc_new _ _), qrow⟩; have h6low : w.heap.size ≤ w2.heap.size := H2.out.1.size; clear hk3 hb3 qrow H2)
  go_wp2_with (go_at_call 13; guard_hyp PH : Phase 4; clear PH; have PH : Phase 5 := .mk 5; refine (Longest_good w3 [⟨1, 1⟩, ⟨2, 0⟩, ⟨1, 3⟩, ⟨3, 0⟩] _ H3.out.2.2.2 chk_acts).mono ?_; rintro r w4 ⟨rfl, hb4⟩; rw [lon_acts]; have H4 : Hid (Below w.heap.size w w4 ∧ RowSl nuV w4 [2, -1, -1, -1] (.slice cad 4 cc) ∧ w4.heap[w2.heap.size]? = some (.cells #[.int .i64 0, .int .i64 0] 25 (0, 0))) := ⟨below_seq H3.out.1 hb4, H3.out.2.1.below hb4, (hb4.block _ (Array.getElem?_eq_some_iff.1 H3.out.2.2.1).1).trans H3.out.2.2.1⟩; obtain ⟨e6c, -, e6l⟩ := cells_of (l := [_, _]) H4.out.2.2; have e60 := e6c 0 _ rfl; clear hb4 e6c H3 qlt qcell)
  go_wp2_with (go_at_call 14; guard_hyp PH : Phase 5; clear PH; have PH : Phase 6 := .mk 6; refine (SameN_any _ [2, -1, -1, -1] _ _ (by decide) (H4.out.2.1.below (below_seq (below_new _ _) (below_new _ _))) (row_at (f := nuV) (w4.alloc (.cells #[.int .i64 0, .int .i64 0] 25)) (w4.heap.size + 1) [2, -1, -1, -1] 4 _ 3 (by simp) rfl rfl)).mono ?_; rintro r w5 ⟨rfl, hb5⟩; have H5 : Hid (Below w.heap.size w w5 ∧ w5.heap[w2.heap.size]? = some (.cells #[.int .i64 0, .int .i64 0] 25 (0, 0))) := ⟨below_seq H4.out.1 (below_seq (below_seq (below_new _ _) (below_new _ _)) hb5), ((below_seq (below_seq (below_new _ _) (below_new _ _)) hb5).block _ e6l).trans H4.out.2.2⟩; clear hb5 e60 e6l H4)
  by_cases hl : 5000 < l.length
  · have hl' : decide ((l.length : Int) ≤ 5000) = false := by simp; omega
    go_wp2_with (go_at_call 7; refine (few_any _ _).mono ?_; rintro r w6 ⟨rfl, rfl⟩; rw [hl'])
    go_ret
    exact ⟨rfl, H5.out.1⟩
  by_cases hl2 : 5000 < js.length
  · have hl' : decide ((l.length : Int) ≤ 5000) = true := by simp; omega
    have hl2' : decide ((js.length : Int) ≤ 5000) = false := by simp; omega
    go_wp2_with (go_at_call 7; refine (few_any _ _).mono ?_; rintro r w6 ⟨rfl, rfl⟩; first | rw [hl'] | rw [hl2'])
    go_ret
    exact ⟨rfl, H5.out.1⟩
  have hl' : decide ((l.length : Int) ≤ 5000) = true := by simp; omega
  have hl2' : decide ((js.length : Int) ≤ 5000) = true := by simp; omega
  obtain ⟨e0, e1⟩ := HV.out.2.1.below H5.out.1
  go_wp2_with (first | (go_at_call 7; refine (few_any _ _).mono ?_; rintro r w6 ⟨rfl, rfl⟩; first | rw [hl'] | rw [hl2']) | (go_at_call 15; guard_hyp PH : Phase 6; clear PH; have PH : Phase 7 := .mk 7; refine (HL _ l noA _ (by omega) (HV.out.2.2.1.below H5.out.1)).mono ?_; rintro r w7 ⟨u7, rfl, hlent, hb7⟩; have H7 : Hid (Below w.heap.size w w7 ∧ Lent Ac.vals w7 l noA u7 ∧ w7.heap[w2.heap.size]? = some (.cells #[.int .i64 0, .int .i64 0] 25 (0, 0))) := ⟨below_seq H5.out.1 hb7, hlent, (hb7.block _ (Array.getElem?_eq_some_iff.1 H5.out.2).1).trans H5.out.2⟩; clear hlent hb7 H5 e0 e1))
  obtain ⟨z1, z2, n, hCA, hLo, hCh, hSt⟩ := acts_all l
  obtain ⟨ub, uo, ucap, hu7, -⟩ := H7.out.2.1
  subst hu7
  have HAll : Hid (∀ W v, RowSl Ac.vals W l v → Calls Tryd.prog 13 #[v] W fun r w' => r = .returned (.tuple #[.int .i64 n, .agg #[.int .i64 z1, .int .i64 z2]]) ∧ Below W.heap.size W w') := hLo
  have HCh : Hid (∀ W v, RowSl Ac.vals W l v → Calls Tryd.prog 18 #[v] W fun r w' => r = .returned (.agg #[.int .i64 z1, .int .i64 z2]) ∧ Below W.heap.size W w') := hCh
  have HCA := hCA w7 (.slice ad l.length c) (HV.out.2.2.1.below H7.out.1)
  clear hCA hLo hCh
  rcases hSt with ⟨hz, hSt⟩ | ⟨hz, hn⟩
  · subst hz
    have HSt : Hid (∀ W v, RowSl Ac.vals W l v → Calls Tryd.prog 17 #[v] W fun r w' => r = .returned (.int .i64 n) ∧ Below W.heap.size W w') := hSt
    clear hSt
    go_wp2_with (first | (go_at_call 16; guard_hyp PH : Phase 7; clear PH; have PH : Phase 8 := .mk 8; refine HCA.mono ?_; rintro r w8 ⟨rfl, hb8⟩; have H8 : Hid (Below w.heap.size w w8 ∧ Lent Ac.vals w8 l noA (.slice (some ⟨ub, uo, none⟩) l.length ucap) ∧ w8.heap[w2.heap.size]? = some (.cells #[.int .i64 0, .int .i64 0] 25 (0, 0))) := ⟨below_seq H7.out.1 hb8, H7.out.2.1.below hb8, (hb8.block _ (Array.getElem?_eq_some_iff.1 H7.out.2.2).1).trans H7.out.2.2⟩; clear hb8 H7 HCA) | (go_at_call 17; guard_hyp PH : Phase 8; clear PH; have PH : Phase 9 := .mk 9; refine (HSt.out _ _ (HV.out.2.2.1.below (below_seq H8.out.1 (below_new _ _)))).mono ?_; rintro r w9 ⟨rfl, hb9⟩; have H9 : Hid (Below w.heap.size w w9 ∧ Lent Ac.vals w9 l noA (.slice (some ⟨ub, uo, none⟩) l.length ucap) ∧ w9.heap[w2.heap.size]? = some (.cells #[.int .i64 0, .int .i64 0] 25 (0, 0)) ∧ w9.heap[w8.heap.size]? = some (.cells #[.int .i64 0, .int .i64 z2] 25 (0, 0))) := ⟨below_seq H8.out.1 (below_seq (below_new _ _) hb9), H8.out.2.1.below (below_seq (below_new _ _) hb9), ((below_seq (below_new _ _) hb9).block _ (Array.getElem?_eq_some_iff.1 H8.out.2.2).1).trans H8.out.2.2, (hb9.block _ (by simp)).trans (heap_alloc_new _ _)⟩; have hb68 : w2.heap.size < w8.heap.size := (Array.getElem?_eq_some_iff.1 H8.out.2.2).1; clear hb9 H8))
    go_wp2_with (go_at_call 13; guard_hyp PH : Phase 9; clear PH; have PH : Phase 10 := .mk 10; refine (HAll.out _ _ H9.out.2.1.plain).mono ?_; rintro r wA ⟨rfl, hbA⟩; have HA : Hid (Below w.heap.size w wA ∧ Lent Ac.vals wA l noA (.slice (some ⟨ub, uo, none⟩) l.length ucap) ∧ wA.heap[w2.heap.size]? = some (.cells #[.int .i64 0, .int .i64 0] 25 (0, 0)) ∧ wA.heap[w8.heap.size]? = some (.cells #[.int .i64 0, .int .i64 z2] 25 (0, 0))) := ⟨below_seq H9.out.1 hbA, H9.out.2.1.below hbA, (hbA.block _ (Array.getElem?_eq_some_iff.1 H9.out.2.2.1).1).trans H9.out.2.2.1, (hbA.block _ (Array.getElem?_eq_some_iff.1 H9.out.2.2.2).1).trans H9.out.2.2.2⟩; obtain ⟨c6, f6, l6⟩ := cells_of (l := [_, _]) HA.out.2.2.1; have c60 := c6 0 _ rfl; have c61 := c6 1 _ rfl; have f60 := f6 0; have f61 := f6 1; clear hbA c6 f6 H9)
    have HE0 : Hid (Below w.heap.size w ((wA.setCell ⟨w2.heap.size, 0, none⟩ (.int .i64 0)).setCell ⟨w2.heap.size, 1, none⟩ (.int .i64 z2)) ∧ Lent Ac.vals ((wA.setCell ⟨w2.heap.size, 0, none⟩ (.int .i64 0)).setCell ⟨w2.heap.size, 1, none⟩ (.int .i64 z2)) l noA (.slice (some ⟨ub, uo, none⟩) l.length ucap) ∧ ((wA.setCell ⟨w2.heap.size, 0, none⟩ (.int .i64 0)).setCell ⟨w2.heap.size, 1, none⟩ (.int .i64 z2)).heap[w2.heap.size]? = some (.cells #[.int .i64 0, .int .i64 z2] 25 (0, 0)) ∧ ((wA.setCell ⟨w2.heap.size, 0, none⟩ (.int .i64 0)).setCell ⟨w2.heap.size, 1, none⟩ (.int .i64 z2)).heap[w8.heap.size]? = some (.cells #[.int .i64 0, .int .i64 z2] 25 (0, 0))) := ⟨(HA.out.1.setCell h6low _).setCell h6low _, HA.out.2.1.keepB (by rw [Below.heap_setCell _ _ _ _ (HA.out.2.1.ne HA.out.2.2.1), Below.heap_setCell _ _ _ _ (HA.out.2.1.ne HA.out.2.2.1)]), set_two HA.out.2.2.1, by rw [Below.heap_setCell _ _ _ _ (by show ¬ (w8.heap.size = w2.heap.size); omega), Below.heap_setCell _ _ _ _ (by show ¬ (w8.heap.size = w2.heap.size); omega)]; exact HA.out.2.2.2⟩
    generalize ((wA.setCell ⟨w2.heap.size, 0, none⟩ (.int .i64 0)).setCell ⟨w2.heap.size, 1, none⟩ (.int .i64 z2)) = wE at HE0 ⊢
    have HS : Hid (∀ W, Below wE.heap.size wE W → W.cell? ⟨w8.heap.size, 0, none⟩ = some (.int .i64 0) ∧ W.cell? ⟨w8.heap.size, 1, none⟩ = some (.int .i64 z2) ∧ W.cell? ⟨w2.heap.size, 0, none⟩ = some (.int .i64 0) ∧ W.cell? ⟨w2.heap.size, 1, none⟩ = some (.int .i64 z2) ∧ W.cell? ⟨1, 0, none⟩ = some (.int .i64 noA.d) ∧ W.cell? ⟨1, 1, none⟩ = some (.int .i64 noA.n)) := fun W hb => by
      obtain ⟨t0, t1⟩ := (HV.out.2.1.below HE0.out.1).below hb
      obtain ⟨x0, -, -⟩ := cells_of (l := [_, _]) HE0.out.2.2.1
      obtain ⟨y0, -, -⟩ := cells_of (l := [_, _]) HE0.out.2.2.2
      exact ⟨below_cell hb (y0 0 _ rfl), below_cell hb (y0 1 _ rfl), below_cell hb (x0 0 _ rfl), below_cell hb (x0 1 _ rfl), t0, t1⟩
    clear c60 c61 f60 f61 l6 HA
    refine wp_region_noPanic ?_
    refine wp_region_held_drew (S := fun w' => w'.cell? ⟨w8.heap.size, 0, none⟩ = some (.int .i64 0) ∧ w'.cell? ⟨w8.heap.size, 1, none⟩ = some (.int .i64 z2) ∧ w'.cell? ⟨w2.heap.size, 0, none⟩ = some (.int .i64 0) ∧ w'.cell? ⟨w2.heap.size, 1, none⟩ = some (.int .i64 z2) ∧ w'.cell? ⟨1, 0, none⟩ = some (.int .i64 noA.d) ∧ w'.cell? ⟨1, 1, none⟩ = some (.int .i64 noA.n)) (by kernel_rfl) (HS.out _ (Below.refl _ _).drew) (fun hHeld => ?_)
    refine take_at (i := 0) (n := 69) (v := ?_) rfl rfl (by kernel_rfl) (by kernel_rfl) (by kernel_rfl) (fun _ _ _ h => h) (Or.inl ⟨by rfl, ?_⟩) (by assumption) ?_
    rotate_left 1
    · intro wz hSw
      obtain ⟨s0, s1, s2, s3, s4, s5⟩ := hSw
      first | (go_simp; done) | (go_simp; with_reducible rfl)
    simp only [List.set_cons_zero, List.set_cons_succ]
    refine take_at (i := 2) (n := 71) (v := ?_) rfl rfl (by kernel_rfl) (by kernel_rfl) (by kernel_rfl) (fun _ _ _ h => h) (Or.inl ⟨by rfl, ?_⟩) (by assumption) ?_
    rotate_left 1
    · intro wz hSw
      obtain ⟨s0, s1, s2, s3, s4, s5⟩ := hSw
      first | (go_simp; done) | (go_simp; with_reducible rfl)
    simp only [List.set_cons_zero, List.set_cons_succ]
    refine wpAnyH_ready (rs := [1]) (by kernel_rfl) (by simp) ?_
    refine AllReadyH.cons rfl (fun K hK => ?_) AllReadyH.nil
    go_wp2_with (go_at_call 18; refine (HCh.out _ _ (HE0.out.2.1.below (Below.refl _ _).drew).plain).mono ?_; rintro r wB ⟨rfl, hbB⟩)
    have HB : Hid (Below wE.heap.size wE wB) := below_seq (Below.refl _ _).drew hbB
    refine hK.out _ _ (HS.out _ HB.out) (fun hHeld => ?_)
    clear hK K hbB
    refine take_at (i := 3) (n := 72) (v := ?_) rfl rfl (by kernel_rfl) (by kernel_rfl) (by kernel_rfl) (fun _ _ _ h => h) (Or.inl ⟨by rfl, ?_⟩) (by assumption) ?_
    rotate_left 1
    · intro wz hSw
      obtain ⟨s0, s1, s2, s3, s4, s5⟩ := hSw
      first | (go_simp; done) | (go_simp; with_reducible rfl)
    simp only [List.set_cons_zero, List.set_cons_succ]
    refine take_at (i := 4) (n := 73) (v := ?_) rfl rfl (by kernel_rfl) (by kernel_rfl) (by kernel_rfl) (fun _ _ _ h => h) (Or.inl ⟨by rfl, ?_⟩) (by assumption) ?_
    rotate_left 1
    · intro wz hSw
      obtain ⟨s0, s1, s2, s3, s4, s5⟩ := hSw
      first | (go_simp; done) | (go_simp; with_reducible rfl)
    simp only [List.set_cons_zero, List.set_cons_succ]
    refine take_at (i := 5) (n := 74) (v := ?_) rfl rfl (by kernel_rfl) (by kernel_rfl) (by kernel_rfl) (fun _ _ _ h => h) (Or.inl ⟨by rfl, ?_⟩) (by assumption) ?_
    rotate_left 1
    · intro wz hSw
      obtain ⟨s0, s1, s2, s3, s4, s5⟩ := hSw
      first | (go_simp; done) | (go_simp; with_reducible rfl)
    simp only [List.set_cons_zero, List.set_cons_succ]
    refine take_at (i := 6) (n := 75) (v := ?_) rfl rfl (by kernel_rfl) (by kernel_rfl) (by kernel_rfl) (fun _ _ _ h => h) (Or.inl ⟨by rfl, ?_⟩) (by assumption) ?_
    rotate_left 1
    · intro wz hSw
      obtain ⟨s0, s1, s2, s3, s4, s5⟩ := hSw
      first | (go_simp; done) | (go_simp; with_reducible rfl)
    simp only [List.set_cons_zero, List.set_cons_succ]
    refine take_at (i := 7) (n := 76) (v := ?_) rfl rfl (by kernel_rfl) (by kernel_rfl) (by kernel_rfl) (fun _ _ _ h => h) (Or.inl ⟨by rfl, ?_⟩) (by assumption) ?_
    rotate_left 1
    · intro wz hSw
      obtain ⟨s0, s1, s2, s3, s4, s5⟩ := hSw
      first | (go_simp; done) | (go_simp; with_reducible rfl)
    simp only [List.set_cons_zero, List.set_cons_succ]
    refine take_at (i := 8) (n := 77) (v := ?_) rfl rfl (by kernel_rfl) (by kernel_rfl) (by kernel_rfl) (fun _ _ _ h => h) (Or.inl ⟨by rfl, ?_⟩) (by assumption) ?_
    rotate_left 1
    · intro wz hSw
      obtain ⟨s0, s1, s2, s3, s4, s5⟩ := hSw
      first | (go_simp; done) | (go_simp; with_reducible rfl)
    simp only [List.set_cons_zero, List.set_cons_succ]
    refine take_at (i := 9) (n := 78) (v := ?_) rfl rfl (by kernel_rfl) (by kernel_rfl) (by kernel_rfl) (fun _ _ _ h => h) (Or.inl ⟨by rfl, ?_⟩) (by assumption) ?_
    rotate_left 1
    · intro wz hSw
      obtain ⟨s0, s1, s2, s3, s4, s5⟩ := hSw
      first | (go_simp; done) | (go_simp; with_reducible rfl)
    simp only [List.set_cons_zero, List.set_cons_succ]
    refine take_at (i := 10) (n := 79) (v := ?_) rfl rfl (by kernel_rfl) (by kernel_rfl) (by kernel_rfl) (fun _ _ _ h => h) (Or.inl ⟨by rfl, ?_⟩) (by assumption) ?_
    rotate_left 1
    · intro wz hSw
      obtain ⟨s0, s1, s2, s3, s4, s5⟩ := hSw
      first | (go_simp; done) | (go_simp; with_reducible rfl)
    simp only [List.set_cons_zero, List.set_cons_succ]
    refine take_at (i := 11) (n := 80) (v := ?_) rfl rfl (by kernel_rfl) (by kernel_rfl) (by kernel_rfl) (fun _ _ _ h => h) (Or.inl ⟨by rfl, ?_⟩) (by assumption) ?_
    rotate_left 1
    · intro wz hSw
      obtain ⟨s0, s1, s2, s3, s4, s5⟩ := hSw
      first | (go_simp; done) | (go_simp; with_reducible rfl)
    simp only [List.set_cons_zero, List.set_cons_succ]
    refine take_at (i := 12) (n := 81) (v := ?_) rfl rfl (by kernel_rfl) (by kernel_rfl) (by kernel_rfl) (fun _ _ _ h => h) (Or.inl ⟨by rfl, ?_⟩) (by assumption) ?_
    rotate_left 1
    · intro wz hSw
      obtain ⟨s0, s1, s2, s3, s4, s5⟩ := hSw
      first | (go_simp; done) | (go_simp; with_reducible rfl)
    simp only [List.set_cons_zero, List.set_cons_succ]
    refine take_at (i := 13) (n := 82) (v := ?_) rfl rfl (by kernel_rfl) (by kernel_rfl) (by kernel_rfl) (fun _ _ _ h => h) (Or.inl ⟨by rfl, ?_⟩) (by assumption) ?_
    rotate_left 1
    · intro wz hSw
      obtain ⟨s0, s1, s2, s3, s4, s5⟩ := hSw
      first | (go_simp; done) | (go_simp; with_reducible rfl)
    simp only [List.set_cons_zero, List.set_cons_succ]
    refine take_at (i := 14) (n := 83) (v := ?_) rfl rfl (by kernel_rfl) (by kernel_rfl) (by kernel_rfl) (fun _ _ _ h => h) (Or.inl ⟨by rfl, ?_⟩) (by assumption) ?_
    rotate_left 1
    · intro wz hSw
      obtain ⟨s0, s1, s2, s3, s4, s5⟩ := hSw
      first | (go_simp; done) | (go_simp; with_reducible rfl)
    simp only [List.set_cons_zero, List.set_cons_succ]
    refine take_at (i := 15) (n := 84) (v := ?_) rfl rfl (by kernel_rfl) (by kernel_rfl) (by kernel_rfl) (fun _ _ _ h => h) (Or.inl ⟨by rfl, ?_⟩) (by assumption) ?_
    rotate_left 1
    · intro wz hSw
      obtain ⟨s0, s1, s2, s3, s4, s5⟩ := hSw
      first | (go_simp; done) | (go_simp; with_reducible rfl)
    simp only [List.set_cons_zero, List.set_cons_succ]
    refine take_at (i := 16) (n := 85) (v := ?_) rfl rfl (by kernel_rfl) (by kernel_rfl) (by kernel_rfl) (fun _ _ _ h => h) (Or.inl ⟨by rfl, ?_⟩) (by assumption) ?_
    rotate_left 1
    · intro wz hSw
      obtain ⟨s0, s1, s2, s3, s4, s5⟩ := hSw
      first | (go_simp; done) | (go_simp; with_reducible rfl)
    simp only [List.set_cons_zero, List.set_cons_succ]
    refine take_at (i := 17) (n := 86) (v := ?_) rfl rfl (by kernel_rfl) (by kernel_rfl) (by kernel_rfl) (fun _ _ _ h => h) (Or.inl ⟨by rfl, ?_⟩) (by assumption) ?_
    rotate_left 1
    · intro wz hSw
      obtain ⟨s0, s1, s2, s3, s4, s5⟩ := hSw
      first | (go_simp; done) | (go_simp; with_reducible rfl)
    simp only [List.set_cons_zero, List.set_cons_succ]
    refine wpAnyH_ready (rs := [18]) (by kernel_rfl) (by simp) ?_
    refine AllReadyH.cons rfl (fun K hK => ?_) AllReadyH.nil
    go_simp
    go_wp2_with (go_at_call 19; refine (HT _ l noA _ _ (by omega) (HE0.out.2.1.below HB.out) (HV.out.2.2.1.below (below_seq HE0.out.1 HB.out))).mono ?_; rintro r wC ⟨rfl, hbC⟩)
    have HC : Hid (Below wE.heap.size wE wC) := below_seq HB.out hbC
    refine hK.out _ _ (HS.out _ HC.out) (fun hHeld => ?_)
    clear hK K hbC HB
    refine take_at (i := 19) (n := 88) (v := ?_) rfl rfl (by kernel_rfl) (by kernel_rfl) (by kernel_rfl) (fun _ _ _ h => h) (Or.inl ⟨by rfl, ?_⟩) (by assumption) ?_
    rotate_left 1
    · intro wz hSw
      obtain ⟨s0, s1, s2, s3, s4, s5⟩ := hSw
      first | (go_simp; done) | (go_simp; with_reducible rfl)
    simp only [List.set_cons_zero, List.set_cons_succ]
    refine take_at (i := 20) (n := 89) (v := ?_) rfl rfl (by kernel_rfl) (by kernel_rfl) (by kernel_rfl) (fun _ _ _ h => h) (Or.inl ⟨by rfl, ?_⟩) (by assumption) ?_
    rotate_left 1
    · intro wz hSw
      obtain ⟨s0, s1, s2, s3, s4, s5⟩ := hSw
      first | (go_simp; done) | (go_simp; with_reducible rfl)
    simp only [List.set_cons_zero, List.set_cons_succ]
    refine wpAnyH_done (by kernel_rfl) ?_ _
    refine NoPanic.normal ?_
    clear hHeld
    have HF : Hid (Below w.heap.size w wC ∧ wC.heap[w2.heap.size]? = some (.cells #[.int .i64 0, .int .i64 z2] 25 (0, 0)) ∧ wC.heap[w8.heap.size]? = some (.cells #[.int .i64 0, .int .i64 z2] 25 (0, 0))) := ⟨below_seq HE0.out.1 HC.out, (HC.out.block _ (Array.getElem?_eq_some_iff.1 HE0.out.2.2.1).1).trans HE0.out.2.2.1, (HC.out.block _ (Array.getElem?_eq_some_iff.1 HE0.out.2.2.2).1).trans HE0.out.2.2.2⟩
    clear HE0 HC HS
    obtain ⟨y1, y2, T, hT4, hCL, hCe, hTo⟩ := jobs_all js
    have HCL : Hid (∀ W v, LkSl W js v → Calls Tryd.prog 21 #[v] W fun r w' => r = .returned (.agg #[.int .i64 y1, .int .i64 y2]) ∧ Below W.heap.size W w') := hCL
    have HCe : Hid (∀ W v tw, tw.map Lj.core = js.map Lj.core → LkSl W tw v → Calls Tryd.prog 11 #[v] W fun r w' => ∃ u, r = .returned (.tuple #[u, .agg #[.int .i64 y1, .int .i64 y2]]) ∧ RowSl nuV w' T u ∧ Below W.heap.size W w' ∧ ∀ k, u.ownBlock = some k → W.heap.size ≤ k) := hCe
    clear hCL hCe
    rcases hTo with ⟨hy, hTo⟩ | ⟨hy, hT⟩
    · subst hy
      have HTo : Hid (∀ W v, LkSl W js v → Calls Tryd.prog 22 #[v] W fun r w' => ∃ u, r = .returned u ∧ RowSl nuV w' T u ∧ Below W.heap.size W w') := hTo
      clear hTo
      go_wp2_with (go_at_call 20; guard_hyp PH : Phase 10; clear PH; have PH : Phase 11 := .mk 11; refine (Acts_any _ js _ (by omega) HV.out.1 (HV.out.2.2.2.below HF.out.1)).mono ?_; rintro r wD ⟨u, tw, rfl, hcore, hlk, hbD, hlo, hlo2⟩; obtain ⟨tad, tc, hu⟩ := hlk.1.len; subst hu; have h10 : w8.heap.size < wC.heap.size := (Array.getElem?_eq_some_iff.1 HF.out.2.2).1; have HD : Hid (Below w.heap.size w wD ∧ wD.heap[w2.heap.size]? = some (.cells #[.int .i64 0, .int .i64 z2] 25 (0, 0)) ∧ wD.heap[w8.heap.size]? = some (.cells #[.int .i64 0, .int .i64 z2] 25 (0, 0)) ∧ LkSl wD tw (.slice tad tw.length tc) ∧ tw.map Lj.core = js.map Lj.core ∧ (∀ k, (Value.slice tad tw.length tc).ownBlock = some k → w8.heap.size < k) ∧ ∀ x ∈ tw, ∀ k, x.v.ownBlock = some k → w8.heap.size < k) := ⟨below_seq HF.out.1 hbD, (hbD.block _ (Array.getElem?_eq_some_iff.1 HF.out.2.1).1).trans HF.out.2.1, (hbD.block _ h10).trans HF.out.2.2, hlk, hcore, fun k hk => by have := hlo k hk; omega, fun x hx k hk => by have := hlo2 x hx k hk; omega⟩; clear hlk hcore hbD hlo hlo2 h10 HF)
      go_wp2_with (go_at_call 11; guard_hyp PH : Phase 11; clear PH; have PH : Phase 12 := .mk 12; refine (HCe.out _ _ tw HD.out.2.2.2.2.1 HD.out.2.2.2.1).mono ?_; rintro r wG ⟨u, rfl, hT, hbG, hlo⟩; obtain ⟨vad, vc, hu⟩ := hT.len; subst hu; have h10 : w8.heap.size < wD.heap.size := (Array.getElem?_eq_some_iff.1 HD.out.2.2.1).1; have HG : Hid (Below w.heap.size w wG ∧ wG.heap[w2.heap.size]? = some (.cells #[.int .i64 0, .int .i64 z2] 25 (0, 0)) ∧ wG.heap[w8.heap.size]? = some (.cells #[.int .i64 0, .int .i64 z2] 25 (0, 0)) ∧ LkSl wG tw (.slice tad tw.length tc) ∧ RowSl nuV wG T (.slice vad T.length vc) ∧ (∀ k, (Value.slice vad T.length vc).ownBlock = some k → w8.heap.size < k)) := ⟨below_seq HD.out.1 hbG, (hbG.block _ (Array.getElem?_eq_some_iff.1 HD.out.2.1).1).trans HD.out.2.1, (hbG.block _ h10).trans HD.out.2.2.1, HD.out.2.2.2.1.below hbG, hT, fun k hk => by have := hlo k hk; omega⟩; obtain ⟨c6, f6, l6⟩ := cells_of (l := [_, _]) HG.out.2.1; have c60 := c6 0 _ rfl; have c61 := c6 1 _ rfl; have f60 := f6 0; have f61 := f6 1; clear hT hbG hlo h10 c6 f6)
      have HG1 : Hid (Below w.heap.size w ((wG.setCell ⟨w2.heap.size, 0, none⟩ (.int .i64 0)).setCell ⟨w2.heap.size, 1, none⟩ (.int .i64 y2)) ∧ ((wG.setCell ⟨w2.heap.size, 0, none⟩ (.int .i64 0)).setCell ⟨w2.heap.size, 1, none⟩ (.int .i64 y2)).heap[w2.heap.size]? = some (.cells #[.int .i64 0, .int .i64 y2] 25 (0, 0)) ∧ ((wG.setCell ⟨w2.heap.size, 0, none⟩ (.int .i64 0)).setCell ⟨w2.heap.size, 1, none⟩ (.int .i64 y2)).heap[w8.heap.size]? = some (.cells #[.int .i64 0, .int .i64 z2] 25 (0, 0)) ∧ LkSl ((wG.setCell ⟨w2.heap.size, 0, none⟩ (.int .i64 0)).setCell ⟨w2.heap.size, 1, none⟩ (.int .i64 y2)) tw (.slice tad tw.length tc) ∧ RowSl nuV ((wG.setCell ⟨w2.heap.size, 0, none⟩ (.int .i64 0)).setCell ⟨w2.heap.size, 1, none⟩ (.int .i64 y2)) T (.slice vad T.length vc)) := ⟨(HG.out.1.setCell h6low _).setCell h6low _, set_two HG.out.2.1, (two_keep (by omega)).trans HG.out.2.2.1, ⟨HG.out.2.2.2.1.1.keep fun k hk => two_keep (by have := HD.out.2.2.2.2.2.1 k hk; omega), fun x hx => (HG.out.2.2.2.1.2 x hx).keep fun k hk => two_keep (by have := HD.out.2.2.2.2.2.2 x hx k hk; omega)⟩, HG.out.2.2.2.2.1.keep fun k hk => two_keep (by have := HG.out.2.2.2.2.2 k hk; omega)⟩
      go_wp2_with (go_at_call 21; guard_hyp PH : Phase 12; clear PH; have PH : Phase 13 := .mk 13; refine (HCL.out _ _ (HV.out.2.2.2.below HG1.out.1)).mono ?_; rintro r wH ⟨rfl, hbH⟩; have HH : Hid (Below w.heap.size w wH ∧ wH.heap[w2.heap.size]? = some (.cells #[.int .i64 0, .int .i64 y2] 25 (0, 0)) ∧ wH.heap[w8.heap.size]? = some (.cells #[.int .i64 0, .int .i64 z2] 25 (0, 0)) ∧ LkSl wH tw (.slice tad tw.length tc) ∧ RowSl nuV wH T (.slice vad T.length vc)) := ⟨below_seq HG1.out.1 hbH, (hbH.block _ (Array.getElem?_eq_some_iff.1 HG1.out.2.1).1).trans HG1.out.2.1, (hbH.block _ (Array.getElem?_eq_some_iff.1 HG1.out.2.2.1).1).trans HG1.out.2.2.1, HG1.out.2.2.2.1.below hbH, HG1.out.2.2.2.2.below hbH⟩; obtain ⟨x6, -, m6⟩ := cells_of (l := [_, _]) HH.out.2.1; have x60 := x6 0 _ rfl; have x61 := x6 1 _ rfl; obtain ⟨y10, g10, m10⟩ := cells_of (l := [_, _]) HH.out.2.2.1; have y100 := y10 0 _ rfl; have y101 := y10 1 _ rfl; have g100 := g10 0; have g101 := g10 1; clear hbH x6 y10 g10 c60 c61 f60 f61 l6 HG1)
      have h10low : w.heap.size ≤ w8.heap.size := by omega
      have HH1 : Hid (Below w.heap.size w ((wH.setCell ⟨w8.heap.size, 0, none⟩ (.int .i64 0)).setCell ⟨w8.heap.size, 1, none⟩ (.int .i64 y2)) ∧ LkSl ((wH.setCell ⟨w8.heap.size, 0, none⟩ (.int .i64 0)).setCell ⟨w8.heap.size, 1, none⟩ (.int .i64 y2)) tw (.slice tad tw.length tc) ∧ RowSl nuV ((wH.setCell ⟨w8.heap.size, 0, none⟩ (.int .i64 0)).setCell ⟨w8.heap.size, 1, none⟩ (.int .i64 y2)) T (.slice vad T.length vc)) := ⟨(HH.out.1.setCell h10low _).setCell h10low _, ⟨HH.out.2.2.2.1.1.keep fun k hk => two_keep (by have := HD.out.2.2.2.2.2.1 k hk; omega), fun x hx => (HH.out.2.2.2.1.2 x hx).keep fun k hk => two_keep (by have := HD.out.2.2.2.2.2.2 x hx k hk; omega)⟩, HH.out.2.2.2.2.keep fun k hk => two_keep (by have := HG.out.2.2.2.2.2 k hk; omega)⟩
      go_wp2_with (go_at_call 22; refine (HTo.out _ _ (HV.out.2.2.2.below HH1.out.1)).mono ?_; rintro r wI ⟨u, rfl, hT, hbI⟩; obtain ⟨iad, ic, hu⟩ := hT.len; subst hu; have HI : Hid (Below w.heap.size w wI ∧ LkSl wI tw (.slice tad tw.length tc) ∧ RowSl nuV wI T (.slice vad T.length vc) ∧ RowSl nuV wI T (.slice iad T.length ic)) := ⟨below_seq HH1.out.1 hbI, HH1.out.2.1.below hbI, HH1.out.2.2.below hbI, hT⟩; clear hT hbI)
      go_wp2_with (go_at_call 14; refine (SameN_any _ T _ _ (by omega) HI.out.2.2.1 HI.out.2.2.2).mono ?_; rintro r wJ ⟨rfl, hbJ⟩; have HJ : Hid (Below w.heap.size w wJ ∧ LkSl wJ tw (.slice tad tw.length tc)) := ⟨below_seq HI.out.1 hbJ, HI.out.2.1.below hbJ⟩; clear hbJ)
      go_wp2_with (go_at_call 23; refine (SameActs_any _ tw js _ _ (by omega) (fun x hx => by have := HV.out.1 x hx; omega) HD.out.2.2.2.2.1 HJ.out.2 (HV.out.2.2.2.below HJ.out.1)).mono ?_; rintro r wK ⟨rfl, hbK⟩; have HK : Hid (Below w.heap.size w wK) := below_seq HJ.out.1 hbK)
      go_ret
      exact ⟨rfl, HK.out⟩
    · subst hT
      have hyb : (y1 != 0) = true := by simpa using hy
      go_wp2_with (go_at_call 20; guard_hyp PH : Phase 10; clear PH; have PH : Phase 11 := .mk 11; refine (Acts_any _ js _ (by omega) HV.out.1 (HV.out.2.2.2.below HF.out.1)).mono ?_; rintro r wD ⟨u, tw, rfl, hcore, hlk, hbD, hlo, hlo2⟩; obtain ⟨tad, tc, hu⟩ := hlk.1.len; subst hu; have h10 : w8.heap.size < wC.heap.size := (Array.getElem?_eq_some_iff.1 HF.out.2.2).1; have HD : Hid (Below w.heap.size w wD ∧ wD.heap[w2.heap.size]? = some (.cells #[.int .i64 0, .int .i64 z2] 25 (0, 0)) ∧ wD.heap[w8.heap.size]? = some (.cells #[.int .i64 0, .int .i64 z2] 25 (0, 0)) ∧ LkSl wD tw (.slice tad tw.length tc) ∧ tw.map Lj.core = js.map Lj.core ∧ (∀ k, (Value.slice tad tw.length tc).ownBlock = some k → w8.heap.size < k) ∧ ∀ x ∈ tw, ∀ k, x.v.ownBlock = some k → w8.heap.size < k) := ⟨below_seq HF.out.1 hbD, (hbD.block _ (Array.getElem?_eq_some_iff.1 HF.out.2.1).1).trans HF.out.2.1, (hbD.block _ h10).trans HF.out.2.2, hlk, hcore, fun k hk => by have := hlo k hk; omega, fun x hx k hk => by have := hlo2 x hx k hk; omega⟩; clear hlk hcore hbD hlo hlo2 h10 HF)
      go_wp2_with (go_at_call 11; guard_hyp PH : Phase 11; clear PH; have PH : Phase 12 := .mk 12; refine (HCe.out _ _ tw HD.out.2.2.2.2.1 HD.out.2.2.2.1).mono ?_; rintro r wG ⟨u, rfl, hT, hbG, hlo⟩; obtain ⟨vad, vc, hu⟩ := hT.len; subst hu; have h10 : w8.heap.size < wD.heap.size := (Array.getElem?_eq_some_iff.1 HD.out.2.2.1).1; have HG : Hid (Below w.heap.size w wG ∧ wG.heap[w2.heap.size]? = some (.cells #[.int .i64 0, .int .i64 z2] 25 (0, 0)) ∧ wG.heap[w8.heap.size]? = some (.cells #[.int .i64 0, .int .i64 z2] 25 (0, 0)) ∧ LkSl wG tw (.slice tad tw.length tc) ∧ RowSl nuV wG [] (.slice vad 0 vc) ∧ (∀ k, (Value.slice vad 0 vc).ownBlock = some k → w8.heap.size < k)) := ⟨below_seq HD.out.1 hbG, (hbG.block _ (Array.getElem?_eq_some_iff.1 HD.out.2.1).1).trans HD.out.2.1, (hbG.block _ h10).trans HD.out.2.2.1, HD.out.2.2.2.1.below hbG, hT, fun k hk => by have := hlo k hk; omega⟩; obtain ⟨c6, f6, l6⟩ := cells_of (l := [_, _]) HG.out.2.1; have c60 := c6 0 _ rfl; have c61 := c6 1 _ rfl; have f60 := f6 0; have f61 := f6 1; clear hT hbG hlo h10 c6 f6)
      have HG1 : Hid (Below w.heap.size w ((wG.setCell ⟨w2.heap.size, 0, none⟩ (.int .i64 y1)).setCell ⟨w2.heap.size, 1, none⟩ (.int .i64 y2)) ∧ ((wG.setCell ⟨w2.heap.size, 0, none⟩ (.int .i64 y1)).setCell ⟨w2.heap.size, 1, none⟩ (.int .i64 y2)).heap[w2.heap.size]? = some (.cells #[.int .i64 y1, .int .i64 y2] 25 (0, 0)) ∧ ((wG.setCell ⟨w2.heap.size, 0, none⟩ (.int .i64 y1)).setCell ⟨w2.heap.size, 1, none⟩ (.int .i64 y2)).heap[w8.heap.size]? = some (.cells #[.int .i64 0, .int .i64 z2] 25 (0, 0)) ∧ LkSl ((wG.setCell ⟨w2.heap.size, 0, none⟩ (.int .i64 y1)).setCell ⟨w2.heap.size, 1, none⟩ (.int .i64 y2)) tw (.slice tad tw.length tc) ∧ RowSl nuV ((wG.setCell ⟨w2.heap.size, 0, none⟩ (.int .i64 y1)).setCell ⟨w2.heap.size, 1, none⟩ (.int .i64 y2)) [] (.slice vad 0 vc)) := ⟨(HG.out.1.setCell h6low _).setCell h6low _, set_two HG.out.2.1, (two_keep (by omega)).trans HG.out.2.2.1, ⟨HG.out.2.2.2.1.1.keep fun k hk => two_keep (by have := HD.out.2.2.2.2.2.1 k hk; omega), fun x hx => (HG.out.2.2.2.1.2 x hx).keep fun k hk => two_keep (by have := HD.out.2.2.2.2.2.2 x hx k hk; omega)⟩, HG.out.2.2.2.2.1.keep fun k hk => two_keep (by have := HG.out.2.2.2.2.2 k hk; omega)⟩
      go_wp2_with (go_at_call 21; guard_hyp PH : Phase 12; clear PH; have PH : Phase 13 := .mk 13; refine (HCL.out _ _ (HV.out.2.2.2.below HG1.out.1)).mono ?_; rintro r wH ⟨rfl, hbH⟩; have HH : Hid (Below w.heap.size w wH ∧ wH.heap[w2.heap.size]? = some (.cells #[.int .i64 y1, .int .i64 y2] 25 (0, 0)) ∧ wH.heap[w8.heap.size]? = some (.cells #[.int .i64 0, .int .i64 z2] 25 (0, 0)) ∧ LkSl wH tw (.slice tad tw.length tc) ∧ RowSl nuV wH [] (.slice vad 0 vc)) := ⟨below_seq HG1.out.1 hbH, (hbH.block _ (Array.getElem?_eq_some_iff.1 HG1.out.2.1).1).trans HG1.out.2.1, (hbH.block _ (Array.getElem?_eq_some_iff.1 HG1.out.2.2.1).1).trans HG1.out.2.2.1, HG1.out.2.2.2.1.below hbH, HG1.out.2.2.2.2.below hbH⟩; obtain ⟨x6, -, m6⟩ := cells_of (l := [_, _]) HH.out.2.1; have x60 := x6 0 _ rfl; have x61 := x6 1 _ rfl; obtain ⟨y10, g10, m10⟩ := cells_of (l := [_, _]) HH.out.2.2.1; have y100 := y10 0 _ rfl; have y101 := y10 1 _ rfl; have g100 := g10 0; have g101 := g10 1; clear hbH x6 y10 g10 c60 c61 f60 f61 l6 HG1)
      have h10low : w.heap.size ≤ w8.heap.size := by omega
      have HH1 : Hid (Below w.heap.size w ((wH.setCell ⟨w8.heap.size, 0, none⟩ (.int .i64 y1)).setCell ⟨w8.heap.size, 1, none⟩ (.int .i64 y2)) ∧ LkSl ((wH.setCell ⟨w8.heap.size, 0, none⟩ (.int .i64 y1)).setCell ⟨w8.heap.size, 1, none⟩ (.int .i64 y2)) tw (.slice tad tw.length tc) ∧ RowSl nuV ((wH.setCell ⟨w8.heap.size, 0, none⟩ (.int .i64 y1)).setCell ⟨w8.heap.size, 1, none⟩ (.int .i64 y2)) [] (.slice vad 0 vc)) := ⟨(HH.out.1.setCell h10low _).setCell h10low _, ⟨HH.out.2.2.2.1.1.keep fun k hk => two_keep (by have := HD.out.2.2.2.2.2.1 k hk; omega), fun x hx => (HH.out.2.2.2.1.2 x hx).keep fun k hk => two_keep (by have := HD.out.2.2.2.2.2.2 x hx k hk; omega)⟩, HH.out.2.2.2.2.keep fun k hk => two_keep (by have := HG.out.2.2.2.2.2 k hk; omega)⟩
      go_wp2_with (go_at_call 23; refine (SameActs_any _ tw js _ _ (by omega) (fun x hx => by have := HV.out.1 x hx; omega) HD.out.2.2.2.2.1 HH1.out.2.1 (HV.out.2.2.2.below HH1.out.1)).mono ?_; rintro r wK ⟨rfl, hbK⟩; have HK : Hid (Below w.heap.size w wK) := below_seq HH1.out.1 hbK)
      go_ret
      exact ⟨rfl, HK.out⟩
  · subst hn
    have hzb : (z1 == 0) = false := by simpa using hz
    go_wp2_with (go_at_call 16; guard_hyp PH : Phase 7; clear PH; have PH : Phase 9 := .mk 9; refine HCA.mono ?_; rintro r w8 ⟨rfl, hb8⟩; have H8 : Hid (Below w.heap.size w w8 ∧ Lent Ac.vals w8 l noA (.slice (some ⟨ub, uo, none⟩) l.length ucap) ∧ w8.heap[w2.heap.size]? = some (.cells #[.int .i64 0, .int .i64 0] 25 (0, 0))) := ⟨below_seq H7.out.1 hb8, H7.out.2.1.below hb8, (hb8.block _ (Array.getElem?_eq_some_iff.1 H7.out.2.2).1).trans H7.out.2.2⟩; clear hb8 H7 HCA)
    have H9 : Hid (Below w.heap.size w (w8.alloc (.cells #[.int .i64 z1, .int .i64 z2] 25)) ∧ Lent Ac.vals (w8.alloc (.cells #[.int .i64 z1, .int .i64 z2] 25)) l noA (.slice (some ⟨ub, uo, none⟩) l.length ucap) ∧ (w8.alloc (.cells #[.int .i64 z1, .int .i64 z2] 25)).heap[w2.heap.size]? = some (.cells #[.int .i64 0, .int .i64 0] 25 (0, 0)) ∧ (w8.alloc (.cells #[.int .i64 z1, .int .i64 z2] 25)).heap[w8.heap.size]? = some (.cells #[.int .i64 z1, .int .i64 z2] 25 (0, 0))) := ⟨below_seq H8.out.1 (below_new _ _), H8.out.2.1.below (below_new _ _), ((below_new _ _).block _ (Array.getElem?_eq_some_iff.1 H8.out.2.2).1).trans H8.out.2.2, heap_alloc_new _ _⟩
    have hb68 : w2.heap.size < w8.heap.size := (Array.getElem?_eq_some_iff.1 H8.out.2.2).1
    go_wp2_with (go_at_call 13; guard_hyp PH : Phase 9; clear PH; have PH : Phase 10 := .mk 10; refine (HAll.out _ _ H9.out.2.1.plain).mono ?_; rintro r wA ⟨rfl, hbA⟩; have HA : Hid (Below w.heap.size w wA ∧ Lent Ac.vals wA l noA (.slice (some ⟨ub, uo, none⟩) l.length ucap) ∧ wA.heap[w2.heap.size]? = some (.cells #[.int .i64 0, .int .i64 0] 25 (0, 0)) ∧ wA.heap[w8.heap.size]? = some (.cells #[.int .i64 z1, .int .i64 z2] 25 (0, 0))) := ⟨below_seq H9.out.1 hbA, H9.out.2.1.below hbA, (hbA.block _ (Array.getElem?_eq_some_iff.1 H9.out.2.2.1).1).trans H9.out.2.2.1, (hbA.block _ (Array.getElem?_eq_some_iff.1 H9.out.2.2.2).1).trans H9.out.2.2.2⟩; obtain ⟨c6, f6, l6⟩ := cells_of (l := [_, _]) HA.out.2.2.1; have c60 := c6 0 _ rfl; have c61 := c6 1 _ rfl; have f60 := f6 0; have f61 := f6 1; clear hbA c6 f6 H9)
    have HE0 : Hid (Below w.heap.size w ((wA.setCell ⟨w2.heap.size, 0, none⟩ (.int .i64 z1)).setCell ⟨w2.heap.size, 1, none⟩ (.int .i64 z2)) ∧ Lent Ac.vals ((wA.setCell ⟨w2.heap.size, 0, none⟩ (.int .i64 z1)).setCell ⟨w2.heap.size, 1, none⟩ (.int .i64 z2)) l noA (.slice (some ⟨ub, uo, none⟩) l.length ucap) ∧ ((wA.setCell ⟨w2.heap.size, 0, none⟩ (.int .i64 z1)).setCell ⟨w2.heap.size, 1, none⟩ (.int .i64 z2)).heap[w2.heap.size]? = some (.cells #[.int .i64 z1, .int .i64 z2] 25 (0, 0)) ∧ ((wA.setCell ⟨w2.heap.size, 0, none⟩ (.int .i64 z1)).setCell ⟨w2.heap.size, 1, none⟩ (.int .i64 z2)).heap[w8.heap.size]? = some (.cells #[.int .i64 z1, .int .i64 z2] 25 (0, 0))) := ⟨(HA.out.1.setCell h6low _).setCell h6low _, HA.out.2.1.keepB (by rw [Below.heap_setCell _ _ _ _ (HA.out.2.1.ne HA.out.2.2.1), Below.heap_setCell _ _ _ _ (HA.out.2.1.ne HA.out.2.2.1)]), set_two HA.out.2.2.1, by rw [Below.heap_setCell _ _ _ _ (by show ¬ (w8.heap.size = w2.heap.size); omega), Below.heap_setCell _ _ _ _ (by show ¬ (w8.heap.size = w2.heap.size); omega)]; exact HA.out.2.2.2⟩
    generalize ((wA.setCell ⟨w2.heap.size, 0, none⟩ (.int .i64 z1)).setCell ⟨w2.heap.size, 1, none⟩ (.int .i64 z2)) = wE at HE0 ⊢
    have HS : Hid (∀ W, Below wE.heap.size wE W → W.cell? ⟨w8.heap.size, 0, none⟩ = some (.int .i64 z1) ∧ W.cell? ⟨w8.heap.size, 1, none⟩ = some (.int .i64 z2) ∧ W.cell? ⟨w2.heap.size, 0, none⟩ = some (.int .i64 z1) ∧ W.cell? ⟨w2.heap.size, 1, none⟩ = some (.int .i64 z2) ∧ W.cell? ⟨1, 0, none⟩ = some (.int .i64 noA.d) ∧ W.cell? ⟨1, 1, none⟩ = some (.int .i64 noA.n)) := fun W hb => by
      obtain ⟨t0, t1⟩ := (HV.out.2.1.below HE0.out.1).below hb
      obtain ⟨x0, -, -⟩ := cells_of (l := [_, _]) HE0.out.2.2.1
      obtain ⟨y0, -, -⟩ := cells_of (l := [_, _]) HE0.out.2.2.2
      exact ⟨below_cell hb (y0 0 _ rfl), below_cell hb (y0 1 _ rfl), below_cell hb (x0 0 _ rfl), below_cell hb (x0 1 _ rfl), t0, t1⟩
    clear c60 c61 f60 f61 l6 HA
    refine wp_region_noPanic ?_
    refine wp_region_held_drew (S := fun w' => w'.cell? ⟨w8.heap.size, 0, none⟩ = some (.int .i64 z1) ∧ w'.cell? ⟨w8.heap.size, 1, none⟩ = some (.int .i64 z2) ∧ w'.cell? ⟨w2.heap.size, 0, none⟩ = some (.int .i64 z1) ∧ w'.cell? ⟨w2.heap.size, 1, none⟩ = some (.int .i64 z2) ∧ w'.cell? ⟨1, 0, none⟩ = some (.int .i64 noA.d) ∧ w'.cell? ⟨1, 1, none⟩ = some (.int .i64 noA.n)) (by kernel_rfl) (HS.out _ (Below.refl _ _).drew) (fun hHeld => ?_)
    refine take_at (i := 0) (n := 69) (v := ?_) rfl rfl (by kernel_rfl) (by kernel_rfl) (by kernel_rfl) (fun _ _ _ h => h) (Or.inl ⟨by rfl, ?_⟩) (by assumption) ?_
    rotate_left 1
    · intro wz hSw
      obtain ⟨s0, s1, s2, s3, s4, s5⟩ := hSw
      first | (go_simp; done) | (go_simp; with_reducible rfl)
    simp only [List.set_cons_zero, List.set_cons_succ]
    refine take_at (i := 2) (n := 71) (v := ?_) rfl rfl (by kernel_rfl) (by kernel_rfl) (by kernel_rfl) (fun _ _ _ h => h) (Or.inl ⟨by rfl, ?_⟩) (by assumption) ?_
    rotate_left 1
    · intro wz hSw
      obtain ⟨s0, s1, s2, s3, s4, s5⟩ := hSw
      first | (go_simp; done) | (go_simp; with_reducible rfl)
    simp only [List.set_cons_zero, List.set_cons_succ]
    refine wpAnyH_ready (rs := [1]) (by kernel_rfl) (by simp) ?_
    refine AllReadyH.cons rfl (fun K hK => ?_) AllReadyH.nil
    go_wp2_with (go_at_call 18; refine (HCh.out _ _ (HE0.out.2.1.below (Below.refl _ _).drew).plain).mono ?_; rintro r wB ⟨rfl, hbB⟩)
    have HB : Hid (Below wE.heap.size wE wB) := below_seq (Below.refl _ _).drew hbB
    refine hK.out _ _ (HS.out _ HB.out) (fun hHeld => ?_)
    clear hK K hbB
    refine take_at (i := 3) (n := 72) (v := ?_) rfl rfl (by kernel_rfl) (by kernel_rfl) (by kernel_rfl) (fun _ _ _ h => h) (Or.inl ⟨by rfl, ?_⟩) (by assumption) ?_
    rotate_left 1
    · intro wz hSw
      obtain ⟨s0, s1, s2, s3, s4, s5⟩ := hSw
      first | (go_simp; done) | (go_simp; with_reducible rfl)
    simp only [List.set_cons_zero, List.set_cons_succ]
    refine take_at (i := 4) (n := 73) (v := ?_) rfl rfl (by kernel_rfl) (by kernel_rfl) (by kernel_rfl) (fun _ _ _ h => h) (Or.inl ⟨by rfl, ?_⟩) (by assumption) ?_
    rotate_left 1
    · intro wz hSw
      obtain ⟨s0, s1, s2, s3, s4, s5⟩ := hSw
      first | (go_simp; done) | (go_simp; with_reducible rfl)
    simp only [List.set_cons_zero, List.set_cons_succ]
    refine take_at (i := 5) (n := 74) (v := ?_) rfl rfl (by kernel_rfl) (by kernel_rfl) (by kernel_rfl) (fun _ _ _ h => h) (Or.inl ⟨by rfl, ?_⟩) (by assumption) ?_
    rotate_left 1
    · intro wz hSw
      obtain ⟨s0, s1, s2, s3, s4, s5⟩ := hSw
      first | (go_simp; done) | (go_simp; with_reducible rfl)
    simp only [List.set_cons_zero, List.set_cons_succ]
    refine take_at (i := 6) (n := 75) (v := ?_) rfl rfl (by kernel_rfl) (by kernel_rfl) (by kernel_rfl) (fun _ _ _ h => h) (Or.inl ⟨by rfl, ?_⟩) (by assumption) ?_
    rotate_left 1
    · intro wz hSw
      obtain ⟨s0, s1, s2, s3, s4, s5⟩ := hSw
      first | (go_simp; done) | (go_simp; with_reducible rfl)
    simp only [List.set_cons_zero, List.set_cons_succ]
    refine take_at (i := 7) (n := 76) (v := ?_) rfl rfl (by kernel_rfl) (by kernel_rfl) (by kernel_rfl) (fun _ _ _ h => h) (Or.inl ⟨by rfl, ?_⟩) (by assumption) ?_
    rotate_left 1
    · intro wz hSw
      obtain ⟨s0, s1, s2, s3, s4, s5⟩ := hSw
      first | (go_simp; done) | (go_simp; with_reducible rfl)
    simp only [List.set_cons_zero, List.set_cons_succ]
    refine take_at (i := 8) (n := 77) (v := ?_) rfl rfl (by kernel_rfl) (by kernel_rfl) (by kernel_rfl) (fun _ _ _ h => h) (Or.inl ⟨by rfl, ?_⟩) (by assumption) ?_
    rotate_left 1
    · intro wz hSw
      obtain ⟨s0, s1, s2, s3, s4, s5⟩ := hSw
      first | (go_simp; done) | (go_simp; with_reducible rfl)
    simp only [List.set_cons_zero, List.set_cons_succ]
    refine take_at (i := 9) (n := 78) (v := ?_) rfl rfl (by kernel_rfl) (by kernel_rfl) (by kernel_rfl) (fun _ _ _ h => h) (Or.inl ⟨by rfl, ?_⟩) (by assumption) ?_
    rotate_left 1
    · intro wz hSw
      obtain ⟨s0, s1, s2, s3, s4, s5⟩ := hSw
      first | (go_simp; done) | (go_simp; with_reducible rfl)
    simp only [List.set_cons_zero, List.set_cons_succ]
    refine take_at (i := 10) (n := 79) (v := ?_) rfl rfl (by kernel_rfl) (by kernel_rfl) (by kernel_rfl) (fun _ _ _ h => h) (Or.inl ⟨by rfl, ?_⟩) (by assumption) ?_
    rotate_left 1
    · intro wz hSw
      obtain ⟨s0, s1, s2, s3, s4, s5⟩ := hSw
      first | (go_simp; done) | (go_simp; with_reducible rfl)
    simp only [List.set_cons_zero, List.set_cons_succ]
    refine take_at (i := 11) (n := 80) (v := ?_) rfl rfl (by kernel_rfl) (by kernel_rfl) (by kernel_rfl) (fun _ _ _ h => h) (Or.inl ⟨by rfl, ?_⟩) (by assumption) ?_
    rotate_left 1
    · intro wz hSw
      obtain ⟨s0, s1, s2, s3, s4, s5⟩ := hSw
      first | (go_simp; done) | (go_simp; with_reducible rfl)
    simp only [List.set_cons_zero, List.set_cons_succ]
    refine take_at (i := 12) (n := 81) (v := ?_) rfl rfl (by kernel_rfl) (by kernel_rfl) (by kernel_rfl) (fun _ _ _ h => h) (Or.inl ⟨by rfl, ?_⟩) (by assumption) ?_
    rotate_left 1
    · intro wz hSw
      obtain ⟨s0, s1, s2, s3, s4, s5⟩ := hSw
      first | (go_simp; done) | (go_simp; with_reducible rfl)
    simp only [List.set_cons_zero, List.set_cons_succ]
    refine take_at (i := 13) (n := 82) (v := ?_) rfl rfl (by kernel_rfl) (by kernel_rfl) (by kernel_rfl) (fun _ _ _ h => h) (Or.inl ⟨by rfl, ?_⟩) (by assumption) ?_
    rotate_left 1
    · intro wz hSw
      obtain ⟨s0, s1, s2, s3, s4, s5⟩ := hSw
      first | (go_simp; done) | (go_simp; with_reducible rfl)
    simp only [List.set_cons_zero, List.set_cons_succ]
    refine take_at (i := 14) (n := 83) (v := ?_) rfl rfl (by kernel_rfl) (by kernel_rfl) (by kernel_rfl) (fun _ _ _ h => h) (Or.inl ⟨by rfl, ?_⟩) (by assumption) ?_
    rotate_left 1
    · intro wz hSw
      obtain ⟨s0, s1, s2, s3, s4, s5⟩ := hSw
      first | (go_simp; done) | (go_simp; with_reducible rfl)
    simp only [List.set_cons_zero, List.set_cons_succ]
    refine take_at (i := 15) (n := 84) (v := ?_) rfl rfl (by kernel_rfl) (by kernel_rfl) (by kernel_rfl) (fun _ _ _ h => h) (Or.inl ⟨by rfl, ?_⟩) (by assumption) ?_
    rotate_left 1
    · intro wz hSw
      obtain ⟨s0, s1, s2, s3, s4, s5⟩ := hSw
      first | (go_simp; done) | (go_simp; with_reducible rfl)
    simp only [List.set_cons_zero, List.set_cons_succ]
    refine take_at (i := 16) (n := 85) (v := ?_) rfl rfl (by kernel_rfl) (by kernel_rfl) (by kernel_rfl) (fun _ _ _ h => h) (Or.inl ⟨by rfl, ?_⟩) (by assumption) ?_
    rotate_left 1
    · intro wz hSw
      obtain ⟨s0, s1, s2, s3, s4, s5⟩ := hSw
      first | (go_simp; done) | (go_simp; with_reducible rfl)
    simp only [List.set_cons_zero, List.set_cons_succ]
    refine take_at (i := 17) (n := 86) (v := ?_) rfl rfl (by kernel_rfl) (by kernel_rfl) (by kernel_rfl) (fun _ _ _ h => h) (Or.inl ⟨by rfl, ?_⟩) (by assumption) ?_
    rotate_left 1
    · intro wz hSw
      obtain ⟨s0, s1, s2, s3, s4, s5⟩ := hSw
      first | (go_simp; done) | (go_simp; with_reducible rfl)
    simp only [List.set_cons_zero, List.set_cons_succ]
    refine wpAnyH_ready (rs := [18]) (by kernel_rfl) (by simp) ?_
    refine AllReadyH.cons rfl (fun K hK => ?_) AllReadyH.nil
    go_simp
    go_wp2_with (go_at_call 19; refine (HT _ l noA _ _ (by omega) (HE0.out.2.1.below HB.out) (HV.out.2.2.1.below (below_seq HE0.out.1 HB.out))).mono ?_; rintro r wC ⟨rfl, hbC⟩)
    have HC : Hid (Below wE.heap.size wE wC) := below_seq HB.out hbC
    refine hK.out _ _ (HS.out _ HC.out) (fun hHeld => ?_)
    clear hK K hbC HB
    refine take_at (i := 19) (n := 88) (v := ?_) rfl rfl (by kernel_rfl) (by kernel_rfl) (by kernel_rfl) (fun _ _ _ h => h) (Or.inl ⟨by rfl, ?_⟩) (by assumption) ?_
    rotate_left 1
    · intro wz hSw
      obtain ⟨s0, s1, s2, s3, s4, s5⟩ := hSw
      first | (go_simp; done) | (go_simp; with_reducible rfl)
    simp only [List.set_cons_zero, List.set_cons_succ]
    refine take_at (i := 20) (n := 89) (v := ?_) rfl rfl (by kernel_rfl) (by kernel_rfl) (by kernel_rfl) (fun _ _ _ h => h) (Or.inl ⟨by rfl, ?_⟩) (by assumption) ?_
    rotate_left 1
    · intro wz hSw
      obtain ⟨s0, s1, s2, s3, s4, s5⟩ := hSw
      first | (go_simp; done) | (go_simp; with_reducible rfl)
    simp only [List.set_cons_zero, List.set_cons_succ]
    refine wpAnyH_done (by kernel_rfl) ?_ _
    refine NoPanic.normal ?_
    clear hHeld
    have HF : Hid (Below w.heap.size w wC ∧ wC.heap[w2.heap.size]? = some (.cells #[.int .i64 z1, .int .i64 z2] 25 (0, 0)) ∧ wC.heap[w8.heap.size]? = some (.cells #[.int .i64 z1, .int .i64 z2] 25 (0, 0))) := ⟨below_seq HE0.out.1 HC.out, (HC.out.block _ (Array.getElem?_eq_some_iff.1 HE0.out.2.2.1).1).trans HE0.out.2.2.1, (HC.out.block _ (Array.getElem?_eq_some_iff.1 HE0.out.2.2.2).1).trans HE0.out.2.2.2⟩
    clear HE0 HC HS
    obtain ⟨y1, y2, T, hT4, hCL, hCe, hTo⟩ := jobs_all js
    have HCL : Hid (∀ W v, LkSl W js v → Calls Tryd.prog 21 #[v] W fun r w' => r = .returned (.agg #[.int .i64 y1, .int .i64 y2]) ∧ Below W.heap.size W w') := hCL
    have HCe : Hid (∀ W v tw, tw.map Lj.core = js.map Lj.core → LkSl W tw v → Calls Tryd.prog 11 #[v] W fun r w' => ∃ u, r = .returned (.tuple #[u, .agg #[.int .i64 y1, .int .i64 y2]]) ∧ RowSl nuV w' T u ∧ Below W.heap.size W w' ∧ ∀ k, u.ownBlock = some k → W.heap.size ≤ k) := hCe
    clear hCL hCe
    rcases hTo with ⟨hy, hTo⟩ | ⟨hy, hT⟩
    · subst hy
      have HTo : Hid (∀ W v, LkSl W js v → Calls Tryd.prog 22 #[v] W fun r w' => ∃ u, r = .returned u ∧ RowSl nuV w' T u ∧ Below W.heap.size W w') := hTo
      clear hTo
      go_wp2_with (go_at_call 20; guard_hyp PH : Phase 10; clear PH; have PH : Phase 11 := .mk 11; refine (Acts_any _ js _ (by omega) HV.out.1 (HV.out.2.2.2.below HF.out.1)).mono ?_; rintro r wD ⟨u, tw, rfl, hcore, hlk, hbD, hlo, hlo2⟩; obtain ⟨tad, tc, hu⟩ := hlk.1.len; subst hu; have h10 : w8.heap.size < wC.heap.size := (Array.getElem?_eq_some_iff.1 HF.out.2.2).1; have HD : Hid (Below w.heap.size w wD ∧ wD.heap[w2.heap.size]? = some (.cells #[.int .i64 z1, .int .i64 z2] 25 (0, 0)) ∧ wD.heap[w8.heap.size]? = some (.cells #[.int .i64 z1, .int .i64 z2] 25 (0, 0)) ∧ LkSl wD tw (.slice tad tw.length tc) ∧ tw.map Lj.core = js.map Lj.core ∧ (∀ k, (Value.slice tad tw.length tc).ownBlock = some k → w8.heap.size < k) ∧ ∀ x ∈ tw, ∀ k, x.v.ownBlock = some k → w8.heap.size < k) := ⟨below_seq HF.out.1 hbD, (hbD.block _ (Array.getElem?_eq_some_iff.1 HF.out.2.1).1).trans HF.out.2.1, (hbD.block _ h10).trans HF.out.2.2, hlk, hcore, fun k hk => by have := hlo k hk; omega, fun x hx k hk => by have := hlo2 x hx k hk; omega⟩; clear hlk hcore hbD hlo hlo2 h10 HF)
      go_wp2_with (go_at_call 11; guard_hyp PH : Phase 11; clear PH; have PH : Phase 12 := .mk 12; refine (HCe.out _ _ tw HD.out.2.2.2.2.1 HD.out.2.2.2.1).mono ?_; rintro r wG ⟨u, rfl, hT, hbG, hlo⟩; obtain ⟨vad, vc, hu⟩ := hT.len; subst hu; have h10 : w8.heap.size < wD.heap.size := (Array.getElem?_eq_some_iff.1 HD.out.2.2.1).1; have HG : Hid (Below w.heap.size w wG ∧ wG.heap[w2.heap.size]? = some (.cells #[.int .i64 z1, .int .i64 z2] 25 (0, 0)) ∧ wG.heap[w8.heap.size]? = some (.cells #[.int .i64 z1, .int .i64 z2] 25 (0, 0)) ∧ LkSl wG tw (.slice tad tw.length tc) ∧ RowSl nuV wG T (.slice vad T.length vc) ∧ (∀ k, (Value.slice vad T.length vc).ownBlock = some k → w8.heap.size < k)) := ⟨below_seq HD.out.1 hbG, (hbG.block _ (Array.getElem?_eq_some_iff.1 HD.out.2.1).1).trans HD.out.2.1, (hbG.block _ h10).trans HD.out.2.2.1, HD.out.2.2.2.1.below hbG, hT, fun k hk => by have := hlo k hk; omega⟩; obtain ⟨c6, f6, l6⟩ := cells_of (l := [_, _]) HG.out.2.1; have c60 := c6 0 _ rfl; have c61 := c6 1 _ rfl; have f60 := f6 0; have f61 := f6 1; clear hT hbG hlo h10 c6 f6)
      have HG1 : Hid (Below w.heap.size w ((wG.setCell ⟨w2.heap.size, 0, none⟩ (.int .i64 0)).setCell ⟨w2.heap.size, 1, none⟩ (.int .i64 y2)) ∧ ((wG.setCell ⟨w2.heap.size, 0, none⟩ (.int .i64 0)).setCell ⟨w2.heap.size, 1, none⟩ (.int .i64 y2)).heap[w2.heap.size]? = some (.cells #[.int .i64 0, .int .i64 y2] 25 (0, 0)) ∧ ((wG.setCell ⟨w2.heap.size, 0, none⟩ (.int .i64 0)).setCell ⟨w2.heap.size, 1, none⟩ (.int .i64 y2)).heap[w8.heap.size]? = some (.cells #[.int .i64 z1, .int .i64 z2] 25 (0, 0)) ∧ LkSl ((wG.setCell ⟨w2.heap.size, 0, none⟩ (.int .i64 0)).setCell ⟨w2.heap.size, 1, none⟩ (.int .i64 y2)) tw (.slice tad tw.length tc) ∧ RowSl nuV ((wG.setCell ⟨w2.heap.size, 0, none⟩ (.int .i64 0)).setCell ⟨w2.heap.size, 1, none⟩ (.int .i64 y2)) T (.slice vad T.length vc)) := ⟨(HG.out.1.setCell h6low _).setCell h6low _, set_two HG.out.2.1, (two_keep (by omega)).trans HG.out.2.2.1, ⟨HG.out.2.2.2.1.1.keep fun k hk => two_keep (by have := HD.out.2.2.2.2.2.1 k hk; omega), fun x hx => (HG.out.2.2.2.1.2 x hx).keep fun k hk => two_keep (by have := HD.out.2.2.2.2.2.2 x hx k hk; omega)⟩, HG.out.2.2.2.2.1.keep fun k hk => two_keep (by have := HG.out.2.2.2.2.2 k hk; omega)⟩
      go_wp2_with (go_at_call 21; guard_hyp PH : Phase 12; clear PH; have PH : Phase 13 := .mk 13; refine (HCL.out _ _ (HV.out.2.2.2.below HG1.out.1)).mono ?_; rintro r wH ⟨rfl, hbH⟩; have HH : Hid (Below w.heap.size w wH ∧ wH.heap[w2.heap.size]? = some (.cells #[.int .i64 0, .int .i64 y2] 25 (0, 0)) ∧ wH.heap[w8.heap.size]? = some (.cells #[.int .i64 z1, .int .i64 z2] 25 (0, 0)) ∧ LkSl wH tw (.slice tad tw.length tc) ∧ RowSl nuV wH T (.slice vad T.length vc)) := ⟨below_seq HG1.out.1 hbH, (hbH.block _ (Array.getElem?_eq_some_iff.1 HG1.out.2.1).1).trans HG1.out.2.1, (hbH.block _ (Array.getElem?_eq_some_iff.1 HG1.out.2.2.1).1).trans HG1.out.2.2.1, HG1.out.2.2.2.1.below hbH, HG1.out.2.2.2.2.below hbH⟩; obtain ⟨x6, -, m6⟩ := cells_of (l := [_, _]) HH.out.2.1; have x60 := x6 0 _ rfl; have x61 := x6 1 _ rfl; obtain ⟨y10, g10, m10⟩ := cells_of (l := [_, _]) HH.out.2.2.1; have y100 := y10 0 _ rfl; have y101 := y10 1 _ rfl; have g100 := g10 0; have g101 := g10 1; clear hbH x6 y10 g10 c60 c61 f60 f61 l6 HG1)
      have h10low : w.heap.size ≤ w8.heap.size := by omega
      have HH1 : Hid (Below w.heap.size w ((wH.setCell ⟨w8.heap.size, 0, none⟩ (.int .i64 0)).setCell ⟨w8.heap.size, 1, none⟩ (.int .i64 y2)) ∧ LkSl ((wH.setCell ⟨w8.heap.size, 0, none⟩ (.int .i64 0)).setCell ⟨w8.heap.size, 1, none⟩ (.int .i64 y2)) tw (.slice tad tw.length tc) ∧ RowSl nuV ((wH.setCell ⟨w8.heap.size, 0, none⟩ (.int .i64 0)).setCell ⟨w8.heap.size, 1, none⟩ (.int .i64 y2)) T (.slice vad T.length vc)) := ⟨(HH.out.1.setCell h10low _).setCell h10low _, ⟨HH.out.2.2.2.1.1.keep fun k hk => two_keep (by have := HD.out.2.2.2.2.2.1 k hk; omega), fun x hx => (HH.out.2.2.2.1.2 x hx).keep fun k hk => two_keep (by have := HD.out.2.2.2.2.2.2 x hx k hk; omega)⟩, HH.out.2.2.2.2.keep fun k hk => two_keep (by have := HG.out.2.2.2.2.2 k hk; omega)⟩
      go_wp2_with (go_at_call 22; refine (HTo.out _ _ (HV.out.2.2.2.below HH1.out.1)).mono ?_; rintro r wI ⟨u, rfl, hT, hbI⟩; obtain ⟨iad, ic, hu⟩ := hT.len; subst hu; have HI : Hid (Below w.heap.size w wI ∧ LkSl wI tw (.slice tad tw.length tc) ∧ RowSl nuV wI T (.slice vad T.length vc) ∧ RowSl nuV wI T (.slice iad T.length ic)) := ⟨below_seq HH1.out.1 hbI, HH1.out.2.1.below hbI, HH1.out.2.2.below hbI, hT⟩; clear hT hbI)
      go_wp2_with (go_at_call 14; refine (SameN_any _ T _ _ (by omega) HI.out.2.2.1 HI.out.2.2.2).mono ?_; rintro r wJ ⟨rfl, hbJ⟩; have HJ : Hid (Below w.heap.size w wJ ∧ LkSl wJ tw (.slice tad tw.length tc)) := ⟨below_seq HI.out.1 hbJ, HI.out.2.1.below hbJ⟩; clear hbJ)
      go_wp2_with (go_at_call 23; refine (SameActs_any _ tw js _ _ (by omega) (fun x hx => by have := HV.out.1 x hx; omega) HD.out.2.2.2.2.1 HJ.out.2 (HV.out.2.2.2.below HJ.out.1)).mono ?_; rintro r wK ⟨rfl, hbK⟩; have HK : Hid (Below w.heap.size w wK) := below_seq HJ.out.1 hbK)
      go_ret
      exact ⟨rfl, HK.out⟩
    · subst hT
      have hyb : (y1 != 0) = true := by simpa using hy
      go_wp2_with (go_at_call 20; guard_hyp PH : Phase 10; clear PH; have PH : Phase 11 := .mk 11; refine (Acts_any _ js _ (by omega) HV.out.1 (HV.out.2.2.2.below HF.out.1)).mono ?_; rintro r wD ⟨u, tw, rfl, hcore, hlk, hbD, hlo, hlo2⟩; obtain ⟨tad, tc, hu⟩ := hlk.1.len; subst hu; have h10 : w8.heap.size < wC.heap.size := (Array.getElem?_eq_some_iff.1 HF.out.2.2).1; have HD : Hid (Below w.heap.size w wD ∧ wD.heap[w2.heap.size]? = some (.cells #[.int .i64 z1, .int .i64 z2] 25 (0, 0)) ∧ wD.heap[w8.heap.size]? = some (.cells #[.int .i64 z1, .int .i64 z2] 25 (0, 0)) ∧ LkSl wD tw (.slice tad tw.length tc) ∧ tw.map Lj.core = js.map Lj.core ∧ (∀ k, (Value.slice tad tw.length tc).ownBlock = some k → w8.heap.size < k) ∧ ∀ x ∈ tw, ∀ k, x.v.ownBlock = some k → w8.heap.size < k) := ⟨below_seq HF.out.1 hbD, (hbD.block _ (Array.getElem?_eq_some_iff.1 HF.out.2.1).1).trans HF.out.2.1, (hbD.block _ h10).trans HF.out.2.2, hlk, hcore, fun k hk => by have := hlo k hk; omega, fun x hx k hk => by have := hlo2 x hx k hk; omega⟩; clear hlk hcore hbD hlo hlo2 h10 HF)
      go_wp2_with (go_at_call 11; guard_hyp PH : Phase 11; clear PH; have PH : Phase 12 := .mk 12; refine (HCe.out _ _ tw HD.out.2.2.2.2.1 HD.out.2.2.2.1).mono ?_; rintro r wG ⟨u, rfl, hT, hbG, hlo⟩; obtain ⟨vad, vc, hu⟩ := hT.len; subst hu; have h10 : w8.heap.size < wD.heap.size := (Array.getElem?_eq_some_iff.1 HD.out.2.2.1).1; have HG : Hid (Below w.heap.size w wG ∧ wG.heap[w2.heap.size]? = some (.cells #[.int .i64 z1, .int .i64 z2] 25 (0, 0)) ∧ wG.heap[w8.heap.size]? = some (.cells #[.int .i64 z1, .int .i64 z2] 25 (0, 0)) ∧ LkSl wG tw (.slice tad tw.length tc) ∧ RowSl nuV wG [] (.slice vad 0 vc) ∧ (∀ k, (Value.slice vad 0 vc).ownBlock = some k → w8.heap.size < k)) := ⟨below_seq HD.out.1 hbG, (hbG.block _ (Array.getElem?_eq_some_iff.1 HD.out.2.1).1).trans HD.out.2.1, (hbG.block _ h10).trans HD.out.2.2.1, HD.out.2.2.2.1.below hbG, hT, fun k hk => by have := hlo k hk; omega⟩; obtain ⟨c6, f6, l6⟩ := cells_of (l := [_, _]) HG.out.2.1; have c60 := c6 0 _ rfl; have c61 := c6 1 _ rfl; have f60 := f6 0; have f61 := f6 1; clear hT hbG hlo h10 c6 f6)
      have HG1 : Hid (Below w.heap.size w ((wG.setCell ⟨w2.heap.size, 0, none⟩ (.int .i64 y1)).setCell ⟨w2.heap.size, 1, none⟩ (.int .i64 y2)) ∧ ((wG.setCell ⟨w2.heap.size, 0, none⟩ (.int .i64 y1)).setCell ⟨w2.heap.size, 1, none⟩ (.int .i64 y2)).heap[w2.heap.size]? = some (.cells #[.int .i64 y1, .int .i64 y2] 25 (0, 0)) ∧ ((wG.setCell ⟨w2.heap.size, 0, none⟩ (.int .i64 y1)).setCell ⟨w2.heap.size, 1, none⟩ (.int .i64 y2)).heap[w8.heap.size]? = some (.cells #[.int .i64 z1, .int .i64 z2] 25 (0, 0)) ∧ LkSl ((wG.setCell ⟨w2.heap.size, 0, none⟩ (.int .i64 y1)).setCell ⟨w2.heap.size, 1, none⟩ (.int .i64 y2)) tw (.slice tad tw.length tc) ∧ RowSl nuV ((wG.setCell ⟨w2.heap.size, 0, none⟩ (.int .i64 y1)).setCell ⟨w2.heap.size, 1, none⟩ (.int .i64 y2)) [] (.slice vad 0 vc)) := ⟨(HG.out.1.setCell h6low _).setCell h6low _, set_two HG.out.2.1, (two_keep (by omega)).trans HG.out.2.2.1, ⟨HG.out.2.2.2.1.1.keep fun k hk => two_keep (by have := HD.out.2.2.2.2.2.1 k hk; omega), fun x hx => (HG.out.2.2.2.1.2 x hx).keep fun k hk => two_keep (by have := HD.out.2.2.2.2.2.2 x hx k hk; omega)⟩, HG.out.2.2.2.2.1.keep fun k hk => two_keep (by have := HG.out.2.2.2.2.2 k hk; omega)⟩
      go_wp2_with (go_at_call 21; guard_hyp PH : Phase 12; clear PH; have PH : Phase 13 := .mk 13; refine (HCL.out _ _ (HV.out.2.2.2.below HG1.out.1)).mono ?_; rintro r wH ⟨rfl, hbH⟩; have HH : Hid (Below w.heap.size w wH ∧ wH.heap[w2.heap.size]? = some (.cells #[.int .i64 y1, .int .i64 y2] 25 (0, 0)) ∧ wH.heap[w8.heap.size]? = some (.cells #[.int .i64 z1, .int .i64 z2] 25 (0, 0)) ∧ LkSl wH tw (.slice tad tw.length tc) ∧ RowSl nuV wH [] (.slice vad 0 vc)) := ⟨below_seq HG1.out.1 hbH, (hbH.block _ (Array.getElem?_eq_some_iff.1 HG1.out.2.1).1).trans HG1.out.2.1, (hbH.block _ (Array.getElem?_eq_some_iff.1 HG1.out.2.2.1).1).trans HG1.out.2.2.1, HG1.out.2.2.2.1.below hbH, HG1.out.2.2.2.2.below hbH⟩; obtain ⟨x6, -, m6⟩ := cells_of (l := [_, _]) HH.out.2.1; have x60 := x6 0 _ rfl; have x61 := x6 1 _ rfl; obtain ⟨y10, g10, m10⟩ := cells_of (l := [_, _]) HH.out.2.2.1; have y100 := y10 0 _ rfl; have y101 := y10 1 _ rfl; have g100 := g10 0; have g101 := g10 1; clear hbH x6 y10 g10 c60 c61 f60 f61 l6 HG1)
      have h10low : w.heap.size ≤ w8.heap.size := by omega
      have HH1 : Hid (Below w.heap.size w ((wH.setCell ⟨w8.heap.size, 0, none⟩ (.int .i64 y1)).setCell ⟨w8.heap.size, 1, none⟩ (.int .i64 y2)) ∧ LkSl ((wH.setCell ⟨w8.heap.size, 0, none⟩ (.int .i64 y1)).setCell ⟨w8.heap.size, 1, none⟩ (.int .i64 y2)) tw (.slice tad tw.length tc) ∧ RowSl nuV ((wH.setCell ⟨w8.heap.size, 0, none⟩ (.int .i64 y1)).setCell ⟨w8.heap.size, 1, none⟩ (.int .i64 y2)) [] (.slice vad 0 vc)) := ⟨(HH.out.1.setCell h10low _).setCell h10low _, ⟨HH.out.2.2.2.1.1.keep fun k hk => two_keep (by have := HD.out.2.2.2.2.2.1 k hk; omega), fun x hx => (HH.out.2.2.2.1.2 x hx).keep fun k hk => two_keep (by have := HD.out.2.2.2.2.2.2 x hx k hk; omega)⟩, HH.out.2.2.2.2.keep fun k hk => two_keep (by have := HG.out.2.2.2.2.2 k hk; omega)⟩
      go_wp2_with (go_at_call 23; refine (SameActs_any _ tw js _ _ (by omega) (fun x hx => by have := HV.out.1 x hx; omega) HD.out.2.2.2.2.1 HH1.out.2.1 (HV.out.2.2.2.below HH1.out.1)).mono ?_; rintro r wK ⟨rfl, hbK⟩; have HK : Hid (Below w.heap.size w wK) := below_seq HH1.out.1 hbK)
      go_ret
      exact ⟨rfl, HK.out⟩
end Go.Proofs.YtkafihaajpifoagDoor
