import Derived.Test.YtccoobcggbbciaiGreatDoorSLA
import Derived.Test.YtccoobcggbbciaiGreatDoorSPI
namespace Go.Proofs.YtccoobcggbbciaiGreatDoor.S8
open Go.ChangeShapes Go.WideShapes Go.ChangeAt Go.RowKit

section

variable {P : Program} {ops : Array Oper} {Q : Exit → Act → World → Prop} {md : Region.Mode} {S : World → Prop} {L : Nat}

/-- What has come up has behind it what it waits for. -/
def shutB (md : Region.Mode) (ops : Array Oper) (l : Array Bool) : Bool :=
  (List.range ops.size).all fun k => !l.getD k false || match ops[k]? with
    | some o => o.after.all fun e => !Region.binds md e || l.getD e.on false
    | none => true

def ShutP (md : Region.Mode) (ops : Array Oper) (l : Array Bool) : Prop :=
  ∀ k o, ops[k]? = some o → l.getD k false = true → ∀ e ∈ o.after, Region.binds md e = true → l.getD e.on false = true

theorem shut_spec {l : Array Bool} (h : shutB md ops l = true) : ShutP md ops l := fun k o hk hl e he hb => by
  simp only [shutB, List.all_eq_true, List.mem_range] at h
  have h1 := h k (Array.getElem?_eq_some_iff.1 hk).1
  simp only [hk, hl, Bool.not_true, Bool.false_or] at h1
  have h2 := Array.all_eq_true_iff_forall_mem.1 h1 e he
  simpa [hb] using h2

theorem shut_set {l : Array Bool} {j : Nat} (h : ShutP md ops l) (hj : j ∈ Region.ready md ops l) : ShutP md ops (l.setIfInBounds j true) := fun k o hk hl e he hb => by
  by_cases hkj : j = k
  · subst hkj
    obtain ⟨-, o', ho', hall⟩ := mem_ready.1 hj
    rw [hk] at ho'; cases ho'
    exact getD_set_true (hall e he hb)
  · rw [getD_set_ne false hkj] at hl
    exact getD_set_true (h k o hk hl e he hb)

/-- All wait, one for the other, to be followed by number L, the last one. -/
def lastB (md : Region.Mode) (ops : Array Oper) (L : Nat) : Bool :=
  L + 1 == ops.size && (List.range L).all fun i => (List.range (L + 1)).any fun j => decide (i < j) && match ops[j]? with
    | some o => o.after.any fun e => Region.binds md e && e.on == i
    | none => false

theorem last_spec {l : Array Bool} (hL : lastB md ops L = true) (h : ShutP md ops l) (hr : L ∈ Region.ready md ops l) : ∀ (d i : Nat), i < L → L - i ≤ d → l.getD i false = true
  | 0, i, hi, hd => by omega
  | d + 1, i, hi, hd => by
    simp only [lastB, Bool.and_eq_true, List.all_eq_true, List.mem_range, List.any_eq_true, decide_eq_true_eq] at hL
    obtain ⟨j, hj, hij, hm⟩ := hL.2 i hi
    cases ho : ops[j]? with
    | none => simp [ho] at hm
    | some o =>
      simp only [ho] at hm
      obtain ⟨e, he, hb⟩ := Array.any_eq_true'.1 hm
      simp only [Bool.and_eq_true, beq_iff_eq] at hb
      rw [← hb.2]
      by_cases hjL : j = L
      · subst hjL
        obtain ⟨-, o', ho', hall⟩ := mem_ready.1 hr
        rw [ho] at ho'; cases ho'
        exact hall e he hb.1
      · exact h j o ho (last_spec (by simp only [lastB, Bool.and_eq_true, List.all_eq_true, List.mem_range, List.any_eq_true, decide_eq_true_eq]; exact hL) h hr d j (by omega) (by omega)) e he hb.1

/-- Whatever order is picked, and S holds behind each operation but the last. -/
def wpAnyL (P : Program) (md : Region.Mode) (ops : Array Oper) (Q : Exit → Act → World → Prop) (S : World → Prop) (L : Nat) : Nat → Array Bool → Act → World → Prop
  | 0, l, a, w => Region.ready md ops l = [] ∧ Q .normal a w
  | f + 1, l, a, w => (Region.ready md ops l = [] → Q .normal a w) ∧ ∀ i ∈ Region.ready md ops l, wpOp P ops Q i (fun a' w' => (i ≠ L → S w') ∧ wpAnyL P md ops Q S L f (l.setIfInBounds i true) a' w') a w

theorem wpAnyL.any : ∀ (f : Nat) (l : Array Bool) (a : Act) (w : World), wpAnyL P md ops Q S L f l a w → wpAny P md ops Q f l a w
  | 0, _, _, _, h => h
  | f + 1, _, _, _, h => ⟨h.1, fun i hi => wpOp_mono (fun a' w' h' => wpAnyL.any f _ a' w' h'.2) (h.2 i hi)⟩

theorem wpAnyL_first {i : Nat} {oi : Oper} {v : Value} (hi : ops[i]? = some oi) (hsel : ∀ (j : Nat) (o : Oper) cs b, ops[j]? = some o → o.op ≠ .select cs b)
    (hQ : ∀ c a w, Q (.panic c) (a.put oi.dst v) w → Q (.panic c) a w) (hL : lastB md ops L = true) (hiL : i < L) :
    ∀ (f : Nat) (l : Array Bool) (a : Act) (w : World), ShutP md ops l →
      (∀ j oj, ops[j]? = some oj → j ≠ i → l.getD j true = false → (∀ e ∈ oj.after, Region.binds md e = true → e.on ≠ i) → oi.apart ops oj = true) →
      i ∈ Region.ready md ops l → YieldsIf P ops S oi v a → S w →
      wpAnyL P md ops Q S L f (l.setIfInBounds i true) (a.put oi.dst v) w → wpAnyL P md ops Q S L (f + 1) l a w
  | f, l, a, w => fun hsh hfree hr hy hS H => by
    refine ⟨fun h => (by rw [h] at hr; cases hr), fun j hj => ?_⟩
    by_cases hji : j = i
    · subst hji; exact hy.wpOp hi hS ⟨fun _ => hS, H⟩
    have h0 := (mem_ready.1 hr).1
    have hjL : j ≠ L := fun e => by
      subst e
      have h1 := last_spec hL hsh hj (j - i) i hiL (Nat.le_refl _)
      rcases Nat.lt_or_ge i l.size with h' | h'
      · simp [h'] at h0 h1; rw [h0] at h1; cases h1
      · simp [Array.getElem?_eq_none h'] at h1
    cases f with
    | zero =>
      have := ready_mono hj hji
      rw [H.1] at this
      cases this
    | succ f =>
      obtain ⟨hjun, oj, hoj, hall⟩ := mem_ready.1 hj
      have hnot : ∀ e ∈ oj.after, Region.binds md e = true → e.on ≠ i := fun e he hb heq => by
        have h1 := hall e he hb
        rw [heq] at h1
        rcases Nat.lt_or_ge i l.size with h' | h'
        · simp [h'] at h0 h1; rw [h0] at h1; cases h1
        · simp [Array.getElem?_eq_none h'] at h1
      refine wpOp_mono (fun a' w' h3 => ?_) (wpOp_putIf hoj (hfree j oj hoj hji hjun hnot) (fun cs b => hsel i oi cs b hi) (fun cs b => hsel j oj cs b hoj) hQ hy (H.2 j (ready_mono hj hji)))
      refine ⟨h3.2.1, wpAnyL_first hi hsel hQ hL hiL f (l.setIfInBounds j true) a' w' (shut_set hsh hj) (fun k ok hk hki hun hno => ?_) (ready_mono hr (Ne.symm hji)) h3.1 (h3.2.1 hjL) (by rw [Array.setIfInBounds_comm _ _ hji]; exact h3.2.2)⟩
      refine hfree k ok hk hki ?_ hno
      by_cases hjk : j = k
      · subst hjk; exact hjun
      · rw [getD_set_ne true hjk] at hun; exact hun

/-- One that is taken first, its slot written out. -/
theorem takeL_at {i n : Nat} {oi : Oper} {v : Value} {f : Nat} {l : Array Bool} {xs : List Value} {ds : List Deferred} {w : World}
    (hi : ops[i]? = some oi) (hd : oi.dst = some n) (hs : Region.noSelect ops = true) (hL : lastB md ops L = true) (hiL : i < L) (hsh : shutB md ops l = true) (hf : Region.free md ops l i = true) (hr : (Region.ready md ops l).contains i = true)
    (hQ : ∀ c a w, Q (.panic c) (a.put oi.dst v) w → Q (.panic c) a w) (hy : YieldsIf P ops S oi v ⟨xs.toArray, ds⟩) (hS : S w)
    (h : wpAnyL P md ops Q S L f (l.setIfInBounds i true) ⟨(xs.set n v).toArray, ds⟩ w) : wpAnyL P md ops Q S L (f + 1) l ⟨xs.toArray, ds⟩ w := by
  refine wpAnyL_first hi (Region.noSelect_spec hs) hQ hL hiL f l _ w (shut_spec hsh) (Region.free_spec hi hf) (by simpa using hr) hy hS ?_
  have e : Act.put ⟨xs.toArray, ds⟩ oi.dst v = ⟨(xs.set n v).toArray, ds⟩ := by rw [hd]; simp [Act.put]
  rw [e]
  exact h

/-- One that is alone. -/
theorem wpAnyL_one {i : Nat} {o : Oper} {f : Nat} {l : Array Bool} {a : Act} {w : World} (hr : Region.ready md ops l = [i]) (ho : ops[i]? = some o)
    (h : ∀ K' : Act → World → Prop, Shut (∀ a w, (i ≠ L → S w) → wpAnyL P md ops Q S L f (l.setIfInBounds i true) a w → K' a w) → if Region.wanted o (yielded ops a.tmps) = true then Oper.wp P o a w K' Q else K' (a.put o.dst undef) w) : wpAnyL P md ops Q S L (f + 1) l a w :=
  ⟨(fun h0 => absurd (hr.symm.trans h0) (by simp)), fun j hj => by
    rw [hr, List.mem_singleton] at hj
    subst hj
    exact wpOp_step ho (fun K' hK => h K' (fun a w hS hW => hK a w ⟨hS, hW⟩))⟩

theorem wpAnyL_done {l : Array Bool} {a : Act} {w : World} (hr : Region.ready md ops l = []) (h : Q .normal a w) : ∀ f, wpAnyL P md ops Q S L f l a w
  | 0 => ⟨hr, h⟩
  | _ + 1 => ⟨fun _ => h, by rw [hr]; simp⟩

theorem wp_region_last {id : Nat} {a : Act} {w : World} (hm : P.follows .mixedOrders = true)
    (h : wpAnyL P .any ops Q S L ops.size (Array.replicate ops.size false) a w.drew) : (Code.region id ops true).wp P Q a w :=
  wp_region_any hm (h.any _ _ _ _)

end
end Go.Proofs.YtccoobcggbbciaiGreatDoor.S8
namespace Go.Proofs.YtccoobcggbbciaiGreatDoor.S8
open Go.ChangeShapes Go.WideShapes Go.ChangeAt Go.RowKit

/-- Of each job its rank. -/
def invOf (rk : List Nat) : List Nat := (List.range rk.length).map (fun j => rk.idxOf j)

theorem invOf_at {rk : List Nat} {j : Nat} (h : j < rk.length) : (invOf rk)[j]? = some (rk.idxOf j) := by
  unfold invOf
  simp [h]

theorem Ranked.idx {l : List Jb} {pol : Int} {rk : List Nat} (h : Ranked l pol rk) {p : Nat} (hp : p < l.length) : rk.idxOf (RK rk p) = p := by
  have hlt : RK rk p < l.length := h.lt hp
  have hm : RK rk p ∈ rk := List.mem_of_getElem? (RK_get (by rw [h.len]; exact hp))
  have hi : rk.idxOf (RK rk p) < rk.length := List.idxOf_lt_length_of_mem hm
  have he : RK rk (rk.idxOf (RK rk p)) = RK rk p := by
    have h1 := RK_get hi
    have h2 : rk[rk.idxOf (RK rk p)]? = some (RK rk p) := by
      rw [List.getElem?_eq_getElem hi, List.getElem_idxOf]
    rw [h1] at h2
    exact Option.some.inj h2
  exact h.inj (by rw [← h.len]; exact hi) hp he

/-- A line, as it lies. -/
structure LineW (w0 : World) (B K Lf Rn Rd C : Nat) (W : World) (l : List Jb) (rk cm : List Nat) (k : Nat) (th : List Nat) (left : List Int) (jv tv cv : Value) : Prop where
  line : W.heap[K]? = some (.cells #[jv, .slice (some ⟨Lf, 0, none⟩) l.length l.length, .slice (some ⟨Rn, 0, none⟩) l.length l.length, .slice (some ⟨Rd, 0, none⟩) l.length l.length, cv, tv] 127 (0, 0))
  left : W.heap[Lf]? = some (.cells (left.map (Value.int .i64)).toArray 3 (0, 0))
  ranks : W.heap[Rn]? = some (.cells ((zI (invOf rk)).map (Value.int .i64)).toArray 3 (0, 0))
  ranked : W.heap[Rd]? = some (.cells ((zI rk).map (Value.int .i64)).toArray 3 (0, 0))
  comes : W.heap[C]? = some (.cells ((zI (cm.map (RK rk))).map (Value.int .i64)).toArray 3 (0, 0))
  there : Own W B tv (zI th)
  jobs : RowSl Jb.vals w0 l jv
  bel : Below w0.heap.size w0 W
  low : (w0.heap.size ≤ K ∧ w0.heap.size ≤ Lf) ∧ w0.heap.size ≤ B
  lt : K < B ∧ Lf < B ∧ Rn < B ∧ Rd < B ∧ C < B
  dK : Lf ≠ K ∧ Rn ≠ K ∧ Rd ≠ K ∧ C ≠ K
  dL : Rn ≠ Lf ∧ Rd ≠ Lf ∧ C ≠ Lf
  bs : B ≤ W.heap.size
  cval : ∃ a, cv = .slice a (l.length - k) (l.length - k) ∧ (k < l.length → a = some ⟨C, k, none⟩)

/-- All but the line, what is left, and the row of those that are there, stays. -/
structure MovedL (W W' : World) (K Lf : Nat) (tv tv' : Value) : Prop where
  os : W'.os = W.os
  tape : W'.tape = W.tape
  output : W'.output = W.output
  size : W.heap.size ≤ W'.heap.size
  block : ∀ b, b < W.heap.size → b ≠ K → b ≠ Lf → tv.ownBlock ≠ some b → W'.heap[b]? = W.heap[b]? ∧ tv'.ownBlock ≠ some b

theorem MovedL.refl (W : World) (K Lf : Nat) (tv : Value) : MovedL W W K Lf tv tv := ⟨rfl, rfl, rfl, Nat.le_refl _, fun _ _ _ _ h => ⟨rfl, h⟩⟩

theorem MovedL.trans {a b c : World} {K Lf : Nat} {u v x : Value} (h : MovedL a b K Lf u v) (h' : MovedL b c K Lf v x) : MovedL a c K Lf u x :=
  ⟨h'.os.trans h.os, h'.tape.trans h.tape, h'.output.trans h.output, Nat.le_trans h.size h'.size, fun i hi hk hl hu => by
    obtain ⟨e1, e2⟩ := h.block i hi hk hl hu
    obtain ⟨f1, f2⟩ := h'.block i (Nat.lt_of_lt_of_le hi h.size) hk hl e2
    exact ⟨f1.trans e1, f2⟩⟩

theorem MovedL.drewN (W : World) (K Lf : Nat) (tv : Value) (n : Nat) : MovedL W (W.drewN n) K Lf tv tv := ⟨rfl, rfl, rfl, Nat.le_refl _, fun _ _ _ _ h => ⟨rfl, h⟩⟩

theorem Own.low {W : World} {B : Nat} {tv : Value} {th : List Int} (h : Own W B tv th) {g : Nat} (hg : tv.ownBlock = some g) : B ≤ g ∧ g < W.heap.size := h.lt g hg

theorem own_slice {W : World} {B : Nat} {tv : Value} {th : List Nat} (h : Own W B tv (zI th)) : ∃ ad c, tv = .slice ad th.length c := by
  obtain ⟨ad, c, e⟩ := owns_value h
  rw [zI_len] at e
  exact ⟨ad, c, e⟩

theorem own_val {W : World} {B : Nat} {tv : Value} {th : List Int} (h : Own W B tv th) : ∃ ad n c, tv = .slice ad n c := by
  obtain ⟨ad, c, e⟩ := owns_value h
  exact ⟨ad, _, c, e⟩

section

variable {w0 : World} {B K Lf Rn Rd C : Nat} {W : World} {l : List Jb} {rk cm : List Nat} {k : Nat} {th : List Nat} {left : List Int} {jv tv cv : Value}

theorem LineW.low' (h : LineW w0 B K Lf Rn Rd C W l rk cm k th left jv tv cv) : ∀ g, tv.ownBlock = some g → B ≤ g := fun _ hg => (h.there.low hg).1

theorem LineW.drewN (h : LineW w0 B K Lf Rn Rd C W l rk cm k th left jv tv cv) (n : Nat) : LineW w0 B K Lf Rn Rd C (W.drewN n) l rk cm k th left jv tv cv :=
  ⟨h.line, h.left, h.ranks, h.ranked, h.comes, h.there, h.jobs, below_seq h.bel below_drewN', h.low, h.lt, h.dK, h.dL, h.bs, h.cval⟩

/-- What stays, block by block, below B. -/
theorem LineW.keep {W' : World} {tv' : Value} (h : LineW w0 B K Lf Rn Rd C W l rk cm k th left jv tv cv) (hk : ∀ b, b < B → W'.heap[b]? = W.heap[b]?) (ho : Own W' B tv' (zI th)) (hs : W.heap.size ≤ W'.heap.size) (hb : Below w0.heap.size w0 W') (htv : tv' = tv) : LineW w0 B K Lf Rn Rd C W' l rk cm k th left jv tv cv := by
  subst htv
  obtain ⟨l1, l2, l3, l4, l5⟩ := h.lt
  exact ⟨(hk K l1).trans h.line, (hk Lf l2).trans h.left, (hk Rn l3).trans h.ranks, (hk Rd l4).trans h.ranked, (hk C l5).trans h.comes, ho, h.jobs, hb, h.low, h.lt, h.dK, h.dL, Nat.le_trans h.bs hs, h.cval⟩

/-- The row of those that are there was changed, and is laid into the line. -/
theorem LineW.put {W' : World} {th' : List Nat} {tv' : Value} (h : LineW w0 B K Lf Rn Rd C W l rk cm k th left jv tv cv) (ho : Own W' B tv' (zI th')) (hg : W.grownBy W' tv.ownBlock) (hv : tv'.ownBlock = tv.ownBlock ∨ ∃ g, tv'.ownBlock = some g ∧ W.heap.size ≤ g) :
    LineW w0 B K Lf Rn Rd C (W'.setCell ⟨K, 5, none⟩ tv') l rk cm k th' left jv tv' cv ∧ MovedL W (W'.setCell ⟨K, 5, none⟩ tv') K Lf tv tv' := by
  obtain ⟨l1, l2, l3, l4, l5⟩ := h.lt
  obtain ⟨d1, d2, d3, d4⟩ := h.dK
  have hne : ∀ b, b < B → tv.ownBlock ≠ some b := fun b hb e => by have := h.low' b e; omega
  have hbs := h.bs
  have keep : ∀ b, b < B → W'.heap[b]? = W.heap[b]? := fun b hb => hg.block b (by omega) (fun e => hne b hb e.symm)
  have hK' := (keep K l1).trans h.line
  have hne' : ∀ g, tv'.ownBlock = some g → g ≠ K := fun g e => by have := (ho.low e).1; omega
  have hlow := h.low
  have hB0 : Below w0.heap.size w0 W' := ⟨hg.os.trans h.bel.os, hg.tape.trans h.bel.tape, hg.output.trans h.bel.output, Nat.le_trans h.bel.size hg.size, fun i hi => (keep i (by omega)).trans (h.bel.block i hi)⟩
  refine ⟨⟨?_, ?_, ?_, ?_, ?_, ho.same (fun g e => Below.heap_setCell _ _ _ _ (hne' g e)), h.jobs, hB0.setCell hlow.1.1 _, h.low, h.lt, h.dK, h.dL, ?_, h.cval⟩, ⟨hg.os, hg.tape, hg.output, ?_, fun b hb hbK _ hu => ?_⟩⟩
  · rw [setCell_at hK']; rfl
  · rw [Below.heap_setCell _ _ _ _ d1, keep Lf l2]; exact h.left
  · rw [Below.heap_setCell _ _ _ _ d2, keep Rn l3]; exact h.ranks
  · rw [Below.heap_setCell _ _ _ _ d3, keep Rd l4]; exact h.ranked
  · rw [Below.heap_setCell _ _ _ _ d4, keep C l5]; exact h.comes
  · have := hg.size; simp; omega
  · have := hg.size; simpa using this
  · refine ⟨(Below.heap_setCell _ _ _ _ hbK).trans (hg.block b hb (fun e => hu e.symm)), fun e => ?_⟩
    rcases hv with hv | ⟨g, hv, hl⟩
    · exact hu (hv ▸ e)
    · rw [hv] at e; cases e; omega

/-- One has run for a tick. -/
theorem LineW.ran (h : LineW w0 B K Lf Rn Rd C W l rk cm k th left jv tv cv) (j : Nat) (v : Int) : LineW w0 B K Lf Rn Rd C (W.setCell ⟨Lf, j, none⟩ (.int .i64 v)) l rk cm k th (left.set j v) jv tv cv ∧ MovedL W (W.setCell ⟨Lf, j, none⟩ (.int .i64 v)) K Lf tv tv := by
  obtain ⟨l1, l2, l3, l4, l5⟩ := h.lt
  obtain ⟨d1, d2, d3, d4⟩ := h.dK
  obtain ⟨d5, d6, d7⟩ := h.dL
  have hne' : ∀ g, tv.ownBlock = some g → g ≠ Lf := fun g e => by have := (h.there.low e).1; omega
  refine ⟨⟨?_, ?_, ?_, ?_, ?_, h.there.same (fun g e => Below.heap_setCell _ _ _ _ (hne' g e)), h.jobs, h.bel.setCell h.low.1.2 _, h.low, h.lt, h.dK, h.dL, ?_, h.cval⟩, ⟨rfl, rfl, rfl, ?_, fun b hb _ hbL hu => ⟨Below.heap_setCell _ _ _ _ hbL, hu⟩⟩⟩
  · rw [Below.heap_setCell _ _ _ _ (Ne.symm d1)]; exact h.line
  · rw [setCell_at h.left]
    congr 2
    simp [List.map_set]
  · rw [Below.heap_setCell _ _ _ _ d5]; exact h.ranks
  · rw [Below.heap_setCell _ _ _ _ d6]; exact h.ranked
  · rw [Below.heap_setCell _ _ _ _ d7]; exact h.comes
  · have := h.bs; simpa using this
  · simp

/-- Some have come. -/
theorem LineW.next (h : LineW w0 B K Lf Rn Rd C W l rk cm k th left jv tv cv) (cv' : Value) (hc : ∃ a, cv' = .slice a (l.length - (k + 1)) (l.length - (k + 1)) ∧ (k + 1 < l.length → a = some ⟨C, k + 1, none⟩)) :
    LineW w0 B K Lf Rn Rd C (W.setCell ⟨K, 4, none⟩ cv') l rk cm (k + 1) th left jv tv cv' ∧ MovedL W (W.setCell ⟨K, 4, none⟩ cv') K Lf tv tv := by
  obtain ⟨d1, d2, d3, d4⟩ := h.dK
  have hne : ∀ g, tv.ownBlock = some g → g ≠ K := fun g e => by have := h.low' g e; have := h.lt.1; omega
  refine ⟨⟨?_, ?_, ?_, ?_, ?_, h.there.same (fun g e => Below.heap_setCell _ _ _ _ (hne g e)), h.jobs, h.bel.setCell h.low.1.1 _, h.low, h.lt, h.dK, h.dL, ?_, hc⟩, ⟨rfl, rfl, rfl, ?_, fun b hb hbK _ hu => ⟨Below.heap_setCell _ _ _ _ hbK, hu⟩⟩⟩
  · rw [setCell_at h.line]; rfl
  · rw [Below.heap_setCell _ _ _ _ d1]; exact h.left
  · rw [Below.heap_setCell _ _ _ _ d2]; exact h.ranks
  · rw [Below.heap_setCell _ _ _ _ d3]; exact h.ranked
  · rw [Below.heap_setCell _ _ _ _ d4]; exact h.comes
  · have := h.bs; simpa using this
  · simp

theorem LineW.alloc (h : LineW w0 B K Lf Rn Rd C W l rk cm k th left jv tv cv) (o : Obj) : LineW w0 B K Lf Rn Rd C (W.alloc o) l rk cm k th left jv tv cv ∧ MovedL W (W.alloc o) K Lf tv tv := by
  have keep : ∀ b, b < W.heap.size → (W.alloc o).heap[b]? = W.heap[b]? := fun b hb => Below.heap_alloc W o b hb
  have hb := h.bs
  refine ⟨h.keep (fun b hbB => keep b (by omega)) (h.there.same (fun g e => keep g (h.there.low e).2)) (by simp) (below_seq h.bel (below_new _ _)) rfl, ⟨rfl, rfl, rfl, by simp, fun b hb _ _ hu => ⟨keep b hb, hu⟩⟩⟩

end

/-- The number of the foremost one. -/
def foreJ (rk : List Nat) : List Nat → Int
  | [] => -1
  | p :: _ => ((RK rk p : Nat) : Int)

set_option maxRecDepth 20000 in
set_option maxHeartbeats 1000000 in
theorem First_any (w0 : World) (B K Lf Rn Rd C : Nat) (W : World) (l : List Jb) (pol : Int) (rk cm : List Nat) (k : Nat) (th : List Nat) (left : List Int) (jv tv cv : Value) (h : LineW w0 B K Lf Rn Rd C W l rk cm k th left jv tv cv) (hr : Ranked l pol rk) (hth : ∀ p ∈ th, p < l.length) :
    Calls Tryz.prog 91 #[.pointer (some ⟨K, 0, none⟩)] W fun r W' => r = .returned (.int .i64 (foreJ rk th)) ∧ ∃ n, W' = W.drewN n := by
  obtain ⟨hs, -, hlk⟩ := cells_of (l := [_, _, _, _, _, _]) h.line
  have c3 := hs 3 _ rfl
  have c5 := hs 5 _ rfl
  clear hs
  rcases h.there.cases with ⟨rfl, e⟩ | ⟨g, cap, cur, rfl, hB, hg, hcap, hm, hcs, hcur⟩
  · have : th = [] := by simpa [zI] using e
    subst this
    clear h
    go_enter Tryz.func91, Tryz.ntmps91
    go_wp2_with fail
    go_ret
    exact ⟨rfl, 0, rfl⟩
  · cases th with
    | nil =>
      clear h hcur
      go_enter Tryz.func91, Tryz.ntmps91
      go_wp2_with fail
      go_ret
      exact ⟨rfl, 0, rfl⟩
    | cons p r =>
      have d0 : W.cell? ⟨g, 0, none⟩ = some (.int .i64 (p : Int)) := h.there.cell (j := 0) (by simp [zI])
      have hpl : p < l.length := hth p (by simp)
      have dR : W.cell? ⟨Rd, p, none⟩ = some (.int .i64 ((RK rk p : Nat) : Int)) := (cells_of (l := (zI rk).map (Value.int .i64)) h.ranked).1 p _ (by simp [zI, RK_get (show p < rk.length by rw [hr.len]; exact hpl)])
      have hz : (zI (p :: r)).length = r.length + 1 := by simp [zI]
      have hpi : (p : Int) < (l.length : Int) := by omega
      rw [hz] at c5
      clear h hcur hcap hm hg hcs hth
      go_enter Tryz.func91, Tryz.ntmps91
      go_wp2_with fail
      go_quiet (fail)
      go_wp2_with fail
      go_ret
      exact ⟨rfl, _, rfl⟩
end Go.Proofs.YtccoobcggbbciaiGreatDoor.S8
