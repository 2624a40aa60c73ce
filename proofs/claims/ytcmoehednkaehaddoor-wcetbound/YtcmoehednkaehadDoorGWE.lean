import Derived.Test.YtcmoehednkaehadDoorGMOver
import Derived.Test.YtcmoehednkaehadDoorGMRunB
import Derived.Laws.MakeOwn
namespace Go.Proofs.YtcmoehednkaehadDoor
open Go.ChangeShapes Go.WideShapes Go.ChangeAt Go.RowKit

section
variable {P : Program} {ops : Array Oper} {Q : Exit → Act → World → Prop} {md : Region.Mode} {S : World → Prop} {L : Nat}

/-- What has come up has behind it what it waits for. -/
def shutB (md : Region.Mode) (ops : Array Oper) (l : Array Bool) : Bool :=
  (List.range ops.size).all fun k => !l.getD k false || match ops[k]? with
    | some o => o.after.all fun e => !Region.binds md e || l.getD e.on false
    | none => true
def ShutP (md : Region.Mode) (ops : Array Oper) (l : Array Bool) : Prop :=
  ∀ k o, ops[k]? = some o → l.getD k false = true → ∀ e ∈ o.after, Region.binds md e = true → l.getD e.on false = true
theorem shut_spec {l : Array Bool} (h : shutB md ops l = true) : ShutP md ops l := fun k o hk hl e he hb => by
  simp only [shutB, List.all_eq_true, List.mem_range] at h
  have h1 := h k (Array.getElem?_eq_some_iff.1 hk).1
  simp only [hk, hl, Bool.not_true, Bool.false_or] at h1
  have h2 := Array.all_eq_true_iff_forall_mem.1 h1 e he
  simpa [hb] using h2
theorem shut_set {l : Array Bool} {j : Nat} (h : ShutP md ops l) (hj : j ∈ Region.ready md ops l) : ShutP md ops (l.setIfInBounds j true) := fun k o hk hl e he hb => by
  by_cases hkj : j = k
  · subst hkj
    obtain ⟨-, o', ho', hall⟩ := mem_ready.1 hj
    rw [hk] at ho'; cases ho'
    exact getD_set_true (hall e he hb)
  · rw [getD_set_ne false hkj] at hl
    exact getD_set_true (h k o hk hl e he hb)

/-- All wait, one for the other, to be followed by number L, the last one. -/
def lastB (md : Region.Mode) (ops : Array Oper) (L : Nat) : Bool :=
  L + 1 == ops.size && (List.range L).all fun i => (List.range (L + 1)).any fun j => decide (i < j) && match ops[j]? with
    | some o => o.after.any fun e => Region.binds md e && e.on == i
    | none => false
theorem last_spec {l : Array Bool} (hL : lastB md ops L = true) (h : ShutP md ops l) (hr : L ∈ Region.ready md ops l) : ∀ (d i : Nat), i < L → L - i ≤ d → l.getD i false = true
  | 0, i, hi, hd => by omega
  | d + 1, i, hi, hd => by
    simp only [lastB, Bool.and_eq_true, List.all_eq_true, List.mem_range, List.any_eq_true, decide_eq_true_eq] at hL
    obtain ⟨j, hj, hij, hm⟩ := hL.2 i hi
    cases ho : ops[j]? with
    | none => simp [ho] at hm
    | some o =>
      simp only [ho] at hm
      obtain ⟨e, he, hb⟩ := Array.any_eq_true'.1 hm
      simp only [Bool.and_eq_true, beq_iff_eq] at hb
      rw [← hb.2]
      by_cases hjL : j = L
      · subst hjL
        obtain ⟨-, o', ho', hall⟩ := mem_ready.1 hr
        rw [ho] at ho'; cases ho'
        exact hall e he hb.1
      · exact h j o ho (last_spec (by simp only [lastB, Bool.and_eq_true, List.all_eq_true, List.mem_range, List.any_eq_true, decide_eq_true_eq]; exact hL) h hr d j (by omega) (by omega)) e he hb.1

/-- Whatever order is picked, and S holds behind each operation but the last. -/
def wpAnyL (P : Program) (md : Region.Mode) (ops : Array Oper) (Q : Exit → Act → World → Prop) (S : World → Prop) (L : Nat) : Nat → Array Bool → Act → World → Prop
  | 0, l, a, w => Region.ready md ops l = [] ∧ Q .normal a w
  | f + 1, l, a, w => (Region.ready md ops l = [] → Q .normal a w) ∧ ∀ i ∈ Region.ready md ops l, wpOp P ops Q i (fun a' w' => (i ≠ L → S w') ∧ wpAnyL P md ops Q S L f (l.setIfInBounds i true) a' w') a w

theorem wpAnyL.any : ∀ (f : Nat) (l : Array Bool) (a : Act) (w : World), wpAnyL P md ops Q S L f l a w → wpAny P md ops Q f l a w
  | 0, _, _, _, h => h
  | f + 1, _, _, _, h => ⟨h.1, fun i hi => wpOp_mono (fun a' w' h' => wpAnyL.any f _ a' w' h'.2) (h.2 i hi)⟩

theorem wpAnyL_first {i : Nat} {oi : Oper} {v : Value} (hi : ops[i]? = some oi) (hsel : ∀ (j : Nat) (o : Oper) cs b, ops[j]? = some o → o.op ≠ .select cs b)
    (hQ : ∀ c a w, Q (.panic c) (a.put oi.dst v) w → Q (.panic c) a w) (hL : lastB md ops L = true) (hiL : i < L) :
    ∀ (f : Nat) (l : Array Bool) (a : Act) (w : World), ShutP md ops l →
      (∀ j oj, ops[j]? = some oj → j ≠ i → l.getD j true = false → (∀ e ∈ oj.after, Region.binds md e = true → e.on ≠ i) → oi.apart ops oj = true) →
      i ∈ Region.ready md ops l → YieldsIf P ops S oi v a → S w →
      wpAnyL P md ops Q S L f (l.setIfInBounds i true) (a.put oi.dst v) w → wpAnyL P md ops Q S L (f + 1) l a w
  | f, l, a, w => fun hsh hfree hr hy hS H => by
    refine ⟨fun h => (by rw [h] at hr; cases hr), fun j hj => ?_⟩
    by_cases hji : j = i
    · subst hji; exact hy.wpOp hi hS ⟨fun _ => hS, H⟩
    have h0 := (mem_ready.1 hr).1
    have hjL : j ≠ L := fun e => by
      subst e
      have h1 := last_spec hL hsh hj (j - i) i hiL (Nat.le_refl _)
      rcases Nat.lt_or_ge i l.size with h' | h'
      · simp [h'] at h0 h1; rw [h0] at h1; cases h1
      · simp [Array.getElem?_eq_none h'] at h1
    cases f with
    | zero =>
      have := ready_mono hj hji
      rw [H.1] at this
      cases this
    | succ f =>
      obtain ⟨hjun, oj, hoj, hall⟩ := mem_ready.1 hj
      have hnot : ∀ e ∈ oj.after, Region.binds md e = true → e.on ≠ i := fun e he hb heq => by
        have h1 := hall e he hb
        rw [heq] at h1
        rcases Nat.lt_or_ge i l.size with h' | h'
        · simp [h'] at h0 h1; rw [h0] at h1; cases h1
        · simp [Array.getElem?_eq_none h'] at h1
      refine wpOp_mono (fun a' w' h3 => ?_) (wpOp_putIf hoj (hfree j oj hoj hji hjun hnot) (fun cs b => hsel i oi cs b hi) (fun cs b => hsel j oj cs b hoj) hQ hy (H.2 j (ready_mono hj hji)))
      refine ⟨h3.2.1, wpAnyL_first hi hsel hQ hL hiL f (l.setIfInBounds j true) a' w' (shut_set hsh hj) (fun k ok hk hki hun hno => ?_) (ready_mono hr (Ne.symm hji)) h3.1 (h3.2.1 hjL) (by rw [Array.setIfInBounds_comm _ _ hji]; exact h3.2.2)⟩
      refine hfree k ok hk hki ?_ hno
      by_cases hjk : j = k
      · subst hjk; exact hjun
      · rw [getD_set_ne true hjk] at hun; exact hun

/-- One that is taken first, its slot written out. -/
theorem takeL_at {i n : Nat} {oi : Oper} {v : Value} {f : Nat} {l : Array Bool} {xs : List Value} {ds : List Deferred} {w : World}
    (hi : ops[i]? = some oi) (hd : oi.dst = some n) (hs : Region.noSelect ops = true) (hL : lastB md ops L = true) (hiL : i < L) (hsh : shutB md ops l = true) (hf : Region.free md ops l i = true) (hr : (Region.ready md ops l).contains i = true)
    (hQ : ∀ c a w, Q (.panic c) (a.put oi.dst v) w → Q (.panic c) a w) (hy : YieldsIf P ops S oi v ⟨xs.toArray, ds⟩) (hS : S w)
    (h : wpAnyL P md ops Q S L f (l.setIfInBounds i true) ⟨(xs.set n v).toArray, ds⟩ w) : wpAnyL P md ops Q S L (f + 1) l ⟨xs.toArray, ds⟩ w := by
  refine wpAnyL_first hi (Region.noSelect_spec hs) hQ hL hiL f l _ w (shut_spec hsh) (Region.free_spec hi hf) (by simpa using hr) hy hS ?_
  have e : Act.put ⟨xs.toArray, ds⟩ oi.dst v = ⟨(xs.set n v).toArray, ds⟩ := by rw [hd]; simp [Act.put]
  rw [e]
  exact h

/-- One that is alone. -/
theorem wpAnyL_one {i : Nat} {o : Oper} {f : Nat} {l : Array Bool} {a : Act} {w : World} (hr : Region.ready md ops l = [i]) (ho : ops[i]? = some o)
    (h : ∀ K' : Act → World → Prop, Shut (∀ a w, (i ≠ L → S w) → wpAnyL P md ops Q S L f (l.setIfInBounds i true) a w → K' a w) → if Region.wanted o (yielded ops a.tmps) = true then Oper.wp P o a w K' Q else K' (a.put o.dst undef) w) : wpAnyL P md ops Q S L (f + 1) l a w :=
  ⟨(fun h0 => absurd (hr.symm.trans h0) (by simp)), fun j hj => by
    rw [hr, List.mem_singleton] at hj
    subst hj
    exact wpOp_step ho (fun K' hK => h K' (fun a w hS hW => hK a w ⟨hS, hW⟩))⟩

theorem wpAnyL_done {l : Array Bool} {a : Act} {w : World} (hr : Region.ready md ops l = []) (h : Q .normal a w) : ∀ f, wpAnyL P md ops Q S L f l a w
  | 0 => ⟨hr, h⟩
  | _ + 1 => ⟨fun _ => h, by rw [hr]; simp⟩

theorem wp_region_last {id : Nat} {a : Act} {w : World} (hm : P.follows .mixedOrders = true)
    (h : wpAnyL P .any ops Q S L ops.size (Array.replicate ops.size false) a w.drew) : (Code.region id ops true).wp P Q a w :=
  wp_region_any hm (h.any _ _ _ _)
end
end Go.Proofs.YtcmoehednkaehadDoor
namespace Go.Proofs.YtcmoehednkaehadDoor
open Go.ChangeShapes Go.WideShapes Go.ChangeAt Go.RowKit

theorem ready_false {md : Region.Mode} {ops : Array Oper} {l : Array Bool} {i : Nat} (h : i ∈ Region.ready md ops l) : ∃ hi : i < l.size, l[i] = false := by
  unfold Region.ready at h
  rw [List.mem_filter] at h
  have h2 := h.2
  simp only [Bool.and_eq_true, Bool.not_eq_true'] at h2
  have h3 := h2.1
  unfold Array.getD at h3
  split at h3
  · rename_i hi; exact ⟨hi, h3⟩
  · cases h3

/-- A region that draws its order: what holds whatever was done so far, and at the end. -/
theorem wpAny_inv {P : Program} {md : Region.Mode} {ops : Array Oper} {Q : Exit → Act → World → Prop} (Inv : Array Bool → Act → World → Prop)
    (hd : ∀ l a w, Inv l a w → Region.ready md ops l = [] → Q .normal a w)
    (hs : ∀ l a w i, Inv l a w → i ∈ Region.ready md ops l → wpOp P ops Q i (Inv (l.setIfInBounds i true)) a w) :
    ∀ (fuel : Nat) (l : Array Bool) (a : Act) (w : World), Inv l a w → l.toList.count false ≤ fuel → wpAny P md ops Q fuel l a w
  | 0, l, a, w, h, hc => by
    have hr : Region.ready md ops l = [] := by
      cases hr : Region.ready md ops l with
      | nil => rfl
      | cons i r =>
        obtain ⟨hi, he⟩ := ready_false (md := md) (ops := ops) (l := l) (i := i) (by rw [hr]; simp)
        have : false ∈ l.toList := by rw [← he]; simp
        have := List.count_pos_iff.2 this
        omega
    exact ⟨hr, hd l a w h hr⟩
  | fuel + 1, l, a, w, h, hc => by
    refine ⟨fun hr => hd l a w h hr, fun i hi => wpOp_mono (fun a w h' => ?_) (hs l a w i h hi)⟩
    refine wpAny_inv Inv hd hs fuel _ a w h' ?_
    obtain ⟨hl, he⟩ := ready_false hi
    have hl' : i < l.toList.length := by simpa using hl
    rw [Array.toList_setIfInBounds, List.count_set hl']
    have e1 : l.toList[i] = false := by simpa using he
    have hpos : 0 < l.toList.count false := List.count_pos_iff.2 (by rw [← e1]; exact List.getElem_mem _)
    rw [e1, if_pos (by decide), if_neg (by decide)]
    omega
end Go.Proofs.YtcmoehednkaehadDoor
namespace Go.Proofs.YtcmoehednkaehadDoor
open Go.ChangeShapes Go.WideShapes Go.ChangeAt Go.RowKit

theorem ownsRow_below {w w' : World} {B n size : Nat} {e : TypeId} {v : Value} {xs : List Value} (h : w.ownsRow B e size v n xs) (hb : Below w.heap.size w w') : w'.ownsRow B e size v n xs := ownsRow_same h (fun k _ hk => hb.block k hk)

/-- A slice of what is put, wherever. -/
def PutSl (w : World) (ps : List (Int × Int)) (v : Value) : Prop := ∃ ad c, v = .slice ad ps.length c ∧ (ps = [] ∨ ∃ b o, ad = some ⟨b, o, none⟩ ∧ ∀ j, j < ps.length → w.cell? ⟨b, o + j * 2, none⟩ = some (.int .i64 (ps.getD j (0, 0)).1) ∧ w.cell? ⟨b, o + j * 2 + 1, none⟩ = some (.int .i64 (ps.getD j (0, 0)).2))

theorem PutSl.below {w w' : World} {ps : List (Int × Int)} {v : Value} (h : PutSl w ps v) (hb : Below w.heap.size w w') : PutSl w' ps v := by
  obtain ⟨ad, c, h1, h2⟩ := h
  refine ⟨ad, c, h1, ?_⟩
  rcases h2 with h2 | ⟨b, o, h2, h3⟩
  · exact .inl h2
  · exact .inr ⟨b, o, h2, fun j hj => ⟨below_cell hb (h3 j hj).1, below_cell hb (h3 j hj).2⟩⟩

set_option maxRecDepth 20000 in
set_option maxHeartbeats 4000000 in
/-- Same, of two lists of the same puts. -/
theorem SameP_any (w : World) (ps : List (Int × Int)) (v v' : Value) (hl : ps.length ≤ 4194304) (h : PutSl w ps v) (h' : PutSl w ps v') :
    Calls Tryd.prog 40 #[v, v'] w fun r w' => r = .returned (.bool true) ∧ Below w.heap.size w w' := by
  obtain ⟨ad, c, rfl, hc⟩ := h
  obtain ⟨ad', c', rfl, hc'⟩ := h'
  have HR : Hid ((ps = [] ∨ ∃ b o, ad = some ⟨b, o, none⟩ ∧ ∀ j, j < ps.length → w.cell? ⟨b, o + j * 2, none⟩ = some (.int .i64 (ps.getD j (0, 0)).1) ∧ w.cell? ⟨b, o + j * 2 + 1, none⟩ = some (.int .i64 (ps.getD j (0, 0)).2)) ∧ (ps = [] ∨ ∃ b o, ad' = some ⟨b, o, none⟩ ∧ ∀ j, j < ps.length → w.cell? ⟨b, o + j * 2, none⟩ = some (.int .i64 (ps.getD j (0, 0)).1) ∧ w.cell? ⟨b, o + j * 2 + 1, none⟩ = some (.int .i64 (ps.getD j (0, 0)).2))) := ⟨hc, hc'⟩
  clear hc hc'
  go_enter Tryd.func40, Tryd.ntmps40
  go_wp2_with fail
  go_loopw [13] (fun x wr => ∃ j : Nat, j ≤ ps.length ∧ x = .int .i64 j ∧ Below w.heap.size w wr) (fun x _ => ps.length - (intOf x).toNat)
  case atStart => exact ⟨0, Nat.zero_le _, rfl, Below.refl _ _⟩
  case round =>
    obtain ⟨j, hj, rfl, hb⟩ := hrel
    by_cases hlt : j < ps.length
    · rcases HR.out.1 with h | ⟨b, o, had, hrow⟩
      · rw [h] at hlt; simp at hlt
      rcases HR.out.2 with h | ⟨b', o', had', hrow'⟩
      · rw [h] at hlt; simp at hlt
      subst had had'
      have c0 := below_cell hb (hrow j hlt).1
      have c1 := below_cell hb (hrow j hlt).2
      have d0 := below_cell hb (hrow' j hlt).1
      have d1 := below_cell hb (hrow' j hlt).2
      clear hrow hrow'
      generalize (ps.getD j (0, 0)).1 = z at *
      generalize (ps.getD j (0, 0)).2 = z' at *
      have HB : Hid (Below w.heap.size w wr) := hb
      clear hb
      go_wp2_with fail
      go_region
      go_wp2_with fail
      go_roundw
      case rel => exact ⟨j + 1, by omega, by go_num, HB.out.drew⟩
      case measure => simp [intOf]; omega
    · have hje : j = ps.length := by omega
      subst hje
      go_wp2_with fail
      go_ret
      exact ⟨rfl, hb⟩

/-- The document's variables, in a block of their own. -/
def VB (w : World) (ub uc : Nat) (vs : List Int) : Prop := vs.length = 8 ∧ ∃ cs : Array Value, w.heap[ub]? = some (.cells cs 3 (0, 0)) ∧ (8 ≤ uc ∧ uc ≤ cs.size) ∧ ∀ j, j < 8 → cs[j]? = some (.int .i64 (vs.getD j 0))

theorem VB.same {w w' : World} {ub uc : Nat} {vs : List Int} (h : VB w ub uc vs) (hb : w'.heap[ub]? = w.heap[ub]?) : VB w' ub uc vs := by
  obtain ⟨h1, cs, h2, h3⟩ := h
  exact ⟨h1, cs, hb.trans h2, h3⟩

theorem VB.cell {w : World} {ub uc : Nat} {vs : List Int} (h : VB w ub uc vs) {j : Nat} (hj : j < 8) : w.cell? ⟨ub, j, none⟩ = some (.int .i64 (vs.getD j 0)) ∧ (∀ i, w.frozen? ⟨ub, i, none⟩ = false) ∧ ub < w.heap.size := by
  obtain ⟨h1, cs, h2, h3, h4⟩ := h
  have hc : w.heap[ub]? = some (.cells cs.toList.toArray 3 (0, 0)) := by simpa using h2
  obtain ⟨c1, c2, c3⟩ := cells_of hc
  exact ⟨c1 j _ (by have := h4 j hj; simpa using this), c2, c3⟩

theorem VB.of_owns {w : World} {B : Nat} {v : Value} {vs : List Int} (h : w.ownsRow B 3 1 v vs.length (intVs vs)) (hl : vs.length = 8) : ∃ ub uc, v = .slice (some ⟨ub, 0, none⟩) 8 uc ∧ VB w ub uc vs ∧ B ≤ ub := by
  have h' := h
  rw [hl] at h'
  obtain ⟨-, ⟨e, he⟩ | ⟨g, cap, cur, rfl, hB, hg, hc, hm, hs, ht⟩⟩ := h'
  · omega
  · refine ⟨g, cap, rfl, ⟨hl, cur, hg, ⟨by omega, by omega⟩, fun j hj => ?_⟩, hB⟩
    have e : (cur.toList.take (8 * 1))[j]? = (intVs vs)[j]? := by rw [ht]
    rw [List.getElem?_take_of_lt (by omega), intVs_at (by omega)] at e
    simpa using e

theorem putVs_at : ∀ (ps : List (Int × Int)) (j : Nat), j < ps.length → (putVs ps)[j * 2]? = some (.int .i64 (ps.getD j (0, 0)).1) ∧ (putVs ps)[j * 2 + 1]? = some (.int .i64 (ps.getD j (0, 0)).2)
  | [], j, h => by simp at h
  | p :: r, 0, _ => by simp [putVs]
  | p :: r, j + 1, h => by
    have ih := putVs_at r j (by simpa using h)
    have e : putVs (p :: r) = .int .i64 p.1 :: .int .i64 p.2 :: putVs r := by simp [putVs]
    rw [e, show (j + 1) * 2 = j * 2 + 1 + 1 by omega, show j * 2 + 1 + 1 + 1 = (j * 2 + 1) + 1 + 1 by omega]
    simpa using ih

theorem PutSl.of_own {w : World} {B : Nat} {v : Value} {ps : List (Int × Int)} (h : w.ownsRow B 76 2 v ps.length (putVs ps)) : PutSl w ps v := by
  obtain ⟨ad, cap, rfl⟩ := owns_value h
  refine ⟨ad, cap, rfl, ?_⟩
  by_cases h0 : ps = []
  · exact .inl h0
  have h' := h
  obtain ⟨-, ⟨e, he⟩ | ⟨g, cap', cur, e, -, hg, -, -, -, ht⟩⟩ := h'
  · exact absurd (List.length_eq_zero_iff.1 he) h0
  cases e
  refine .inr ⟨g, 0, rfl, fun j hj => ?_⟩
  obtain ⟨h1, h2⟩ := putVs_at ps j hj
  rw [Nat.zero_add]
  exact ⟨(h.cellAt (j * 2) (by omega)).trans h1, (h.cellAt (j * 2 + 1) (by omega)).trans h2⟩

theorem docI_zero {l : List In} {k : Int} (h : docI l = (0, k)) : k = 0 := by
  unfold docI at h
  by_cases hl : 2000 < l.length
  · rw [if_pos hl] at h; simp at h
  rw [if_neg hl] at h
  rcases hf : scan (fun _ x => formErr x) l 0 with _ | ⟨c, j⟩
  rotate_left 1
  · rw [hf] at h; exact absurd (congrArg Prod.fst h) (scan_bad _ l 0 hf)
  rw [hf] at h
  dsimp only at h
  rcases hn : docNest l l 0 [] [] with ⟨c, j⟩ | ⟨_ | ⟨o, os⟩, rs⟩
  · rw [hn] at h; exact absurd (congrArg Prod.fst h) (docNest_bad l l 0 [] [] hn)
  rotate_left 1
  · rw [hn] at h
    have := congrArg Prod.fst h
    dsimp only at this
    split at this <;> simp at this
  rw [hn] at h
  dsimp only at h
  rcases hj : scan (docJump l rs) l 0 with _ | ⟨c, j⟩
  rotate_left 1
  · rw [hj] at h; exact absurd (congrArg Prod.fst h) (scan_bad _ l 0 hj)
  rw [hj] at h
  dsimp only at h
  rcases hs : stackScan l 0 M0 with ⟨c, j⟩ | M
  · rw [hs] at h; exact absurd (congrArg Prod.fst h) (stackScan_bad l 0 M0 hs)
  rw [hs] at h
  dsimp only at h
  split at h
  · simp at h
  · exact (congrArg Prod.snd h).symm

/-- What a run answers: the fault, the variables, what went out, the ticks. -/
def resF (l : List In) (vs ins : List Int) : (Int × Int) × List Int × List (Int × Int) × Int :=
  if (docI l).1 ≠ 0 then (docI l, [], [], 0) else if vs.length ≠ 8 ∨ ins.length ≠ 4 then ((3, 0), [], [], 0) else
  match runF l ins 20000 (ms0 vs) 0 with
  | .inl p => ((11, (p : Int)), [], [], 0)
  | .inr (s, t) => ((0, 0), s.vs, s.ps, t)

theorem res_bad {l : List In} {vs ins : List Int} {c k : Int} (h : docI l = (c, k)) (h0 : c ≠ 0) : resF l vs ins = ((c, k), [], [], 0) := by
  unfold resF; rw [h, if_pos h0]

theorem res_range {l : List In} {vs ins : List Int} (h : docI l = (0, 0)) (h0 : vs.length ≠ 8 ∨ ins.length ≠ 4) : resF l vs ins = ((3, 0), [], [], 0) := by
  unfold resF; rw [h, if_neg (by simp), if_pos h0]

theorem res_run {l : List In} {vs ins : List Int} (h : docI l = (0, 0)) (hv : vs.length = 8) (hi : ins.length = 4) : resF l vs ins = match runF l ins 20000 (ms0 vs) 0 with
  | .inl p => ((11, (p : Int)), [], [], 0)
  | .inr (s, t) => ((0, 0), s.vs, s.ps, t) := by
  unfold resF; rw [h, if_neg (by simp), if_neg (by omega)]

theorem run_len (l : List In) (ins : List Int) : ∀ (n : Nat) (s : MS) (t : Int) {s' : MS} {t' : Int}, runF l ins n s t = .inr (s', t') → s'.vs.length = s.vs.length ∧ s'.ps.length ≤ s.ps.length + n
  | 0, s, t, s', t', h => by
    rw [runF] at h
    split at h
    · cases h; exact ⟨rfl, by omega⟩
    · cases h
  | n + 1, s, t, s', t', h => by
    rw [runF] at h
    split at h
    · cases h; exact ⟨rfl, by omega⟩
    · obtain ⟨h1, h2⟩ := run_len l ins n _ _ h
      have h3 := mdo_ps ins (atI l s) s
      refine ⟨h1.trans ?_, by omega⟩
      show (if (atI l s).op = 3 then s.vs.set (atI l s).a.toNat s.top else s.vs).length = _
      split <;> simp

theorem res_len (l : List In) (vs ins : List Int) : (resF l vs ins).2.1.length ≤ 8 ∧ (resF l vs ins).2.2.1.length ≤ 20000 := by
  unfold resF
  split
  · simp
  split
  · simp
  rename_i hv
  rcases hr : runF l ins 20000 (ms0 vs) 0 with p | ⟨s, t⟩
  · simp
  · obtain ⟨h1, h2⟩ := run_len l ins _ _ _ hr
    dsimp only
    have e1 : (ms0 vs).vs.length = vs.length := rfl
    have e2 : (ms0 vs).ps.length = 0 := rfl
    omega

def ansV (u q : Value) (m : (Int × Int) × List Int × List (Int × Int) × Int) : Value := .tuple #[.agg #[u, q, .int .i64 m.2.2.2], .agg #[.int .i64 m.1.1, .int .i64 m.1.2]]

/-- What the program's Run answers. -/
def RunIs (w : World) (l : List In) (vs ins : List Int) (r : Ending) (w' : World) : Prop := Below w.heap.size w w' ∧ ∃ u q, r = .returned (ansV u q (resF l vs ins)) ∧
  w'.ownsRow w.heap.size 3 1 u (resF l vs ins).2.1.length (intVs (resF l vs ins).2.1) ∧ w'.ownsRow w.heap.size 76 2 q (resF l vs ins).2.2.1.length (putVs (resF l vs ins).2.2.1) ∧ (∀ k, u.ownBlock = some k → q.ownBlock ≠ some k)

theorem RunIs.fail {w w' : World} {l : List In} {vs ins : List Int} {r : Ending} {c k : Int} (hr : resF l vs ins = ((c, k), [], [], 0)) (h : r = .returned (failV c k) ∧ Below w.heap.size w w') : RunIs w l vs ins r w' := by
  refine ⟨h.2, .slice none 0 0, .slice none 0 0, ?_, ?_, ?_, fun k hk => by cases hk⟩
  · rw [h.1, hr]; rfl
  · rw [hr]; exact World.ownsRow_nil _ _ _ _
  · rw [hr]; exact World.ownsRow_nil _ _ _ _

theorem Run_is (w : World) (l : List In) (iad : Option Addr) (ic : Nat) (vad nad : Option Addr) (vc nc : Nat) (vs ins : List Int) (hkk : KindsIn w) (h : InSl w l (.slice iad l.length ic)) (hnil : iad = none → l.length = 0 ∧ ic = 0) (hvs : IntSl w vs (.slice vad vs.length vc)) (hins : IntSl w ins (.slice nad ins.length nc)) :
    Calls Tryd.prog 18 #[.slice iad l.length ic, .slice vad vs.length vc, .slice nad ins.length nc] w (RunIs w l vs ins) := by
  obtain ⟨c, k, hc⟩ : ∃ c k, docI l = (c, k) := ⟨_, _, rfl⟩
  by_cases h0 : c = 0
  · subst h0
    have := docI_zero hc
    subst this
    have hck : checkI l = (0, 0) := (doc_check l).symm.trans hc
    by_cases hnm : vs.length ≠ 8 ∨ ins.length ≠ 4
    · exact (Run_range w l iad ic vad nad _ _ vc nc hkk h 0 hck hnm).mono fun r w' hr => RunIs.fail (res_range hc hnm) hr
    · have hv : vs.length = 8 := by omega
      have hi : ins.length = 4 := by omega
      obtain ⟨M, g⟩ := good_of hc
      have := Run_ok w l M iad ic vad nad vc nc vs ins g hkk h hnil 0 hck hv hi hvs hins
      rw [hv, hi]
      refine this.mono fun r w' hr => ?_
      obtain ⟨hb, ⟨p, e, rfl⟩ | ⟨s, t, u, q, e, rfl, h1, h2, h3, -⟩⟩ := hr
      · exact RunIs.fail (by rw [res_run hc hv hi, e]) ⟨rfl, hb⟩
      · have er : resF l vs ins = ((0, 0), s.vs, s.ps, t) := by rw [res_run hc hv hi, e]
        refine ⟨hb, u, q, ?_, ?_, ?_, h3⟩
        · rw [er]; rfl
        · rw [er]; exact h1
        · rw [er]; exact h2
  · exact (Run_bad w l iad ic _ _ hkk h c k ((doc_check l).symm.trans hc) h0).mono fun r w' hr => RunIs.fail (res_bad hc h0) hr

end Go.Proofs.YtcmoehednkaehadDoor
