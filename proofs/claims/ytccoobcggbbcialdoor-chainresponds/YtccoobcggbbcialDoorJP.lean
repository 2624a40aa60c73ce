import Derived.Test.YtccoobcggbbcialDoorTK
import Derived.Deep.RegionHeld3
import Derived.OwnWalk
import Derived.Test.YtccoobcggbbcialDoorFX
import Derived.Maps.AppendAt
namespace Go.Proofs.YtccoobcggbbcialDoor
open Go.ChangeShapes Go.WideShapes Go.ChangeAt Go.RowKit

section
variable {P : Program} {ops : Array Oper} {Q : Exit → Act → World → Prop} {md : Region.Mode} {S : World → Prop} {L : Nat}

/-- What has come up has behind it what it waits for. -/
def shutB (md : Region.Mode) (ops : Array Oper) (l : Array Bool) : Bool :=
  (List.range ops.size).all fun k => !l.getD k false || match ops[k]? with
    | some o => o.after.all fun e => !Region.binds md e || l.getD e.on false
    | none => true
def ShutP (md : Region.Mode) (ops : Array Oper) (l : Array Bool) : Prop :=
  ∀ k o, ops[k]? = some o → l.getD k false = true → ∀ e ∈ o.after, Region.binds md e = true → l.getD e.on false = true
theorem shut_spec {l : Array Bool} (h : shutB md ops l = true) : ShutP md ops l := fun k o hk hl e he hb => by
  simp only [shutB, List.all_eq_true, List.mem_range] at h
  have h1 := h k (Array.getElem?_eq_some_iff.1 hk).1
  simp only [hk, hl, Bool.not_true, Bool.false_or] at h1
  have h2 := Array.all_eq_true_iff_forall_mem.1 h1 e he
  simpa [hb] using h2
theorem shut_set {l : Array Bool} {j : Nat} (h : ShutP md ops l) (hj : j ∈ Region.ready md ops l) : ShutP md ops (l.setIfInBounds j true) := fun k o hk hl e he hb => by
  by_cases hkj : j = k
  · subst hkj
    obtain ⟨-, o', ho', hall⟩ := mem_ready.1 hj
    rw [hk] at ho'; cases ho'
    exact getD_set_true (hall e he hb)
  · rw [getD_set_ne false hkj] at hl
    exact getD_set_true (h k o hk hl e he hb)

/-- All wait, one for the other, to be followed by number L, the last one. -/
def lastB (md : Region.Mode) (ops : Array Oper) (L : Nat) : Bool :=
  L + 1 == ops.size && (List.range L).all fun i => (List.range (L + 1)).any fun j => decide (i < j) && match ops[j]? with
    | some o => o.after.any fun e => Region.binds md e && e.on == i
    | none => false
theorem last_spec {l : Array Bool} (hL : lastB md ops L = true) (h : ShutP md ops l) (hr : L ∈ Region.ready md ops l) : ∀ (d i : Nat), i < L → L - i ≤ d → l.getD i false = true
  | 0, i, hi, hd => by omega
  | d + 1, i, hi, hd => by
    simp only [lastB, Bool.and_eq_true, List.all_eq_true, List.mem_range, List.any_eq_true, decide_eq_true_eq] at hL
    obtain ⟨j, hj, hij, hm⟩ := hL.2 i hi
    cases ho : ops[j]? with
    | none => simp [ho] at hm
    | some o =>
      simp only [ho] at hm
      obtain ⟨e, he, hb⟩ := Array.any_eq_true'.1 hm
      simp only [Bool.and_eq_true, beq_iff_eq] at hb
      rw [← hb.2]
      by_cases hjL : j = L
      · subst hjL
        obtain ⟨-, o', ho', hall⟩ := mem_ready.1 hr
        rw [ho] at ho'; cases ho'
        exact hall e he hb.1
      · exact h j o ho (last_spec (by simp only [lastB, Bool.and_eq_true, List.all_eq_true, List.mem_range, List.any_eq_true, decide_eq_true_eq]; exact hL) h hr d j (by omega) (by omega)) e he hb.1

/-- Whatever order is picked, and S holds behind each operation but the last. -/
def wpAnyL (P : Program) (md : Region.Mode) (ops : Array Oper) (Q : Exit → Act → World → Prop) (S : World → Prop) (L : Nat) : Nat → Array Bool → Act → World → Prop
  | 0, l, a, w => Region.ready md ops l = [] ∧ Q .normal a w
  | f + 1, l, a, w => (Region.ready md ops l = [] → Q .normal a w) ∧ ∀ i ∈ Region.ready md ops l, wpOp P ops Q i (fun a' w' => (i ≠ L → S w') ∧ wpAnyL P md ops Q S L f (l.setIfInBounds i true) a' w') a w

theorem wpAnyL.any : ∀ (f : Nat) (l : Array Bool) (a : Act) (w : World), wpAnyL P md ops Q S L f l a w → wpAny P md ops Q f l a w
  | 0, _, _, _, h => h
  | f + 1, _, _, _, h => ⟨h.1, fun i hi => wpOp_mono (fun a' w' h' => wpAnyL.any f _ a' w' h'.2) (h.2 i hi)⟩

theorem wpAnyL_first {i : Nat} {oi : Oper} {v : Value} (hi : ops[i]? = some oi) (hsel : ∀ (j : Nat) (o : Oper) cs b, ops[j]? = some o → o.op ≠ .select cs b)
    (hQ : ∀ c a w, Q (.panic c) (a.put oi.dst v) w → Q (.panic c) a w) (hL : lastB md ops L = true) (hiL : i < L) :
    ∀ (f : Nat) (l : Array Bool) (a : Act) (w : World), ShutP md ops l →
      (∀ j oj, ops[j]? = some oj → j ≠ i → l.getD j true = false → (∀ e ∈ oj.after, Region.binds md e = true → e.on ≠ i) → oi.apart ops oj = true) →
      i ∈ Region.ready md ops l → YieldsIf P ops S oi v a → S w →
      wpAnyL P md ops Q S L f (l.setIfInBounds i true) (a.put oi.dst v) w → wpAnyL P md ops Q S L (f + 1) l a w
  | f, l, a, w => fun hsh hfree hr hy hS H => by
    refine ⟨fun h => (by rw [h] at hr; cases hr), fun j hj => ?_⟩
    by_cases hji : j = i
    · subst hji; exact hy.wpOp hi hS ⟨fun _ => hS, H⟩
    have h0 := (mem_ready.1 hr).1
    have hjL : j ≠ L := fun e => by
      subst e
      have h1 := last_spec hL hsh hj (j - i) i hiL (Nat.le_refl _)
      rcases Nat.lt_or_ge i l.size with h' | h'
      · simp [h'] at h0 h1; rw [h0] at h1; cases h1
      · simp [Array.getElem?_eq_none h'] at h1
    cases f with
    | zero =>
      have := ready_mono hj hji
      rw [H.1] at this
      cases this
    | succ f =>
      obtain ⟨hjun, oj, hoj, hall⟩ := mem_ready.1 hj
      have hnot : ∀ e ∈ oj.after, Region.binds md e = true → e.on ≠ i := fun e he hb heq => by
        have h1 := hall e he hb
        rw [heq] at h1
        rcases Nat.lt_or_ge i l.size with h' | h'
        · simp [h'] at h0 h1; rw [h0] at h1; cases h1
        · simp [Array.getElem?_eq_none h'] at h1
      refine wpOp_mono (fun a' w' h3 => ?_) (wpOp_putIf hoj (hfree j oj hoj hji hjun hnot) (fun cs b => hsel i oi cs b hi) (fun cs b => hsel j oj cs b hoj) hQ hy (H.2 j (ready_mono hj hji)))
      refine ⟨h3.2.1, wpAnyL_first hi hsel hQ hL hiL f (l.setIfInBounds j true) a' w' (shut_set hsh hj) (fun k ok hk hki hun hno => ?_) (ready_mono hr (Ne.symm hji)) h3.1 (h3.2.1 hjL) (by rw [Array.setIfInBounds_comm _ _ hji]; exact h3.2.2)⟩
      refine hfree k ok hk hki ?_ hno
      by_cases hjk : j = k
      · subst hjk; exact hjun
      · rw [getD_set_ne true hjk] at hun; exact hun

/-- One that is taken first, its slot written out. -/
theorem takeL_at {i n : Nat} {oi : Oper} {v : Value} {f : Nat} {l : Array Bool} {xs : List Value} {ds : List Deferred} {w : World}
    (hi : ops[i]? = some oi) (hd : oi.dst = some n) (hs : Region.noSelect ops = true) (hL : lastB md ops L = true) (hiL : i < L) (hsh : shutB md ops l = true) (hf : Region.free md ops l i = true) (hr : (Region.ready md ops l).contains i = true)
    (hQ : ∀ c a w, Q (.panic c) (a.put oi.dst v) w → Q (.panic c) a w) (hy : YieldsIf P ops S oi v ⟨xs.toArray, ds⟩) (hS : S w)
    (h : wpAnyL P md ops Q S L f (l.setIfInBounds i true) ⟨(xs.set n v).toArray, ds⟩ w) : wpAnyL P md ops Q S L (f + 1) l ⟨xs.toArray, ds⟩ w := by
  refine wpAnyL_first hi (Region.noSelect_spec hs) hQ hL hiL f l _ w (shut_spec hsh) (Region.free_spec hi hf) (by simpa using hr) hy hS ?_
  have e : Act.put ⟨xs.toArray, ds⟩ oi.dst v = ⟨(xs.set n v).toArray, ds⟩ := by rw [hd]; simp [Act.put]
  rw [e]
  exact h

/-- One that is alone. -/
theorem wpAnyL_one {i : Nat} {o : Oper} {f : Nat} {l : Array Bool} {a : Act} {w : World} (hr : Region.ready md ops l = [i]) (ho : ops[i]? = some o)
    (h : ∀ K' : Act → World → Prop, Shut (∀ a w, (i ≠ L → S w) → wpAnyL P md ops Q S L f (l.setIfInBounds i true) a w → K' a w) → if Region.wanted o (yielded ops a.tmps) = true then Oper.wp P o a w K' Q else K' (a.put o.dst undef) w) : wpAnyL P md ops Q S L (f + 1) l a w :=
  ⟨(fun h0 => absurd (hr.symm.trans h0) (by simp)), fun j hj => by
    rw [hr, List.mem_singleton] at hj
    subst hj
    exact wpOp_step ho (fun K' hK => h K' (fun a w hS hW => hK a w ⟨hS, hW⟩))⟩

theorem wpAnyL_done {l : Array Bool} {a : Act} {w : World} (hr : Region.ready md ops l = []) (h : Q .normal a w) : ∀ f, wpAnyL P md ops Q S L f l a w
  | 0 => ⟨hr, h⟩
  | _ + 1 => ⟨fun _ => h, by rw [hr]; simp⟩

theorem wp_region_last {id : Nat} {a : Act} {w : World} (hm : P.follows .mixedOrders = true)
    (h : wpAnyL P .any ops Q S L ops.size (Array.replicate ops.size false) a w.drew) : (Code.region id ops true).wp P Q a w :=
  wp_region_any hm (h.any _ _ _ _)
end
end Go.Proofs.YtccoobcggbbcialDoor
namespace Go.Proofs.YtccoobcggbbcialDoor
open Go.ChangeShapes Go.WideShapes Go.ChangeAt Go.RowKit

theorem ownsRow_same {w w' : World} {B n size : Nat} {e : TypeId} {v : Value} {xs : List Value} (h : w.ownsRow B e size v n xs) (hs : ∀ k, B ≤ k → k < w.heap.size → w'.heap[k]? = w.heap[k]?) : w'.ownsRow B e size v n xs := by
  obtain ⟨hl, h | ⟨g, cap, cur, he, hb, hg, hr⟩⟩ := h
  · exact ⟨hl, .inl h⟩
  · exact ⟨hl, .inr ⟨g, cap, cur, he, hb, (hs g hb (Array.getElem?_eq_some_iff.1 hg).1).trans hg, hr⟩⟩

theorem rowArg {α : Type} {f : α → List Value} {w w1 : World} {l : List α} {ad : Option Addr} (h : l = [] ∨ ∃ b o, ad = some ⟨b, o, none⟩ ∧ ∀ q u, (l.flatMap f)[q]? = some u → w.cell? ⟨b, o + q, none⟩ = some u) (hb : Below w.heap.size w w1) : ∀ ad', ad = some ad' → ∀ j u, (l.flatMap f)[j]? = some u → w1.cell? (ad'.add j) = some u := by
  intro ad' hd j u hj
  rcases h with h2 | ⟨b, o, h2, h3⟩
  · subst h2; simp at hj
  · rw [hd] at h2
    cases h2
    rw [Addr.add_lit]
    exact below_cell hb (h3 j u hj)

theorem infoTa : (Tryd.prog.info? 27).map (fun i => (i.zero, i.size, i.bytes)) = some (some (.agg #[.string ⟨#[]⟩, .int .i64 0, .int .i64 0, .int .i64 0, .int .i64 0, .int .i64 0, .int .i64 0]), 7, 64) := by kernel_rfl

theorem flatOneTa {l : List Ta} {u : Value} (h : u ∈ l.flatMap Ta.vals) : u.oneCell' = true := by
  obtain ⟨x, h⟩ := flat_mem h
  exact Ta.one h

end Go.Proofs.YtccoobcggbbcialDoor
namespace Go.Proofs.YtccoobcggbbcialDoor
open Go.ChangeShapes Go.WideShapes Go.ChangeAt Go.RowKit

theorem info3 : (Tryd.prog.info? 3).map (fun i => (i.zero, i.size, i.bytes)) = some (some (.int .i64 0), 1, 8) := by kernel_rfl

theorem flatOneN {l : List Int} {u : Value} (h : u ∈ l.flatMap nuV) : u.oneCell' = true := by
  obtain ⟨x, h⟩ := flat_mem h
  simp only [nuV, List.mem_singleton] at h
  subst h
  rfl

theorem ownsRow_below {w w' : World} {B n size : Nat} {e : TypeId} {v : Value} {xs : List Value} (h : w.ownsRow B e size v n xs) (hb : Below w.heap.size w w') : w'.ownsRow B e size v n xs := ownsRow_same h (fun k _ hk => hb.block k hk)

end Go.Proofs.YtccoobcggbbcialDoor
namespace Go.Proofs.YtccoobcggbbcialDoor
open Go.ChangeShapes Go.WideShapes Go.ChangeAt Go.RowKit

theorem owns_value {w : World} {B n size : Nat} {e : TypeId} {v : Value} {xs : List Value} (h : w.ownsRow B e size v n xs) : ∃ ad c, v = .slice ad n c := by
  obtain ⟨hl, ⟨h, hn⟩ | ⟨g, cap, cur, he, -⟩⟩ := h
  · exact ⟨none, 0, by rw [h]; simp_all⟩
  · exact ⟨_, _, he⟩

end Go.Proofs.YtccoobcggbbcialDoor
