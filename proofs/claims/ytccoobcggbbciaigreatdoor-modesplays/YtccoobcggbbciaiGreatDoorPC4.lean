import Derived.Test.YtccoobcggbbciaiGreatDoorPA0
import Derived.Test.YtccoobcggbbciaiGreatDoorPB0
import Derived.Test.YtccoobcggbbciaiGreatDoorMT
import Derived.Test.YtccoobcggbbciaiGreatDoorMS
import Derived.Test.YtccoobcggbbciaiGreatDoorPC1

namespace Go.Proofs.YtccoobcggbbciaiGreatDoor
open Go.ChangeShapes Go.WideShapes Go.ChangeAt Go.RowKit
open S8 (Own zI)
open Stab

/- Who is there, and who of them goes first. -/
def isThere (set : List Cr) (cs : List Co) (left : List Int) (T t : Int) (i : Nat) : Bool := decide ((cs.getD i ⟨0, 0⟩).a ≤ t) && decide (0 < S8.L left i) && (decide (T < 0) || hiOf set cs i)
def thereF (set : List Cr) (cs : List Co) (left : List Int) (T t : Int) (k : Nat) : List Nat := (List.range k).filter (isThere set cs left T t)
theorem thereF_snoc {set : List Cr} {cs : List Co} {left : List Int} {T t : Int} {k : Nat} : thereF set cs left T t (k + 1) = thereF set cs left T t k ++ (if isThere set cs left T t k = true then [k] else []) := by
  unfold thereF
  rw [List.range_succ, List.filter_append]
  congr 1
  by_cases h : isThere set cs left T t k = true <;> simp [h]
theorem thereF_len {set : List Cr} {cs : List Co} {left : List Int} {T t : Int} {k : Nat} : (thereF set cs left T t k).length ≤ k := by
  unfold thereF
  exact Nat.le_trans (List.length_filter_le _ _) (by simp)
theorem thereF_mem {set : List Cr} {cs : List Co} {left : List Int} {T t : Int} {k i : Nat} : i ∈ thereF set cs left T t k ↔ i < k ∧ isThere set cs left T t i = true := by
  unfold thereF
  rw [List.mem_filter, List.mem_range]
theorem thereF_up {set : List Cr} {cs : List Co} {left : List Int} {T t : Int} {k : Nat} : (thereF set cs left T t k).Pairwise (· < ·) := by
  unfold thereF
  exact List.Pairwise.filter _ List.pairwise_lt_range

/-- Of positions. -/
def ltP (set : List Cr) (cs : List Co) (th : List Nat) (x y : Nat) : Bool := ltCr set cs (th.getD x 0) (th.getD y 0)
theorem ltP_swo (set : List Cr) (cs : List Co) (th : List Nat) : Go.Sort.SWO (ltP set cs th) where
  irrefl x := by
    unfold ltP ltCr
    rw [if_neg (by simp)]
    simp
  trans x y z h1 h2 := by
    unfold ltP ltCr at *
    split at h1 <;> split at h2 <;> split <;> simp only [decide_eq_true_eq, ne_eq, Decidable.not_not] at * <;> omega
  ntrans x y z h1 h2 := by
    unfold ltP ltCr at *
    split at h1 <;> split at h2 <;> split <;> simp only [decide_eq_false_iff_not, ne_eq, Decidable.not_not] at * <;> omega

theorem best_none {set : List Cr} {cs : List Co} {tk : List Int} {left : List Int} {T : Int} {t : Nat} (h : thereF set cs left T (t : Int) cs.length = []) : S8.IsBest (jsF set cs tk) 1 (vis (hiOf set cs) T left) (t : Int) (-1) := by
  refine .inl ⟨rfl, fun i hi ⟨h1, h2⟩ => ?_⟩
  rw [jsF_len] at hi
  rw [jsF_at hi] at h1
  rw [L_vis] at h2
  have : i ∈ thereF set cs left T (t : Int) cs.length := by
    rw [thereF_mem]
    refine ⟨hi, ?_⟩
    unfold isThere
    split at h2
    · next hc =>
      simp only [Bool.and_eq_true, decide_eq_true_eq, Bool.or_eq_true]
      exact ⟨⟨h1, h2⟩, hc⟩
    · omega
  rw [h] at this
  simp at this

theorem perm_at {n : Nat} {d' : Array Nat} (hP : Go.Sort.PermIn 0 n (Array.range n) d') {q : Nat} (hq : q < n) : ∃ k, k < n ∧ d'[k]! = q := by
  have hz : d'.size = n := by rw [hP.1]; simp
  have hp : d'.toList.Perm (List.range n) := by
    have := hP.2.2
    rw [show d'.extract 0 n = d' by rw [← hz]; exact Array.extract_size] at this
    simpa using this
  have hm : q ∈ d'.toList := hp.mem_iff.2 (by simpa using hq)
  obtain ⟨k, hk, e⟩ := List.getElem_of_mem hm
  have hk' : k < d'.size := by simpa using hk
  exact ⟨k, by omega, by rw [getElem!_pos d' k hk']; simpa using e⟩
theorem perm_lt {n : Nat} {d' : Array Nat} (hP : Go.Sort.PermIn 0 n (Array.range n) d') {k : Nat} (hk : k < n) : d'[k]! < n := by
  have hz : d'.size = n := by rw [hP.1]; simp
  have hp : d'.toList.Perm (List.range n) := by
    have := hP.2.2
    rw [show d'.extract 0 n = d' by rw [← hz]; exact Array.extract_size] at this
    simpa using this
  have hk' : k < d'.size := by omega
  have hm : d'[k]! ∈ d'.toList := by rw [getElem!_pos d' k hk']; simp
  simpa using hp.mem_iff.1 hm

theorem best_some {set : List Cr} {cs : List Co} {tk : List Int} {left : List Int} {T : Int} {t n : Nat} {th : List Nat} {d' : Array Nat} (hth : thereF set cs left T (t : Int) cs.length = th) (hn : n = th.length) (h1 : 1 ≤ n) (hA : Asc (ltP set cs th) id 0 n d') (hP : Go.Sort.PermIn 0 n (Array.range n) d') : S8.IsBest (jsF set cs tk) 1 (vis (hiOf set cs) T left) (t : Int) ((th.getD d'[0]! 0 : Nat) : Int) ∧ th.getD d'[0]! 0 < cs.length ∧ 0 < S8.L left (th.getD d'[0]! 0) := by
  have h0 : d'[0]! < th.length := by rw [← hn]; exact perm_lt hP (by omega)
  have hget : ∀ p, p < th.length → th.getD p 0 ∈ th := fun p hp => by
    rw [List.getD_eq_getElem?_getD, List.getElem?_eq_getElem hp]
    exact List.getElem_mem hp
  have hof : ∀ i ∈ th, i < cs.length ∧ (cs.getD i ⟨0, 0⟩).a ≤ (t : Int) ∧ 0 < S8.L left i ∧ (T < 0 ∨ hiOf set cs i = true) := fun i hi => by
    rw [← hth, thereF_mem] at hi
    obtain ⟨q1, q2⟩ := hi
    unfold isThere at q2
    simp only [Bool.and_eq_true, decide_eq_true_eq, Bool.or_eq_true] at q2
    exact ⟨q1, q2.1.1, q2.1.2, q2.2⟩
  obtain ⟨b1, b2, b3, b4⟩ := hof _ (hget _ h0)
  refine ⟨.inr ⟨th.getD d'[0]! 0, rfl, by rw [jsF_len]; exact b1, by rw [jsF_at b1]; exact b2, by rw [L_vis, if_pos b4]; exact b3, fun j hj hja hjl hne => ?_⟩, b1, b3⟩
  rw [jsF_len] at hj
  rw [jsF_at hj] at hja
  rw [L_vis] at hjl
  have hjt : j ∈ th := by
    rw [← hth, thereF_mem]
    refine ⟨hj, ?_⟩
    unfold isThere
    split at hjl
    · next hc =>
      simp only [Bool.and_eq_true, decide_eq_true_eq, Bool.or_eq_true]
      exact ⟨⟨hja, hjl⟩, hc⟩
    · omega
  obtain ⟨q, hq, hqj⟩ := List.getElem_of_mem hjt
  have hqd : th.getD q 0 = j := by rw [List.getD_eq_getElem?_getD, List.getElem?_eq_getElem hq]; exact hqj
  obtain ⟨k, hk, hkq⟩ := perm_at hP (show q < n by omega)
  have hk0 : k ≠ 0 := by
    rintro rfl
    rw [hkq, hqd] at hne
    exact hne rfl
  have hB := hA 0 k (Nat.le_refl _) (by omega) hk
  rw [hkq] at hB
  unfold S8.lexJ S8.lex S8.key
  rw [jsF_at b1, jsF_at hj]
  simp only [if_true]
  have hup : d'[0]! < q → th.getD d'[0]! 0 < j := fun hlt => by
    have hpw := thereF_up (set := set) (cs := cs) (left := left) (T := T) (t := (t : Int)) (k := cs.length)
    rw [hth] at hpw
    have := List.pairwise_iff_getElem.1 hpw d'[0]! q h0 hq hlt
    rw [List.getD_eq_getElem?_getD, List.getElem?_eq_getElem h0]
    simpa [hqj] using this
  rcases hB with hB | ⟨hB, hi⟩
  · unfold ltP ltCr at hB
    rw [hqd] at hB
    split at hB <;> simp only [decide_eq_true_eq, ne_eq, Decidable.not_not] at * <;> omega
  · have := hup hi
    unfold ltP ltCr at hB
    rw [hqd] at hB
    split at hB <;> simp only [decide_eq_false_iff_not, ne_eq, Decidable.not_not] at * <;> omega

/-- A copy of numbers, in a row of one's own. -/
theorem copy_own (W : World) (l : List Int) (ad : Option Addr) (c : Nat) (hb : l.length ≤ 100000) (hv : RowSl nuV W l (.slice ad l.length c)) :
    ∃ u W', (Builtin.append_ #[24, 24] 24 #[.slice (some ⟨W.heap.size, 0, none⟩) 0 0, .slice ad l.length c]).run Tryz.prog (W.alloc (.cells #[] 3)) = .ok u W' ∧ Own W' W.heap.size u l ∧ Below W.heap.size W W' := by
  obtain ⟨i0, hi0, hz0, hz1, hz2⟩ := info_parts info3
  have hown : (W.alloc (.cells #[] 3)).ownsRow W.heap.size 3 1 (.slice (some ⟨W.heap.size, 0, none⟩) 0 0) 0 [] := ⟨rfl, .inr ⟨W.heap.size, 0, #[], rfl, Nat.le_refl _, heap_alloc_new _ _, Nat.le_refl _, by unfold maxLen; omega, rfl, rfl⟩⟩
  obtain ⟨ad', c', e, hnil, hcap, hrow⟩ := hv.below (below_new W (.cells #[] 3))
  cases e
  cases ad with
  | none =>
    obtain ⟨hl0, rfl⟩ := hnil rfl
    have hl : l = [] := List.eq_nil_of_length_eq_zero hl0
    subst hl
    exact ⟨_, _, run_append_owned_none (P := Tryz.prog) (W.alloc (.cells #[] 3)) W.heap.size 24 24 3 i0 1 Tryz.underlying24 hi0 _ 0 [] hown, hown, below_new _ _⟩
  | some a =>
    obtain ⟨u, W', hrun, ho, hg, -, hu⟩ := run_append_own_at (P := Tryz.prog) (w := W.alloc (.cells #[] 3)) W.heap.size 24 24 3 i0 _ 1 8 Tryz.underlying24 hi0 hz0 hz1 hz2 rfl (by decide) _ 0 [] hown a l.length c (l.map (Value.int .i64)) (by simp) (fun j u hj => by
      rcases hrow with h | ⟨b, o, h2, h3⟩
      · subst h; simp at hj
      · cases h2
        rw [Addr.add_lit]
        rw [← S8.zI_flat] at hj
        exact h3 j u hj) (fun u hu => by obtain ⟨z, -, rfl⟩ := List.mem_map.1 hu; rfl) (by unfold maxLen; omega) (by omega) (by simp)
    rw [Nat.zero_add, List.nil_append] at ho
    exact ⟨u, W', hrun, ho, (below_new _ _).trans ((Below.refl _ _).grown hg (by simp) (by intro k hk; cases hk; exact Nat.le_refl _))⟩
/-- One more number behind a row of one's own. -/
theorem push_own {W : World} {B : Nat} {rv : Value} {runs : List Int} (h : Own W B rv runs) (hB : B ≤ W.heap.size) (x : Int) (hl : runs.length ≤ 100000) :
    ∃ ad c w4, (Builtin.append_ #[24, 24] 24 #[rv, .slice (some ⟨W.heap.size, 0, none⟩) 1 1]).run Tryz.prog (W.alloc (.cells #[.int .i64 x] 3)) = .ok (.slice ad (runs.length + 1) c) w4 ∧ Own w4 B (.slice ad (runs.length + 1) c) (runs ++ [x]) ∧ Below B W w4 ∧ (∀ k, k < W.heap.size → rv.ownBlock ≠ some k → w4.heap[k]? = W.heap[k]?) ∧ (∀ g, (Value.slice ad (runs.length + 1) c).ownBlock = some g → rv.ownBlock = some g ∨ W.heap.size ≤ g) := by
  obtain ⟨i0, hi0, hz0, hz1, hz2⟩ := info_parts info3
  have h1 : Own (W.alloc (.cells #[.int .i64 x] 3)) B rv runs := h.same (fun g e => Below.heap_alloc _ _ _ (h.lt g e).2)
  have hlen : (runs.map (Value.int .i64)).length = runs.length := by simp
  obtain ⟨v4, w4, hrun, ho4, hg4, -, hv4⟩ := run_append_own_at (P := Tryz.prog) (w := W.alloc (.cells #[.int .i64 x] 3)) B 24 24 3 i0 _ 1 8 Tryz.underlying24 hi0 hz0 hz1 hz2 rfl (by decide) rv runs.length (runs.map (Value.int .i64)) h1 ⟨W.heap.size, 0, none⟩ 1 1 [.int .i64 x] rfl (fun j u hj => by rw [Addr.add_lit]; have := (cells_of (l := [Value.int .i64 x]) (heap_alloc_new W (.cells #[.int .i64 x] 3))).1 j u hj; simpa using this) (fun u hu => by simp at hu; subst hu; rfl) (by unfold maxLen; omega) (by omega) (by simp; omega)
  obtain ⟨ad, c, rfl⟩ := owns_value ho4
  refine ⟨ad, c, w4, hrun, ?_, ((below_new W _).mono hB).grown hg4 (by simp; omega) (fun k hk => (h.lt k hk).1), fun k hk hne => (hg4.block k (by simp; omega) (Ne.symm hne)).trans (Below.heap_alloc _ _ _ hk), fun g hg => ?_⟩
  · unfold Own
    rw [List.length_append, List.map_append]
    exact ho4
  · rcases hv4 with e | e
    · rw [e] at hg
      exact .inl hg
    · rw [e] at hg
      right
      simp at hg
      omega
end Go.Proofs.YtccoobcggbbciaiGreatDoor

namespace Go.Proofs.YtccoobcggbbciaiGreatDoor
open Go.ChangeShapes Go.WideShapes Go.ChangeAt Go.RowKit
open S8 (Own zI)
open Stab

theorem zI_snoc (l : List Nat) (x : Nat) : zI (l ++ [x]) = zI l ++ [(x : Int)] := by simp [zI]

/-- What lies in PlayCrit while it plays. -/
structure LP (w W : World) (B lb eb : Nat) (ex : List Value) (sv qv rv : Value) (left ends runs : List Int) : Prop where
  cb : CB w W sv qv
  ev : W.heap[eb]? = some (.cells (ends.map (Value.int .i64)).toArray 3 (0, 0))
  lv : left = [] ∨ W.heap[lb]? = some (.cells (left.map (Value.int .i64) ++ ex).toArray 3 (0, 0))
  own : Own W B rv runs
  lo : w.heap.size + 2 < eb ∧ w.heap.size + 2 < lb
  hi : eb < B ∧ lb < B
  ds : left = [] ∨ lb ≠ eb
  bs : B ≤ W.heap.size

theorem CB.other {w W : World} {sv qv : Value} (h : CB w W sv qv) {q i : Nat} {u : Value} (hq : w.heap.size + 2 < q) : CB w (W.setCell ⟨q, i, none⟩ u) sv qv := by
  have keep : ∀ g, g ≠ q → (W.setCell ⟨q, i, none⟩ u).heap[g]? = W.heap[g]? := fun g hg => Below.heap_setCell _ _ _ _ hg
  exact ⟨⟨h.fb.bel.setCell (show w.heap.size ≤ q by omega) _, (keep _ (by omega)).trans h.fb.res, by omega⟩, (keep _ (by omega)).trans h.b0, (keep _ (by omega)).trans h.b1⟩

section
variable {w W W' : World} {B lb eb : Nat} {ex : List Value} {sv qv rv : Value} {left ends runs : List Int}
theorem LP.grow (h : LP w W B lb eb ex sv qv rv left ends runs) (hb : Below W.heap.size W W') : LP w W' B lb eb ex sv qv rv left ends runs := by
  have bs := h.bs
  have hi := h.hi
  exact ⟨h.cb.grow hb, (hb.block _ (by omega)).trans h.ev, h.lv.imp id (fun e => (hb.block _ (by omega)).trans e), h.own.same (fun g e => hb.block g (h.own.lt g e).2), h.lo, h.hi, h.ds, by have := hb.size; omega⟩
theorem LP.setL (h : LP w W B lb eb ex sv qv rv left ends runs) {i : Nat} (hi : i < left.length) (v : Int) : LP w (W.setCell ⟨lb, i, none⟩ (.int .i64 v)) B lb eb ex sv qv rv (left.set i v) ends runs := by
  have keep : ∀ g, g ≠ lb → (W.setCell ⟨lb, i, none⟩ (.int .i64 v)).heap[g]? = W.heap[g]? := fun g hg => Below.heap_setCell _ _ _ _ hg
  have hne : left ≠ [] := fun e => by rw [e] at hi; simp at hi
  have ds := h.ds.resolve_left hne
  refine ⟨h.cb.other h.lo.2, (keep _ (Ne.symm ds)).trans h.ev, .inr ?_, h.own.same (fun g e => keep g (by have := (h.own.lt g e).1; have := h.hi; omega)), h.lo, h.hi, .inr ds, by have := h.bs; simpa using this⟩
  rw [setCell_lst (h.lv.resolve_left hne), List.set_append_left _ _ (by simpa using hi), List.map_set]
theorem LP.setE (h : LP w W B lb eb ex sv qv rv left ends runs) (i : Nat) (v : Int) : LP w (W.setCell ⟨eb, i, none⟩ (.int .i64 v)) B lb eb ex sv qv rv left (ends.set i v) runs := by
  have keep : ∀ g, g ≠ eb → (W.setCell ⟨eb, i, none⟩ (.int .i64 v)).heap[g]? = W.heap[g]? := fun g hg => Below.heap_setCell _ _ _ _ hg
  refine ⟨h.cb.other h.lo.1, ?_, ?_, h.own.same (fun g e => keep g (by have := (h.own.lt g e).1; have := h.hi; omega)), h.lo, h.hi, h.ds, by have := h.bs; simpa using this⟩
  · rw [setCell_lst h.ev, List.map_set]
  · rcases h.ds with e | e
    · exact .inl e
    · exact h.lv.imp id (fun e' => (keep _ e).trans e')
theorem LP.at (h : LP w W B lb eb ex sv qv rv left ends runs) {i : Nat} {v : Int} (hi : i < left.length) (hv : S8.L left i = v) : W.cell? ⟨lb, i, none⟩ = some (.int .i64 v) ∧ W.frozen? ⟨lb, i, none⟩ = false ∧ lb < W.heap.size := by
  rcases h.lv with e | e
  · rw [e] at hi; simp at hi
  · obtain ⟨c, f, l⟩ := cells_of e
    refine ⟨c i _ ?_, f i, l⟩
    rw [List.getElem?_append_left (by simpa using hi), List.getElem?_map, List.getElem?_eq_getElem hi]
    unfold S8.L at hv
    rw [List.getD_eq_getElem?_getD, List.getElem?_eq_getElem hi] at hv
    simp at hv
    simp [hv]
theorem LP.atE (h : LP w W B lb eb ex sv qv rv left ends runs) {i : Nat} {v : Int} (hi : i < ends.length) (hv : S8.L ends i = v) : W.cell? ⟨eb, i, none⟩ = some (.int .i64 v) ∧ W.frozen? ⟨eb, i, none⟩ = false ∧ eb < W.heap.size := by
  obtain ⟨c, f, l⟩ := cells_of h.ev
  refine ⟨c i _ ?_, f i, l⟩
  rw [List.getElem?_map, List.getElem?_eq_getElem hi]
  unfold S8.L at hv
  rw [List.getD_eq_getElem?_getD, List.getElem?_eq_getElem hi] at hv
  simp at hv
  simp [hv]
/-- Who runs is put behind the others. -/
theorem LP.push (h : LP w W B lb eb ex sv qv rv left ends runs) (x : Int) (hl : runs.length ≤ 100000) :
    ∃ ad c w4, (Builtin.append_ #[24, 24] 24 #[rv, .slice (some ⟨W.heap.size, 0, none⟩) 1 1]).run Tryz.prog (W.alloc (.cells #[.int .i64 x] 3)) = .ok (.slice ad (runs.length + 1) c) w4 ∧ LP w w4 B lb eb ex sv qv (.slice ad (runs.length + 1) c) left ends (runs ++ [x]) := by
  obtain ⟨ad, c, w4, h1, h2, h3, h4, h5⟩ := push_own h.own h.bs x hl
  have hi := h.hi
  have lo := h.lo
  have bs := h.bs
  have hold : ∀ k, k < B → w4.heap[k]? = W.heap[k]? := fun k hk => h4 k (by omega) (fun e => by have := (h.own.lt k e).1; omega)
  refine ⟨ad, c, w4, h1, ⟨⟨h.cb.fb.bel.trans (h3.mono (by omega)), (hold _ (by omega)).trans h.cb.fb.res, by omega⟩, (hold _ (by omega)).trans h.cb.b0, (hold _ (by omega)).trans h.cb.b1⟩, (hold _ hi.1).trans h.ev, h.lv.imp id (fun e => (hold _ hi.2).trans e), h2, h.lo, h.hi, h.ds, by have := h3.size; omega⟩
theorem LP.box (h : LP w W B lb eb ex sv qv rv left ends runs) : W.cell? ⟨w.heap.size, 0, none⟩ = some sv ∧ W.cell? ⟨w.heap.size + 1, 0, none⟩ = some qv ∧ w.heap.size + 2 < W.heap.size := by
  obtain ⟨c, f, l⟩ := cells_of (l := [_]) h.cb.b0
  obtain ⟨c', f', l'⟩ := cells_of (l := [_]) h.cb.b1
  exact ⟨c 0 _ rfl, c' 0 _ rfl, h.cb.fb.lt⟩
end

/-- Those that are there, in a box of the tick. -/
structure TH (W0 W : World) (tv : Value) (l : List Nat) : Prop where
  bel : Below W0.heap.size W0 W
  box : W.heap[W0.heap.size]? = some (.cells #[tv] 24 (0, 0))
  own : Own W (W0.heap.size + 1) tv (zI l)
theorem TH.start (W0 : World) : TH W0 (W0.alloc (.cells #[.slice none 0 0] 24)) (.slice none 0 0) [] := ⟨below_new _ _, heap_alloc_new _ _, rfl, .inl ⟨rfl, rfl⟩⟩
theorem TH.lt {W0 W : World} {tv : Value} {l : List Nat} (h : TH W0 W tv l) : W0.heap.size < W.heap.size := (Array.getElem?_eq_some_iff.1 h.box).1
theorem TH.grow {W0 W W' : World} {tv : Value} {l : List Nat} (h : TH W0 W tv l) (hb : Below W.heap.size W W') : TH W0 W' tv l :=
  ⟨below_seq h.bel hb, (hb.block _ h.lt).trans h.box, h.own.same (fun g e => hb.block g (h.own.lt g e).2)⟩
theorem TH.at {W0 W : World} {tv : Value} {l : List Nat} (h : TH W0 W tv l) : W.cell? ⟨W0.heap.size, 0, none⟩ = some tv ∧ W.frozen? ⟨W0.heap.size, 0, none⟩ = false ∧ W0.heap.size < W.heap.size := by
  obtain ⟨c, f, l'⟩ := cells_of (l := [_]) h.box
  exact ⟨c 0 _ rfl, f 0, l'⟩
theorem TH.push {W0 W : World} {tv : Value} {l : List Nat} (h : TH W0 W tv l) (x : Nat) (hl : l.length ≤ 100000) :
    ∃ ad c w4, (Builtin.append_ #[24, 24] 24 #[tv, .slice (some ⟨W.heap.size, 0, none⟩) 1 1]).run Tryz.prog (W.alloc (.cells #[.int .i64 (x : Int)] 3)) = .ok (.slice ad (l.length + 1) c) w4 ∧ TH W0 (w4.setCell ⟨W0.heap.size, 0, none⟩ (.slice ad (l.length + 1) c)) (.slice ad (l.length + 1) c) (l ++ [x]) ∧ w4.cell? ⟨W0.heap.size, 0, none⟩ = some tv ∧ w4.frozen? ⟨W0.heap.size, 0, none⟩ = false ∧ W0.heap.size < w4.heap.size := by
  have hlt := h.lt
  obtain ⟨ad, c, w4, h1, h2, h3, h4, h5⟩ := push_own h.own (by omega) (x : Int) (by rw [S8.zI_len]; exact hl)
  rw [S8.zI_len] at h1 h2 h5
  rw [← zI_snoc] at h2
  have hbx := (h4 _ hlt (fun e => by have := (h.own.lt _ e).1; omega)).trans h.box
  obtain ⟨bc, bf, bl⟩ := cells_of (l := [_]) hbx
  refine ⟨ad, c, w4, h1, ⟨(h.bel.trans (h3.mono (by omega))).setCell (Nat.le_refl _) _, ?_, h2.same (fun g e => Below.heap_setCell _ _ _ _ (show g ≠ W0.heap.size by have := (h2.lt g e).1; omega))⟩, bc 0 _ rfl, bf 0, bl⟩
  rw [setCell_at hbx]
  rfl

/-- sort.SliceStable where nothing is. -/
theorem slStable_none {w : World} {p : Option Addr} {c : Nat} {lf : Fn} {la lb : Array Value} : Calls Tryz.prog 34 #[.iface 24 (.slice p 0 c), .func lf la lb] w fun r w' => r = .returned (.tuple #[]) ∧ Below w.heap.size w w' := by
  refine (show Calls Tryz.prog 34 _ _ _ from Any.sort_SliceStable_tiny (P := Tryz.prog) Tryz.sl8 24 3 siT siE (by kernel_rfl) (by kernel_rfl) (by kernel_rfl) (by kernel_rfl) 2 (fun _ => by kernel_rfl) p 0 c (by omega) 102 (by kernel_rfl) lf la lb w).mono ?_
  rintro e w' ⟨rfl, os, rfl⟩
  have h := grownBy_grow w os none
  exact ⟨rfl, h.os, h.tape, h.output, h.size, fun k hk => h.block k hk (by simp)⟩

theorem wrongC_ord {x : Cr} {a : List Cr} (h : wrongC x a = 0) : x.hi = false → x.h = x.c := by
  unfold wrongC at h
  split at h
  · omega
  · split at h
    · omega
    · rename_i h1 h2
      have h2' : orderC x = false := by simpa using h2
      unfold orderC at h2'
      intro hh
      rw [hh] at h2'
      simp at h2'
      omega
theorem chkCFrom_ord {l : List Cr} : ∀ (r : List Cr) (k : Nat), (chkCFrom l r k).1 = 0 → ∀ x ∈ r, x.hi = false → x.h = x.c
  | [], _, _ => fun x hx => by simp at hx
  | x :: r, k, h => by
    rw [chkCFrom] at h
    by_cases hz : wrongC x (l.take k) = 0
    · rw [if_pos hz] at h
      have ih := chkCFrom_ord r (k + 1) h
      intro y hy
      rcases List.mem_cons.1 hy with rfl | hy
      · exact wrongC_ord hz
      · exact ih y hy
    · rw [if_neg hz] at h
      exact absurd h hz
theorem chkC_ord {l : List Cr} (h : (chkC l).1 = 0) : ∀ x ∈ l, x.hi = false → x.h = x.c := by
  unfold chkC at h
  by_cases h1 : l.length = 0 ∨ 8 < l.length
  · rw [if_pos h1] at h
    simp at h
  · rw [if_neg h1] at h
    exact chkCFrom_ord l 0 h

/-- When the mode turns, as the document says it. -/
theorem turn_doc {set : List Cr} {cs : List Co} {tk : List Int} {T : Int} {s : S8.St} {t x : Nat} (hx : x < cs.length) (hT : T = -1 ∨ 1 ≤ T) (hord : (crOf set cs x).hi = false → (crOf set cs x).h = (crOf set cs x).c) (htk : tk.getD x 0 ≤ (crOf set cs x).h) (hL : 1 ≤ S8.L s.left x) :
    turnT (jsF set cs tk) (fun j => (crOf set cs j).c) T s t (x : Int) = if S8.L s.left x - 1 = 0 then T else if (crOf set cs x).hi = true ∧ tk.getD x 0 - (S8.L s.left x - 1) = (crOf set cs x).c ∧ T < 0 then (t : Int) + 1 else T := by
  unfold turnT
  rw [Int.toNat_natCast, jsF_at hx]
  dsimp only
  by_cases h0 : S8.L s.left x - 1 = 0
  · rw [if_pos h0, if_neg (by omega)]
  · rw [if_neg h0]
    cases hh : (crOf set cs x).hi with
    | true =>
      by_cases h1 : tk.getD x 0 - (S8.L s.left x - 1) = (crOf set cs x).c ∧ T < 0
      · rw [if_pos (by omega), if_pos ⟨rfl, h1⟩]
      · rw [if_neg (by omega), if_neg (fun e => h1 e.2)]
    | false =>
      have := hord hh
      rw [if_neg (by omega), if_neg (by simp)]
end Go.Proofs.YtccoobcggbbciaiGreatDoor

namespace Go.Proofs.YtccoobcggbbciaiGreatDoor
open Go.ChangeShapes Go.WideShapes Go.ChangeAt Go.RowKit
open S8 (Own zI)
open Stab

theorem made_int (n : Nat) : madeCells (Value.int .i64 0).cells (n * 1) = ((List.replicate n (0 : Int)).map (Value.int .i64)).toArray := by
  apply Array.ext
  · simp [madeCells]
  · intro i h1 h2
    have e : i % 1 = 0 := Nat.mod_one i
    simp [madeCells, Value.cells, e]
theorem make_ints (W : World) (n : Nat) (hn : n ≤ 4000) : ∃ W', (Instr.makeSlice 24 (.int .i64 (n : Int)) (.int .i64 (n : Int))).run Tryz.prog W = .ok (.slice (some ⟨W.heap.size, 0, none⟩) n n) W' ∧ Below W.heap.size W W' ∧ W'.heap[W.heap.size]? = some (.cells ((List.replicate n (0 : Int)).map (Value.int .i64)).toArray 3 (0, 0)) := by
  obtain ⟨i0, hi0, hz0, hz1, hz2⟩ := info_parts info3
  have h := run_make (P := Tryz.prog) W 24 3 i0 _ Tryz.underlying24 hi0 hz0 .i64 .i64 (n : Int) (n : Int) (by omega) (by omega) (by rw [hz2]; omega) (by omega)
  rw [Int.toNat_natCast, hz1, made_int] at h
  exact ⟨_, h, below_new _ _, heap_alloc_new _ _⟩

def fillE (n k : Nat) : List Int := List.replicate k (-1) ++ List.replicate (n - k) 0
theorem fillE_set {n k : Nat} (h : k < n) : (fillE n k).set k (-1) = fillE n (k + 1) := by
  unfold fillE
  rw [List.set_append_right _ _ (by simp)]
  obtain ⟨m, hm⟩ : ∃ m, n - k = m + 1 := ⟨n - k - 1, by omega⟩
  rw [hm, List.replicate_succ, show n - (k + 1) = m by omega, List.replicate_succ']
  simp
theorem fillE_zero (n : Nat) : fillE n 0 = List.replicate n 0 := by simp [fillE]
theorem fillE_full (n : Nat) : fillE n n = List.replicate n (-1) := by simp [fillE]
theorem fillE_len {n k : Nat} (h : k ≤ n) : (fillE n k).length = n := by simp [fillE]; omega
theorem fillE_at {n k : Nat} (h : k < n) : S8.L (fillE n k) k = 0 := by
  unfold fillE S8.L
  rw [List.getD_eq_getElem?_getD, List.getElem?_append_right (by simp)]
  simp [show 0 < n - k by omega]

theorem own_row {W : World} {B : Nat} {v : Value} {l : List Int} (h : Own W B v l) : RowSl nuV W l v := by
  rcases h.cases with ⟨rfl, rfl⟩ | ⟨g, cap, cur, rfl, -, hg, hc, -⟩
  · exact RowSl.nil _ _
  · refine ⟨_, _, rfl, (fun e => by cases e), hc, .inr ⟨g, 0, rfl, fun q u hq => ?_⟩⟩
    rw [S8.zI_flat] at hq
    rw [Nat.zero_add]
    obtain ⟨z, hz, rfl⟩ : ∃ z, l[q]? = some z ∧ Value.int .i64 z = u := by
      rw [List.getElem?_map] at hq
      cases e : l[q]? with
      | none => rw [e] at hq; cases hq
      | some z => rw [e] at hq; exact ⟨z, rfl, Option.some.inj hq⟩
    exact h.cell hz
theorem row_blk {W : World} {g n : Nat} {l : List Int} (h : W.heap[g]? = some (.cells (l.map (Value.int .i64)).toArray 3 (0, 0))) (hn : n = l.length) : RowSl nuV W l (.slice (some ⟨g, 0, none⟩) n n) := by
  subst hn
  refine ⟨_, _, rfl, (fun e => by cases e), Nat.le_refl _, .inr ⟨g, 0, rfl, fun q u hq => ?_⟩⟩
  rw [Nat.zero_add]
  rw [S8.zI_flat] at hq
  exact (cells_of h).1 q u hq

theorem LP.start {w wr W3 W4 : World} {sv qv : Value} {la : Option Addr} {lc m : Nat} {tk : List Int} (hcb : CB w wr sv qv) (hown : Own W3 wr.heap.size (.slice la tk.length lc) tk) (hb3 : Below wr.heap.size wr W3) (hb4 : Below W3.heap.size W3 W4) (hh4 : W4.heap[W3.heap.size]? = some (.cells ((List.replicate m (0 : Int)).map (Value.int .i64)).toArray 3 (0, 0))) : ∃ lb ex, (tk = [] ∨ la = some ⟨lb, 0, none⟩) ∧ LP w W4 W4.heap.size lb W3.heap.size ex sv qv (.slice none 0 0) tk (fillE m 0) [] := by
  have h0 := hcb.fb.lt
  have h3 := hb3.size
  have h4 : W3.heap.size < W4.heap.size := (Array.getElem?_eq_some_iff.1 hh4).1
  have hC := (hcb.grow hb3).grow hb4
  rw [← fillE_zero] at hh4
  rcases hown.cases with ⟨-, e0⟩ | ⟨g, cap, cur, e, hB, hg, hc, hm, hs, hcl⟩
  · exact ⟨wr.heap.size, [], .inl e0, ⟨hC, hh4, .inl e0, ⟨rfl, .inl ⟨rfl, rfl⟩⟩, ⟨by omega, h0⟩, ⟨h4, by omega⟩, .inl e0, Nat.le_refl _⟩⟩
  · cases e
    have hgl : g < W3.heap.size := (Array.getElem?_eq_some_iff.1 hg).1
    refine ⟨g, cur.toList.drop tk.length, .inr rfl, ⟨hC, hh4, .inr ?_, ⟨rfl, .inl ⟨rfl, rfl⟩⟩, ⟨by omega, by omega⟩, ⟨h4, by omega⟩, .inr (by omega), Nat.le_refl _⟩⟩
    rw [hb4.block g hgl, hg, ← hcl]
theorem init_js {set : List Cr} {cs : List Co} {tk : List Int} (hz : tk.length = cs.length) : S8.St.init (jsF set cs tk) = ⟨tk, List.replicate cs.length (-1), []⟩ := by
  unfold S8.St.init
  rw [jsF_len]
  congr 1
  unfold jsF
  rw [List.map_map]
  apply List.ext_getElem
  · simp [hz]
  · intro i h1 h2
    simp [List.getD_eq_getElem?_getD, List.getElem?_eq_getElem h2]

/-- Who is ahead of the others comes first. -/
theorem sort_there {w W0 wr : World} {B lb eb : Nat} {ex : List Value} {sv qv rv tv : Value} {left ends runs : List Int} {set : List Cr} {cs : List Co} {tk : List Int} {T : Int} {t : Nat} {th : List Nat} (hLP : LP w W0 B lb eb ex sv qv rv left ends runs) (hTH : TH W0 wr tv th) (hS : RowSl Cr.vals w set sv) (hQ : RowSl Co.vals w cs qv) (hwh : Whose set cs) (hth : thereF set cs left T (t : Int) cs.length = th) (hn : 1 ≤ th.length) (hl : cs.length ≤ 4000) :
    ∃ g cap, tv = .slice (some ⟨g, 0, none⟩) th.length cap ∧ Calls Tryz.prog 34 #[.iface 24 tv, .func (.func 35) #[] #[.pointer (some ⟨w.heap.size + 1, 0, none⟩), .pointer (some ⟨W0.heap.size, 0, none⟩), .pointer (some ⟨w.heap.size, 0, none⟩)]] wr fun r w' => r = .returned (.tuple #[]) ∧ ∃ x : Nat, S8.IsBest (jsF set cs tk) 1 (vis (hiOf set cs) T left) (t : Int) (x : Int) ∧ x < cs.length ∧ 0 < S8.L left x ∧ w'.cell? ⟨g, 0, none⟩ = some (.int .i64 (x : Int)) ∧ w'.cell? ⟨W0.heap.size, 0, none⟩ = some tv ∧ W0.heap.size < w'.heap.size ∧ Below W0.heap.size W0 w' := by
  have hthl : th.length ≤ 4000 := by rw [← hth]; exact Nat.le_trans thereF_len hl
  rcases hTH.own.cases with ⟨rfl, h0⟩ | ⟨g, cap, cur, rfl, hBg, hg, hc, hm, hs, hcl⟩
  · have : th.length = 0 := by rw [← S8.zI_len, h0]; rfl
    omega
  rw [S8.zI_len] at hc hcl hTH ⊢
  obtain ⟨-, hbq, hlt0⟩ := hLP.box
  have hbs := hLP.box.1
  refine ⟨g, cap, rfl, ?_⟩
  have hgl : g < wr.heap.size := (Array.getElem?_eq_some_iff.1 hg).1
  have hrow : wr.heap[g]? = some (.cells ((List.range th.length).map (fun p => Value.int .i64 ((th.getD p 0 : Nat) : Int)) ++ cur.toList.drop th.length).toArray 3 (0, 0)) := by
    rw [hg]
    congr 1
    have e : (List.range th.length).map (fun p => Value.int .i64 ((th.getD p 0 : Nat) : Int)) = (zI th).map (Value.int .i64) := by
      unfold zI
      rw [List.map_map]
      apply List.ext_getElem
      · simp
      · intro i h1 h2
        have hi : i < th.length := by simpa using h1
        simp [List.getD_eq_getElem?_getD, List.getElem?_eq_getElem hi]
    rw [e, ← hcl]
  have hcs : 0 < cs.length := by
    have := @thereF_len set cs left T (t : Int) cs.length
    rw [hth] at this
    omega
  have hmem : ∀ p, th.getD p 0 < cs.length := fun p => by
    by_cases hp : p < th.length
    · have hm' : th.getD p 0 ∈ th := by
        rw [List.getD_eq_getElem?_getD, List.getElem?_eq_getElem hp]
        exact List.getElem_mem hp
      rw [← hth, thereF_mem] at hm'
      rw [← hth]
      exact hm'.1
    · rw [List.getD_eq_getElem?_getD, List.getElem?_eq_none (by omega)]
      exact hcs
  have hless : ∀ W d, HS2 wr g th.length (fun p => Value.int .i64 ((th.getD p 0 : Nat) : Int)) (cur.toList.drop th.length) W d → ∀ i j : Nat, i < th.length → j < th.length → Calls Tryz.prog 35 (#[.int .i64 (i : Int), .int .i64 (j : Int)] ++ #[.pointer (some ⟨w.heap.size + 1, 0, none⟩), .pointer (some ⟨W0.heap.size, 0, none⟩), .pointer (some ⟨w.heap.size, 0, none⟩)]) W fun r w' => r = .returned (.bool (ltP set cs th d[i]! d[j]!)) ∧ Below W.heap.size W w' := by
    intro W d hd i j hi hj
    have hB0 : Below W0.heap.size W0 W := ⟨hd.gr.os.trans hTH.bel.os, hd.gr.tape.trans hTH.bel.tape, hd.gr.output.trans hTH.bel.output, Nat.le_trans hTH.bel.size hd.gr.size, fun q hq => (hd.gr.block q (by have := hTH.bel.size; omega) (fun e => by cases e; omega)).trans (hTH.bel.block q hq)⟩
    have hLW := hLP.grow hB0
    obtain ⟨b0, b1, bl⟩ := hLW.box
    have hbx : W.heap[W0.heap.size]? = some (.cells #[.slice (some ⟨g, 0, none⟩) th.length cap] 24 (0, 0)) := (hd.gr.block _ hTH.lt (fun e => by cases e; omega)).trans hTH.box
    obtain ⟨bc, -, -⟩ := cells_of (l := [_]) hbx
    obtain ⟨sd, sc, rfl, -, -, hsr⟩ := hS.below hLW.cb.fb.bel
    obtain ⟨qd, qc, rfl, -, -, hqr⟩ := hQ.below hLW.cb.fb.bel
    obtain ⟨c1, k1, e1, e1', e1''⟩ := hwh.at (hmem d[i]!)
    obtain ⟨c2, k2, e2, e2', e2''⟩ := hwh.at (hmem d[j]!)
    rcases hsr with h | ⟨sb, so, rfl, hsr⟩
    · rw [h] at e1''; simp at e1''
    rcases hqr with h | ⟨qb, qo, rfl, hqr⟩
    · rw [h] at hcs; simp at hcs
    have f1 := (List.getElem?_eq_some_iff.1 e1'').1
    have f2 := (List.getElem?_eq_some_iff.1 e2'').1
    refine (lessCr_any W (w.heap.size + 1) W0.heap.size w.heap.size g qb qo sb so cs.length qc set.length sc th.length cap i j (th.getD d[i]! 0) (th.getD d[j]! 0) k1 k2 c1 c2 (crOf set cs (th.getD d[i]! 0)) (crOf set cs (th.getD d[j]! 0)) b1 (bc 0 _ rfl) b0 (hd.cell hi).1 (hd.cell hj).1 (co_at hqr e1) (co_at hqr e2) (cr_at hsr e1'') (cr_at hsr e2'') hi hj (hmem _) (hmem _) e1' e2' f1 f2).mono ?_
    rintro r w' ⟨rfl, hb⟩
    refine ⟨?_, hb⟩
    unfold ltP ltCr
    rw [show cs.getD (th.getD d[i]! 0) ⟨0, 0⟩ = c1 by rw [List.getD_eq_getElem?_getD, e1]; rfl, show cs.getD (th.getD d[j]! 0) ⟨0, 0⟩ = c2 by rw [List.getD_eq_getElem?_getD, e2]; rfl]
  have h9 := slStable_any (cT := cap) (lb := #[.pointer (some ⟨w.heap.size + 1, 0, none⟩), .pointer (some ⟨W0.heap.size, 0, none⟩), .pointer (some ⟨w.heap.size, 0, none⟩)]) (ltP_swo set cs th) (fun args W => by kernel_rfl) (fun x => rfl) hless hrow hn (by omega)
  refine h9.mono ?_
  rintro r w' ⟨rfl, d', hd, hA, hP⟩
  obtain ⟨q1, q2, q3⟩ := best_some (tk := tk) hth rfl hn hA hP
  have hbx : w'.heap[W0.heap.size]? = some (.cells #[.slice (some ⟨g, 0, none⟩) th.length cap] 24 (0, 0)) := (hd.gr.block _ hTH.lt (fun e => by cases e; omega)).trans hTH.box
  obtain ⟨bc, -, bl⟩ := cells_of (l := [_]) hbx
  exact ⟨rfl, _, q1, q2, q3, (hd.cell (by omega)).1, bc 0 _ rfl, bl, hd.gr.os.trans hTH.bel.os, hd.gr.tape.trans hTH.bel.tape, hd.gr.output.trans hTH.bel.output, Nat.le_trans hTH.bel.size hd.gr.size, fun q hq => (hd.gr.block q (by have := hTH.bel.size; omega) (fun e => by cases e; omega)).trans (hTH.bel.block q hq)⟩
end Go.Proofs.YtccoobcggbbciaiGreatDoor
