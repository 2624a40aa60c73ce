import Derived.Test.YtkafihaajpifoajCA
import Derived.Test.YtkafihaajpifoajLA
namespace Go.Proofs.Ytkafihaajpifoaj
open Go.ChangeShapes Go.WideShapes Go.ChangeAt Go.RowKit

/-- A row of a table: its numbers, and where they lie. -/
structure Ro where
  xs : List Int
  v : Value
def Ro.vals (x : Ro) : List Value := [x.v]
theorem Ro.len (x : Ro) : x.vals.length = 1 := rfl
def TabSl (w : World) (l : List Ro) (v : Value) : Prop := RowSl Ro.vals w l v ∧ ∀ x ∈ l, RowSl nuV w x.xs x.v
theorem TabSl.below {w w' : World} {l : List Ro} {v : Value} (h : TabSl w l v) (hb : Below w.heap.size w w') : TabSl w' l v := ⟨h.1.below hb, fun x hx => (h.2 x hx).below hb⟩
theorem ro_at {w : World} {l : List Ro} {b o j : Nat} {x : Ro} (h : ∀ q u, (l.flatMap Ro.vals)[q]? = some u → w.cell? ⟨b, o + q, none⟩ = some u) (hj : l[j]? = some x) : w.cell? ⟨b, o + j, none⟩ = some x.v := by
  have := h _ _ ((flat_at Ro.vals 1 Ro.len l j 0 x hj (by omega)).trans (rfl : x.vals[0]? = some x.v))
  simpa using this

theorem infoTb : (Try.prog.info? 24).map (fun i => (i.zero, i.size, i.bytes)) = some (some (.slice none 0 0), 1, 24) := by kernel_rfl

/-- A slice of numbers of one's own, below which nothing turned. -/
theorem copyNu (W : World) (l : List Int) (ad : Option Addr) (c : Nat) (hb : l.length * 8 ≤ 140737488355328) (hv : RowSl nuV W l (.slice ad l.length c)) :
    ∃ u W', (Builtin.append_ #[24, 24] 24 #[.slice (some ⟨W.heap.size, 0, none⟩) 0 0, .slice ad l.length c]).run Try.prog (W.alloc (.cells #[] 3)) = .ok u W' ∧ RowSl nuV W' l u ∧ Below W.heap.size W W' ∧ ∀ k, u.ownBlock = some k → W.heap.size ≤ k ∧ k < W'.heap.size := by
  obtain ⟨i0, hi0, hz0, hz1, hz2⟩ := info_parts infoNu
  have hown : (W.alloc (.cells #[] 3)).ownsRow W.heap.size 3 1 (.slice (some ⟨W.heap.size, 0, none⟩) 0 0) 0 [] := ⟨rfl, .inr ⟨W.heap.size, 0, #[], rfl, Nat.le_refl _, heap_alloc_new _ _, Nat.le_refl _, by unfold maxLen; omega, rfl, rfl⟩⟩
  obtain ⟨ad', c', e, hnil, hcap, hrow⟩ := hv.below (below_new W (.cells #[] 3))
  cases e
  cases ad with
  | none =>
    obtain ⟨hl0, rfl⟩ := hnil rfl
    have hl : l = [] := List.eq_nil_of_length_eq_zero hl0
    subst hl
    refine ⟨_, _, run_append_owned_none (P := Try.prog) (W.alloc (.cells #[] 3)) W.heap.size 24 24 3 i0 1 Try.underlying24 hi0 _ 0 [] hown, ⟨_, _, rfl, (fun e => by cases e), Nat.le_refl _, .inl rfl⟩, below_new _ _, fun k hk => by cases hk; exact ⟨Nat.le_refl _, by simp⟩⟩
  | some a =>
    obtain ⟨u, W', hrun, ho, hg, -, hu⟩ := run_append_own_at (P := Try.prog) (w := W.alloc (.cells #[] 3)) W.heap.size 24 24 3 i0 _ 1 8 Try.underlying24 hi0 hz0 hz1 hz2 rfl (by decide) _ 0 [] hown a l.length c (l.flatMap nuV) (flat_length nuV 1 nuV_len l) (fun j u hj => by
      rcases hrow with h | ⟨b, o, h2, h3⟩
      · subst h; simp at hj
      · cases h2
        rw [Addr.add_lit]
        exact h3 j u hj) (fun u hu => flatOneNu hu) (by unfold maxLen; omega) (by omega) (by simp)
    rw [Nat.zero_add, List.nil_append] at ho
    refine ⟨u, W', hrun, ?_, (below_new _ _).trans ((Below.refl _ _).grown hg (by simp) (by intro k hk; cases hk; exact Nat.le_refl _)), fun k hk => ?_⟩
    · obtain ⟨hl, ⟨h1, h2⟩ | ⟨g, cap, cur, h1, h2, h3, h4, h5, h6, h7⟩⟩ := ho
      · have hl0 : l = [] := List.eq_nil_of_length_eq_zero h2
        subst hl0
        rw [h1]
        exact RowSl.nil _ _
      · refine ⟨_, cap, h1, (fun e => by cases e), h4, .inr ⟨g, 0, rfl, fun q u hq => ?_⟩⟩
        have hql := (List.getElem?_eq_some_iff.1 hq).1
        rw [flat_length nuV 1 nuV_len] at hql
        rw [Nat.zero_add]
        unfold World.cell?
        rw [h3]
        rw [← h7, List.getElem?_take_of_lt hql, Array.getElem?_toList] at hq
        simpa using hq
    · refine ⟨?_, ?_⟩
      · rcases hu with hu | hu
        · rw [hu] at hk; cases hk; exact Nat.le_refl _
        · rw [hu] at hk; simp at hk; omega
      · obtain ⟨-, ⟨h1, -⟩ | ⟨g, cap, cur, h1, -, h3, -⟩⟩ := ho
        · rw [h1] at hk; cases hk
        · rw [h1] at hk; cases hk; exact (Array.getElem?_eq_some_iff.1 h3).1


theorem ownsRow_below' {w w' : World} {B n size : Nat} {e : TypeId} {v : Value} {xs : List Value} (h : w.ownsRow B e size v n xs) (hb : Below w.heap.size w w') : w'.ownsRow B e size v n xs := by
  obtain ⟨hl, h | ⟨g, cap, cur, he, hB, hg, hr⟩⟩ := h
  · exact ⟨hl, .inl h⟩
  · exact ⟨hl, .inr ⟨g, cap, cur, he, hB, (hb.block g (Array.getElem?_eq_some_iff.1 hg).1).trans hg, hr⟩⟩


theorem RowSl.keep {α : Type} {f : α → List Value} {w w' : World} {l : List α} {v : Value} (h : RowSl f w l v) (hk : ∀ k, v.ownBlock = some k → w'.heap[k]? = w.heap[k]?) : RowSl f w' l v := by
  obtain ⟨ad, c, rfl, h1, h2, h3⟩ := h
  refine ⟨ad, c, rfl, h1, h2, h3.imp id ?_⟩
  rintro ⟨b, o, rfl, h⟩
  refine ⟨b, o, rfl, fun q u hq => ?_⟩
  rw [World.cell?_of_block (hk b rfl)]
  exact h q u hq

theorem row_own {α : Type} {f : α → List Value} {sz : Nat} (hf : ∀ x, (f x).length = sz) {w : World} {B : Nat} {e : TypeId} {v : Value} {l : List α} (h : w.ownsRow B e sz v l.length (l.flatMap f)) : RowSl f w l v := by
  obtain ⟨hl, ⟨h1, h2⟩ | ⟨g, cap, cur, h1, h2, h3, h4, h5, h6, h7⟩⟩ := h
  · have hl0 : l = [] := List.eq_nil_of_length_eq_zero h2
    subst hl0
    rw [h1]
    exact RowSl.nil _ _
  · refine ⟨_, cap, h1, (fun e => by cases e), h4, .inr ⟨g, 0, rfl, fun q u hq => ?_⟩⟩
    have hql := (List.getElem?_eq_some_iff.1 hq).1
    rw [flat_length f sz hf] at hql
    rw [Nat.zero_add]
    unfold World.cell?
    rw [h3]
    rw [← h7, List.getElem?_take_of_lt hql, Array.getElem?_toList] at hq
    simpa using hq


/-- Rows that have been copied so far. -/
structure Cop (w W : World) (js : List Ro) (ov : Value) : Prop where
  bel : Below w.heap.size w W
  own : W.ownsRow w.heap.size 24 1 ov js.length (js.flatMap Ro.vals)
  xss : ∀ x ∈ js, RowSl nuV W x.xs x.v
  one : ∀ x ∈ js, x.v.oneCell' = true
  apart : ∀ x ∈ js, ∀ k, x.v.ownBlock = some k → k < W.heap.size ∧ ov.ownBlock ≠ some k
  low : ∀ x ∈ js, ∀ k, x.v.ownBlock = some k → w.heap.size ≤ k

theorem Cop.grow {w W W' : World} {js : List Ro} {ov : Value} (h : Cop w W js ov) (hb : Below W.heap.size W W') : Cop w W' js ov :=
  ⟨below_seq h.bel hb, ownsRow_below' h.own hb, fun x hx => (h.xss x hx).below hb, h.one, fun x hx k hk => ⟨Nat.lt_of_lt_of_le (h.apart x hx k hk).1 hb.size, (h.apart x hx k hk).2⟩, h.low⟩

/-- One more. -/
theorem Cop.push {w W : World} {js : List Ro} {ov : Value} (h : Cop w W js ov) (x : Ro) (hl : js.length ≤ 1000000) (hx : RowSl nuV W x.xs x.v) (hone : x.v.oneCell' = true) (hap : ∀ k, x.v.ownBlock = some k → k < W.heap.size ∧ ov.ownBlock ≠ some k) (hlow : ∀ k, x.v.ownBlock = some k → w.heap.size ≤ k) :
    ∃ ov' W', (Builtin.append_ #[42, 42] 42 #[ov, .slice (some ⟨W.heap.size, 0, none⟩) 1 1]).run Try.prog (W.alloc (.cells #[x.v] 24)) = .ok ov' W' ∧ Cop w W' (js ++ [x]) ov' := by
  obtain ⟨i0, hi0, hz0, hz1, hz2⟩ := info_parts infoTb
  have h1 := h.grow (below_new W (.cells #[x.v] 24))
  obtain ⟨ov', W', hrun, ho, hg, -, hu⟩ := run_append_own_at (P := Try.prog) (w := W.alloc (.cells #[x.v] 24)) w.heap.size 42 42 24 i0 _ 1 24 Try.underlying42 hi0 hz0 hz1 hz2 rfl (by decide) ov js.length (js.flatMap Ro.vals) h1.own ⟨W.heap.size, 0, none⟩ 1 1 x.vals rfl (fun j u hj => by rw [Addr.add_lit]; have := (cells_of (l := x.vals) (heap_alloc_new W (.cells #[x.v] 24))).1 j u hj; simpa using this) (fun u hu => by
      simp only [Ro.vals, List.mem_cons, List.not_mem_nil, or_false] at hu
      subst hu
      exact hone) (by unfold maxLen; omega) (by omega) (by have := h.bel.size; simp; omega)
  have hkeep : ∀ k, k < W.heap.size → ov.ownBlock ≠ some k → W'.heap[k]? = W.heap[k]? := fun k hk hne => by
    rw [hg.block k (by simp; omega) (fun e => hne e.symm), (below_new W _).block k hk]
  have hnew : ∀ k, k < W.heap.size → ov.ownBlock ≠ some k → ov'.ownBlock ≠ some k := fun k hk hne e => by
    rcases hu with hu | hu
    · rw [hu] at e; exact hne e
    · rw [hu] at e; simp at e; omega
  have hsz : W.heap.size ≤ W'.heap.size := by have := hg.size; simp at this; omega
  refine ⟨ov', W', hrun, h1.bel.grown hg (by have := h.bel.size; simp; omega) (fun k hk => ?_), by rw [List.length_append, List.flatMap_append]; simpa using ho, fun y hy => ?_, fun y hy => ?_, fun y hy => ?_, fun y hy => ?_⟩
  · obtain ⟨-, ⟨e, -⟩ | ⟨g, cap, cur, e, hB, -⟩⟩ := h.own
    · rw [e] at hk; cases hk
    · rw [e] at hk; cases hk; exact hB
  · rcases List.mem_append.1 hy with hy | hy
    · exact (h.xss y hy).keep fun k hk => hkeep k (h.apart y hy k hk).1 (h.apart y hy k hk).2
    · simp at hy; subst hy
      exact hx.keep fun k hk => hkeep k (hap k hk).1 (hap k hk).2
  · rcases List.mem_append.1 hy with hy | hy
    · exact h.one y hy
    · simp at hy; subst hy; exact hone
  · rcases List.mem_append.1 hy with hy | hy
    · exact fun k hk => ⟨Nat.lt_of_lt_of_le (h.apart y hy k hk).1 hsz, hnew k (h.apart y hy k hk).1 (h.apart y hy k hk).2⟩
    · simp at hy; subst hy
      exact fun k hk => ⟨Nat.lt_of_lt_of_le (hap k hk).1 hsz, hnew k (hap k hk).1 (hap k hk).2⟩
  · rcases List.mem_append.1 hy with hy | hy
    · exact h.low y hy
    · simp at hy; subst hy
      exact hlow

theorem Cop.block_lt {w W : World} {js : List Ro} {ov : Value} (h : Cop w W js ov) {k : Nat} (hk : ov.ownBlock = some k) : k < W.heap.size := by
  obtain ⟨-, ⟨e, -⟩ | ⟨g, cap, cur, e, -, hg, -⟩⟩ := h.own
  · rw [e] at hk; cases hk
  · rw [e] at hk; cases hk; exact (Array.getElem?_eq_some_iff.1 hg).1

theorem Cop.block_low {w W : World} {js : List Ro} {ov : Value} (h : Cop w W js ov) {k : Nat} (hk : ov.ownBlock = some k) : w.heap.size ≤ k := by
  obtain ⟨-, ⟨e, -⟩ | ⟨g, cap, cur, e, hB, -⟩⟩ := h.own
  · rw [e] at hk; cases hk
  · rw [e] at hk; cases hk; exact hB


set_option maxRecDepth 20000 in
set_option maxHeartbeats 4000000 in
/-- punctualsame.Copy. -/
theorem Copy_any (w : World) (l : List Ro) (v : Value) (hl : l.length ≤ 5000) (hs : ∀ x ∈ l, x.xs.length * 8 ≤ 140737488355328) (hv : TabSl w l v) :
    Calls Try.prog 11 #[v] w fun r w' => ∃ u js, r = .returned u ∧ js.map Ro.xs = l.map Ro.xs ∧ TabSl w' js u ∧ Below w.heap.size w w' := by
  obtain ⟨⟨ad, c, rfl, -, hcap, hrow⟩, hacts⟩ := hv
  have HR : Hid ((∀ W, Below w.heap.size w W → (l = [] ∨ ∃ b o, ad = some ⟨b, o, none⟩ ∧ ∀ q u, (l.flatMap Ro.vals)[q]? = some u → W.cell? ⟨b, o + q, none⟩ = some u)) ∧ (∀ x ∈ l, RowSl nuV w x.xs x.v) ∧ ∀ x ∈ l, x.xs.length * 8 ≤ 140737488355328) := ⟨fun W hb => hrow.imp id (fun ⟨b, o, e, h⟩ => ⟨b, o, e, fun q u hq => below_cell hb (h q u hq)⟩), hacts, hs⟩
  clear hrow hacts hs
  go_enter Try.func11, Try.ntmps11
  go_wp2_with fail
  go_loopw [3, 8] (fun ov i wr => ∃ (j : Nat) (js : List Ro), j ≤ l.length ∧ i = .int .i64 j ∧ Cop w wr js ov ∧ js.map Ro.xs = (l.take j).map Ro.xs) (fun _ i _ => l.length - (intOf i).toNat)
  case atStart => exact ⟨0, [], Nat.zero_le _, rfl, ⟨Below.refl _ _, ⟨rfl, .inl ⟨rfl, rfl⟩⟩, fun x hx => by simp at hx, fun x hx => by simp at hx, fun x hx => by simp at hx, fun x hx => by simp at hx⟩, rfl⟩
  case round =>
    obtain ⟨j, js, hj, rfl, hc, hq⟩ := hrel
    have hjs : js.length = j := by
      have := congrArg List.length hq
      simp at this
      omega
    subst hjs
    obtain ⟨oad, oc, rfl⟩ := owns_value hc.own
    by_cases hlt : js.length < l.length
    · obtain ⟨x, hx, hd⟩ := drop_at hlt
      rcases HR.out.1 wr hc.bel with h | ⟨b, o, rfl, hrow⟩
      · rw [h] at hlt; simp at hlt
      have c0 := ro_at hrow hx
      have hmem := List.mem_of_getElem? hx
      have hac := (HR.out.2.1 x hmem).below hc.bel
      have hsz := HR.out.2.2 x hmem
      obtain ⟨xs, xv⟩ := x
      dsimp only at hac hsz c0
      obtain ⟨aad, ac, rfl⟩ := hac.len
      have lb : b < wr.heap.size := World.block_lt_of_cell? _ _ c0
      have hji : (js.length : Int) < (l.length : Int) := by omega
      obtain ⟨u, W2, hrun, hu, hb2, hub⟩ := copyNu wr xs aad ac hsz hac
      obtain ⟨uad, uc, rfl⟩ := hu.len
      obtain ⟨ov', W4, hrun2, hc4⟩ := (hc.grow hb2).push ⟨xs, .slice uad xs.length uc⟩ (by omega) hu rfl (fun k hk => ⟨(hub k hk).2, fun e => by have h7 := hc.block_lt e; have h8 := hub k hk; omega⟩) (fun k hk => by have h8 := hub k hk; have h9 := hc.bel.size; omega)
      have HC : Hid (Cop w W4 (js ++ ([⟨xs, .slice uad xs.length uc⟩] : List Ro)) ov') := hc4
      have HQ : Hid ((js ++ ([⟨xs, .slice uad xs.length uc⟩] : List Ro)).map Ro.xs = (l.take (js.length + 1)).map Ro.xs) := by
        show _ = _
        rw [List.take_add_one, hx, List.map_append, List.map_append, hq]
        rfl
      have H1 : Hid (_ = _) := hrun
      have H2 : Hid (_ = _) := hrun2
      clear hc hq hrow hac hx hd hmem hu hb2 hub hc4 hrun hrun2
      go_wp2_with (first | (at_builtin; refine append_known rfl (.tmp 13) (.tmp 14) 24 rfl rfl rfl H1.out ?_) | (at_builtin; refine append_known rfl (.tmp 12) (.tmp 16) 42 rfl rfl rfl H2.out ?_))
      exact ⟨⟨js.length + 1, _, by omega, by simp, HC.out, HQ.out⟩, by simp [intOf]; omega⟩
    · have hje : js.length = l.length := by omega
      rw [hje, List.take_length] at hq
      have HC : Hid (Cop w wr js (.slice oad js.length oc) ∧ js.map Ro.xs = l.map Ro.xs) := ⟨hc, hq⟩
      clear hc hq
      go_wp2_with fail
      go_ret
      exact ⟨_, js, rfl, HC.out.2, ⟨row_own Ro.len HC.out.1.own, HC.out.1.xss⟩, HC.out.1.bel⟩

set_option maxRecDepth 20000 in
set_option maxHeartbeats 4000000 in
theorem SameL_any (w : World) (l : List Int) (v v' : Value) (hl : l.length ≤ 140737488355328) (h : RowSl nuV w l v) (h' : RowSl nuV w l v') :
    Calls Try.prog 15 #[v, v'] w fun r w' => r = .returned (.bool true) ∧ Below w.heap.size w w' := by
  obtain ⟨ad, c, rfl, -, -, hc⟩ := h
  obtain ⟨ad', c', rfl, -, -, hc'⟩ := h'
  have HR : Hid (_ ∧ _) := ⟨hc, hc'⟩
  clear hc hc'
  go_enter Try.func15, Try.ntmps15
  go_wp2_with fail
  go_loopw [13] (fun x wr => ∃ j : Nat, j ≤ l.length ∧ x = .int .i64 j ∧ Below w.heap.size w wr) (fun x _ => l.length - (intOf x).toNat)
  case atStart => exact ⟨0, Nat.zero_le _, rfl, Below.refl _ _⟩
  case round =>
    obtain ⟨j, hj, rfl, hb⟩ := hrel
    have HB : Hid (Below w.heap.size w wr) := hb
    by_cases hlt : j < l.length
    · obtain ⟨x, hx, -⟩ := drop_at hlt
      rcases HR.out.1 with h | ⟨b1, o1, rfl, hrow1⟩
      · rw [h] at hlt; simp at hlt
      rcases HR.out.2 with h | ⟨b2, o2, rfl, hrow2⟩
      · rw [h] at hlt; simp at hlt
      have c0 := nu_at (fun q u hq => below_cell hb (hrow1 q u hq)) hx
      have d0 := nu_at (fun q u hq => below_cell hb (hrow2 q u hq)) hx
      clear hrow1 hrow2 hb hx
      go_wp2_with fail
      go_quiet (fail)
      go_wp2_with fail
      go_roundw
      case rel => exact ⟨j + 1, by omega, by go_num, below_seq HB.out (below_drewN' (n := nq))⟩
      case measure => simp [intOf]; omega
    · have hje : j = l.length := by omega
      subst hje
      go_wp2_with fail
      go_ret
      exact ⟨rfl, hb⟩


set_option maxRecDepth 20000 in
set_option maxHeartbeats 4000000 in
/-- Tables, of the same. -/
theorem Tables_any (w : World) (l l' : List Ro) (v v' : Value) (he : l.map Ro.xs = l'.map Ro.xs) (hl : l.length ≤ 5000) (hs : ∀ x ∈ l, x.xs.length * 8 ≤ 140737488355328) (hv : TabSl w l v) (hv' : TabSl w l' v') :
    Calls Try.prog 16 #[v, v'] w fun r w' => r = .returned (.bool true) ∧ Below w.heap.size w w' := by
  obtain ⟨⟨ad, c, rfl, -, hcap, hrow⟩, hacts⟩ := hv
  obtain ⟨⟨ad', c', rfl, -, hcap', hrow'⟩, hacts'⟩ := hv'
  have hle : l'.length = l.length := by have := congrArg List.length he; simpa using this.symm
  rw [hle] at hcap' ⊢
  have HR : Hid ((∀ W, Below w.heap.size w W → (l = [] ∨ ∃ b o, ad = some ⟨b, o, none⟩ ∧ ∀ q u, (l.flatMap Ro.vals)[q]? = some u → W.cell? ⟨b, o + q, none⟩ = some u)) ∧ (∀ x ∈ l, RowSl nuV w x.xs x.v) ∧ (∀ x ∈ l, x.xs.length * 8 ≤ 140737488355328) ∧ (∀ W, Below w.heap.size w W → (l' = [] ∨ ∃ b o, ad' = some ⟨b, o, none⟩ ∧ ∀ q u, (l'.flatMap Ro.vals)[q]? = some u → W.cell? ⟨b, o + q, none⟩ = some u)) ∧ (∀ x ∈ l', RowSl nuV w x.xs x.v) ∧ l.map Ro.xs = l'.map Ro.xs ∧ l'.length = l.length) := ⟨fun W hb => hrow.imp id (fun ⟨b, o, e, h⟩ => ⟨b, o, e, fun q u hq => below_cell hb (h q u hq)⟩), hacts, hs, fun W hb => hrow'.imp id (fun ⟨b, o, e, h⟩ => ⟨b, o, e, fun q u hq => below_cell hb (h q u hq)⟩), hacts', he, hle⟩
  clear hrow hacts hs hrow' hacts' he hle
  go_enter Try.func16, Try.ntmps16
  go_wp2_with fail
  go_loopw [13] (fun i wr => ∃ (j : Nat), j ≤ l.length ∧ i = .int .i64 j ∧ Below w.heap.size w wr) (fun i _ => l.length - (intOf i).toNat)
  case atStart => exact ⟨0, Nat.zero_le _, rfl, Below.refl _ _⟩
  case round =>
    obtain ⟨j, hj, rfl, hb⟩ := hrel
    have HB : Hid (Below w.heap.size w wr) := hb
    by_cases hlt : j < l.length
    · obtain ⟨x, hx, -⟩ := drop_at hlt
      obtain ⟨y, hy, -⟩ := drop_at (show j < l'.length by have := HR.out.2.2.2.2.2.2; omega)
      rcases HR.out.1 wr hb with h | ⟨b, o, rfl, hrow⟩
      · rw [h] at hlt; simp at hlt
      rcases HR.out.2.2.2.1 wr hb with h | ⟨b', o', rfl, hrow'⟩
      · have := HR.out.2.2.2.2.2.2; rw [h] at this; simp at this; omega
      have c0 := ro_at hrow hx
      have c1 := ro_at hrow' hy
      have hxy : y.xs = x.xs := by
        have h7 := congrArg (·[j]?) HR.out.2.2.2.2.2.1
        simp only [List.getElem?_map, hx, hy, Option.map_some, Option.some.injEq] at h7
        exact h7.symm
      have r0 := (HR.out.2.1 x (List.mem_of_getElem? hx)).below hb
      have r1 := (HR.out.2.2.2.2.1 y (List.mem_of_getElem? hy)).below hb
      rw [hxy] at r1
      have hsz := HR.out.2.2.1 x (List.mem_of_getElem? hx)
      have HS : Hid (∀ W, Below wr.heap.size wr W → Calls Try.prog 15 #[x.v, y.v] W fun r w' => r = .returned (.bool true) ∧ Below W.heap.size W w') := fun W hW => SameL_any W x.xs x.v y.v (by omega) (r0.below hW) (r1.below hW)
      obtain ⟨xa, xc, hxe⟩ := r0.len
      obtain ⟨ya, yc, hye⟩ := r1.len
      rw [hxe] at c0
      rw [hye] at c1
      rw [hxe, hye] at HS
      have lb : b < wr.heap.size := World.block_lt_of_cell? _ _ c0
      have lb' : b' < wr.heap.size := World.block_lt_of_cell? _ _ c1
      have hji : (j : Int) < (l.length : Int) := by omega
      clear hrow hrow' hb hx hy hxy r0 r1 hsz hxe hye
      generalize x.xs.length = xn at *
      go_wp2_with fail
      refine wp_region_noPanic ?_
      refine wp_region_held_drew (S := fun w' => w'.cell? ⟨b, o + j, none⟩ = some (.slice xa xn xc) ∧ w'.cell? ⟨b', o' + j, none⟩ = some (.slice ya xn yc)) (by kernel_rfl) ⟨by go_simp, by go_simp⟩ (fun hHeld => ?_)
      refine take_at (i := 0) (n := 16) (v := ?_) rfl rfl (by kernel_rfl) (by kernel_rfl) (by kernel_rfl) (fun _ _ _ h => h) (Or.inl ⟨by rfl, ?_⟩) (by assumption) ?_
      rotate_left 1
      · intro wz hSw
        obtain ⟨k0, k1⟩ := hSw
        first | (go_simp; done) | (go_simp; with_reducible rfl)
      simp only [List.set_cons_zero, List.set_cons_succ]
      refine take_at (i := 1) (n := 17) (v := ?_) rfl rfl (by kernel_rfl) (by kernel_rfl) (by kernel_rfl) (fun _ _ _ h => h) (Or.inl ⟨by rfl, ?_⟩) (by assumption) ?_
      rotate_left 1
      · intro wz hSw
        obtain ⟨k0, k1⟩ := hSw
        first | (go_simp; done) | (go_simp; with_reducible rfl)
      simp only [List.set_cons_zero, List.set_cons_succ]
      refine take_at (i := 2) (n := 18) (v := ?_) rfl rfl (by kernel_rfl) (by kernel_rfl) (by kernel_rfl) (fun _ _ _ h => h) (Or.inl ⟨by rfl, ?_⟩) (by assumption) ?_
      rotate_left 1
      · intro wz hSw
        obtain ⟨k0, k1⟩ := hSw
        first | (go_simp; done) | (go_simp; with_reducible rfl)
      simp only [List.set_cons_zero, List.set_cons_succ]
      refine take_at (i := 3) (n := 19) (v := ?_) rfl rfl (by kernel_rfl) (by kernel_rfl) (by kernel_rfl) (fun _ _ _ h => h) (Or.inl ⟨by rfl, ?_⟩) (by assumption) ?_
      rotate_left 1
      · intro wz hSw
        obtain ⟨k0, k1⟩ := hSw
        first | (go_simp; done) | (go_simp; with_reducible rfl)
      simp only [List.set_cons_zero, List.set_cons_succ]
      refine take_at (i := 4) (n := 20) (v := ?_) rfl rfl (by kernel_rfl) (by kernel_rfl) (by kernel_rfl) (fun _ _ _ h => h) (Or.inl ⟨by rfl, ?_⟩) (by assumption) ?_
      rotate_left 1
      · intro wz hSw
        obtain ⟨k0, k1⟩ := hSw
        first | (go_simp; done) | (go_simp; with_reducible rfl)
      simp only [List.set_cons_zero, List.set_cons_succ]
      refine take_at (i := 5) (n := 21) (v := ?_) rfl rfl (by kernel_rfl) (by kernel_rfl) (by kernel_rfl) (fun _ _ _ h => h) (Or.inl ⟨by rfl, ?_⟩) (by assumption) ?_
      rotate_left 1
      · intro wz hSw
        obtain ⟨k0, k1⟩ := hSw
        first | (go_simp; done) | (go_simp; with_reducible rfl)
      simp only [List.set_cons_zero, List.set_cons_succ]
      refine take_at (i := 6) (n := 22) (v := ?_) rfl rfl (by kernel_rfl) (by kernel_rfl) (by kernel_rfl) (fun _ _ _ h => h) (Or.inl ⟨by rfl, ?_⟩) (by assumption) ?_
      rotate_left 1
      · intro wz hSw
        obtain ⟨k0, k1⟩ := hSw
        first | (go_simp; done) | (go_simp; with_reducible rfl)
      simp only [List.set_cons_zero, List.set_cons_succ]
      refine take_at (i := 7) (n := 23) (v := ?_) rfl rfl (by kernel_rfl) (by kernel_rfl) (by kernel_rfl) (fun _ _ _ h => h) (Or.inl ⟨by rfl, ?_⟩) (by assumption) ?_
      rotate_left 1
      · intro wz hSw
        obtain ⟨k0, k1⟩ := hSw
        first | (go_simp; done) | (go_simp; with_reducible rfl)
      simp only [List.set_cons_zero, List.set_cons_succ]
      refine wpAnyH_ready (rs := [8]) (by kernel_rfl) (by simp) ?_
      refine AllReadyH.cons rfl (fun K hK => ?_) AllReadyH.nil
      go_simp
      go_wp2_with (go_at_call 15; refine (HS.out _ (Below.refl _ _).drew).mono ?_; rintro r w5 ⟨rfl, hb5⟩)
      have H5 : Hid (Below wr.heap.size wr w5) := below_seq (Below.refl _ _).drew hb5
      refine hK.out _ _ ⟨below_cell H5.out c0, below_cell H5.out c1⟩ (fun hHeld => ?_)
      clear hb5
      clear hK K
      try simp only [List.set_cons_zero, List.set_cons_succ]
      refine take_at (i := 9) (n := 25) (v := ?_) rfl rfl (by kernel_rfl) (by kernel_rfl) (by kernel_rfl) (fun _ _ _ h => h) (Or.inl ⟨by rfl, ?_⟩) (by assumption) ?_
      rotate_left 1
      · intro wz hSw
        obtain ⟨k0, k1⟩ := hSw
        first | (go_simp; done) | (go_simp; with_reducible rfl)
      simp only [List.set_cons_zero, List.set_cons_succ]
      refine wpAnyH_done (by kernel_rfl) ?_ _
      refine NoPanic.normal ?_
      clear hHeld
      go_wp2_with fail
      exact ⟨⟨j + 1, by omega, by simp, below_seq HB.out H5.out⟩, by simp [intOf]; omega⟩
    · have hje : j = l.length := by omega
      subst hje
      go_wp2_with fail
      go_ret
      exact ⟨rfl, hb⟩
end Go.Proofs.Ytkafihaajpifoaj
