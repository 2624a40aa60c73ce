import Derived.Test.YtfffpemgfddehaaDoorOwn2
namespace Go.Proofs.YtfffpemgfddehaaDoor
open Go.ChangeShapes Go.WideShapes Go.ChangeAt Go.RowKit

mutual
def Ex.pre (m : Nat) : Ex → List Ex
  | .mk k n a => Ex.preAll m a [.mk k n a]
def Ex.preAll (m : Nat) : List Ex → List Ex → List Ex
  | [], l => l
  | x :: r, l => if m < l.length then l else Ex.preAll m r (l ++ x.pre m)
end

mutual
theorem Ex.pre_len (m : Nat) : ∀ e : Ex, 1 ≤ (e.pre m).length ∧ (e.pre m).length ≤ e.nodes
  | .mk k n a => by
    have := Ex.preAll_len m a [.mk k n a]
    unfold Ex.pre Ex.nodes
    simp at this
    omega
theorem Ex.preAll_len (m : Nat) : ∀ (a l : List Ex), l.length ≤ (Ex.preAll m a l).length ∧ (Ex.preAll m a l).length ≤ l.length + Ex.nodesAll a
  | [], l => by unfold Ex.preAll; simp
  | x :: r, l => by
    have := Ex.pre_len m x
    have := Ex.preAll_len m r (l ++ x.pre m)
    unfold Ex.preAll Ex.nodesAll
    split
    · omega
    · simp at this; omega
end

/- Its rows lie below w's end. -/
mutual
theorem Ex.In.old {w : World} : ∀ (e : Ex) {v : Value}, e.In w v → e.InP (fun b => b < w.heap.size) w v
  | .mk k n a, v, h => by
    unfold Ex.In at h
    unfold Ex.InP
    obtain ⟨ad, c, hv, h⟩ := h
    refine ⟨ad, c, hv, ?_⟩
    rcases h with h | ⟨b, o, h1, h2⟩
    · exact .inl h
    · cases a with
      | nil => exact .inl rfl
      | cons x r =>
        have hc : b < w.heap.size := by
          unfold Ex.Row at h2
          obtain ⟨⟨x0, x1, x2, h0, _⟩, _⟩ := h2
          exact World.block_lt_of_cell? _ _ h0
        exact .inr ⟨b, o, h1, hc, Ex.Row.old _ h2⟩
theorem Ex.Row.old {w : World} : ∀ (a : List Ex) {b o : Nat}, Ex.Row w a b o → Ex.RowP (fun b => b < w.heap.size) w a b o
  | [], _, _, _ => by unfold Ex.RowP; trivial
  | e :: r, b, o, h => by
    unfold Ex.Row at h
    unfold Ex.RowP
    obtain ⟨⟨x0, x1, x2, h0, h1, h2, h3⟩, h4⟩ := h
    exact ⟨⟨x0, x1, x2, h0, h1, h2, Ex.In.old e h3⟩, Ex.Row.old r h4⟩
end

theorem moves_old {B : Nat} {w w' : World} (h : Below B w w') : Moves (fun b => b < B) (fun b => b < B) w w' := fun b hb _ => ⟨hb, h.block b hb⟩

theorem Ex.Cells.one {p : Nat → Prop} {w : World} : ∀ (a : List Ex) {xs : List Value}, Ex.Cells p w a xs → ∀ u ∈ xs, u.oneCell' = true
  | [], _, h, u, hu => by unfold Ex.Cells at h; subst h; simp at hu
  | e :: r, xs, h, u, hu => by
    obtain ⟨x0, x1, x2, ys, rfl, h1, h2⟩ := h
    obtain ⟨k, n, ad, m, c, hv⟩ := h1.shape
    simp only [Value.agg.injEq, Array.mk.injEq, List.cons.injEq, and_true] at hv
    obtain ⟨rfl, rfl, rfl⟩ := hv
    simp only [List.mem_cons] at hu
    rcases hu with rfl | rfl | rfl | hu
    · rfl
    · rfl
    · rfl
    · exact Ex.Cells.one r h2 u hu

theorem Ex.Cells.len {p : Nat → Prop} {w : World} : ∀ (a : List Ex) {xs : List Value}, Ex.Cells p w a xs → xs.length = a.length * 3
  | [], _, h => by unfold Ex.Cells at h; subst h; rfl
  | e :: r, xs, h => by
    obtain ⟨x0, x1, x2, ys, rfl, h1, h2⟩ := h
    have := Ex.Cells.len r h2
    simp; omega

theorem Ex.Cells.append {p : Nat → Prop} {w : World} : ∀ (a b : List Ex) {xs ys : List Value}, Ex.Cells p w a xs → Ex.Cells p w b ys → Ex.Cells p w (a ++ b) (xs ++ ys)
  | [], b, xs, ys, h, h' => by unfold Ex.Cells at h; subst h; exact h'
  | e :: r, b, xs, ys, h, h' => by
    obtain ⟨x0, x1, x2, zs, rfl, h1, h2⟩ := h
    exact ⟨x0, x1, x2, zs ++ ys, rfl, h1, Ex.Cells.append r b h2 h'⟩

theorem owns_new {w : World} {base size : Nat} {e : TypeId} {xs : List Value} (hb : base ≤ w.heap.size) (hx : xs.length = size) : (w.alloc (.cells xs.toArray e)).ownsRow base e size (.slice (some ⟨w.heap.size, 0, none⟩) 1 1) 1 xs :=
  ⟨by simp [hx], .inr ⟨w.heap.size, 1, xs.toArray, rfl, hb, heap_alloc_new w _, Nat.le_refl _, by unfold maxLen; omega, by simp [hx], by simp [← hx]⟩⟩

theorem owns_value {w : World} {v : Value} {base n : Nat} {xs : List Value} {e : TypeId} {size : Nat} (h : w.ownsRow base e size v n xs) : ∃ ad cap, v = .slice ad n cap := by
  rcases h.2 with ⟨rfl, rfl⟩ | ⟨g, cap, cur, rfl, _⟩
  · exact ⟨_, _, rfl⟩
  · exact ⟨_, _, rfl⟩

theorem owns_cells {w : World} {v : Value} {base n : Nat} {xs : List Value} {e : TypeId} {size : Nat} (h : w.ownsRow base e size v n xs) (hn : 0 < n) : ∃ g cap, v = .slice (some ⟨g, 0, none⟩) n cap ∧ base ≤ g ∧ ∀ j u, xs[j]? = some u → w.cell? ((⟨g, 0, none⟩ : Addr).add j) = some u := by
  have h' := h
  rcases h.2 with ⟨rfl, rfl⟩ | ⟨g, cap, cur, rfl, hb, _⟩
  · omega
  · exact ⟨g, cap, rfl, hb, fun j u hj => h'.cells (g := g) rfl j u hj⟩

theorem Ex.RowP.at {p : Nat → Prop} {w : World} : ∀ (a : List Ex) {b o : Nat}, Ex.RowP p w a b o → ∀ (j : Nat) (x : Ex), a[j]? = some x →
    ∃ x0 x1 x2, w.cell? ⟨b, o + j * 3, none⟩ = some x0 ∧ w.cell? ⟨b, o + j * 3 + 1, none⟩ = some x1 ∧ w.cell? ⟨b, o + j * 3 + 2, none⟩ = some x2 ∧ Ex.InP p w x (.agg #[x0, x1, x2])
  | [], _, _, _, _, _, h => by simp at h
  | e :: r, b, o, h, 0, x, hx => by
    unfold Ex.RowP at h
    simp at hx
    subst hx
    simpa using h.1
  | e :: r, b, o, h, j + 1, x, hx => by
    unfold Ex.RowP at h
    have := Ex.RowP.at r h.2 j x (by simpa using hx)
    have e0 : o + 3 + j * 3 = o + (j + 1) * 3 := by omega
    rwa [e0] at this

theorem Ex.RowP.shape {p : Nat → Prop} {w : World} {a : List Ex} {b o : Nat} (h : Ex.RowP p w a b o) {j : Nat} (hj : j < a.length) :
    ∃ k n ad m c, w.cell? ⟨b, o + j * 3, none⟩ = some (.int .i64 k) ∧ w.cell? ⟨b, o + j * 3 + 1, none⟩ = some (.int .i64 n) ∧ w.cell? ⟨b, o + j * 3 + 2, none⟩ = some (.slice ad m c) ∧
      Ex.InP p w a[j] (.agg #[.int .i64 k, .int .i64 n, .slice ad m c]) := by
  obtain ⟨x0, x1, x2, c0, c1, c2, hin⟩ := Ex.RowP.at a h j a[j] (by simp [hj])
  obtain ⟨k, n, ad, m, c, hv⟩ := hin.shape
  simp only [Value.agg.injEq, Array.mk.injEq, List.cons.injEq, and_true] at hv
  obtain ⟨rfl, rfl, rfl⟩ := hv
  exact ⟨_, _, _, _, _, c0, c1, c2, hin⟩

theorem Ex.preAll_at {m : Nat} {a : List Ex} {j : Nat} (h : j < a.length) (l : List Ex) : Ex.preAll m (a.drop j) l = if m < l.length then l else Ex.preAll m (a.drop (j + 1)) (l ++ (a[j]).pre m) := by
  rw [drop_at h, Ex.preAll]

theorem nodesAll_drop {a : List Ex} {j : Nat} (h : j < a.length) : Ex.nodesAll (a.drop j) = (a[j]).nodes + Ex.nodesAll (a.drop (j + 1)) := by
  rw [drop_at h, Ex.nodesAll]

set_option maxHeartbeats 2000000 in
theorem nodes_any (m : Nat) (hm : m ≤ 1000) (B : Nat) (N : Nat) : ∀ (e : Ex) (w : World) (v : Value), e.nodes < N → N ≤ 1048577 → B ≤ w.heap.size → e.InP (fun b => b < B) w v →
    Calls Tryd.prog 35 #[v, .int .i64 m] w fun r w' => ∃ v' xs, r = .returned v' ∧ w'.ownsRow w.heap.size 30 3 v' (e.pre m).length xs ∧ Ex.Cells (fun b => b < B) w' (e.pre m) xs ∧ Below w.heap.size w w' := by
  induction N with
  | zero => intro e w v h; omega
  | succ N ih =>
    intro e w v hN hle hBw hin
    obtain ⟨k, n, a⟩ := e
    unfold Ex.nodes at hN
    have hlen := length_le_nodesAll a
    have hin0 := hin
    unfold Ex.InP at hin
    obtain ⟨ad, c, rfl, hrow⟩ := hin
    have HR : Hid (_ ∧ (a = [] ∨ ∃ b o, ad = some ⟨b, o, none⟩ ∧ b < B ∧ Ex.RowP (fun b => b < B) w a b o)) := ⟨hin0, hrow⟩
    clear hrow hin0
    have IH : Hid _ := ih
    clear ih
    obtain ⟨i0, hi, hz0, hz1, hz2⟩ := info_parts info30
    go_enter Tryd.func35, Tryd.ntmps35
    go_wp2_with fail
    go_loopw [4, 5, 7, 13] (fun _ x _ i wr => ∃ (j : Nat) (l : List Ex) (xs : List Value), j ≤ a.length ∧ i = .int .i64 j ∧ Ex.preAll m (a.drop j) l = Ex.preAll m a [.mk k n a] ∧ 1 ≤ l.length ∧ l.length + Ex.nodesAll (a.drop j) ≤ 1 + Ex.nodesAll a ∧ wr.ownsRow w.heap.size 30 3 x l.length xs ∧ Ex.Cells (fun b => b < B) wr l xs ∧ Below w.heap.size w wr) (fun _ _ _ i _ => a.length - (intOf i).toNat)
    case atStart =>
      refine ⟨0, [.mk k n a], [.int .i64 k, .int .i64 n, .slice ad a.length c], Nat.zero_le _, rfl, rfl, by simp, by simp, ?_, ?_, ?_⟩
      · have := owns_new (w := w.alloc (.cells #[.int .i64 k, .int .i64 n, .slice ad a.length c] 30)) (base := w.heap.size) (size := 3) (e := 30) (xs := [.int .i64 k, .int .i64 n, .slice ad a.length c]) (by simp) rfl
        simpa using this
      · refine ⟨_, _, _, [], rfl, ?_, rfl⟩
        exact HR.out.1.move (moves_old ((((Below.refl _ _).alloc (Nat.le_refl _) _).alloc (by simp) _).mono hBw))
      · exact ((Below.refl _ _).alloc (Nat.le_refl _) _).alloc (by simp) _
    case round =>
      obtain ⟨j, l, xs, hj, rfl, hpre, hl1, hl2, hown, hcs, hb⟩ := hrel
      obtain ⟨xad, xcap, rfl⟩ := owns_value hown
      by_cases hlt : j < a.length
      · rcases HR.out.2 with h | ⟨b, o, had, hbB, hrow⟩
        · subst h; simp at hlt
        subst had
        have hwr : Below B w wr := hb.mono hBw
        obtain ⟨ek, en, ead, em, ec, c0, c1, c2, hin⟩ := (Ex.RowP.move (moves_old hwr) a hbB hrow).shape hlt
        have hpa := Ex.preAll_at (m := m) hlt l
        have hnd := nodesAll_drop hlt
        have hpl := Ex.pre_len m a[j]
        have hnn := nodesAll_at a j a[j] (by simp [hlt])
        have hsz := hb.size
        by_cases hml : m < l.length
        · rw [if_pos hml] at hpa
          have HE : Hid (_ ∧ _ ∧ _ ∧ _ ∧ _) := ⟨hpre, hpa, hown, hcs, hb⟩
          clear hpre hpa hown hcs hb hin hrow hwr
          go_wp2_with fail
          go_ret
          have e1 : (Ex.mk k n a).pre m = l := by rw [Ex.pre, ← HE.out.1, HE.out.2.1]
          rw [e1]
          exact ⟨_, _, rfl, ownsRow_below HE.out.2.2.1 ((Below.refl _ _).alloc (Nat.le_refl _) _), HE.out.2.2.2.1.move (moves_old (((Below.refl _ _).alloc (Nat.le_refl _) _).mono (by omega))), HE.out.2.2.2.2.alloc (by omega) _⟩
        · rw [if_neg hml] at hpa
          have HE : Hid (_ ∧ _ ∧ _ ∧ _ ∧ _ ∧ _ ∧ _) := ⟨hpre, hpa, hown, hcs, hb, hin, hwr⟩
          clear hpre hpa hown hcs hb hin hrow hwr
          generalize hx : a[j] = x at *
          have HX : Hid _ := hx
          clear hx
          go_wp2_with (first
            | (go_at_call 35; refine (IH.out x _ _ (by omega) (by omega) (by simp; omega) ?hx).mono ?_; rotate_left 1; rintro e w2 ⟨v2, ys, rfl, ho2, hc2, hb2⟩; obtain ⟨g2, cap2, rfl, hg2, hcell2⟩ := owns_cells ho2 (by omega); have H2 : Hid (_ ∧ _ ∧ _ ∧ _) := ⟨ho2, hc2, hb2, hcell2⟩; clear ho2 hc2 hb2 hcell2)
            | (at_builtin; refine append_mine _ rfl (.tmp 22) (.tmp 25) 28 rfl w.heap.size 30 i0 _ 3 40 Tryd.underlying28 hi hz0 hz1 hz2 rfl (by decide) _ l.length xs rfl (ownsRow_below HE.out.2.2.1 (below_seq ((Below.refl _ _).alloc (Nat.le_refl _) _) H2.out.2.2.1)) ⟨g2, 0, none⟩ (x.pre m).length cap2 ys rfl (H2.out.2.1.len _) H2.out.2.2.2 (H2.out.2.1.one _) (by omega) ?q3 ?q4 ?q5 ?_; rotate_left 3; intro v3 w3 hown3 hg3 hv3; have HI3 : Hid (_ ∧ _ ∧ _) := ⟨hown3, hg3, hv3⟩; clear hown3 hg3 hv3))
          case hx => exact HE.out.2.2.2.2.2.1.move (moves_old (((Below.refl _ _).alloc (Nat.le_refl _) _).mono (by omega)))
          case q3 => unfold maxLen; omega
          case q4 => omega
          case q5 => have := H2.out.2.2.1.size; simp at this; omega
          have hbw : Below wr.heap.size wr w2 := below_seq ((Below.refl _ _).alloc (Nat.le_refl _) _) H2.out.2.2.1
          have ho2 := ownsRow_below HE.out.2.2.1 hbw
          have h1 := (below_seq HE.out.2.2.2.2.1 hbw)
          have h3 : Below w.heap.size w w3 := h1.grown HI3.out.2.1 h1.size fun q hq => (ho2.lt q hq).1
          have h23 : Below B w2 w3 := by
            have h0 : Below B w2 w2 := Below.refl _ _
            exact h0.grown HI3.out.2.1 (by have := h1.size; omega) fun q hq => by have := (ho2.lt q hq).1; omega
          go_roundw
          case rel =>
            refine ⟨j + 1, l ++ x.pre m, xs ++ ys, by omega, by go_num, ?_, by simp; omega, by simp; omega, by simpa using HI3.out.1, ?_, h3⟩
            · rw [← HE.out.1, HE.out.2.1]
            · exact Ex.Cells.append _ _ (HE.out.2.2.2.1.move (moves_old ((hbw.mono (by omega)).trans h23))) (H2.out.2.1.move (moves_old h23))
          case measure => simp [intOf]; omega
      · have hje : j = a.length := by omega
        subst hje
        rw [List.drop_length, Ex.preAll] at hpre
        have HE : Hid (_ ∧ _ ∧ _ ∧ _) := ⟨hpre, hown, hcs, hb⟩
        clear hpre hown hcs hb
        go_wp2_with fail
        go_ret
        have e1 : (Ex.mk k n a).pre m = l := by rw [Ex.pre, ← HE.out.1]
        rw [e1]
        exact ⟨_, _, rfl, HE.out.2.1, HE.out.2.2.1, HE.out.2.2.2⟩
end Go.Proofs.YtfffpemgfddehaaDoor
