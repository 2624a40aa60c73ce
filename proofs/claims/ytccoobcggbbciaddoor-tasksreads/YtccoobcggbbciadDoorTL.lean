import Derived.Test.YtccoobcggbbciadDoorTK
namespace Go.Proofs.YtccoobcggbbciadDoor
open Go.ChangeShapes Go.WideShapes Go.ChangeAt Go.RowKit

/-- An append that has room, as a step of a region. -/
theorem step_fits {P : Program} {ops : Array Oper} {o : Oper} {lst : List Value} {ds : List Deferred} {w : World} {K : Act → World → Prop} {Q : Exit → Act → World → Prop} {E : Prop} (hg : o.guard = none) (nd : Nat) (hnd : o.dst = some nd) (s x : Operand) (t : TypeId) (hop : o.op = Op.call { callee := Callee.builtin Builtin.append, args := #[s, x], argTypes := #[t, t] })
    (base : Nat) (e : TypeId) (i : TypeInfo) (size : Nat) (h1 : P.underlying t = some (.slice e)) (h2 : P.info? e = some i) (h4 : i.size = size)
    (g k cap : Nat) (xs : List Value) (hs : (Act.mk lst.toArray ds).eval s = .slice (some ⟨g, 0, none⟩) k cap) (hown : w.ownsRow base e size (.slice (some ⟨g, 0, none⟩) k cap) k xs) (ao : Option Addr) (m c : Nat) (news : List Value) (hx : (Act.mk lst.toArray ds).eval x = .slice ao m c) (hn : news.length = m * size)
    (hnone : ao = none → m = 0 ∧ c = 0) (hc : ∀ ad, ao = some ad → ∀ j u, news[j]? = some u → w.cell? (ad.add j) = some u) (h1c : ∀ u ∈ news, u.oneCell' = true) (b1 : k + m ≤ cap) (n' : Nat) (hn' : k + m = n') (ys : List Value) (hys : xs ++ news = ys)
    (hK : ∀ w', w'.ownsRow base e size (.slice (some ⟨g, 0, none⟩) n' cap) n' ys → w.grownBy w' (some g) → K ⟨(lst.set nd (.slice (some ⟨g, 0, none⟩) n' cap)).toArray, ds⟩ w') :
    if Region.wanted o (yielded ops (Act.mk lst.toArray ds).tmps) = true then Oper.wp P o ⟨lst.toArray, ds⟩ w K Q else E := by
  subst hn' hys
  have hw : Region.wanted o (yielded ops (Act.mk lst.toArray ds).tmps) = true := by simp [Region.wanted, hg]
  rw [if_pos hw]
  obtain ⟨w', hrun, ho, hgr⟩ : ∃ w', (Builtin.append_ #[t, t] o.type #[.slice (some ⟨g, 0, none⟩) k cap, .slice ao m c]).run P w = .ok (.slice (some ⟨g, 0, none⟩) (k + m) cap) w' ∧ w'.ownsRow base e size (.slice (some ⟨g, 0, none⟩) (k + m) cap) (k + m) (xs ++ news) ∧ w.grownBy w' (some g) := by
    cases ao with
    | some ad => exact run_append_fits w base t o.type e i size h1 h2 h4 g k cap xs hown ad m c news hn (hc ad rfl) h1c b1
    | none =>
      obtain ⟨rfl, rfl⟩ := hnone rfl
      have hnil : news = [] := List.eq_nil_of_length_eq_zero (by rw [hn]; omega)
      subst hnil
      exact ⟨w, run_append_owned_none w base t o.type e i size h1 h2 _ k xs hown, by simpa using hown, ⟨rfl, rfl, rfl, Nat.le_refl _, fun _ _ _ => rfl⟩⟩
  have hk2 := hK _ ho hgr
  have ep : Act.put ⟨lst.toArray, ds⟩ o.dst (.slice (some ⟨g, 0, none⟩) (k + m) cap) = ⟨(lst.set nd (.slice (some ⟨g, 0, none⟩) (k + m) cap)).toArray, ds⟩ := by rw [hnd]; simp [Act.put]
  rw [← ep] at hk2
  unfold Oper.wp
  simp [execOp, hop, resolve, invoke, builtin, hs, hx, hrun, Result.andThen]
  exact hk2

theorem ownsRow_same {w w' : World} {B n size : Nat} {e : TypeId} {v : Value} {xs : List Value} (h : w.ownsRow B e size v n xs) (hs : ∀ k, B ≤ k → k < w.heap.size → w'.heap[k]? = w.heap[k]?) : w'.ownsRow B e size v n xs := by
  obtain ⟨hl, h | ⟨g, cap, cur, he, hb, hg, hr⟩⟩ := h
  · exact ⟨hl, .inl h⟩
  · exact ⟨hl, .inr ⟨g, cap, cur, he, hb, (hs g hb (Array.getElem?_eq_some_iff.1 hg).1).trans hg, hr⟩⟩

theorem rowArg {α : Type} {f : α → List Value} {w w1 : World} {l : List α} {ad : Option Addr} (h : l = [] ∨ ∃ b o, ad = some ⟨b, o, none⟩ ∧ ∀ q u, (l.flatMap f)[q]? = some u → w.cell? ⟨b, o + q, none⟩ = some u) (hb : Below w.heap.size w w1) : ∀ ad', ad = some ad' → ∀ j u, (l.flatMap f)[j]? = some u → w1.cell? (ad'.add j) = some u := by
  intro ad' hd j u hj
  rcases h with h2 | ⟨b, o, h2, h3⟩
  · subst h2; simp at hj
  · rw [hd] at h2
    cases h2
    rw [Addr.add_lit]
    exact below_cell hb (h3 j u hj)

theorem infoTa : (Tryd.prog.info? 55).map (fun i => (i.zero, i.size, i.bytes)) = some (some (.agg #[.string ⟨#[]⟩, .int .i64 0, .int .i64 0, .int .i64 0, .int .i64 0, .int .i64 0, .int .i64 0]), 7, 64) := by kernel_rfl

theorem flatOneTa {l : List Ta} {u : Value} (h : u ∈ l.flatMap Ta.vals) : u.oneCell' = true := by
  obtain ⟨x, h⟩ := flat_mem h
  exact Ta.one h

def marksTa (m : Ta) : List Value := [.string m.nm, .int .i64 m.c, .int .i64 m.t, .int .i64 m.d, .int .i64 m.j, .int .i64 m.o, .int .i64 m.p, .string m.nm, .int .i64 m.c, .int .i64 m.t, .int .i64 m.d, .int .i64 m.j, .int .i64 m.o, .int .i64 m.p, .string m.nm, .int .i64 m.c, .int .i64 m.t, .int .i64 m.d, .int .i64 m.j, .int .i64 m.o, .int .i64 m.p]
theorem marksTa_eq (m : Ta) : [m, m, m].flatMap Ta.vals = marksTa m := rfl

theorem lentOfTa {w : World} {B g : Nat} {l : List Ta} {m : Ta} (h : w.ownsRow B 55 7 (.slice (some ⟨g, 0, none⟩) (l.length + 3) (l.length + 3)) (l.length + 3) (l.flatMap Ta.vals ++ marksTa m)) : Lent Ta.vals w l m (.slice (some ⟨g, 0, none⟩) l.length (l.length + 3)) := by
  refine ⟨g, 0, l.length + 3, rfl, Nat.le_refl _, fun q u hq => ?_⟩
  rw [List.flatMap_append, marksTa_eq] at hq
  have hql := (List.getElem?_eq_some_iff.1 hq).1
  rw [List.length_append, flat_length Ta.vals 7 Ta.len] at hql
  have h9 : (marksTa m).length = 21 := rfl
  rw [Nat.zero_add]
  exact (h.cellAt q (by omega)).trans hq

/-- make, with room, as an equation. -/
theorem makeTa (W : World) (n g : Nat) (hn : n ≤ 100003) (hg : W.heap.size = g) : ∃ w1, (Instr.makeSlice 48 (.int .i64 0) (.int .i64 ((n : Int) + 3))).run Tryd.prog W = .ok (.slice (some ⟨g, 0, none⟩) 0 (n + 3)) w1 ∧ w1.ownsRow g 55 7 (.slice (some ⟨g, 0, none⟩) 0 (n + 3)) 0 [] ∧ Below g W w1 ∧ g < w1.heap.size := by
  subst hg
  obtain ⟨i0, hi0, hz0, hz1, hz2⟩ := info_parts infoTa
  obtain ⟨w1, hrun, hown, hgr⟩ := run_make_own (P := Tryd.prog) W W.heap.size 48 55 i0 _ 7 Tryd.underlying48 hi0 hz0 hz1 .i64 .i64 (n + 3) (by rw [hz2]; omega) (by unfold maxLen; omega) (Nat.le_refl _)
  exact ⟨w1, hrun, hown, (Below.refl _ W).grown hgr (Nat.le_refl _) (by intro k hk; cases hk), (hown.lt _ rfl).2⟩

theorem marksCellsTa (W : World) (m : Ta) (g : Nat) (hg : W.heap.size = g) (q : Nat) (u : Value) (hq : (marksTa m)[q]? = some u) : (W.alloc (.cells #[.string m.nm, .int .i64 m.c, .int .i64 m.t, .int .i64 m.d, .int .i64 m.j, .int .i64 m.o, .int .i64 m.p, .string m.nm, .int .i64 m.c, .int .i64 m.t, .int .i64 m.d, .int .i64 m.j, .int .i64 m.o, .int .i64 m.p, .string m.nm, .int .i64 m.c, .int .i64 m.t, .int .i64 m.d, .int .i64 m.j, .int .i64 m.o, .int .i64 m.p] 55)).cell? ((⟨g, 0, none⟩ : Addr).add q) = some u := by
  subst hg
  rw [Addr.add_lit]
  have := (cells_of (l := marksTa m) (heap_alloc_new W (.cells #[.string m.nm, .int .i64 m.c, .int .i64 m.t, .int .i64 m.d, .int .i64 m.j, .int .i64 m.o, .int .i64 m.p, .string m.nm, .int .i64 m.c, .int .i64 m.t, .int .i64 m.d, .int .i64 m.j, .int .i64 m.o, .int .i64 m.p, .string m.nm, .int .i64 m.c, .int .i64 m.t, .int .i64 m.d, .int .i64 m.j, .int .i64 m.o, .int .i64 m.p] 55))).1 q u hq
  simpa using this

theorem marksOneTa (m : Ta) : ∀ u ∈ marksTa m, u.oneCell' = true := by
  intro u hu
  rw [← marksTa_eq] at hu
  exact flatOneTa hu

set_option maxRecDepth 20000 in
set_option maxHeartbeats 4000000 in
/-- Lend. -/
theorem LendT_any (w : World) (l : List Ta) (m : Ta) (v : Value) (hl : l.length ≤ 100000) (hv : RowSl Ta.vals w l v) :
    Calls Tryd.prog 23 #[v, m.val] w fun r w' => ∃ u, r = .returned u ∧ Lent Ta.vals w' l m u ∧ Below w.heap.size w w' := by
  obtain ⟨ad, c, rfl, hnil, -, h⟩ := hv
  unfold Ta.val
  obtain ⟨i0, hi0, hz0, hz1, hz2⟩ := info_parts infoTa
  have hB0 : Below (w.heap.size + 1) (w.alloc (.cells #[.string m.nm, .int .i64 m.c, .int .i64 m.t, .int .i64 m.d, .int .i64 m.j, .int .i64 m.o, .int .i64 m.p] 55)) ((w.alloc (.cells #[.string m.nm, .int .i64 m.c, .int .i64 m.t, .int .i64 m.d, .int .i64 m.j, .int .i64 m.o, .int .i64 m.p] 55)).drew) := (Below.refl _ _).drew
  have hKeep : ∀ W, Below (w.heap.size + 1) (w.alloc (.cells #[.string m.nm, .int .i64 m.c, .int .i64 m.t, .int .i64 m.d, .int .i64 m.j, .int .i64 m.o, .int .i64 m.p] 55)) W → W.cell? ⟨w.heap.size, 0, none⟩ = some (.string m.nm) ∧ W.cell? ⟨w.heap.size, 1, none⟩ = some (.int .i64 m.c) ∧ W.cell? ⟨w.heap.size, 2, none⟩ = some (.int .i64 m.t) ∧ W.cell? ⟨w.heap.size, 3, none⟩ = some (.int .i64 m.d) ∧ W.cell? ⟨w.heap.size, 4, none⟩ = some (.int .i64 m.j) ∧ W.cell? ⟨w.heap.size, 5, none⟩ = some (.int .i64 m.o) ∧ W.cell? ⟨w.heap.size, 6, none⟩ = some (.int .i64 m.p) := fun W hb => ⟨(hb.cell (by show w.heap.size < w.heap.size + 1; omega)).trans (by go_simp), (hb.cell (by show w.heap.size < w.heap.size + 1; omega)).trans (by go_simp), (hb.cell (by show w.heap.size < w.heap.size + 1; omega)).trans (by go_simp), (hb.cell (by show w.heap.size < w.heap.size + 1; omega)).trans (by go_simp), (hb.cell (by show w.heap.size < w.heap.size + 1; omega)).trans (by go_simp), (hb.cell (by show w.heap.size < w.heap.size + 1; omega)).trans (by go_simp), (hb.cell (by show w.heap.size < w.heap.size + 1; omega)).trans (by go_simp)⟩
  have hA : ∀ W, Below (w.heap.size + 1) (w.alloc (.cells #[.string m.nm, .int .i64 m.c, .int .i64 m.t, .int .i64 m.d, .int .i64 m.j, .int .i64 m.o, .int .i64 m.p] 55)) W → ∀ ad', ad = some ad' → ∀ j u, (l.flatMap Ta.vals)[j]? = some u → W.cell? (ad'.add j) = some u := fun W hb => rowArg h ((below_new w (.cells #[.string m.nm, .int .i64 m.c, .int .i64 m.t, .int .i64 m.d, .int .i64 m.j, .int .i64 m.o, .int .i64 m.p] 55)).trans (hb.mono (by omega)))
  obtain ⟨w1, hm1, ho1, hb1, hl1⟩ := makeTa ((w.alloc (.cells #[.string m.nm, .int .i64 m.c, .int .i64 m.t, .int .i64 m.d, .int .i64 m.j, .int .i64 m.o, .int .i64 m.p] 55)).drew) l.length (w.heap.size + 1) (by omega) (by simp)
  obtain ⟨v1, hm2, ho2, hb2, hl2⟩ := makeTa (((w.alloc (.cells #[.string m.nm, .int .i64 m.c, .int .i64 m.t, .int .i64 m.d, .int .i64 m.j, .int .i64 m.o, .int .i64 m.p] 55)).drew).alloc (.cells #[.string m.nm, .int .i64 m.c, .int .i64 m.t, .int .i64 m.d, .int .i64 m.j, .int .i64 m.o, .int .i64 m.p, .string m.nm, .int .i64 m.c, .int .i64 m.t, .int .i64 m.d, .int .i64 m.j, .int .i64 m.o, .int .i64 m.p, .string m.nm, .int .i64 m.c, .int .i64 m.t, .int .i64 m.d, .int .i64 m.j, .int .i64 m.o, .int .i64 m.p] 55)) l.length (w.heap.size + 1 + 1) (by omega) (by simp)
  rw [show (((w.alloc (.cells #[.string m.nm, .int .i64 m.c, .int .i64 m.t, .int .i64 m.d, .int .i64 m.j, .int .i64 m.o, .int .i64 m.p] 55)).drew).alloc (.cells #[.string m.nm, .int .i64 m.c, .int .i64 m.t, .int .i64 m.d, .int .i64 m.j, .int .i64 m.o, .int .i64 m.p, .string m.nm, .int .i64 m.c, .int .i64 m.t, .int .i64 m.d, .int .i64 m.j, .int .i64 m.o, .int .i64 m.p, .string m.nm, .int .i64 m.c, .int .i64 m.t, .int .i64 m.d, .int .i64 m.j, .int .i64 m.o, .int .i64 m.p] 55)) = ((w.alloc (.cells #[.string m.nm, .int .i64 m.c, .int .i64 m.t, .int .i64 m.d, .int .i64 m.j, .int .i64 m.o, .int .i64 m.p] 55)).alloc (.cells #[.string m.nm, .int .i64 m.c, .int .i64 m.t, .int .i64 m.d, .int .i64 m.j, .int .i64 m.o, .int .i64 m.p, .string m.nm, .int .i64 m.c, .int .i64 m.t, .int .i64 m.d, .int .i64 m.j, .int .i64 m.o, .int .i64 m.p, .string m.nm, .int .i64 m.c, .int .i64 m.t, .int .i64 m.d, .int .i64 m.j, .int .i64 m.o, .int .i64 m.p] 55)).drew from rfl] at hm2
  have hBw1 : Below (w.heap.size + 1) (w.alloc (.cells #[.string m.nm, .int .i64 m.c, .int .i64 m.t, .int .i64 m.d, .int .i64 m.j, .int .i64 m.o, .int .i64 m.p] 55)) w1 := hB0.trans hb1
  have hBv1 : Below (w.heap.size + 1) (w.alloc (.cells #[.string m.nm, .int .i64 m.c, .int .i64 m.t, .int .i64 m.d, .int .i64 m.j, .int .i64 m.o, .int .i64 m.p] 55)) v1 := (hB0.alloc (by simp) (.cells #[.string m.nm, .int .i64 m.c, .int .i64 m.t, .int .i64 m.d, .int .i64 m.j, .int .i64 m.o, .int .i64 m.p, .string m.nm, .int .i64 m.c, .int .i64 m.t, .int .i64 m.d, .int .i64 m.j, .int .i64 m.o, .int .i64 m.p, .string m.nm, .int .i64 m.c, .int .i64 m.t, .int .i64 m.d, .int .i64 m.j, .int .i64 m.o, .int .i64 m.p] 55)).trans (hb2.mono (by omega))
  have hmk2 : ∀ j u, (marksTa m)[j]? = some u → v1.cell? ((⟨w.heap.size + 1, 0, none⟩ : Addr).add j) = some u := fun j u hj => (hb2.cell (by rw [Addr.add_lit]; show w.heap.size + 1 < w.heap.size + 1 + 1; omega)).trans (marksCellsTa ((w.alloc (.cells #[.string m.nm, .int .i64 m.c, .int .i64 m.t, .int .i64 m.d, .int .i64 m.j, .int .i64 m.o, .int .i64 m.p] 55)).drew) m _ (by simp) j u hj)
  have hwr : IntKind.i64.wrap ((l.length : Int) + 3) = (l.length : Int) + 3 := by rw [IntKind.wrap_i64]; omega
  go_enter Tryd.func23, Tryd.ntmps23
  go_wp2_with fail
  refine wp_region_noPanic ?_
  refine wp_region_held_drew (S := fun w' => w'.cell? ⟨w.heap.size, 0, none⟩ = some (.string m.nm) ∧ w'.cell? ⟨w.heap.size, 1, none⟩ = some (.int .i64 m.c) ∧ w'.cell? ⟨w.heap.size, 2, none⟩ = some (.int .i64 m.t) ∧ w'.cell? ⟨w.heap.size, 3, none⟩ = some (.int .i64 m.d) ∧ w'.cell? ⟨w.heap.size, 4, none⟩ = some (.int .i64 m.j) ∧ w'.cell? ⟨w.heap.size, 5, none⟩ = some (.int .i64 m.o) ∧ w'.cell? ⟨w.heap.size, 6, none⟩ = some (.int .i64 m.p)) (by kernel_rfl) (hKeep _ hB0) (fun hHeld => ?_)
  refine take_at (i := 0) (n := 6) (v := ?_) rfl rfl (by kernel_rfl) (by kernel_rfl) (by kernel_rfl) (fun _ _ _ h => h) (Or.inl ⟨by rfl, ?_⟩) (by assumption) ?_
  rotate_left 1
  · intro wz hSw
    first | (go_simp; done) | (go_simp; with_reducible rfl)
  simp only [List.set_cons_zero, List.set_cons_succ]
  refine take_at (i := 1) (n := 7) (v := ?_) rfl rfl (by kernel_rfl) (by kernel_rfl) (by kernel_rfl) (fun _ _ _ h => h) (Or.inl ⟨by rfl, ?_⟩) (by assumption) ?_
  rotate_left 1
  · intro wz hSw
    first | (go_simp; done) | (go_simp; with_reducible rfl)
  simp only [List.set_cons_zero, List.set_cons_succ]
  refine take_at (i := 2) (n := 8) (v := ?_) rfl rfl (by kernel_rfl) (by kernel_rfl) (by kernel_rfl) (fun _ _ _ h => h) (Or.inl ⟨by rfl, ?_⟩) (by assumption) ?_
  rotate_left 1
  · intro wz hSw
    first | (go_simp; done) | (go_simp; with_reducible rfl)
  simp only [List.set_cons_zero, List.set_cons_succ]
  refine take_at (i := 4) (n := 10) (v := ?_) rfl rfl (by kernel_rfl) (by kernel_rfl) (by kernel_rfl) (fun _ _ _ h => h) (Or.inl ⟨by rfl, ?_⟩) (by assumption) ?_
  rotate_left 1
  · intro wz hSw
    first | (go_simp; done) | (go_simp; with_reducible rfl)
  simp only [List.set_cons_zero, List.set_cons_succ]
  refine take_at (i := 6) (n := 12) (v := ?_) rfl rfl (by kernel_rfl) (by kernel_rfl) (by kernel_rfl) (fun _ _ _ h => h) (Or.inl ⟨by rfl, ?_⟩) (by assumption) ?_
  rotate_left 1
  · intro wz hSw
    first | (go_simp; done) | (go_simp; with_reducible rfl)
  simp only [List.set_cons_zero, List.set_cons_succ]
  refine take_at (i := 7) (n := 13) (v := ?_) rfl rfl (by kernel_rfl) (by kernel_rfl) (by kernel_rfl) (fun _ _ _ h => h) (Or.inl ⟨by rfl, ?_⟩) (by assumption) ?_
  rotate_left 1
  · intro wz hSw
    first | (go_simp; done) | (go_simp; with_reducible rfl)
  simp only [List.set_cons_zero, List.set_cons_succ]
  refine take_at (i := 8) (n := 14) (v := ?_) rfl rfl (by kernel_rfl) (by kernel_rfl) (by kernel_rfl) (fun _ _ _ h => h) (Or.inl ⟨by rfl, ?_⟩) (by assumption) ?_
  rotate_left 1
  · intro wz hSw
    first | (go_simp; done) | (go_simp; with_reducible rfl)
  simp only [List.set_cons_zero, List.set_cons_succ]
  refine wpAnyH_ready (rs := [3, 9]) (by kernel_rfl) (by simp) ?_
  refine AllReadyH.cons rfl (fun K hK => ?_) (AllReadyH.cons rfl (fun K hK => ?_) AllReadyH.nil)
  · go_simp
    refine hK.out _ _ (hKeep _ hBw1) (fun hHeld => ?_)
    clear hK K
    refine wpAnyH_ready (rs := [5, 9]) (by kernel_rfl) (by simp) ?_
    refine AllReadyH.cons rfl (fun K hK => ?_) (AllReadyH.cons rfl (fun K hK => ?_) AllReadyH.nil)
    · refine step_fits rfl 11 rfl (.tmp 9) (.tmp 10) 48 rfl (w.heap.size + 1) 55 i0 7 Tryd.underlying48 hi0 hz1 (w.heap.size + 1) (0) (l.length + 3) ([]) rfl ho1 (ad) (l.length) (c) (l.flatMap Ta.vals) rfl (flat_length Ta.vals 7 Ta.len l) hnil (hA w1 hBw1) (fun u hu => flatOneTa hu) (by omega) l.length (by omega) (l.flatMap Ta.vals) rfl ?_
      intro w2 how2 hgw2
      have hBw2 : Below (w.heap.size + 1) (w.alloc (.cells #[.string m.nm, .int .i64 m.c, .int .i64 m.t, .int .i64 m.d, .int .i64 m.j, .int .i64 m.o, .int .i64 m.p] 55)) w2 := hBw1.grown hgw2 (by omega) (by intro q hq; cases hq; omega)
      have hszw2 := hgw2.size
      refine hK.out _ _ (hKeep _ hBw2) (fun hHeld => ?_)
      clear hK K
      simp only [List.set_cons_zero, List.set_cons_succ]
      refine wpAnyH_ready (rs := [9]) (by kernel_rfl) (by simp) ?_
      refine AllReadyH.cons rfl (fun K hK => ?_) AllReadyH.nil
      go_simp
      refine hK.out _ _ (hKeep _ (hBw2.alloc (by omega) _)) (fun hHeld => ?_)
      clear hK K
      refine wpAnyH_ready (rs := [10]) (by kernel_rfl) (by simp) ?_
      refine AllReadyH.cons rfl (fun K hK => ?_) AllReadyH.nil
      refine step_fits rfl 16 rfl (.tmp 11) (.tmp 15) 48 rfl (w.heap.size + 1) 55 i0 7 Tryd.underlying48 hi0 hz1 (w.heap.size + 1) l.length (l.length + 3) (l.flatMap Ta.vals) rfl (ownsRow_same how2 (fun k _ hk => (below_new w2 _).block k hk)) (some ⟨w2.heap.size, 0, none⟩) (3) (3) (marksTa m) rfl rfl (by intro e; cases e) (by intro ad' e j u hj; cases e; exact marksCellsTa w2 m _ rfl j u hj) (marksOneTa m) (by omega) (l.length + 3) rfl (l.flatMap Ta.vals ++ marksTa m) rfl ?_
      intro w3 how3 hgw3
      have hBw3 : Below (w.heap.size + 1) (w.alloc (.cells #[.string m.nm, .int .i64 m.c, .int .i64 m.t, .int .i64 m.d, .int .i64 m.j, .int .i64 m.o, .int .i64 m.p] 55)) w3 := (hBw2.alloc (by omega) _).grown hgw3 (by simp; omega) (by intro q hq; cases hq; omega)
      have hszw3 := hgw3.size
      refine hK.out _ _ (hKeep _ hBw3) (fun hHeld => ?_)
      clear hK K
      simp only [List.set_cons_zero, List.set_cons_succ]
      refine take_at (i := 11) (n := 5) (v := ?_) rfl rfl (by kernel_rfl) (by kernel_rfl) (by kernel_rfl) (fun _ _ _ h => h) (Or.inl ⟨by rfl, ?_⟩) (by assumption) ?_
      rotate_left 1
      · intro wz hSw
        first | (go_simp; done) | (go_simp; with_reducible rfl)
      simp only [List.set_cons_zero, List.set_cons_succ]
      refine wpAnyH_done (by kernel_rfl) ?_ _
      refine NoPanic.normal ?_
      go_wp2_with fail
      go_ret
      refine ⟨_, rfl, lentOfTa how3, (below_new w (.cells #[.string m.nm, .int .i64 m.c, .int .i64 m.t, .int .i64 m.d, .int .i64 m.j, .int .i64 m.o, .int .i64 m.p] 55)).trans (hBw3.mono (by omega))⟩
    · go_simp
      refine hK.out _ _ (hKeep _ (hBw1.alloc (by omega) _)) (fun hHeld => ?_)
      clear hK K
      refine wpAnyH_ready (rs := [5]) (by kernel_rfl) (by simp) ?_
      refine AllReadyH.cons rfl (fun K hK => ?_) AllReadyH.nil
      refine step_fits rfl 11 rfl (.tmp 9) (.tmp 10) 48 rfl (w.heap.size + 1) 55 i0 7 Tryd.underlying48 hi0 hz1 (w.heap.size + 1) (0) (l.length + 3) ([]) rfl (ownsRow_same ho1 (fun k _ hk => (below_new w1 _).block k hk)) (ad) (l.length) (c) (l.flatMap Ta.vals) rfl (flat_length Ta.vals 7 Ta.len l) hnil (hA (w1.alloc (.cells #[.string m.nm, .int .i64 m.c, .int .i64 m.t, .int .i64 m.d, .int .i64 m.j, .int .i64 m.o, .int .i64 m.p, .string m.nm, .int .i64 m.c, .int .i64 m.t, .int .i64 m.d, .int .i64 m.j, .int .i64 m.o, .int .i64 m.p, .string m.nm, .int .i64 m.c, .int .i64 m.t, .int .i64 m.d, .int .i64 m.j, .int .i64 m.o, .int .i64 m.p] 55)) (hBw1.alloc (by omega) _)) (fun u hu => flatOneTa hu) (by omega) l.length (by omega) (l.flatMap Ta.vals) rfl ?_
      intro w2 how2 hgw2
      have hBw2 : Below (w.heap.size + 1) (w.alloc (.cells #[.string m.nm, .int .i64 m.c, .int .i64 m.t, .int .i64 m.d, .int .i64 m.j, .int .i64 m.o, .int .i64 m.p] 55)) w2 := (hBw1.alloc (by omega) _).grown hgw2 (by simp; omega) (by intro q hq; cases hq; omega)
      have hszw2 := hgw2.size
      refine hK.out _ _ (hKeep _ hBw2) (fun hHeld => ?_)
      clear hK K
      simp only [List.set_cons_zero, List.set_cons_succ]
      refine wpAnyH_ready (rs := [10]) (by kernel_rfl) (by simp) ?_
      refine AllReadyH.cons rfl (fun K hK => ?_) AllReadyH.nil
      refine step_fits rfl 16 rfl (.tmp 11) (.tmp 15) 48 rfl (w.heap.size + 1) 55 i0 7 Tryd.underlying48 hi0 hz1 (w.heap.size + 1) l.length (l.length + 3) (l.flatMap Ta.vals) rfl how2 (some ⟨w1.heap.size, 0, none⟩) (3) (3) (marksTa m) rfl rfl (by intro e; cases e) (by intro ad' e j u hj; cases e; exact (hgw2.cell (marksCellsTa w1 m _ rfl j u hj) (by first | (simp [Addr.add_lit]; done) | (simp [Addr.add_lit]; omega)))) (marksOneTa m) (by omega) (l.length + 3) rfl (l.flatMap Ta.vals ++ marksTa m) rfl ?_
      intro w3 how3 hgw3
      have hBw3 : Below (w.heap.size + 1) (w.alloc (.cells #[.string m.nm, .int .i64 m.c, .int .i64 m.t, .int .i64 m.d, .int .i64 m.j, .int .i64 m.o, .int .i64 m.p] 55)) w3 := hBw2.grown hgw3 (by simp at hszw2; omega) (by intro q hq; cases hq; omega)
      have hszw3 := hgw3.size
      refine hK.out _ _ (hKeep _ hBw3) (fun hHeld => ?_)
      clear hK K
      simp only [List.set_cons_zero, List.set_cons_succ]
      refine take_at (i := 11) (n := 5) (v := ?_) rfl rfl (by kernel_rfl) (by kernel_rfl) (by kernel_rfl) (fun _ _ _ h => h) (Or.inl ⟨by rfl, ?_⟩) (by assumption) ?_
      rotate_left 1
      · intro wz hSw
        first | (go_simp; done) | (go_simp; with_reducible rfl)
      simp only [List.set_cons_zero, List.set_cons_succ]
      refine wpAnyH_done (by kernel_rfl) ?_ _
      refine NoPanic.normal ?_
      go_wp2_with fail
      go_ret
      refine ⟨_, rfl, lentOfTa how3, (below_new w (.cells #[.string m.nm, .int .i64 m.c, .int .i64 m.t, .int .i64 m.d, .int .i64 m.j, .int .i64 m.o, .int .i64 m.p] 55)).trans (hBw3.mono (by omega))⟩
  · go_simp
    refine hK.out _ _ (hKeep _ (hB0.alloc (by simp) _)) (fun hHeld => ?_)
    clear hK K
    refine wpAnyH_ready (rs := [3]) (by kernel_rfl) (by simp) ?_
    refine AllReadyH.cons rfl (fun K hK => ?_) AllReadyH.nil
    go_simp
    refine hK.out _ _ (hKeep _ hBv1) (fun hHeld => ?_)
    clear hK K
    refine wpAnyH_ready (rs := [5]) (by kernel_rfl) (by simp) ?_
    refine AllReadyH.cons rfl (fun K hK => ?_) AllReadyH.nil
    refine step_fits rfl 11 rfl (.tmp 9) (.tmp 10) 48 rfl (w.heap.size + 1 + 1) 55 i0 7 Tryd.underlying48 hi0 hz1 (w.heap.size + 1 + 1) (0) (l.length + 3) ([]) rfl ho2 (ad) (l.length) (c) (l.flatMap Ta.vals) rfl (flat_length Ta.vals 7 Ta.len l) hnil (hA v1 hBv1) (fun u hu => flatOneTa hu) (by omega) l.length (by omega) (l.flatMap Ta.vals) rfl ?_
    intro w2 how2 hgw2
    have hBw2 : Below (w.heap.size + 1) (w.alloc (.cells #[.string m.nm, .int .i64 m.c, .int .i64 m.t, .int .i64 m.d, .int .i64 m.j, .int .i64 m.o, .int .i64 m.p] 55)) w2 := hBv1.grown hgw2 (by omega) (by intro q hq; cases hq; omega)
    have hszw2 := hgw2.size
    refine hK.out _ _ (hKeep _ hBw2) (fun hHeld => ?_)
    clear hK K
    simp only [List.set_cons_zero, List.set_cons_succ]
    refine wpAnyH_ready (rs := [10]) (by kernel_rfl) (by simp) ?_
    refine AllReadyH.cons rfl (fun K hK => ?_) AllReadyH.nil
    refine step_fits rfl 16 rfl (.tmp 11) (.tmp 15) 48 rfl (w.heap.size + 1 + 1) 55 i0 7 Tryd.underlying48 hi0 hz1 (w.heap.size + 1 + 1) l.length (l.length + 3) (l.flatMap Ta.vals) rfl how2 (some ⟨w.heap.size + 1, 0, none⟩) (3) (3) (marksTa m) rfl rfl (by intro e; cases e) (by intro ad' e j u hj; cases e; exact (hgw2.cell (hmk2 j u hj) (by first | (simp [Addr.add_lit]; done) | (simp [Addr.add_lit]; omega)))) (marksOneTa m) (by omega) (l.length + 3) rfl (l.flatMap Ta.vals ++ marksTa m) rfl ?_
    intro w3 how3 hgw3
    have hBw3 : Below (w.heap.size + 1) (w.alloc (.cells #[.string m.nm, .int .i64 m.c, .int .i64 m.t, .int .i64 m.d, .int .i64 m.j, .int .i64 m.o, .int .i64 m.p] 55)) w3 := hBw2.grown hgw3 (by omega) (by intro q hq; cases hq; omega)
    have hszw3 := hgw3.size
    refine hK.out _ _ (hKeep _ hBw3) (fun hHeld => ?_)
    clear hK K
    simp only [List.set_cons_zero, List.set_cons_succ]
    refine take_at (i := 11) (n := 5) (v := ?_) rfl rfl (by kernel_rfl) (by kernel_rfl) (by kernel_rfl) (fun _ _ _ h => h) (Or.inl ⟨by rfl, ?_⟩) (by assumption) ?_
    rotate_left 1
    · intro wz hSw
      first | (go_simp; done) | (go_simp; with_reducible rfl)
    simp only [List.set_cons_zero, List.set_cons_succ]
    refine wpAnyH_done (by kernel_rfl) ?_ _
    refine NoPanic.normal ?_
    go_wp2_with fail
    go_ret
    refine ⟨_, rfl, lentOfTa how3, (below_new w (.cells #[.string m.nm, .int .i64 m.c, .int .i64 m.t, .int .i64 m.d, .int .i64 m.j, .int .i64 m.o, .int .i64 m.p] 55)).trans (hBw3.mono (by omega))⟩
end Go.Proofs.YtccoobcggbbciadDoor
