import Derived.Test.YtekbkcgpjkecbalDoorSPV
import Derived.Test.YtekbkcgpjkecbalDoorSRF
import Derived.Test.YtekbkcgpjkecbalDoorZA
namespace Go.Proofs.YtekbkcgpjkecbalDoor.S8
open Go.ChangeShapes Go.WideShapes Go.ChangeAt Go.RowKit Go.Sort

set_option maxRecDepth 20000 in
set_option maxHeartbeats 2000000 in
theorem Redo_any (w0 : World) (B K Lf Rn Rd C : Nat) (W : World) (l : List Jb) (rk cm : List Nat) (k j : Nat) (v u : Int) (th : List Nat) (left : List Int) (jv tv cv : Value) (h : LineW w0 B K Lf Rn Rd C W l rk cm k th left jv tv cv) (hj : j < l.length) (hl : left.length = l.length) (hv : L left j = v) (h1 : 0 ≤ v) (h2 : v ≤ 10000) (h3 : 0 ≤ u) (h4 : u ≤ 10000) :
    Calls Tryd.prog 57 #[.pointer (some ⟨K, 0, none⟩), .int .i64 (j : Int), .int .i64 u] W fun r W' => r = .returned (.tuple #[]) ∧ LineW w0 B K Lf Rn Rd C W' l rk cm k th (left.set j (v + u)) jv tv cv ∧ MovedL W W' K Lf tv tv := by
  obtain ⟨hs, -, hlk⟩ := cells_of (l := [_, _, _, _, _, _]) h.line
  have c1 := hs 1 _ rfl
  obtain ⟨hs2, hf2, hlf⟩ := cells_of (l := left.map (Value.int .i64)) h.left
  have dL : W.cell? ⟨Lf, j, none⟩ = some (.int .i64 v) := hs2 j _ (by
    rw [List.getElem?_map, List.getElem?_eq_getElem (by omega)]
    unfold L at hv
    rw [List.getD_eq_getElem?_getD, List.getElem?_eq_getElem (by omega)] at hv
    simp at hv
    simp [hv])
  have fL := hf2 j
  have hji : (j : Int) < (l.length : Int) := by omega
  have dK : Lf ≠ K := h.dK.1
  have dK' : K ≠ Lf := Ne.symm dK
  have HR : Hid (LineW w0 B K Lf Rn Rd C (W.setCell ⟨Lf, j, none⟩ (.int .i64 (v + u))) l rk cm k th (left.set j (v + u)) jv tv cv ∧ MovedL W (W.setCell ⟨Lf, j, none⟩ (.int .i64 (v + u))) K Lf tv tv) := h.ran j (v + u)
  have q1 : IntKind.i64.wrap (v + u) = v + u := by rw [IntKind.wrap_i64]; omega
  clear h hs hs2 hf2 hv
  go_enter Tryd.func57, Tryd.ntmps57
  go_wp2_with fail
  go_end0
  exact ⟨rfl, HR.out.1, HR.out.2⟩

/-- A line that plays, and what each has done since its last checkpoint. -/
structure PlayR (w : World) (B K Lf Rn Rd C : Nat) (W : World) (l : List Jb) (rk cm : List Nat) (k : Nat) (th : List Nat) (left : List Int) (jv tv cv : Value) (pb rb eb sb n : Nat) (runs ends u : List Int) : Prop where
  line : LineW w B K Lf Rn Rd C W l rk cm k th left jv tv cv
  p : W.heap[pb]? = some (.cells #[.slice (some ⟨rb, 0, none⟩) n n, .slice (some ⟨eb, 0, none⟩) l.length l.length] 43 (0, 0))
  rv : W.heap[rb]? = some (.cells (runCells n runs).toArray 3 (0, 0))
  ev : W.heap[eb]? = some (.cells (ends.map (Value.int .i64)).toArray 3 (0, 0))
  sv : W.heap[sb]? = some (.cells (u.map (Value.int .i64)).toArray 3 (0, 0))
  bs : B ≤ pb ∧ B ≤ rb ∧ B ≤ eb ∧ B ≤ sb
  ds : pb ≠ rb ∧ pb ≠ eb ∧ rb ≠ eb ∧ pb ≠ sb ∧ rb ≠ sb ∧ eb ≠ sb
  os : tv.ownBlock ≠ some pb ∧ tv.ownBlock ≠ some rb ∧ tv.ownBlock ≠ some eb ∧ tv.ownBlock ≠ some sb

section

variable {w : World} {B K Lf Rn Rd C : Nat} {W W' : World} {l : List Jb} {rk cm : List Nat} {k k' : Nat} {th th' : List Nat} {left left' : List Int} {jv tv cv tv' cv' : Value} {pb rb eb sb n : Nat} {runs ends u : List Int}

theorem PlayR.lts (h : PlayR w B K Lf Rn Rd C W l rk cm k th left jv tv cv pb rb eb sb n runs ends u) : pb < W.heap.size ∧ rb < W.heap.size ∧ eb < W.heap.size ∧ sb < W.heap.size :=
  ⟨lt_of_heap h.p, lt_of_heap h.rv, lt_of_heap h.ev, lt_of_heap h.sv⟩

theorem PlayR.moved (h : PlayR w B K Lf Rn Rd C W l rk cm k th left jv tv cv pb rb eb sb n runs ends u) (hc : LineW w B K Lf Rn Rd C W' l rk cm k' th' left' jv tv' cv') (hm : MovedL W W' K Lf tv tv') : PlayR w B K Lf Rn Rd C W' l rk cm k' th' left' jv tv' cv' pb rb eb sb n runs ends u := by
  obtain ⟨l1, l2, l3, l4⟩ := h.lts
  obtain ⟨b1, b2, b3, b4⟩ := h.bs
  obtain ⟨o1, o2, o3, o4⟩ := h.os
  obtain ⟨hK, hL, -⟩ := h.line.lt
  obtain ⟨e1, f1⟩ := hm.block pb l1 (by omega) (by omega) o1
  obtain ⟨e2, f2⟩ := hm.block rb l2 (by omega) (by omega) o2
  obtain ⟨e3, f3⟩ := hm.block eb l3 (by omega) (by omega) o3
  obtain ⟨e4, f4⟩ := hm.block sb l4 (by omega) (by omega) o4
  exact ⟨hc, e1.trans h.p, e2.trans h.rv, e3.trans h.ev, e4.trans h.sv, h.bs, h.ds, f1, f2, f3, f4⟩

theorem PlayR.drewN (h : PlayR w B K Lf Rn Rd C W l rk cm k th left jv tv cv pb rb eb sb n runs ends u) (q : Nat) : PlayR w B K Lf Rn Rd C (W.drewN q) l rk cm k th left jv tv cv pb rb eb sb n runs ends u :=
  h.moved (h.line.drewN q) (MovedL.drewN W K Lf tv q)

theorem PlayR.below (h : PlayR w B K Lf Rn Rd C W l rk cm k th left jv tv cv pb rb eb sb n runs ends u) (hb : Below W.heap.size W W') : PlayR w B K Lf Rn Rd C W' l rk cm k th left jv tv cv pb rb eb sb n runs ends u := by
  obtain ⟨l1, l2, l3, l4⟩ := h.lts
  exact ⟨h.line.below hb, (hb.block _ l1).trans h.p, (hb.block _ l2).trans h.rv, (hb.block _ l3).trans h.ev, (hb.block _ l4).trans h.sv, h.bs, h.ds, h.os⟩

theorem PlayR.run (h : PlayR w B K Lf Rn Rd C W l rk cm k th left jv tv cv pb rb eb sb n runs ends u) {i : Nat} {v : Int} {runs' : List Int} (he : (runCells n runs).set i (.int .i64 v) = runCells n runs') : PlayR w B K Lf Rn Rd C (W.setCell ⟨rb, i, none⟩ (.int .i64 v)) l rk cm k th left jv tv cv pb rb eb sb n runs' ends u := by
  obtain ⟨b1, b2, b3, b4⟩ := h.bs
  obtain ⟨d1, d2, d3, d4, d5, d6⟩ := h.ds
  have keep : ∀ q, q ≠ rb → (W.setCell ⟨rb, i, none⟩ (.int .i64 v)).heap[q]? = W.heap[q]? := fun q hq => Below.heap_setCell _ _ _ _ hq
  refine ⟨h.line.other b2 h.os.2.1, (keep pb d1).trans h.p, ?_, (keep eb (Ne.symm d3)).trans h.ev, (keep sb (Ne.symm d5)).trans h.sv, h.bs, h.ds, h.os⟩
  rw [setCell_list h.rv, he]

theorem PlayR.done (h : PlayR w B K Lf Rn Rd C W l rk cm k th left jv tv cv pb rb eb sb n runs ends u) {i : Nat} {v : Int} : PlayR w B K Lf Rn Rd C (W.setCell ⟨eb, i, none⟩ (.int .i64 v)) l rk cm k th left jv tv cv pb rb eb sb n runs (ends.set i v) u := by
  obtain ⟨b1, b2, b3, b4⟩ := h.bs
  obtain ⟨d1, d2, d3, d4, d5, d6⟩ := h.ds
  have keep : ∀ q, q ≠ eb → (W.setCell ⟨eb, i, none⟩ (.int .i64 v)).heap[q]? = W.heap[q]? := fun q hq => Below.heap_setCell _ _ _ _ hq
  refine ⟨h.line.other b3 h.os.2.2.1, (keep pb d2).trans h.p, (keep rb d3).trans h.rv, ?_, (keep sb (Ne.symm d6)).trans h.sv, h.bs, h.ds, h.os⟩
  rw [setCell_list h.ev, List.map_set]

/-- What one has done since is laid down. -/
theorem PlayR.since (h : PlayR w B K Lf Rn Rd C W l rk cm k th left jv tv cv pb rb eb sb n runs ends u) (i : Nat) (v : Int) : PlayR w B K Lf Rn Rd C (W.setCell ⟨sb, i, none⟩ (.int .i64 v)) l rk cm k th left jv tv cv pb rb eb sb n runs ends (u.set i v) := by
  obtain ⟨b1, b2, b3, b4⟩ := h.bs
  obtain ⟨d1, d2, d3, d4, d5, d6⟩ := h.ds
  have keep : ∀ q, q ≠ sb → (W.setCell ⟨sb, i, none⟩ (.int .i64 v)).heap[q]? = W.heap[q]? := fun q hq => Below.heap_setCell _ _ _ _ hq
  refine ⟨h.line.other b4 h.os.2.2.2, (keep pb d4).trans h.p, (keep rb d5).trans h.rv, (keep eb d6).trans h.ev, ?_, h.bs, h.ds, h.os⟩
  rw [setCell_list h.sv, List.map_set]

theorem PlayR.since_at (h : PlayR w B K Lf Rn Rd C W l rk cm k th left jv tv cv pb rb eb sb n runs ends u) {i : Nat} {v : Int} (hi : i < u.length) (hv : L u i = v) : W.cell? ⟨sb, i, none⟩ = some (.int .i64 v) ∧ W.frozen? ⟨sb, i, none⟩ = false := by
  obtain ⟨c, f, -⟩ := cells_of (l := u.map (Value.int .i64)) h.sv
  refine ⟨c i _ ?_, f i⟩
  rw [List.getElem?_map, List.getElem?_eq_getElem hi]
  unfold L at hv
  rw [List.getD_eq_getElem?_getD, List.getElem?_eq_getElem hi] at hv
  simp at hv
  simp [hv]

end

/-- What play makes ahead of its first tick, in any order. -/
structure RegW (n N : Nat) (W0 W : World) (m b r a : Option Nat) : Prop where
  bel : Below W0.heap.size W0 W
  hm : ∀ g, m = some g → W.heap[g]? = some (.cells (repCells n 0).toArray 3 (0, 0)) ∧ W0.heap.size ≤ g
  hb : ∀ g, b = some g → W.heap[g]? = some (.cells #[.int .i64 (-1)] 3 (0, 0)) ∧ W0.heap.size ≤ g
  hr : ∀ g, r = some g → W.heap[g]? = some (.cells (List.replicate N (Value.int .i64 (-1))).toArray 3 (0, 0)) ∧ W0.heap.size ≤ g
  ha : ∀ g, a = some g → W.heap[g]? = some (.cells #[.slice none 0 0, .slice none 0 0] 43 (0, 0)) ∧ W0.heap.size ≤ g
  dma : ∀ g h, m = some g → a = some h → g ≠ h
  dmr : ∀ g h, m = some g → r = some h → g ≠ h
  dra : ∀ g h, r = some g → a = some h → g ≠ h

section

variable {n N : Nat} {W0 W W' : World} {m b r a : Option Nat}

theorem RegW.start (n N : Nat) (W0 : World) : RegW n N W0 W0 none none none none := ⟨Below.refl _ _, nofun, nofun, nofun, nofun, nofun, nofun, nofun⟩

theorem RegW.grow (h : RegW n N W0 W m b r a) (hb : Below W.heap.size W W') : RegW n N W0 W' m b r a :=
  ⟨below_seq h.bel hb, fun g e => ⟨(hb.block g (lt_of_heap (h.hm g e).1)).trans (h.hm g e).1, (h.hm g e).2⟩, fun g e => ⟨(hb.block g (lt_of_heap (h.hb g e).1)).trans (h.hb g e).1, (h.hb g e).2⟩, fun g e => ⟨(hb.block g (lt_of_heap (h.hr g e).1)).trans (h.hr g e).1, (h.hr g e).2⟩, fun g e => ⟨(hb.block g (lt_of_heap (h.ha g e).1)).trans (h.ha g e).1, (h.ha g e).2⟩, h.dma, h.dmr, h.dra⟩

theorem RegW.addM (h : RegW n N W0 W none b r a) (hb : Below W.heap.size W W') {g : Nat} (hg : W.heap.size ≤ g) (hh : W'.heap[g]? = some (.cells (repCells n 0).toArray 3 (0, 0))) : RegW n N W0 W' (some g) b r a := by
  have h' := h.grow hb
  have hs := h.bel.size
  exact ⟨h'.bel, fun q e => by cases e; exact ⟨hh, by omega⟩, h'.hb, h'.hr, h'.ha, fun q x e e' => by cases e; have := lt_of_heap (h.ha x e').1; omega, fun q x e e' => by cases e; have := lt_of_heap (h.hr x e').1; omega, h'.dra⟩

theorem RegW.addB (h : RegW n N W0 W m none r a) (hb : Below W.heap.size W W') {g : Nat} (hg : W.heap.size ≤ g) (hh : W'.heap[g]? = some (.cells #[.int .i64 (-1)] 3 (0, 0))) : RegW n N W0 W' m (some g) r a := by
  have h' := h.grow hb
  have hs := h.bel.size
  exact ⟨h'.bel, h'.hm, fun q e => by cases e; exact ⟨hh, by omega⟩, h'.hr, h'.ha, h'.dma, h'.dmr, h'.dra⟩

theorem RegW.addR (h : RegW n N W0 W m b none a) (hb : Below W.heap.size W W') {g : Nat} (hg : W.heap.size ≤ g) (hh : W'.heap[g]? = some (.cells (List.replicate N (Value.int .i64 (-1))).toArray 3 (0, 0))) : RegW n N W0 W' m b (some g) a := by
  have h' := h.grow hb
  have hs := h.bel.size
  exact ⟨h'.bel, h'.hm, h'.hb, fun q e => by cases e; exact ⟨hh, by omega⟩, h'.ha, h'.dma, fun q x e e' => by cases e'; have := lt_of_heap (h.hm q e).1; omega, fun q x e e' => by cases e; have := lt_of_heap (h.ha x e').1; omega⟩

theorem RegW.addA (h : RegW n N W0 W m b r none) (hb : Below W.heap.size W W') {g : Nat} (hg : W.heap.size ≤ g) (hh : W'.heap[g]? = some (.cells #[.slice none 0 0, .slice none 0 0] 43 (0, 0))) : RegW n N W0 W' m b r (some g) := by
  have h' := h.grow hb
  have hs := h.bel.size
  exact ⟨h'.bel, h'.hm, h'.hb, h'.hr, fun q e => by cases e; exact ⟨hh, by omega⟩, fun q x e e' => by cases e'; have := lt_of_heap (h.hm q e).1; omega, h'.dmr, fun q x e e' => by cases e'; have := lt_of_heap (h.hr q e).1; omega⟩

end

/-- What is laid ahead of the first tick but for what was done since. -/
structure PreR (w : World) (B K Lf Rn Rd C : Nat) (W : World) (l : List Jb) (rk cm : List Nat) (jv tv cv : Value) (pb rb eb n : Nat) : Prop where
  line : LineW w B K Lf Rn Rd C W l rk cm 0 [] (l.map (·.c)) jv tv cv
  p : W.heap[pb]? = some (.cells #[.slice (some ⟨rb, 0, none⟩) n n, .slice (some ⟨eb, 0, none⟩) l.length l.length] 43 (0, 0))
  rv : W.heap[rb]? = some (.cells (runCells n []).toArray 3 (0, 0))
  ev : W.heap[eb]? = some (.cells ((List.replicate l.length (-1 : Int)).map (Value.int .i64)).toArray 3 (0, 0))
  bs : B ≤ pb ∧ B ≤ rb ∧ B ≤ eb
  ds : pb ≠ rb ∧ pb ≠ eb ∧ rb ≠ eb
  os : tv.ownBlock ≠ some pb ∧ tv.ownBlock ≠ some rb ∧ tv.ownBlock ≠ some eb

theorem RegW.fin {w W W0 Wz : World} {B K Lf Rn Rd C : Nat} {l : List Jb} {rk cm : List Nat} {jv tv cv : Value} {n m b r a : Nat} (hc : LineW w B K Lf Rn Rd C W l rk cm 0 [] (l.map (·.c)) jv tv cv) (hW0 : W.drew = W0) (h : RegW n l.length W0 Wz (some m) (some b) (some r) (some a)) :
    PreR w B K Lf Rn Rd C ((Wz.setCell ⟨a, 0, none⟩ (.slice (some ⟨m, 0, none⟩) n n)).setCell ⟨a, 1, none⟩ (.slice (some ⟨r, 0, none⟩) l.length l.length)) l rk cm jv tv cv a m r n := by
  subst hW0
  have hs0 : W.drew.heap.size = W.heap.size := rfl
  obtain ⟨m1, m2⟩ := h.hm m rfl
  obtain ⟨r1, r2⟩ := h.hr r rfl
  obtain ⟨a1, a2⟩ := h.ha a rfl
  rw [hs0] at m2 r2 a2
  have dma := h.dma m a rfl rfl
  have dmr := h.dmr m r rfl rfl
  have dra := h.dra r a rfl rfl
  have hbW : Below W.heap.size W Wz := (Below.refl _ _).drew.trans (h.bel.mono (by omega))
  have hbZ : Below W.heap.size W ((Wz.setCell ⟨a, 0, none⟩ (.slice (some ⟨m, 0, none⟩) n n)).setCell ⟨a, 1, none⟩ (.slice (some ⟨r, 0, none⟩) l.length l.length)) := (hbW.setCell (show W.heap.size ≤ a by omega) _).setCell (show W.heap.size ≤ a by omega) _
  have keep : ∀ q, q ≠ a → ((Wz.setCell ⟨a, 0, none⟩ (.slice (some ⟨m, 0, none⟩) n n)).setCell ⟨a, 1, none⟩ (.slice (some ⟨r, 0, none⟩) l.length l.length)).heap[q]? = Wz.heap[q]? := fun q hq => by
    rw [Below.heap_setCell _ _ _ _ hq, Below.heap_setCell _ _ _ _ hq]
  have bs := hc.bs
  have ow : ∀ q, W.heap.size ≤ q → tv.ownBlock ≠ some q := fun q hq e => by have := (hc.there.low e).2; omega
  refine ⟨hc.below hbZ, ?_, (keep _ dma).trans ?_, (keep _ dra).trans ?_, ⟨by omega, by omega, by omega⟩, ⟨Ne.symm dma, Ne.symm dra, dmr⟩, ow _ (by omega), ow _ (by omega), ow _ (by omega)⟩
  · rw [setCell_at (setCell_at a1)]; rfl
  · rw [m1]; rfl
  · rw [r1]; simp

theorem PreR.made {w W W' : World} {B K Lf Rn Rd C : Nat} {l : List Jb} {rk cm : List Nat} {jv tv cv : Value} {pb rb eb n : Nat} (h : PreR w B K Lf Rn Rd C W l rk cm jv tv cv pb rb eb n) (hb : Below W.heap.size W W') (hh : W'.heap[W.heap.size]? = some (.cells (repCells l.length 0).toArray 3 (0, 0))) :
    PlayR w B K Lf Rn Rd C W' l rk cm 0 [] (l.map (·.c)) jv tv cv pb rb eb W.heap.size n [] (List.replicate l.length (-1)) (List.replicate l.length 0) := by
  have l1 := lt_of_heap h.p
  have l2 := lt_of_heap h.rv
  have l3 := lt_of_heap h.ev
  obtain ⟨b1, b2, b3⟩ := h.bs
  obtain ⟨d1, d2, d3⟩ := h.ds
  obtain ⟨o1, o2, o3⟩ := h.os
  have bs := h.line.bs
  have ow : ∀ q, W.heap.size ≤ q → tv.ownBlock ≠ some q := fun q hq e => by have := (h.line.there.low e).2; omega
  refine ⟨h.line.below hb, (hb.block _ l1).trans h.p, (hb.block _ l2).trans h.rv, (hb.block _ l3).trans h.ev, ?_, ⟨b1, b2, b3, bs⟩, ⟨d1, d2, d3, by omega, by omega, by omega⟩, o1, o2, o3, ow _ (Nat.le_refl _)⟩
  rw [hh]; simp [repCells]

theorem make_ex (W : World) (n : Nat) (hn : n ≤ 1000000) : ∃ W', (Instr.makeSlice 36 (.int .i64 (n : Int)) (.int .i64 (n : Int))).run Tryd.prog W = .ok (.slice (some ⟨W.heap.size, 0, none⟩) n n) W' ∧ Below W.heap.size W W' ∧ W'.heap[W.heap.size]? = some (.cells (repCells n 0).toArray 3 (0, 0)) :=
  ⟨_, make_row W n W.heap.size hn rfl, below_new _ _, by rw [heap_alloc_new]; simp [repCells]⟩

theorem playR_ends {w : World} {g : Nat} {c k : Value} {a : Act} (h : w.heap[g]? = some (.cells #[c, k] 43 (0, 0))) (h3 : a.tmps[8]?.getD undef = .pointer (some ⟨g, 0, none⟩)) :
    (results Tryd.f41 a.tmps).run Tryd.prog w = .ok (.agg #[c, k]) w := by
  obtain ⟨c1, f1, l1⟩ := cells_of (l := [_, _]) h
  have c10 := c1 0 _ rfl
  have c11 := c1 1 _ rfl
  simp [results, Tryd.results41, go_sem, h3, c10, c11]

set_option maxRecDepth 20000 in
set_option maxHeartbeats 2000000 in
theorem playR_walk (w9 : World) (l : List Jb) (sp : Int) (jv : Value) (n g : Nat) (fa : Nat → Bool) (hv : RowSl Jb.vals w9 l jv) (hl : l.length ≤ 4000) (hok : ∀ x ∈ l, okJ x) (hn : n ≤ 20000)
    (HO : ∀ W', Below w9.heap.size w9 W' → ∀ t : Nat, t ≤ 20000 → Calls Tryd.prog 39 #[.int .i64 (t : Int), .pointer (some ⟨g, 0, none⟩)] W' fun r w' => r = .returned (.bool (fa t)) ∧ Below W'.heap.size W' w')
    (HN : ∀ w v, RowSl Jb.vals w l v → Calls Tryd.prog 52 #[v, .func (.func 74) #[] #[]] w fun r W => ∃ B K Lf Rn Rd C rk cm cv, r = .returned (.pointer (some ⟨K, 0, none⟩)) ∧ LineW w B K Lf Rn Rd C W l rk cm 0 [] (l.map (·.c)) v (.slice none 0 0) cv ∧ Ranked l 1 rk ∧ Coming l rk cm) :
    Calls Tryd.prog 41 #[jv, .int .i64 sp, .int .i64 (n : Int), .func (Fn.func 39) #[] #[.pointer (some ⟨g, 0, none⟩)]] w9 fun r W' => ∃ q rb eb, PlaysR l sp fa n q ∧ r = .returned (.agg #[.slice (some ⟨rb, 0, none⟩) n n, .slice (some ⟨eb, 0, none⟩) l.length l.length]) ∧ W'.heap[rb]? = some (.cells (q.s.runs.map (Value.int .i64)).toArray 3 (0, 0)) ∧ W'.heap[eb]? = some (.cells (q.s.ends.map (Value.int .i64)).toArray 3 (0, 0)) ∧ rb ≠ eb ∧ w9.heap.size ≤ rb ∧ w9.heap.size ≤ eb ∧ Below w9.heap.size w9 W' := by
  have HJ : Hid (∀ x ∈ l, okJ x) := hok
  have HNw := HN (w9.alloc (.cells #[.slice none 0 0, .slice none 0 0] 43)) jv (hv.below (below_new _ _))
  have HBy := By_any (w9.alloc (.cells #[.slice none 0 0, .slice none 0 0] 43)) 1
  obtain ⟨jad, jc, rfl⟩ := hv.len
  obtain ⟨jv, hjv⟩ : ∃ jv, jv = Value.slice jad l.length jc := ⟨_, rfl⟩
  have HT0 : Hid (∀ W', Below w9.heap.size w9 W' → ∀ t : Nat, t ≤ 20000 → Calls Tryd.prog 39 #[.int .i64 (t : Int), .pointer (some ⟨g, 0, none⟩)] W' fun r w' => r = .returned (.bool (fa t)) ∧ Below W'.heap.size W' w') := HO
  clear hok HO HN hv
  go_enter Tryd.func41, Tryd.ntmps41
  go_upto_region 2 with (first | (go_at_call 52; refine HNw.mono ?_; rintro r W ⟨B, K, Lf, Rn, Rd, C, rk, cm, cv, rfl, hcore, hr, hc⟩; have H1' : Hid (LineW (w9.alloc (.cells #[.slice none 0 0, .slice none 0 0] 43)) B K Lf Rn Rd C W l rk cm 0 [] (l.map (·.c)) (.slice jad l.length jc) (.slice none 0 0) cv ∧ Ranked l 1 rk ∧ Coming l rk cm) := ⟨hcore, hr, hc⟩; clear hcore hr hc) | (go_at_call 53; refine HBy.mono ?_; rintro r w1 ⟨rfl, hw1⟩; have hw2 := hw1.symm; subst hw2; clear hw1))
  obtain ⟨w, hW⟩ : ∃ w, w9.alloc (.cells #[.slice none 0 0, .slice none 0 0] 43) = w := ⟨_, rfl⟩
  have EW : Hid (w9.alloc (.cells #[.slice none 0 0, .slice none 0 0] 43) = w) := hW
  obtain ⟨tv, htv⟩ : ∃ tv, tv = Value.slice none 0 0 := ⟨_, rfl⟩
  have H1 : Hid (LineW w B K Lf Rn Rd C W l rk cm 0 [] (l.map (·.c)) jv tv cv ∧ Ranked l 1 rk ∧ Coming l rk cm) := by
    have e := H1'.out
    rw [hW, ← hjv, ← htv] at e
    exact e
  have HT : Hid (∀ W', Below w.heap.size w W' → ∀ t : Nat, t ≤ 20000 → Calls Tryd.prog 39 #[.int .i64 (t : Int), .pointer (some ⟨g, 0, none⟩)] W' fun r w' => r = .returned (.bool (fa t)) ∧ Below W'.heap.size W' w') := fun W' hb => HT0.out W' (by
    rw [← EW.out] at hb
    exact (below_new w9 _).trans (hb.mono (by simp)))
  clear hW hjv htv H1' HNw HBy HT0
  go_cut [10] from 17 to 23 (fun v wc => ∃ pb rb eb, v = .pointer (some ⟨pb, 0, none⟩) ∧ PreR w B K Lf Rn Rd C wc l rk cm jv tv cv pb rb eb n)
  case first =>
    have HW : Hid (LineW w B K Lf Rn Rd C W l rk cm 0 [] (l.map (·.c)) jv tv cv) := H1.out.1
    clear H1
    have hS0 : (fun _ : World => True) W.drew := trivial
    have hX : Hid (RegW n l.length W.drew W.drew none none none none) := RegW.start _ _ _
    refine wp_region_noPanic ?_
    refine wp_region_held_drew (S := fun _ => True) (by kernel_rfl) hS0 (fun hHeld => ?_)
    refine take_at (i := 0) (n := 17) (v := ?_) rfl rfl (by kernel_rfl) (by kernel_rfl) (by kernel_rfl) (fun _ _ _ h => h) (Or.inl ⟨by rfl, ?_⟩) (by assumption) ?_
    rotate_left 1
    · intro wz hSw
      first | (go_simp; done) | (go_simp; with_reducible rfl)
    simp only [List.set_cons_zero, List.set_cons_succ]
    refine take_at (i := 3) (n := 20) (v := ?_) rfl rfl (by kernel_rfl) (by kernel_rfl) (by kernel_rfl) (fun _ _ _ h => h) (Or.inl ⟨by rfl, ?_⟩) (by assumption) ?_
    rotate_left 1
    · intro wz hSw
      first | (go_simp; done) | (go_simp; with_reducible rfl)
    simp only [List.set_cons_zero, List.set_cons_succ]
    refine take_at (i := 4) (n := 21) (v := ?_) rfl rfl (by kernel_rfl) (by kernel_rfl) (by kernel_rfl) (fun _ _ _ h => h) (Or.inl ⟨by rfl, ?_⟩) (by assumption) ?_
    rotate_left 1
    · intro wz hSw
      first | (go_simp; done) | (go_simp; with_reducible rfl)
    simp only [List.set_cons_zero, List.set_cons_succ]
    generalize hW0 : W.drew = W0 at *
    have HW0 : Hid (W.drew = W0) := hW0
    clear hW0
    refine wpAnyH_ready (rs := [1, 2, 7]) (by kernel_rfl) (by simp) ?_
    refine AllReadyH.cons rfl (fun K' hK' => ?_) (AllReadyH.cons rfl (fun K' hK' => ?_) (AllReadyH.cons rfl (fun K' hK' => ?_) (AllReadyH.nil)))
    · skip
      obtain ⟨wn1, hmk, hb9, hh9⟩ := make_ex W0 n (by omega)
      have hY := hX.out.addM hb9 (Nat.le_refl _) hh9
      go_simp
      refine hK'.out _ _ trivial (fun hHeld => ?_)
      clear hK' K' hX
      have hX : Hid (RegW n l.length W0 wn1 (some W0.heap.size) none none none) := hY
      clear hY
      refine wpAnyH_ready (rs := [2, 7]) (by kernel_rfl) (by simp) ?_
      refine AllReadyH.cons rfl (fun K' hK' => ?_) (AllReadyH.cons rfl (fun K' hK' => ?_) (AllReadyH.nil))
      · skip
        have hY := hX.out.addB (below_new wn1 (.cells #[.int .i64 (-1)] 3)) (Nat.le_refl _) (heap_alloc_new _ _)
        go_simp
        generalize wn1.alloc (.cells #[.int .i64 (-1)] 3) = wn2 at hY ⊢
        refine hK'.out _ _ trivial (fun hHeld => ?_)
        clear hK' K' hX
        have hX : Hid (RegW n l.length W0 wn2 (some W0.heap.size) (some wn1.heap.size) none none) := hY
        clear hY
        refine wpAnyH_ready (rs := [5, 7]) (by kernel_rfl) (by simp) ?_
        refine AllReadyH.cons rfl (fun K' hK' => ?_) (AllReadyH.cons rfl (fun K' hK' => ?_) (AllReadyH.nil))
        · skip
          go_simp
          go_wp2_with (go_at_call 54; refine (Repeat_any wn2 _ l.length (hX.out.hb _ rfl).1 (by omega)).mono ?_; rintro r wn3 ⟨gr3, rfl, hge, hh9, hb9⟩)
          have hY := hX.out.addR hb9 hge hh9
          refine hK'.out _ _ trivial (fun hHeld => ?_)
          clear hK' K' hX
          have hX : Hid (RegW n l.length W0 wn3 (some W0.heap.size) (some wn1.heap.size) (some gr3) none) := hY
          clear hY
          refine take_at (i := 6) (n := 23) (v := ?_) rfl rfl (by kernel_rfl) (by kernel_rfl) (by kernel_rfl) (fun _ _ _ h => h) (Or.inl ⟨by rfl, ?_⟩) (by assumption) ?_
          rotate_left 1
          · intro wz hSw
            first | (go_simp; done) | (go_simp; with_reducible rfl)
          simp only [List.set_cons_zero, List.set_cons_succ]
          refine wpAnyH_ready (rs := [7]) (by kernel_rfl) (by simp) ?_
          refine AllReadyH.cons rfl (fun K' hK' => ?_) (AllReadyH.nil)
          · skip
            have hY := hX.out.addA (below_new wn3 (.cells #[.slice none 0 0, .slice none 0 0] 43)) (Nat.le_refl _) (heap_alloc_new _ _)
            go_simp
            generalize wn3.alloc (.cells #[.slice none 0 0, .slice none 0 0] 43) = wn4 at hY ⊢
            refine hK'.out _ _ trivial (fun hHeld => ?_)
            clear hK' K' hX
            have hX : Hid (RegW n l.length W0 wn4 (some W0.heap.size) (some wn1.heap.size) (some gr3) (some wn3.heap.size)) := hY
            clear hY
            obtain ⟨ps, pf, pl⟩ := cells_of (l := [_, _]) (hX.out.ha _ rfl).1
            have p0 := ps 0 _ rfl
            have p1 := ps 1 _ rfl
            have pf0 := pf 0
            have pf1 := pf 1
            clear ps pf
            refine wpAnyH_ready (rs := [8]) (by kernel_rfl) (by simp) ?_
            refine AllReadyH.cons rfl (fun K' hK' => ?_) AllReadyH.nil
            go_simp
            refine hK'.out _ _ trivial (fun hHeld => ?_)
            clear hK' K'
            refine wpAnyH_done (by kernel_rfl) ?_ _
            refine NoPanic.normal ?_
            go_wp2_with fail
            go_meet
            case rel =>
              exact ⟨_, _, _, rfl, RegW.fin HW.out HW0.out hX.out⟩
        · skip
          have hY := hX.out.addA (below_new wn2 (.cells #[.slice none 0 0, .slice none 0 0] 43)) (Nat.le_refl _) (heap_alloc_new _ _)
          go_simp
          generalize wn2.alloc (.cells #[.slice none 0 0, .slice none 0 0] 43) = wn5 at hY ⊢
          refine hK'.out _ _ trivial (fun hHeld => ?_)
          clear hK' K' hX
          have hX : Hid (RegW n l.length W0 wn5 (some W0.heap.size) (some wn1.heap.size) none (some wn2.heap.size)) := hY
          clear hY
          refine wpAnyH_ready (rs := [5]) (by kernel_rfl) (by simp) ?_
          refine AllReadyH.cons rfl (fun K' hK' => ?_) (AllReadyH.nil)
          · skip
            go_simp
            go_wp2_with (go_at_call 54; refine (Repeat_any wn5 _ l.length (hX.out.hb _ rfl).1 (by omega)).mono ?_; rintro r wn6 ⟨gr6, rfl, hge, hh9, hb9⟩)
            have hY := hX.out.addR hb9 hge hh9
            refine hK'.out _ _ trivial (fun hHeld => ?_)
            clear hK' K' hX
            have hX : Hid (RegW n l.length W0 wn6 (some W0.heap.size) (some wn1.heap.size) (some gr6) (some wn2.heap.size)) := hY
            clear hY
            refine take_at (i := 6) (n := 23) (v := ?_) rfl rfl (by kernel_rfl) (by kernel_rfl) (by kernel_rfl) (fun _ _ _ h => h) (Or.inl ⟨by rfl, ?_⟩) (by assumption) ?_
            rotate_left 1
            · intro wz hSw
              first | (go_simp; done) | (go_simp; with_reducible rfl)
            simp only [List.set_cons_zero, List.set_cons_succ]
            obtain ⟨ps, pf, pl⟩ := cells_of (l := [_, _]) (hX.out.ha _ rfl).1
            have p0 := ps 0 _ rfl
            have p1 := ps 1 _ rfl
            have pf0 := pf 0
            have pf1 := pf 1
            clear ps pf
            refine wpAnyH_ready (rs := [8]) (by kernel_rfl) (by simp) ?_
            refine AllReadyH.cons rfl (fun K' hK' => ?_) AllReadyH.nil
            go_simp
            refine hK'.out _ _ trivial (fun hHeld => ?_)
            clear hK' K'
            refine wpAnyH_done (by kernel_rfl) ?_ _
            refine NoPanic.normal ?_
            go_wp2_with fail
            go_meet
            case rel =>
              exact ⟨_, _, _, rfl, RegW.fin HW.out HW0.out hX.out⟩
      · skip
        have hY := hX.out.addA (below_new wn1 (.cells #[.slice none 0 0, .slice none 0 0] 43)) (Nat.le_refl _) (heap_alloc_new _ _)
        go_simp
        generalize wn1.alloc (.cells #[.slice none 0 0, .slice none 0 0] 43) = wn7 at hY ⊢
        refine hK'.out _ _ trivial (fun hHeld => ?_)
        clear hK' K' hX
        have hX : Hid (RegW n l.length W0 wn7 (some W0.heap.size) none none (some wn1.heap.size)) := hY
        clear hY
        refine wpAnyH_ready (rs := [2]) (by kernel_rfl) (by simp) ?_
        refine AllReadyH.cons rfl (fun K' hK' => ?_) (AllReadyH.nil)
        · skip
          have hY := hX.out.addB (below_new wn7 (.cells #[.int .i64 (-1)] 3)) (Nat.le_refl _) (heap_alloc_new _ _)
          go_simp
          generalize wn7.alloc (.cells #[.int .i64 (-1)] 3) = wn8 at hY ⊢
          refine hK'.out _ _ trivial (fun hHeld => ?_)
          clear hK' K' hX
          have hX : Hid (RegW n l.length W0 wn8 (some W0.heap.size) (some wn7.heap.size) none (some wn1.heap.size)) := hY
          clear hY
          refine wpAnyH_ready (rs := [5]) (by kernel_rfl) (by simp) ?_
          refine AllReadyH.cons rfl (fun K' hK' => ?_) (AllReadyH.nil)
          · skip
            go_simp
            go_wp2_with (go_at_call 54; refine (Repeat_any wn8 _ l.length (hX.out.hb _ rfl).1 (by omega)).mono ?_; rintro r wn9 ⟨gr9, rfl, hge, hh9, hb9⟩)
            have hY := hX.out.addR hb9 hge hh9
            refine hK'.out _ _ trivial (fun hHeld => ?_)
            clear hK' K' hX
            have hX : Hid (RegW n l.length W0 wn9 (some W0.heap.size) (some wn7.heap.size) (some gr9) (some wn1.heap.size)) := hY
            clear hY
            refine take_at (i := 6) (n := 23) (v := ?_) rfl rfl (by kernel_rfl) (by kernel_rfl) (by kernel_rfl) (fun _ _ _ h => h) (Or.inl ⟨by rfl, ?_⟩) (by assumption) ?_
            rotate_left 1
            · intro wz hSw
              first | (go_simp; done) | (go_simp; with_reducible rfl)
            simp only [List.set_cons_zero, List.set_cons_succ]
            obtain ⟨ps, pf, pl⟩ := cells_of (l := [_, _]) (hX.out.ha _ rfl).1
            have p0 := ps 0 _ rfl
            have p1 := ps 1 _ rfl
            have pf0 := pf 0
            have pf1 := pf 1
            clear ps pf
            refine wpAnyH_ready (rs := [8]) (by kernel_rfl) (by simp) ?_
            refine AllReadyH.cons rfl (fun K' hK' => ?_) AllReadyH.nil
            go_simp
            refine hK'.out _ _ trivial (fun hHeld => ?_)
            clear hK' K'
            refine wpAnyH_done (by kernel_rfl) ?_ _
            refine NoPanic.normal ?_
            go_wp2_with fail
            go_meet
            case rel =>
              exact ⟨_, _, _, rfl, RegW.fin HW.out HW0.out hX.out⟩
    · skip
      have hY := hX.out.addB (below_new W0 (.cells #[.int .i64 (-1)] 3)) (Nat.le_refl _) (heap_alloc_new _ _)
      go_simp
      generalize W0.alloc (.cells #[.int .i64 (-1)] 3) = wn10 at hY ⊢
      refine hK'.out _ _ trivial (fun hHeld => ?_)
      clear hK' K' hX
      have hX : Hid (RegW n l.length W0 wn10 none (some W0.heap.size) none none) := hY
      clear hY
      refine wpAnyH_ready (rs := [1, 5, 7]) (by kernel_rfl) (by simp) ?_
      refine AllReadyH.cons rfl (fun K' hK' => ?_) (AllReadyH.cons rfl (fun K' hK' => ?_) (AllReadyH.cons rfl (fun K' hK' => ?_) (AllReadyH.nil)))
      · skip
        obtain ⟨wn11, hmk, hb9, hh9⟩ := make_ex wn10 n (by omega)
        have hY := hX.out.addM hb9 (Nat.le_refl _) hh9
        go_simp
        refine hK'.out _ _ trivial (fun hHeld => ?_)
        clear hK' K' hX
        have hX : Hid (RegW n l.length W0 wn11 (some wn10.heap.size) (some W0.heap.size) none none) := hY
        clear hY
        refine wpAnyH_ready (rs := [5, 7]) (by kernel_rfl) (by simp) ?_
        refine AllReadyH.cons rfl (fun K' hK' => ?_) (AllReadyH.cons rfl (fun K' hK' => ?_) (AllReadyH.nil))
        · skip
          go_simp
          go_wp2_with (go_at_call 54; refine (Repeat_any wn11 _ l.length (hX.out.hb _ rfl).1 (by omega)).mono ?_; rintro r wn12 ⟨gr12, rfl, hge, hh9, hb9⟩)
          have hY := hX.out.addR hb9 hge hh9
          refine hK'.out _ _ trivial (fun hHeld => ?_)
          clear hK' K' hX
          have hX : Hid (RegW n l.length W0 wn12 (some wn10.heap.size) (some W0.heap.size) (some gr12) none) := hY
          clear hY
          refine take_at (i := 6) (n := 23) (v := ?_) rfl rfl (by kernel_rfl) (by kernel_rfl) (by kernel_rfl) (fun _ _ _ h => h) (Or.inl ⟨by rfl, ?_⟩) (by assumption) ?_
          rotate_left 1
          · intro wz hSw
            first | (go_simp; done) | (go_simp; with_reducible rfl)
          simp only [List.set_cons_zero, List.set_cons_succ]
          refine wpAnyH_ready (rs := [7]) (by kernel_rfl) (by simp) ?_
          refine AllReadyH.cons rfl (fun K' hK' => ?_) (AllReadyH.nil)
          · skip
            have hY := hX.out.addA (below_new wn12 (.cells #[.slice none 0 0, .slice none 0 0] 43)) (Nat.le_refl _) (heap_alloc_new _ _)
            go_simp
            generalize wn12.alloc (.cells #[.slice none 0 0, .slice none 0 0] 43) = wn13 at hY ⊢
            refine hK'.out _ _ trivial (fun hHeld => ?_)
            clear hK' K' hX
            have hX : Hid (RegW n l.length W0 wn13 (some wn10.heap.size) (some W0.heap.size) (some gr12) (some wn12.heap.size)) := hY
            clear hY
            obtain ⟨ps, pf, pl⟩ := cells_of (l := [_, _]) (hX.out.ha _ rfl).1
            have p0 := ps 0 _ rfl
            have p1 := ps 1 _ rfl
            have pf0 := pf 0
            have pf1 := pf 1
            clear ps pf
            refine wpAnyH_ready (rs := [8]) (by kernel_rfl) (by simp) ?_
            refine AllReadyH.cons rfl (fun K' hK' => ?_) AllReadyH.nil
            go_simp
            refine hK'.out _ _ trivial (fun hHeld => ?_)
            clear hK' K'
            refine wpAnyH_done (by kernel_rfl) ?_ _
            refine NoPanic.normal ?_
            go_wp2_with fail
            go_meet
            case rel =>
              exact ⟨_, _, _, rfl, RegW.fin HW.out HW0.out hX.out⟩
        · skip
          have hY := hX.out.addA (below_new wn11 (.cells #[.slice none 0 0, .slice none 0 0] 43)) (Nat.le_refl _) (heap_alloc_new _ _)
          go_simp
          generalize wn11.alloc (.cells #[.slice none 0 0, .slice none 0 0] 43) = wn14 at hY ⊢
          refine hK'.out _ _ trivial (fun hHeld => ?_)
          clear hK' K' hX
          have hX : Hid (RegW n l.length W0 wn14 (some wn10.heap.size) (some W0.heap.size) none (some wn11.heap.size)) := hY
          clear hY
          refine wpAnyH_ready (rs := [5]) (by kernel_rfl) (by simp) ?_
          refine AllReadyH.cons rfl (fun K' hK' => ?_) (AllReadyH.nil)
          · skip
            go_simp
            go_wp2_with (go_at_call 54; refine (Repeat_any wn14 _ l.length (hX.out.hb _ rfl).1 (by omega)).mono ?_; rintro r wn15 ⟨gr15, rfl, hge, hh9, hb9⟩)
            have hY := hX.out.addR hb9 hge hh9
            refine hK'.out _ _ trivial (fun hHeld => ?_)
            clear hK' K' hX
            have hX : Hid (RegW n l.length W0 wn15 (some wn10.heap.size) (some W0.heap.size) (some gr15) (some wn11.heap.size)) := hY
            clear hY
            refine take_at (i := 6) (n := 23) (v := ?_) rfl rfl (by kernel_rfl) (by kernel_rfl) (by kernel_rfl) (fun _ _ _ h => h) (Or.inl ⟨by rfl, ?_⟩) (by assumption) ?_
            rotate_left 1
            · intro wz hSw
              first | (go_simp; done) | (go_simp; with_reducible rfl)
            simp only [List.set_cons_zero, List.set_cons_succ]
            obtain ⟨ps, pf, pl⟩ := cells_of (l := [_, _]) (hX.out.ha _ rfl).1
            have p0 := ps 0 _ rfl
            have p1 := ps 1 _ rfl
            have pf0 := pf 0
            have pf1 := pf 1
            clear ps pf
            refine wpAnyH_ready (rs := [8]) (by kernel_rfl) (by simp) ?_
            refine AllReadyH.cons rfl (fun K' hK' => ?_) AllReadyH.nil
            go_simp
            refine hK'.out _ _ trivial (fun hHeld => ?_)
            clear hK' K'
            refine wpAnyH_done (by kernel_rfl) ?_ _
            refine NoPanic.normal ?_
            go_wp2_with fail
            go_meet
            case rel =>
              exact ⟨_, _, _, rfl, RegW.fin HW.out HW0.out hX.out⟩
      · skip
        go_simp
        go_wp2_with (go_at_call 54; refine (Repeat_any wn10 _ l.length (hX.out.hb _ rfl).1 (by omega)).mono ?_; rintro r wn16 ⟨gr16, rfl, hge, hh9, hb9⟩)
        have hY := hX.out.addR hb9 hge hh9
        refine hK'.out _ _ trivial (fun hHeld => ?_)
        clear hK' K' hX
        have hX : Hid (RegW n l.length W0 wn16 none (some W0.heap.size) (some gr16) none) := hY
        clear hY
        refine wpAnyH_ready (rs := [1, 7]) (by kernel_rfl) (by simp) ?_
        refine AllReadyH.cons rfl (fun K' hK' => ?_) (AllReadyH.cons rfl (fun K' hK' => ?_) (AllReadyH.nil))
        · skip
          obtain ⟨wn17, hmk, hb9, hh9⟩ := make_ex wn16 n (by omega)
          have hY := hX.out.addM hb9 (Nat.le_refl _) hh9
          go_simp
          refine hK'.out _ _ trivial (fun hHeld => ?_)
          clear hK' K' hX
          have hX : Hid (RegW n l.length W0 wn17 (some wn16.heap.size) (some W0.heap.size) (some gr16) none) := hY
          clear hY
          refine take_at (i := 6) (n := 23) (v := ?_) rfl rfl (by kernel_rfl) (by kernel_rfl) (by kernel_rfl) (fun _ _ _ h => h) (Or.inl ⟨by rfl, ?_⟩) (by assumption) ?_
          rotate_left 1
          · intro wz hSw
            first | (go_simp; done) | (go_simp; with_reducible rfl)
          simp only [List.set_cons_zero, List.set_cons_succ]
          refine wpAnyH_ready (rs := [7]) (by kernel_rfl) (by simp) ?_
          refine AllReadyH.cons rfl (fun K' hK' => ?_) (AllReadyH.nil)
          · skip
            have hY := hX.out.addA (below_new wn17 (.cells #[.slice none 0 0, .slice none 0 0] 43)) (Nat.le_refl _) (heap_alloc_new _ _)
            go_simp
            generalize wn17.alloc (.cells #[.slice none 0 0, .slice none 0 0] 43) = wn18 at hY ⊢
            refine hK'.out _ _ trivial (fun hHeld => ?_)
            clear hK' K' hX
            have hX : Hid (RegW n l.length W0 wn18 (some wn16.heap.size) (some W0.heap.size) (some gr16) (some wn17.heap.size)) := hY
            clear hY
            obtain ⟨ps, pf, pl⟩ := cells_of (l := [_, _]) (hX.out.ha _ rfl).1
            have p0 := ps 0 _ rfl
            have p1 := ps 1 _ rfl
            have pf0 := pf 0
            have pf1 := pf 1
            clear ps pf
            refine wpAnyH_ready (rs := [8]) (by kernel_rfl) (by simp) ?_
            refine AllReadyH.cons rfl (fun K' hK' => ?_) AllReadyH.nil
            go_simp
            refine hK'.out _ _ trivial (fun hHeld => ?_)
            clear hK' K'
            refine wpAnyH_done (by kernel_rfl) ?_ _
            refine NoPanic.normal ?_
            go_wp2_with fail
            go_meet
            case rel =>
              exact ⟨_, _, _, rfl, RegW.fin HW.out HW0.out hX.out⟩
        · skip
          have hY := hX.out.addA (below_new wn16 (.cells #[.slice none 0 0, .slice none 0 0] 43)) (Nat.le_refl _) (heap_alloc_new _ _)
          go_simp
          generalize wn16.alloc (.cells #[.slice none 0 0, .slice none 0 0] 43) = wn19 at hY ⊢
          refine hK'.out _ _ trivial (fun hHeld => ?_)
          clear hK' K' hX
          have hX : Hid (RegW n l.length W0 wn19 none (some W0.heap.size) (some gr16) (some wn16.heap.size)) := hY
          clear hY
          refine wpAnyH_ready (rs := [1]) (by kernel_rfl) (by simp) ?_
          refine AllReadyH.cons rfl (fun K' hK' => ?_) (AllReadyH.nil)
          · skip
            obtain ⟨wn20, hmk, hb9, hh9⟩ := make_ex wn19 n (by omega)
            have hY := hX.out.addM hb9 (Nat.le_refl _) hh9
            go_simp
            refine hK'.out _ _ trivial (fun hHeld => ?_)
            clear hK' K' hX
            have hX : Hid (RegW n l.length W0 wn20 (some wn19.heap.size) (some W0.heap.size) (some gr16) (some wn16.heap.size)) := hY
            clear hY
            refine take_at (i := 6) (n := 23) (v := ?_) rfl rfl (by kernel_rfl) (by kernel_rfl) (by kernel_rfl) (fun _ _ _ h => h) (Or.inl ⟨by rfl, ?_⟩) (by assumption) ?_
            rotate_left 1
            · intro wz hSw
              first | (go_simp; done) | (go_simp; with_reducible rfl)
            simp only [List.set_cons_zero, List.set_cons_succ]
            obtain ⟨ps, pf, pl⟩ := cells_of (l := [_, _]) (hX.out.ha _ rfl).1
            have p0 := ps 0 _ rfl
            have p1 := ps 1 _ rfl
            have pf0 := pf 0
            have pf1 := pf 1
            clear ps pf
            refine wpAnyH_ready (rs := [8]) (by kernel_rfl) (by simp) ?_
            refine AllReadyH.cons rfl (fun K' hK' => ?_) AllReadyH.nil
            go_simp
            refine hK'.out _ _ trivial (fun hHeld => ?_)
            clear hK' K'
            refine wpAnyH_done (by kernel_rfl) ?_ _
            refine NoPanic.normal ?_
            go_wp2_with fail
            go_meet
            case rel =>
              exact ⟨_, _, _, rfl, RegW.fin HW.out HW0.out hX.out⟩
      · skip
        have hY := hX.out.addA (below_new wn10 (.cells #[.slice none 0 0, .slice none 0 0] 43)) (Nat.le_refl _) (heap_alloc_new _ _)
        go_simp
        generalize wn10.alloc (.cells #[.slice none 0 0, .slice none 0 0] 43) = wn21 at hY ⊢
        refine hK'.out _ _ trivial (fun hHeld => ?_)
        clear hK' K' hX
        have hX : Hid (RegW n l.length W0 wn21 none (some W0.heap.size) none (some wn10.heap.size)) := hY
        clear hY
        refine wpAnyH_ready (rs := [1, 5]) (by kernel_rfl) (by simp) ?_
        refine AllReadyH.cons rfl (fun K' hK' => ?_) (AllReadyH.cons rfl (fun K' hK' => ?_) (AllReadyH.nil))
        · skip
          obtain ⟨wn22, hmk, hb9, hh9⟩ := make_ex wn21 n (by omega)
          have hY := hX.out.addM hb9 (Nat.le_refl _) hh9
          go_simp
          refine hK'.out _ _ trivial (fun hHeld => ?_)
          clear hK' K' hX
          have hX : Hid (RegW n l.length W0 wn22 (some wn21.heap.size) (some W0.heap.size) none (some wn10.heap.size)) := hY
          clear hY
          refine wpAnyH_ready (rs := [5]) (by kernel_rfl) (by simp) ?_
          refine AllReadyH.cons rfl (fun K' hK' => ?_) (AllReadyH.nil)
          · skip
            go_simp
            go_wp2_with (go_at_call 54; refine (Repeat_any wn22 _ l.length (hX.out.hb _ rfl).1 (by omega)).mono ?_; rintro r wn23 ⟨gr23, rfl, hge, hh9, hb9⟩)
            have hY := hX.out.addR hb9 hge hh9
            refine hK'.out _ _ trivial (fun hHeld => ?_)
            clear hK' K' hX
            have hX : Hid (RegW n l.length W0 wn23 (some wn21.heap.size) (some W0.heap.size) (some gr23) (some wn10.heap.size)) := hY
            clear hY
            refine take_at (i := 6) (n := 23) (v := ?_) rfl rfl (by kernel_rfl) (by kernel_rfl) (by kernel_rfl) (fun _ _ _ h => h) (Or.inl ⟨by rfl, ?_⟩) (by assumption) ?_
            rotate_left 1
            · intro wz hSw
              first | (go_simp; done) | (go_simp; with_reducible rfl)
            simp only [List.set_cons_zero, List.set_cons_succ]
            obtain ⟨ps, pf, pl⟩ := cells_of (l := [_, _]) (hX.out.ha _ rfl).1
            have p0 := ps 0 _ rfl
            have p1 := ps 1 _ rfl
            have pf0 := pf 0
            have pf1 := pf 1
            clear ps pf
            refine wpAnyH_ready (rs := [8]) (by kernel_rfl) (by simp) ?_
            refine AllReadyH.cons rfl (fun K' hK' => ?_) AllReadyH.nil
            go_simp
            refine hK'.out _ _ trivial (fun hHeld => ?_)
            clear hK' K'
            refine wpAnyH_done (by kernel_rfl) ?_ _
            refine NoPanic.normal ?_
            go_wp2_with fail
            go_meet
            case rel =>
              exact ⟨_, _, _, rfl, RegW.fin HW.out HW0.out hX.out⟩
        · skip
          go_simp
          go_wp2_with (go_at_call 54; refine (Repeat_any wn21 _ l.length (hX.out.hb _ rfl).1 (by omega)).mono ?_; rintro r wn24 ⟨gr24, rfl, hge, hh9, hb9⟩)
          have hY := hX.out.addR hb9 hge hh9
          refine hK'.out _ _ trivial (fun hHeld => ?_)
          clear hK' K' hX
          have hX : Hid (RegW n l.length W0 wn24 none (some W0.heap.size) (some gr24) (some wn10.heap.size)) := hY
          clear hY
          refine wpAnyH_ready (rs := [1]) (by kernel_rfl) (by simp) ?_
          refine AllReadyH.cons rfl (fun K' hK' => ?_) (AllReadyH.nil)
          · skip
            obtain ⟨wn25, hmk, hb9, hh9⟩ := make_ex wn24 n (by omega)
            have hY := hX.out.addM hb9 (Nat.le_refl _) hh9
            go_simp
            refine hK'.out _ _ trivial (fun hHeld => ?_)
            clear hK' K' hX
            have hX : Hid (RegW n l.length W0 wn25 (some wn24.heap.size) (some W0.heap.size) (some gr24) (some wn10.heap.size)) := hY
            clear hY
            refine take_at (i := 6) (n := 23) (v := ?_) rfl rfl (by kernel_rfl) (by kernel_rfl) (by kernel_rfl) (fun _ _ _ h => h) (Or.inl ⟨by rfl, ?_⟩) (by assumption) ?_
            rotate_left 1
            · intro wz hSw
              first | (go_simp; done) | (go_simp; with_reducible rfl)
            simp only [List.set_cons_zero, List.set_cons_succ]
            obtain ⟨ps, pf, pl⟩ := cells_of (l := [_, _]) (hX.out.ha _ rfl).1
            have p0 := ps 0 _ rfl
            have p1 := ps 1 _ rfl
            have pf0 := pf 0
            have pf1 := pf 1
            clear ps pf
            refine wpAnyH_ready (rs := [8]) (by kernel_rfl) (by simp) ?_
            refine AllReadyH.cons rfl (fun K' hK' => ?_) AllReadyH.nil
            go_simp
            refine hK'.out _ _ trivial (fun hHeld => ?_)
            clear hK' K'
            refine wpAnyH_done (by kernel_rfl) ?_ _
            refine NoPanic.normal ?_
            go_wp2_with fail
            go_meet
            case rel =>
              exact ⟨_, _, _, rfl, RegW.fin HW.out HW0.out hX.out⟩
    · skip
      have hY := hX.out.addA (below_new W0 (.cells #[.slice none 0 0, .slice none 0 0] 43)) (Nat.le_refl _) (heap_alloc_new _ _)
      go_simp
      generalize W0.alloc (.cells #[.slice none 0 0, .slice none 0 0] 43) = wn26 at hY ⊢
      refine hK'.out _ _ trivial (fun hHeld => ?_)
      clear hK' K' hX
      have hX : Hid (RegW n l.length W0 wn26 none none none (some W0.heap.size)) := hY
      clear hY
      refine wpAnyH_ready (rs := [1, 2]) (by kernel_rfl) (by simp) ?_
      refine AllReadyH.cons rfl (fun K' hK' => ?_) (AllReadyH.cons rfl (fun K' hK' => ?_) (AllReadyH.nil))
      · skip
        obtain ⟨wn27, hmk, hb9, hh9⟩ := make_ex wn26 n (by omega)
        have hY := hX.out.addM hb9 (Nat.le_refl _) hh9
        go_simp
        refine hK'.out _ _ trivial (fun hHeld => ?_)
        clear hK' K' hX
        have hX : Hid (RegW n l.length W0 wn27 (some wn26.heap.size) none none (some W0.heap.size)) := hY
        clear hY
        refine wpAnyH_ready (rs := [2]) (by kernel_rfl) (by simp) ?_
        refine AllReadyH.cons rfl (fun K' hK' => ?_) (AllReadyH.nil)
        · skip
          have hY := hX.out.addB (below_new wn27 (.cells #[.int .i64 (-1)] 3)) (Nat.le_refl _) (heap_alloc_new _ _)
          go_simp
          generalize wn27.alloc (.cells #[.int .i64 (-1)] 3) = wn28 at hY ⊢
          refine hK'.out _ _ trivial (fun hHeld => ?_)
          clear hK' K' hX
          have hX : Hid (RegW n l.length W0 wn28 (some wn26.heap.size) (some wn27.heap.size) none (some W0.heap.size)) := hY
          clear hY
          refine wpAnyH_ready (rs := [5]) (by kernel_rfl) (by simp) ?_
          refine AllReadyH.cons rfl (fun K' hK' => ?_) (AllReadyH.nil)
          · skip
            go_simp
            go_wp2_with (go_at_call 54; refine (Repeat_any wn28 _ l.length (hX.out.hb _ rfl).1 (by omega)).mono ?_; rintro r wn29 ⟨gr29, rfl, hge, hh9, hb9⟩)
            have hY := hX.out.addR hb9 hge hh9
            refine hK'.out _ _ trivial (fun hHeld => ?_)
            clear hK' K' hX
            have hX : Hid (RegW n l.length W0 wn29 (some wn26.heap.size) (some wn27.heap.size) (some gr29) (some W0.heap.size)) := hY
            clear hY
            refine take_at (i := 6) (n := 23) (v := ?_) rfl rfl (by kernel_rfl) (by kernel_rfl) (by kernel_rfl) (fun _ _ _ h => h) (Or.inl ⟨by rfl, ?_⟩) (by assumption) ?_
            rotate_left 1
            · intro wz hSw
              first | (go_simp; done) | (go_simp; with_reducible rfl)
            simp only [List.set_cons_zero, List.set_cons_succ]
            obtain ⟨ps, pf, pl⟩ := cells_of (l := [_, _]) (hX.out.ha _ rfl).1
            have p0 := ps 0 _ rfl
            have p1 := ps 1 _ rfl
            have pf0 := pf 0
            have pf1 := pf 1
            clear ps pf
            refine wpAnyH_ready (rs := [8]) (by kernel_rfl) (by simp) ?_
            refine AllReadyH.cons rfl (fun K' hK' => ?_) AllReadyH.nil
            go_simp
            refine hK'.out _ _ trivial (fun hHeld => ?_)
            clear hK' K'
            refine wpAnyH_done (by kernel_rfl) ?_ _
            refine NoPanic.normal ?_
            go_wp2_with fail
            go_meet
            case rel =>
              exact ⟨_, _, _, rfl, RegW.fin HW.out HW0.out hX.out⟩
      · skip
        have hY := hX.out.addB (below_new wn26 (.cells #[.int .i64 (-1)] 3)) (Nat.le_refl _) (heap_alloc_new _ _)
        go_simp
        generalize wn26.alloc (.cells #[.int .i64 (-1)] 3) = wn30 at hY ⊢
        refine hK'.out _ _ trivial (fun hHeld => ?_)
        clear hK' K' hX
        have hX : Hid (RegW n l.length W0 wn30 none (some wn26.heap.size) none (some W0.heap.size)) := hY
        clear hY
        refine wpAnyH_ready (rs := [1, 5]) (by kernel_rfl) (by simp) ?_
        refine AllReadyH.cons rfl (fun K' hK' => ?_) (AllReadyH.cons rfl (fun K' hK' => ?_) (AllReadyH.nil))
        · skip
          obtain ⟨wn31, hmk, hb9, hh9⟩ := make_ex wn30 n (by omega)
          have hY := hX.out.addM hb9 (Nat.le_refl _) hh9
          go_simp
          refine hK'.out _ _ trivial (fun hHeld => ?_)
          clear hK' K' hX
          have hX : Hid (RegW n l.length W0 wn31 (some wn30.heap.size) (some wn26.heap.size) none (some W0.heap.size)) := hY
          clear hY
          refine wpAnyH_ready (rs := [5]) (by kernel_rfl) (by simp) ?_
          refine AllReadyH.cons rfl (fun K' hK' => ?_) (AllReadyH.nil)
          · skip
            go_simp
            go_wp2_with (go_at_call 54; refine (Repeat_any wn31 _ l.length (hX.out.hb _ rfl).1 (by omega)).mono ?_; rintro r wn32 ⟨gr32, rfl, hge, hh9, hb9⟩)
            have hY := hX.out.addR hb9 hge hh9
            refine hK'.out _ _ trivial (fun hHeld => ?_)
            clear hK' K' hX
            have hX : Hid (RegW n l.length W0 wn32 (some wn30.heap.size) (some wn26.heap.size) (some gr32) (some W0.heap.size)) := hY
            clear hY
            refine take_at (i := 6) (n := 23) (v := ?_) rfl rfl (by kernel_rfl) (by kernel_rfl) (by kernel_rfl) (fun _ _ _ h => h) (Or.inl ⟨by rfl, ?_⟩) (by assumption) ?_
            rotate_left 1
            · intro wz hSw
              first | (go_simp; done) | (go_simp; with_reducible rfl)
            simp only [List.set_cons_zero, List.set_cons_succ]
            obtain ⟨ps, pf, pl⟩ := cells_of (l := [_, _]) (hX.out.ha _ rfl).1
            have p0 := ps 0 _ rfl
            have p1 := ps 1 _ rfl
            have pf0 := pf 0
            have pf1 := pf 1
            clear ps pf
            refine wpAnyH_ready (rs := [8]) (by kernel_rfl) (by simp) ?_
            refine AllReadyH.cons rfl (fun K' hK' => ?_) AllReadyH.nil
            go_simp
            refine hK'.out _ _ trivial (fun hHeld => ?_)
            clear hK' K'
            refine wpAnyH_done (by kernel_rfl) ?_ _
            refine NoPanic.normal ?_
            go_wp2_with fail
            go_meet
            case rel =>
              exact ⟨_, _, _, rfl, RegW.fin HW.out HW0.out hX.out⟩
        · skip
          go_simp
          go_wp2_with (go_at_call 54; refine (Repeat_any wn30 _ l.length (hX.out.hb _ rfl).1 (by omega)).mono ?_; rintro r wn33 ⟨gr33, rfl, hge, hh9, hb9⟩)
          have hY := hX.out.addR hb9 hge hh9
          refine hK'.out _ _ trivial (fun hHeld => ?_)
          clear hK' K' hX
          have hX : Hid (RegW n l.length W0 wn33 none (some wn26.heap.size) (some gr33) (some W0.heap.size)) := hY
          clear hY
          refine wpAnyH_ready (rs := [1]) (by kernel_rfl) (by simp) ?_
          refine AllReadyH.cons rfl (fun K' hK' => ?_) (AllReadyH.nil)
          · skip
            obtain ⟨wn34, hmk, hb9, hh9⟩ := make_ex wn33 n (by omega)
            have hY := hX.out.addM hb9 (Nat.le_refl _) hh9
            go_simp
            refine hK'.out _ _ trivial (fun hHeld => ?_)
            clear hK' K' hX
            have hX : Hid (RegW n l.length W0 wn34 (some wn33.heap.size) (some wn26.heap.size) (some gr33) (some W0.heap.size)) := hY
            clear hY
            refine take_at (i := 6) (n := 23) (v := ?_) rfl rfl (by kernel_rfl) (by kernel_rfl) (by kernel_rfl) (fun _ _ _ h => h) (Or.inl ⟨by rfl, ?_⟩) (by assumption) ?_
            rotate_left 1
            · intro wz hSw
              first | (go_simp; done) | (go_simp; with_reducible rfl)
            simp only [List.set_cons_zero, List.set_cons_succ]
            obtain ⟨ps, pf, pl⟩ := cells_of (l := [_, _]) (hX.out.ha _ rfl).1
            have p0 := ps 0 _ rfl
            have p1 := ps 1 _ rfl
            have pf0 := pf 0
            have pf1 := pf 1
            clear ps pf
            refine wpAnyH_ready (rs := [8]) (by kernel_rfl) (by simp) ?_
            refine AllReadyH.cons rfl (fun K' hK' => ?_) AllReadyH.nil
            go_simp
            refine hK'.out _ _ trivial (fun hHeld => ?_)
            clear hK' K'
            refine wpAnyH_done (by kernel_rfl) ?_ _
            refine NoPanic.normal ?_
            go_wp2_with fail
            go_meet
            case rel =>
              exact ⟨_, _, _, rfl, RegW.fin HW.out HW0.out hX.out⟩
  case rest =>
    obtain ⟨pb, rb, eb, rfl, hpre⟩ := hcut
    obtain ⟨W9, hmk, hb9, hh9⟩ := make_ex wc l.length (by omega)
    have H0 : Hid (PlayR w B K Lf Rn Rd C W9 l rk cm 0 [] (l.map (·.c)) jv tv cv pb rb eb wc.heap.size n [] (List.replicate l.length (-1)) (List.replicate l.length 0)) := hpre.made hb9 hh9
    have HQ : Hid (Ranked l 1 rk ∧ Coming l rk cm ∧ ∀ x ∈ l, okJ x) := ⟨H1.out.2.1, H1.out.2.2, HJ.out⟩
    clear hpre hb9 hh9 H1 HJ
    generalize wc.heap.size = sb at *
    go_upto_region 4 with fail
    go_wp2_with fail
    go_loopw [28] (fun i wr => ∃ (t : Nat) (q : StR) (k1 : Nat) (th1 : List Nat) (tv1 cv1 : Value), t ≤ n ∧ i = .int .i64 t ∧ PlayR w B K Lf Rn Rd C wr l rk cm k1 th1 q.s.left jv tv1 cv1 pb rb eb sb n q.s.runs q.s.ends q.u ∧ Core l rk cm k1 th1 q.s.left ∧ (∀ p ∈ cm.take k1, (J l (RK rk p)).a ≤ (t : Int)) ∧ PlaysR l sp fa t q) (fun i _ => n - (intOf i).toNat)
    case atStart => exact ⟨0, StR.init l, 0, [], tv, cv, Nat.zero_le _, rfl, H0.out, core_start HQ.out.1 HQ.out.2.1 HQ.out.2.2, by simp, rfl⟩
    case round =>
      obtain ⟨t, q, k0, th0, tv0, cv0, ht, rfl, hpw, hco, hbd, hpl⟩ := hrel
      have hokt := playsR_ok HQ.out.2.2 t q hpl
      by_cases hlt : t < n
      · have hti : (t : Int) < (n : Int) := by omega
        have HR : Hid (PlayR w B K Lf Rn Rd C wr l rk cm k0 th0 q.s.left jv tv0 cv0 pb rb eb sb n q.s.runs q.s.ends q.u ∧ Core l rk cm k0 th0 q.s.left ∧ (∀ p ∈ cm.take k0, (J l (RK rk p)).a ≤ (t : Int)) ∧ PlaysR l sp fa t q ∧ OkR l sp t q) := ⟨hpw, hco, hbd, hpl, hokt⟩
        clear hpw hco hbd hpl hokt
        go_upto_region 8 with (go_at_call 55; refine (Come_any w B K Lf Rn Rd C wr l 1 rk cm k0 th0 q.s.left jv tv0 cv0 (t : Int) HR.out.1.line HR.out.2.1 HQ.out.1 HQ.out.2.1 hl HR.out.2.2.1).mono ?_; rintro r w1 ⟨⟨cb, rfl⟩, k1, th1, tv1, cv1, hcw, hco1, hnow, hmv, hsub⟩; have H1 : Hid (PlayR w B K Lf Rn Rd C w1 l rk cm k1 th1 q.s.left jv tv1 cv1 pb rb eb sb n q.s.runs q.s.ends q.u ∧ Core l rk cm k1 th1 q.s.left ∧ Now l rk cm k1 (t : Int)) := ⟨HR.out.1.moved hcw hmv, hco1, hnow⟩; clear hcw hco1 hnow hmv hsub)
        go_upto_region 9 with (go_at_call 56; refine (First_any w B K Lf Rn Rd C w1 l 1 rk cm k1 th1 q.s.left jv tv1 cv1 H1.out.1.line HQ.out.1 (fun p hp => H1.out.2.1.lt HQ.out.2.1 hp)).mono ?_; rintro r w2' ⟨rfl, q2, rfl⟩)
        have H2 : Hid (PlayR w B K Lf Rn Rd C (w1.drewN q2) l rk cm k1 th1 q.s.left jv tv1 cv1 pb rb eb sb n q.s.runs q.s.ends q.u ∧ Core l rk cm k1 th1 q.s.left ∧ Now l rk cm k1 (t : Int)) := ⟨H1.out.1.drewN q2, H1.out.2⟩
        clear H1
        generalize w1.drewN q2 = wd at *
        have hrl := HR.out.2.2.2.2.ok.runs
        obtain ⟨ps, pf, pl⟩ := cells_of (l := [_, _]) H2.out.1.p
        have p0 := ps 0 _ rfl
        obtain ⟨rc, rf, rl⟩ := cells_of (l := runCells n q.s.runs) H2.out.1.rv
        have r0 := rc t _ (List.getElem?_eq_getElem (by rw [runCells_len (by omega)]; exact hlt))
        have rf0 := rf t
        generalize (runCells n q.s.runs)[t]'(by rw [runCells_len (by omega)]; exact hlt) = rold at r0
        clear ps pf rc rf
        cases th1 with
        | nil =>
          have hbest := H2.out.2.1.best_none HQ.out.1 HQ.out.2.1 H2.out.2.2
          have HP : Hid (IsBest l 1 q.s.left (t : Int) (-1)) := hbest
          have H3 : Hid (PlayR w B K Lf Rn Rd C (wd.setCell ⟨rb, t, none⟩ (.int .i64 (-1))) l rk cm k1 [] q.s.left jv tv1 cv1 pb rb eb sb n (q.s.runs ++ [-1]) q.s.ends q.u) := H2.out.1.run (i := t) (v := -1) (by rw [← hrl]; exact runCells_snoc (by omega))
          have hf : foreJ rk [] = -1 := rfl
          clear hbest
          rw [hf]
          go_wp2_with fail
          exact ⟨⟨t + 1, ⟨⟨q.s.left, q.s.ends, q.s.runs ++ [-1]⟩, q.u⟩, k1, [], tv1, cv1, by omega, by simp, H3.out, H2.out.2.1, fun x hx => by have := H2.out.2.2.come x hx; omega, ⟨q, -1, HR.out.2.2.2.1, HP.out, rfl⟩⟩, by simp [intOf]; omega⟩
        | cons p th2 =>
          have hpt : p ∈ p :: th2 := List.mem_cons_self
          have hbest := H2.out.2.1.best_some HQ.out.1 HQ.out.2.1 H2.out.2.2
          have hf : foreJ rk (p :: th2) = ((RK rk p : Nat) : Int) := rfl
          rw [hf]
          have hqm : (((RK rk p : Nat) : Int) == -1) = false := by rw [beq_eq_false_iff_ne]; omega
          have hqm' : decide (((RK rk p : Nat) : Int) = -1) = false := decide_eq_false (by omega)
          have hpll : p < l.length := H2.out.2.1.lt HQ.out.2.1 hpt
          have HP : Hid (IsBest l 1 q.s.left (t : Int) ((RK rk p : Nat) : Int)) := hbest
          have hrkl : RK rk p < l.length := HQ.out.1.lt hpll
          obtain ⟨Lv, hLv⟩ : ∃ Lv, L q.s.left (RK rk p) = Lv := ⟨_, rfl⟩
          obtain ⟨Uv, hUv⟩ : ∃ Uv, L q.u (RK rk p) = Uv := ⟨_, rfl⟩
          have hL0 : 0 < Lv := by rw [← hLv]; exact ((H2.out.2.1.mem p).1 hpt).2
          have hL1 : Lv ≤ 10000 := by rw [← hLv]; exact HR.out.2.2.2.2.ok.small _
          have hU0 : 0 ≤ Uv := by rw [← hUv]; exact HR.out.2.2.2.2.u0 _
          have hU1 : Uv ≤ 10000 := by have a1 := HR.out.2.2.2.2.sum _ hrkl; have a2 := (J_okJ HQ.out.2.2 hrkl).1.2.2.2.1; rw [hLv, hUv] at a1; omega
          have hll := HR.out.2.2.2.2.ok.left
          have hul := HR.out.2.2.2.2.ul
          have hthl := H2.out.2.1.len HQ.out.2.1
          have HC : Hid (L q.s.left (RK rk p) = Lv ∧ q.s.left.length = l.length ∧ RK rk p < l.length ∧ p < l.length ∧ (p :: th2).length ≤ l.length ∧ L q.u (RK rk p) = Uv ∧ q.u.length = l.length) := ⟨hLv, hll, hrkl, hpll, by omega, hUv, hul⟩
          have hqi : ((RK rk p : Nat) : Int) < (l.length : Int) := by omega
          have HB : Hid (PlayR w B K Lf Rn Rd C (wd.setCell ⟨rb, t, none⟩ (.int .i64 ((RK rk p : Nat) : Int))) l rk cm k1 (p :: th2) q.s.left jv tv1 cv1 pb rb eb sb n (q.s.runs ++ [((RK rk p : Nat) : Int)]) q.s.ends q.u) := H2.out.1.run (i := t) (v := ((RK rk p : Nat) : Int)) (by rw [← hrl]; exact runCells_snoc (by omega))
          have HTt := HT.out (wd.setCell ⟨rb, t, none⟩ (.int .i64 ((RK rk p : Nat) : Int))) HB.out.line.bel t (by omega)
          clear hbest hLv hUv hll hul hthl hpll hpt
          generalize hZ : RK rk p = z at *
          have HZ : Hid (RK rk p = z) := hZ
          clear hZ
          cases ho : fa t with
          | true =>
            rw [ho] at HTt
            have HA : Hid (q.after sp true t (z : Int) = ⟨⟨q.s.left.set z (Lv + Uv), q.s.ends, q.s.runs ++ [(z : Int)]⟩, q.u.set z 0⟩) := by
              have e := afterR_fault (q := q) (sp := sp) (t := t) (i := z)
              rw [HC.out.1, HC.out.2.2.2.2.2.1] at e
              exact e
            go_upto_region 15 with (go_at_call 39; refine HTt.mono ?_; rintro r w5 ⟨rfl, hb5⟩; have H5 : Hid (PlayR w B K Lf Rn Rd C w5 l rk cm k1 (p :: th2) q.s.left jv tv1 cv1 pb rb eb sb n (q.s.runs ++ [(z : Int)]) q.s.ends q.u) := HB.out.below hb5; obtain ⟨s0, sf0⟩ := H5.out.since_at (i := z) (v := Uv) (by rw [HC.out.2.2.2.2.2.2]; exact HC.out.2.2.1) HC.out.2.2.2.2.2.1; clear hb5 HTt)
            go_upto_region 16 with (go_at_call 57; refine (Redo_any w B K Lf Rn Rd C w5 l rk cm k1 z Lv Uv (p :: th2) q.s.left jv tv1 cv1 H5.out.line HC.out.2.2.1 HC.out.2.1 HC.out.1 (by omega) (by omega) (by omega) (by omega)).mono ?_; rintro r w6 ⟨rfl, hc6, hm6⟩; have H6 : Hid (PlayR w B K Lf Rn Rd C w6 l rk cm k1 (p :: th2) (q.s.left.set z (Lv + Uv)) jv tv1 cv1 pb rb eb sb n (q.s.runs ++ [(z : Int)]) q.s.ends q.u) := H5.out.moved hc6 hm6; clear hc6 hm6)
            clear s0 sf0
            obtain ⟨s0, sf0⟩ := H6.out.since_at (i := z) (v := Uv) (by rw [HC.out.2.2.2.2.2.2]; exact HC.out.2.2.1) HC.out.2.2.2.2.2.1
            go_wp2_with fail
            exact ⟨⟨t + 1, ⟨⟨q.s.left.set z (Lv + Uv), q.s.ends, q.s.runs ++ [(z : Int)]⟩, q.u.set z 0⟩, k1, p :: th2, tv1, cv1, by omega, by simp, H6.out.since z 0, by have e := H2.out.2.1.tick (v := Lv + Uv) HQ.out.1 HQ.out.2.1 HC.out.2.1 List.mem_cons_self (by omega); rw [HZ.out] at e; exact e, fun x hx => by have := H2.out.2.2.come x hx; omega, ⟨q, _, HR.out.2.2.2.1, HP.out, by rw [ho]; exact HA.out.symm⟩⟩, by simp [intOf]; omega⟩
          | false =>
            rw [ho] at HTt
            by_cases hz : Lv = 1
            · subst hz
              have HA : Hid (q.after sp false t (z : Int) = ⟨⟨q.s.left.set z 0, q.s.ends.set z ((t : Int) + 1), q.s.runs ++ [(z : Int)]⟩, q.u⟩) := by
                have e := afterR_work (q := q) (sp := sp) (t := t) (i := z)
                rw [HC.out.1, if_pos (by decide), if_pos (by decide)] at e
                exact e
              have hel := HR.out.2.2.2.2.ok.ends
              have HEL : Hid (z < (q.s.ends.map (Value.int .i64)).length) := by
                have e : z < (q.s.ends.map (Value.int .i64)).length := by rw [List.length_map, hel]; exact hrkl
                exact e
              have HWL : Hid (∀ W5, LineW w B K Lf Rn Rd C W5 l rk cm k1 (p :: th2) q.s.left jv tv1 cv1 → Calls Tryd.prog 58 #[.pointer (some ⟨K, 0, none⟩), .int .i64 (z : Int)] W5 fun r W' => r = .returned (.bool true) ∧ ∃ tv', LineW w B K Lf Rn Rd C W' l rk cm k1 ((p :: th2).take ((p :: th2).countP (· < p)) ++ (p :: th2).drop ((p :: th2).countP (· < p) + 1)) (q.s.left.set z 0) jv tv' cv1 ∧ MovedL W5 W' K Lf tv1 tv') := fun W5 h5 => by
                have := Work_last w B K Lf Rn Rd C W5 l 1 rk cm k1 p (p :: th2) q.s.left jv tv1 cv1 h5 HQ.out.1 List.mem_cons_self HC.out.2.2.2.1 HC.out.2.1 (by rw [HZ.out]; exact HC.out.1) H2.out.2.1.asc (by have := HC.out.2.2.2.2.1; omega)
                rw [HZ.out] at this
                exact this
              clear hL0 hL1 hel hrkl
              go_upto_region 18 with (first | (go_at_call 58; refine (HWL.out w5 H5.out.line).mono ?_; rintro r w6 ⟨rfl, tv6, hc6, hm6⟩; have H6 : Hid (PlayR w B K Lf Rn Rd C w6 l rk cm k1 ((p :: th2).take ((p :: th2).countP (· < p)) ++ (p :: th2).drop ((p :: th2).countP (· < p) + 1)) (q.s.left.set z 0) jv tv6 cv1 pb rb eb sb n (q.s.runs ++ [(z : Int)]) q.s.ends q.u) := H5.out.moved hc6 hm6; clear hc6 hm6) | (go_at_call 39; refine HTt.mono ?_; rintro r w5 ⟨rfl, hb5⟩; have H5 : Hid (PlayR w B K Lf Rn Rd C w5 l rk cm k1 (p :: th2) q.s.left jv tv1 cv1 pb rb eb sb n (q.s.runs ++ [(z : Int)]) q.s.ends q.u) := HB.out.below hb5; clear hb5 HTt))
              obtain ⟨ps, pf, pl⟩ := cells_of (l := [_, _]) H6.out.p
              have p1 := ps 1 _ rfl
              obtain ⟨ec, ef, el⟩ := cells_of (l := q.s.ends.map (Value.int .i64)) H6.out.ev
              have e0 := ec z _ (List.getElem?_eq_getElem HEL.out)
              have ef0 := ef z
              generalize (q.s.ends.map (Value.int .i64))[z]'HEL.out = eold at e0
              clear ps pf ec ef
              have qt : IntKind.i64.wrap ((t : Int) + 1) = (t : Int) + 1 := by rw [IntKind.wrap_i64]; omega
              go_wp2_with fail
              exact ⟨⟨t + 1, ⟨⟨q.s.left.set z 0, q.s.ends.set z ((t : Int) + 1), q.s.runs ++ [(z : Int)]⟩, q.u⟩, k1, _, tv6, cv1, by omega, by simp, H6.out.done, by have e := H2.out.2.1.leave HQ.out.1 HQ.out.2.1 HC.out.2.1 List.mem_cons_self; rw [HZ.out] at e; exact e, fun x hx => by have := H2.out.2.2.come x hx; omega, ⟨q, _, HR.out.2.2.2.1, HP.out, by rw [ho]; exact HA.out.symm⟩⟩, by simp [intOf]; omega⟩
            · have HL : Hid (1 < Lv ∧ Lv ≤ 10000) := by
                have e : 1 < Lv ∧ Lv ≤ 10000 := by omega
                exact e
              have HA : Hid (q.after sp false t (z : Int) = ⟨⟨q.s.left.set z (Lv - 1), q.s.ends, q.s.runs ++ [(z : Int)]⟩, q.u.set z (if Uv + 1 = sp then 0 else Uv + 1)⟩) := by
                have e := afterR_work (q := q) (sp := sp) (t := t) (i := z)
                rw [HC.out.1, HC.out.2.2.2.2.2.1, if_neg (by omega), if_neg (by omega)] at e
                exact e
              clear hL0 hL1 hrkl hz
              go_upto_region 10 with (first | (go_at_call 58; refine (Work_on w B K Lf Rn Rd C w5 l rk cm k1 z Lv (p :: th2) q.s.left jv tv1 cv1 H5.out.line HC.out.2.2.1 HC.out.2.1 HC.out.1 HL.out.1 HL.out.2).mono ?_; rintro r w6 ⟨rfl, hc6, hm6⟩; have H6 : Hid (PlayR w B K Lf Rn Rd C w6 l rk cm k1 (p :: th2) (q.s.left.set z (Lv - 1)) jv tv1 cv1 pb rb eb sb n (q.s.runs ++ [(z : Int)]) q.s.ends q.u) := H5.out.moved hc6 hm6; clear hc6 hm6) | (go_at_call 39; refine HTt.mono ?_; rintro r w5 ⟨rfl, hb5⟩; have H5 : Hid (PlayR w B K Lf Rn Rd C w5 l rk cm k1 (p :: th2) q.s.left jv tv1 cv1 pb rb eb sb n (q.s.runs ++ [(z : Int)]) q.s.ends q.u) := HB.out.below hb5; clear hb5 HTt))
              obtain ⟨s0, sf0⟩ := H6.out.since_at (i := z) (v := Uv) (by rw [HC.out.2.2.2.2.2.2]; exact HC.out.2.2.1) HC.out.2.2.2.2.2.1
              have qu : IntKind.i64.wrap (Uv + 1) = Uv + 1 := by rw [IntKind.wrap_i64]; omega
              have H7 : Hid (PlayR w B K Lf Rn Rd C (w6.setCell ⟨sb, z, none⟩ (.int .i64 (Uv + 1))) l rk cm k1 (p :: th2) (q.s.left.set z (Lv - 1)) jv tv1 cv1 pb rb eb sb n (q.s.runs ++ [(z : Int)]) q.s.ends (q.u.set z (Uv + 1))) := H6.out.since z (Uv + 1)
              go_upto_region 11 with fail
              clear s0 sf0 H6
              generalize w6.setCell ⟨sb, z, none⟩ (.int .i64 (Uv + 1)) = w7 at *
              obtain ⟨s0, sf0⟩ := H7.out.since_at (i := z) (v := Uv + 1) (by rw [List.length_set, HC.out.2.2.2.2.2.2]; exact HC.out.2.2.1) (by rw [L_set (by rw [HC.out.2.2.2.2.2.2]; exact HC.out.2.2.1), if_pos rfl])
              have HK : Hid (Core l rk cm k1 (p :: th2) (q.s.left.set z (Lv - 1))) := by
                have e := H2.out.2.1.tick (v := Lv - 1) HQ.out.1 HQ.out.2.1 HC.out.2.1 List.mem_cons_self (by have := HL.out.1; omega)
                rw [HZ.out] at e
                exact e
              by_cases hs : Uv + 1 = sp
              · have hs1 : (Uv + 1 == sp) = true := by simp [hs]
                have hs2 : decide (Uv + 1 = sp) = true := by simp [hs]
                have HA2 : Hid (q.after sp false t (z : Int) = ⟨⟨q.s.left.set z (Lv - 1), q.s.ends, q.s.runs ++ [(z : Int)]⟩, (q.u.set z (Uv + 1)).set z 0⟩) := by
                  have e := HA.out
                  rw [if_pos hs] at e
                  rw [List.set_set]
                  exact e
                clear hs HA
                go_wp2_with fail
                exact ⟨⟨t + 1, ⟨⟨q.s.left.set z (Lv - 1), q.s.ends, q.s.runs ++ [(z : Int)]⟩, (q.u.set z (Uv + 1)).set z 0⟩, k1, p :: th2, tv1, cv1, by omega, by simp, H7.out.since z 0, HK.out, fun x hx => by have := H2.out.2.2.come x hx; omega, ⟨q, _, HR.out.2.2.2.1, HP.out, by rw [ho]; exact HA2.out.symm⟩⟩, by simp [intOf]; omega⟩
              · have hs1 : (Uv + 1 == sp) = false := by simp [hs]
                have hs2 : decide (Uv + 1 = sp) = false := by simp [hs]
                have HA2 : Hid (q.after sp false t (z : Int) = ⟨⟨q.s.left.set z (Lv - 1), q.s.ends, q.s.runs ++ [(z : Int)]⟩, q.u.set z (Uv + 1)⟩) := by
                  have e := HA.out
                  rw [if_neg hs] at e
                  exact e
                clear hs HA
                go_wp2_with fail
                exact ⟨⟨t + 1, ⟨⟨q.s.left.set z (Lv - 1), q.s.ends, q.s.runs ++ [(z : Int)]⟩, q.u.set z (Uv + 1)⟩, k1, p :: th2, tv1, cv1, by omega, by simp, H7.out, HK.out, fun x hx => by have := H2.out.2.2.come x hx; omega, ⟨q, _, HR.out.2.2.2.1, HP.out, by rw [ho]; exact HA2.out.symm⟩⟩, by simp [intOf]; omega⟩
      · have hte : t = n := by omega
        subst hte
        have HE : Hid (PlayR w B K Lf Rn Rd C wr l rk cm k0 th0 q.s.left jv tv0 cv0 pb rb eb sb t q.s.runs q.s.ends q.u ∧ PlaysR l sp fa t q ∧ OkR l sp t q) := ⟨hpw, hpl, hokt⟩
        obtain ⟨ps, pf, pl⟩ := cells_of (l := [_, _]) hpw.p
        have p0 := ps 0 _ rfl
        have p1 := ps 1 _ rfl
        have hres : wr.heap[w9.heap.size]? = some (.cells #[.slice none 0 0, .slice none 0 0] 43 (0, 0)) := (hpw.line.bel.block _ (by rw [← EW.out]; simp)).trans (by rw [← EW.out]; exact heap_alloc_new _ _)
        have HRES : Hid (wr.heap[w9.heap.size]? = some (.cells #[.slice none 0 0, .slice none 0 0] 43 (0, 0))) := hres
        obtain ⟨qs, qf, ql⟩ := cells_of (l := [_, _]) hres
        have q0 := qs 0 _ rfl
        have q1 := qs 1 _ rfl
        have qf0 := qf 0
        have qf1 := qf 1
        clear ps pf qs qf hpw hpl hokt hco hbd hres
        go_wp2_with fail
        refine bodyPost_ret (playR_ends (g := w9.heap.size) (c := .slice (some ⟨rb, 0, none⟩) t t) (k := .slice (some ⟨eb, 0, none⟩) l.length l.length) (by rw [setCell_at (setCell_at HRES.out)]; rfl) rfl) rfl ?_
        obtain ⟨b1, b2, b3, b4⟩ := HE.out.1.bs
        obtain ⟨d1, d2, d3, d4, d5, d6⟩ := HE.out.1.ds
        have hlow := HE.out.1.line.low.2
        have hsz : w.heap.size = w9.heap.size + 1 := by rw [← EW.out]; simp
        have hbw : Below w9.heap.size w9 wr := by
          have e := HE.out.1.line.bel
          rw [← EW.out] at e
          exact (below_new w9 _).trans (e.mono (by simp))
        refine ⟨q, rb, eb, HE.out.2.1, rfl, ?_, ?_, d3, by omega, by omega, (hbw.setCell (Nat.le_refl _) _).setCell (Nat.le_refl _) _⟩
        · rw [Below.heap_setCell _ _ _ _ (by show rb ≠ w9.heap.size; omega), Below.heap_setCell _ _ _ _ (by show rb ≠ w9.heap.size; omega), HE.out.1.rv, ← HE.out.2.2.ok.runs, runCells_full]
        · rw [Below.heap_setCell _ _ _ _ (by show eb ≠ w9.heap.size; omega), Below.heap_setCell _ _ _ _ (by show eb ≠ w9.heap.size; omega), HE.out.1.ev]
end Go.Proofs.YtekbkcgpjkecbalDoor.S8
