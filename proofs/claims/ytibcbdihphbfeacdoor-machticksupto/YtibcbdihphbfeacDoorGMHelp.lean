import Derived.Test.YtibcbdihphbfeacDoorGMRunA
import Derived.Test.YtibcbdihphbfeacDoorGMNewOk
import Derived.Laws.MakeOwn
namespace Go.Proofs.YtibcbdihphbfeacDoor
open Go.ChangeShapes Go.WideShapes Go.ChangeAt Go.RowKit
theorem IntSl.below {w w' : World} {vs : List Int} {v : Value} (h : IntSl w vs v) (hb : Below w.heap.size w w') : IntSl w' vs v := by
 obtain ⟨ad, c, h1, h2⟩ := h
 refine ⟨ad, c, h1, ?_⟩
 rcases h2 with h2 | ⟨b, o, h2, h3⟩
 ·exact .inl h2
 ·exact .inr ⟨b, o, h2, fun j hj => below_cell hb (h3 j hj)⟩
structure RR (w W : World) (mb : Nat) (l : List In) (M : Int → Option Int) (iv ov : Value) (ins vars : List Int) (d : Nat) (s : MS) (t : Int) (sv pv : Value) : Prop where
 mm : MM W mb (mb + 1) l iv ov ins 0 s sv pv
 rb : RB w W
 mi : MI l M s
 ps : s.ps.length ≤ d
 tl : 0 ≤ t ∧ t ≤ 1000 * d
 run : runF l ins (20000 - d) s t = runF l ins 20000 (ms0 vars) 0
theorem RR.grow {w W W' : World} {mb : Nat} {l : List In} {M : Int → Option Int} {iv ov : Value} {ins vars : List Int} {d : Nat} {s : MS} {t : Int} {sv pv : Value} (h : RR w W mb l M iv ov ins vars d s t sv pv) (hb : Below W.heap.size W W') : RR w W' mb l M iv ov ins vars d s t sv pv :=
 ⟨h.mm.grow hb, h.rb.grow hb, h.mi, h.ps, h.tl, h.run⟩
theorem mdo_ps (ins : List Int) (x : In) (s : MS) : (mdo ins x s).ps.length ≤ s.ps.length + 1 := by
 show (if x.op = 10 then s.ps ++ [(x.a, s.top)] else s.ps).length ≤ _
 split <;> simp
theorem RR.step {w W W' : World} {mb : Nat} {l : List In} {M : Int → Option Int} {iv ov : Value} {ins vars : List Int} {d : Nat} {s : MS} {t : Int} {sv pv sv' pv' : Value} (h : RR w W mb l M iv ov ins vars d s t sv pv) (g : GoodI l M) (hlt : w.heap.size + 1 < mb) (hpc : s.pc < l.length) (hd : d < 20000) (hm : MM W' mb (mb + 1) l iv ov ins 0 (mdo ins (atI l s) s) sv' pv') (hr : MR mb W W' sv pv sv' pv') :
  RR w W' mb l M iv ov ins vars (d + 1) (mdo ins (atI l s) s) (t + costI (atI l s) (overI (atI l s) s)) sv' pv' := by
 have hc := cost_le (g.form _ hpc) (overI (atI l s) s)
 have hc' : 1 ≤ costI (atI l s) (overI (atI l s) s) ∧ costI (atI l s) (overI (atI l s) s) ≤ 1000 := hc
 refine ⟨hm, h.rb.move h.mm hr hlt, h.mi.step g hpc ins, Nat.le_trans (mdo_ps ins _ s) (by have := h.ps; omega), by have := h.tl; omega, ?_⟩
 rw [← h.run, show 20000 - d = (20000 - (d + 1)) + 1 by omega, run_at (by omega)]
theorem MM.next {w : World} {mb B : Nat} {l : List In} {iv ov : Value} {ins : List Int} {sp : Int} {s : MS} {sv pv : Value} (h : MM w mb B l iv ov ins sp s sv pv) (hpc : s.pc < l.length) : ∃ b o c, iv = .slice (some ⟨b, o, none⟩) l.length c ∧ w.cell? ⟨b, o + s.pc * 3, none⟩ = some (.int .i64 (atI l s).op) ∧ w.cell? ⟨b, o + s.pc * 3 + 1, none⟩ = some (.int .i64 (atI l s).a) ∧ w.cell? ⟨b, o + s.pc * 3 + 2, none⟩ = some (.int .i64 (atI l s).b) := by
 obtain ⟨⟨ad, c, rfl, h0 | ⟨b, o, rfl, h1⟩⟩, -⟩ := h.img
 ·rw [h0] at hpc; simp at hpc
 ·exact ⟨b, o, c, rfl, h1 _ hpc⟩
theorem ownsRow_low {w : World} {B B' n size : Nat} {e : TypeId} {v : Value} {xs : List Value} (h : w.ownsRow B e size v n xs) (hb : B' ≤ B) : w.ownsRow B' e size v n xs := by
 obtain ⟨hl, h | ⟨g, cap, cur, he, hB, hr⟩⟩ := h
 ·exact ⟨hl, .inl h⟩
 ·exact ⟨hl, .inr ⟨g, cap, cur, he, Nat.le_trans hb hB, hr⟩⟩
theorem ownsRow_below {w w' : World} {B n size : Nat} {e : TypeId} {v : Value} {xs : List Value} (h : w.ownsRow B e size v n xs) (hb : Below w.heap.size w w') : w'.ownsRow B e size v n xs := ownsRow_same h (fun k _ hk => hb.block k hk)
set_option maxRecDepth 20000 in
set_option maxHeartbeats 4000000 in
theorem SameI_any (w : World) (vs : List Int) (v v' : Value) (hl : vs.length ≤ 4194304) (h : IntSl w vs v) (h' : IntSl w vs v') :
  Calls Tryd.prog 39 #[v, v'] w fun r w' => r = .returned (.bool true) ∧ Below w.heap.size w w' := by
 obtain ⟨ad, c, rfl, hc⟩ := h
 obtain ⟨ad', c', rfl, hc'⟩ := h'
 have HR : Hid ((vs = [] ∨ ∃ b o, ad = some ⟨b, o, none⟩ ∧ ∀ j, j < vs.length → w.cell? ⟨b, o + j, none⟩ = some (.int .i64 (vs.getD j 0))) ∧ (vs = [] ∨ ∃ b o, ad' = some ⟨b, o, none⟩ ∧ ∀ j, j < vs.length → w.cell? ⟨b, o + j, none⟩ = some (.int .i64 (vs.getD j 0)))) := ⟨hc, hc'⟩
 clear hc hc'
 go_enter Tryd.func39, Tryd.ntmps39
 go_wp2_with fail
 go_loopw [13] (fun x wr => ∃ j : Nat, j ≤ vs.length ∧ x = .int .i64 j ∧ Below w.heap.size w wr) (fun x _ => vs.length - (intOf x).toNat)
 case atStart => exact ⟨0, Nat.zero_le _, rfl, Below.refl _ _⟩
 case round =>
  obtain ⟨j, hj, rfl, hb⟩ := hrel
  by_cases hlt : j < vs.length
  ·rcases HR.out.1 with h | ⟨b, o, had, hrow⟩
   ·rw [h] at hlt; simp at hlt
   rcases HR.out.2 with h | ⟨b', o', had', hrow'⟩
   ·rw [h] at hlt; simp at hlt
   subst had had'
   have c0 := below_cell hb (hrow j hlt)
   have d0 := below_cell hb (hrow' j hlt)
   clear hrow hrow'
   generalize vs.getD j 0 = z at *
   have HB : Hid (Below w.heap.size w wr) := hb
   clear hb
   go_wp2_with fail
   go_region
   go_wp2_with fail
   go_roundw
   case rel => exact ⟨j + 1, by omega, by go_num, HB.out.drew⟩
   case measure => simp [intOf]; omega
  ·have hje : j = vs.length := by omega
   subst hje
   go_wp2_with fail
   go_ret
   exact ⟨rfl, hb⟩
def PutSl (w : World) (ps : List (Int × Int)) (v : Value) : Prop := ∃ ad c, v = .slice ad ps.length c ∧ (ps = [] ∨ ∃ b o, ad = some ⟨b, o, none⟩ ∧ ∀ j, j < ps.length → w.cell? ⟨b, o + j * 2, none⟩ = some (.int .i64 (ps.getD j (0, 0)).1) ∧ w.cell? ⟨b, o + j * 2 + 1, none⟩ = some (.int .i64 (ps.getD j (0, 0)).2))
theorem PutSl.below {w w' : World} {ps : List (Int × Int)} {v : Value} (h : PutSl w ps v) (hb : Below w.heap.size w w') : PutSl w' ps v := by
 obtain ⟨ad, c, h1, h2⟩ := h
 refine ⟨ad, c, h1, ?_⟩
 rcases h2 with h2 | ⟨b, o, h2, h3⟩
 ·exact .inl h2
 ·exact .inr ⟨b, o, h2, fun j hj => ⟨below_cell hb (h3 j hj).1, below_cell hb (h3 j hj).2⟩⟩
set_option maxRecDepth 20000 in
set_option maxHeartbeats 4000000 in
theorem SameP_any (w : World) (ps : List (Int × Int)) (v v' : Value) (hl : ps.length ≤ 4194304) (h : PutSl w ps v) (h' : PutSl w ps v') :
  Calls Tryd.prog 40 #[v, v'] w fun r w' => r = .returned (.bool true) ∧ Below w.heap.size w w' := by
 obtain ⟨ad, c, rfl, hc⟩ := h
 obtain ⟨ad', c', rfl, hc'⟩ := h'
 have HR : Hid ((ps = [] ∨ ∃ b o, ad = some ⟨b, o, none⟩ ∧ ∀ j, j < ps.length → w.cell? ⟨b, o + j * 2, none⟩ = some (.int .i64 (ps.getD j (0, 0)).1) ∧ w.cell? ⟨b, o + j * 2 + 1, none⟩ = some (.int .i64 (ps.getD j (0, 0)).2)) ∧ (ps = [] ∨ ∃ b o, ad' = some ⟨b, o, none⟩ ∧ ∀ j, j < ps.length → w.cell? ⟨b, o + j * 2, none⟩ = some (.int .i64 (ps.getD j (0, 0)).1) ∧ w.cell? ⟨b, o + j * 2 + 1, none⟩ = some (.int .i64 (ps.getD j (0, 0)).2))) := ⟨hc, hc'⟩
 clear hc hc'
 go_enter Tryd.func40, Tryd.ntmps40
 go_wp2_with fail
 go_loopw [13] (fun x wr => ∃ j : Nat, j ≤ ps.length ∧ x = .int .i64 j ∧ Below w.heap.size w wr) (fun x _ => ps.length - (intOf x).toNat)
 case atStart => exact ⟨0, Nat.zero_le _, rfl, Below.refl _ _⟩
 case round =>
  obtain ⟨j, hj, rfl, hb⟩ := hrel
  by_cases hlt : j < ps.length
  ·rcases HR.out.1 with h | ⟨b, o, had, hrow⟩
   ·rw [h] at hlt; simp at hlt
   rcases HR.out.2 with h | ⟨b', o', had', hrow'⟩
   ·rw [h] at hlt; simp at hlt
   subst had had'
   have c0 := below_cell hb (hrow j hlt).1
   have c1 := below_cell hb (hrow j hlt).2
   have d0 := below_cell hb (hrow' j hlt).1
   have d1 := below_cell hb (hrow' j hlt).2
   clear hrow hrow'
   generalize (ps.getD j (0, 0)).1 = z at *
   generalize (ps.getD j (0, 0)).2 = z' at *
   have HB : Hid (Below w.heap.size w wr) := hb
   clear hb
   go_wp2_with fail
   go_region
   go_wp2_with fail
   go_roundw
   case rel => exact ⟨j + 1, by omega, by go_num, HB.out.drew⟩
   case measure => simp [intOf]; omega
  ·have hje : j = ps.length := by omega
   subst hje
   go_wp2_with fail
   go_ret
   exact ⟨rfl, hb⟩
def LentSl (w : World) (vs : List Int) (m : Int) (v : Value) : Prop := ∃ b o cap, v = .slice (some ⟨b, o, none⟩) vs.length cap ∧ vs.length + 3 ≤ cap ∧ (∀ j, j < vs.length → w.cell? ⟨b, o + j, none⟩ = some (.int .i64 (vs.getD j 0))) ∧ (∀ j, vs.length ≤ j → j < vs.length + 3 → w.cell? ⟨b, o + j, none⟩ = some (.int .i64 m))
theorem LentSl.below {w w' : World} {vs : List Int} {m : Int} {v : Value} (h : LentSl w vs m v) (hb : Below w.heap.size w w') : LentSl w' vs m v := by
 obtain ⟨b, o, cap, h1, h2, h3, h4⟩ := h
 exact ⟨b, o, cap, h1, h2, fun j hj => below_cell hb (h3 j hj), fun j hj hj' => below_cell hb (h4 j hj hj')⟩
theorem LentSl.plain {w : World} {vs : List Int} {m : Int} {v : Value} (h : LentSl w vs m v) : IntSl w vs v := by
 obtain ⟨b, o, cap, h1, -, h3, -⟩ := h
 exact ⟨_, _, h1, .inr ⟨b, o, rfl, h3⟩⟩
theorem IntSl.arg {w w1 : World} {vs : List Int} {ad : Option Addr} {c : Nat} (h : IntSl w vs (.slice ad vs.length c)) (hb : Below w.heap.size w w1) : ∀ ad', ad = some ad' → ∀ j u, (intVs vs)[j]? = some u → w1.cell? (ad'.add j) = some u := by
 intro ad' hd j u hj
 have hjl : j < vs.length := by have := (List.getElem?_eq_some_iff.1 hj).1; simpa [intVs] using this
 obtain ⟨ad2, c2, e, h2⟩ := h
 cases e
 rcases h2 with h2 | ⟨b, o, h2, h3⟩
 ·subst h2; simp at hjl
 ·rw [hd] at h2
  cases h2
  rw [Addr.add_lit]
  refine below_cell hb ?_
  rw [h3 j hjl]
  have e : (intVs vs)[j]? = some (Value.int .i64 (vs.getD j 0)) := by simp [intVs, List.getD, hjl]
  rw [e] at hj
  exact hj
theorem marks_cell (w : World) (m : Int) (j : Nat) (u : Value) (hj : [Value.int .i64 m, .int .i64 m, .int .i64 m][j]? = some u) : (w.alloc (.cells #[.int .i64 m, .int .i64 m, .int .i64 m] 3)).cell? ((⟨w.heap.size, 0, none⟩ : Addr).add j) = some u := by
 rw [Addr.add_lit]
 have := (cells_of (l := [_, _, _]) (heap_alloc_new w (.cells #[.int .i64 m, .int .i64 m, .int .i64 m] 3))).1 j u hj
 simpa using this
theorem below_setCells {N b : Nat} (hb : N ≤ b) : ∀ (l : List Value) (o : Nat) (w : World), Below N w (w.setCells b o l)
 | [], _, _ => Below.refl _ _
 | v :: r, o, w => by
  refine Below.trans ?_ (below_setCells hb r (o + 1) _)
  exact (Below.refl _ w).setCell (p := ⟨b, o, none⟩) hb v
theorem zero_cells (z : Value) (n : Nat) : ∀ u ∈ (Builtin.zeroCells #[z, z] n).toList, u = z := by
 intro u hu
 simp only [Builtin.zeroCells, Array.toList_map, List.mem_map] at hu
 obtain ⟨i, -, rfl⟩ := hu
 have : i % (#[z, z] : Array Value).size = 0 ∨ i % (#[z, z] : Array Value).size = 1 := by
  have : i % 2 < 2 := Nat.mod_lt _ (by decide)
  show i % 2 = 0 ∨ i % 2 = 1
  omega
 rcases this with e | e <;> rw [e] <;> rfl
theorem clear_two (w : World) (t e ty : TypeId) (z : Value) (ht : Tryd.prog.underlying t = some (.slice e)) (hv : ∀ w, (zeroValue e).run Tryd.prog w = .ok (.agg #[z, z]) w) (h1 : z.oneCell' = true) (b n c : Nat) (hn : 0 < n)
  (hc : ∀ j, j < n * 2 → (w.cell? ⟨b, 0 + j, none⟩).isSome = true) (hf : ∀ j, j < n * 2 → w.frozen? ⟨b, 0 + j, none⟩ = false) :
  ∃ l, (Builtin.clear_ #[t] ty #[.slice (some ⟨b, 0, none⟩) n c]).run Tryd.prog w = .ok (.tuple #[]) (w.setCells b 0 l) := by
 have hcell : (Value.agg #[z, z]).cells = #[z, z] := by
  simp [Value.cells]
 have hlen : (Builtin.zeroCells #[z, z] n).toList.length = n * 2 := by simp [Builtin.zeroCells]
 have hst := run_storeCells_cells (P := Tryd.prog) b 0 (Builtin.zeroCells #[z, z] n).toList 0 w (by rw [hlen]; simpa using hc) (by rw [hlen]; simpa using hf) (by intro v hv'; rw [zero_cells z n v hv']; exact h1)
 refine ⟨(Builtin.zeroCells #[z, z] n).toList, ?_⟩
 obtain ⟨m, rfl⟩ : ∃ m, n = m + 1 := ⟨n - 1, by omega⟩
 simp only [Nat.add_zero] at hst
 simp [Builtin.clear_, run_underlying ht, hv, hcell, hst]
set_option maxRecDepth 20000 in
set_option maxHeartbeats 4000000 in
theorem SpoilP_any (w : World) (B : Nat) (pv : Value) (n : Nat) (xs : List Value) (h : w.ownsRow B 43 2 pv n xs) :
  Calls Tryd.prog 17 #[pv] w fun r w' => r = .returned (.tuple #[]) ∧ Below B w w' := by
 obtain ⟨i0, hi0, hz0, hz1, hz2⟩ := info_parts infoPut
 obtain ⟨-, ⟨rfl, rfl⟩ | ⟨g, cap, cur, rfl, hB, hg, hn, hm, hs, -⟩⟩ := h
 ·have hcl : ∀ ty, (Builtin.clear_ #[25] ty #[.slice none 0 0]).run Tryd.prog w = .ok (.tuple #[]) w := fun ty => by
   simp [Builtin.clear_, run_underlying Tryd.underlying25]
  go_enter Tryd.func17, Tryd.ntmps17
  go_wp2
  go_end0
  exact ⟨rfl, Below.refl _ _⟩
 ·have hz : ∀ w, (zeroValue 43).run Tryd.prog w = .ok (.agg #[.int .i64 0, .int .i64 0]) w := fun w => by simp [zeroValue, typeInfo, hi0, hz0]
  have hcl' : ∃ w1, (∀ ty, (Builtin.clear_ #[25] ty #[.slice (some ⟨g, 0, none⟩) cap cap]).run Tryd.prog w = .ok (.tuple #[]) w1) ∧ Below B w w1 := by
   by_cases hc : cap = 0
   ·subst hc
    exact ⟨w, fun ty => by simp [Builtin.clear_, run_underlying Tryd.underlying25], Below.refl _ _⟩
   ·obtain ⟨l, hl⟩ := clear_two w 25 43 25 (.int .i64 0) Tryd.underlying25 hz rfl g cap cap (by omega) (fun j hj => by unfold World.cell?; rw [hg]; simp; omega) (fun j hj => by unfold World.frozen?; rw [hg]; simp)
    exact ⟨_, fun ty => hl, below_setCells hB l 0 w⟩
  obtain ⟨w1, hcl, hb1⟩ := hcl'
  have HB : Hid (Below B w w1) := hb1
  unfold maxLen at hm
  clear hg hz hb1 hs
  go_enter Tryd.func17, Tryd.ntmps17
  go_wp2
  go_end0
  exact ⟨rfl, HB.out⟩
end Go.Proofs.YtibcbdihphbfeacDoor
