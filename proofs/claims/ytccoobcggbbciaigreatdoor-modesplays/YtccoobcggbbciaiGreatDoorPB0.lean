import Derived.Test.YtccoobcggbbciaiGreatDoorProg
import Derived.Shelf.GgSortMore.Stable
import Derived.Ground.GgtProg
import Derived.Test.YtccoobcggbbciaiGreatDoorST6
import Derived.Test.YtccoobcggbbciaiGreatDoorTK
import Derived.Shelf.GgSortFunc.Small
namespace Go.Proofs
open Go.Shelf
def Tryz.sl8_ren : Go.Shelf.Ren := ⟨fun | 8 => 34 | 13 => 63 | 14 => 64 | 16 => 66 | 15 => 65 | 29 => 111 | 30 => 112 | 42 => 135 | 49 => 157 | n => n, fun | 20 => 20 | 26 => 27 | 36 => 110 | 0 => 0 | 38 => 104 | 42 => 115 | 3 => 3 | 4 => 4 | 47 => 148 | 17 => 17 | 33 => 107 | 34 => 108 | 89 => 203 | 12 => 12 | 56 => 169 | 82 => 196 | 5 => 5 | 83 => 197 | 84 => 198 | 85 => 199 | 86 => 200 | 87 => 201 | n => n, fun | n => n⟩
theorem Tryz.sl8 : Go.Proofs.LaysGt.n8 Tryz.prog Tryz.sl8_ren := {
  mixed := by kernel_rfl
  f8 := Tryz.func34.trans (congrArg some (by kernel_rfl))
  f13 := Tryz.func63.trans (congrArg some (by kernel_rfl))
  f14 := Tryz.func64.trans (congrArg some (by kernel_rfl))
  f15 := Tryz.func65.trans (congrArg some (by kernel_rfl))
  f16 := Tryz.func66.trans (congrArg some (by kernel_rfl))
  f29 := Tryz.func111.trans (congrArg some (by kernel_rfl))
  f30 := Tryz.func112.trans (congrArg some (by kernel_rfl))
  f42 := Tryz.func135.trans (congrArg some (by kernel_rfl))
  f49 := Tryz.func157.trans (congrArg some (by kernel_rfl))
  t0 := Tryz.underlying0
  a0 := Tryz.isAgg0
  z0 := Tryz.sizeOf0
  v0 := Tryz.zeroValue0
  i0 := by kernel_rfl
  t3 := Tryz.underlying3
  a3 := Tryz.isAgg3
  z3 := Tryz.sizeOf3
  v3 := Tryz.zeroValue3
  i3 := by kernel_rfl
  t4 := Tryz.underlying4
  a4 := Tryz.isAgg4
  z4 := Tryz.sizeOf4
  v4 := Tryz.zeroValue4
  i4 := by kernel_rfl
  t5 := Tryz.underlying5
  a5 := Tryz.isAgg5
  z5 := Tryz.sizeOf5
  v5 := Tryz.zeroValue5
  i5 := by kernel_rfl
  t12 := Tryz.underlying12
  a12 := Tryz.isAgg12
  z12 := Tryz.sizeOf12
  v12 := Tryz.zeroValue12
  i12 := by kernel_rfl
  t17 := Tryz.underlying17
  a17 := Tryz.isAgg17
  z17 := Tryz.sizeOf17
  v17 := Tryz.zeroValue17
  i17 := by kernel_rfl
  t20 := Tryz.underlying20
  a20 := Tryz.isAgg20
  z20 := Tryz.sizeOf20
  v20 := Tryz.zeroValue20
  i20 := by kernel_rfl
  t26 := Tryz.underlying27
  a26 := Tryz.isAgg27
  z26 := Tryz.sizeOf27
  v26 := Tryz.zeroValue27
  i26 := by kernel_rfl
  t33 := Tryz.underlying107
  a33 := Tryz.isAgg107
  z33 := Tryz.sizeOf107
  v33 := Tryz.zeroValue107
  i33 := by kernel_rfl
  t34 := Tryz.underlying108
  a34 := Tryz.isAgg108
  z34 := Tryz.sizeOf108
  v34 := Tryz.zeroValue108
  i34 := by kernel_rfl
  t36 := Tryz.underlying110
  a36 := Tryz.isAgg110
  z36 := Tryz.sizeOf110
  v36 := Tryz.zeroValue110
  i36 := by kernel_rfl
  t38 := Tryz.underlying104
  a38 := Tryz.isAgg104
  z38 := Tryz.sizeOf104
  v38 := Tryz.zeroValue104
  i38 := by kernel_rfl
  t42 := Tryz.underlying115
  a42 := Tryz.isAgg115
  z42 := Tryz.sizeOf115
  v42 := Tryz.zeroValue115
  i42 := by kernel_rfl
  t47 := Tryz.underlying148
  a47 := Tryz.isAgg148
  z47 := Tryz.sizeOf148
  v47 := Tryz.zeroValue148
  i47 := by kernel_rfl
  t56 := Tryz.underlying169
  a56 := Tryz.isAgg169
  z56 := Tryz.sizeOf169
  v56 := Tryz.zeroValue169
  i56 := by kernel_rfl
  t82 := Tryz.underlying196
  a82 := Tryz.isAgg196
  z82 := Tryz.sizeOf196
  v82 := Tryz.zeroValue196
  i82 := by kernel_rfl
  t83 := Tryz.underlying197
  a83 := Tryz.isAgg197
  z83 := Tryz.sizeOf197
  v83 := Tryz.zeroValue197
  i83 := by kernel_rfl
  t84 := Tryz.underlying198
  a84 := Tryz.isAgg198
  z84 := Tryz.sizeOf198
  v84 := Tryz.zeroValue198
  i84 := by kernel_rfl
  t85 := Tryz.underlying199
  a85 := Tryz.isAgg199
  z85 := Tryz.sizeOf199
  v85 := Tryz.zeroValue199
  i85 := by kernel_rfl
  t86 := Tryz.underlying200
  a86 := Tryz.isAgg200
  z86 := Tryz.sizeOf200
  v86 := Tryz.zeroValue200
  i86 := by kernel_rfl
  t87 := Tryz.underlying201
  a87 := Tryz.isAgg201
  z87 := Tryz.sizeOf201
  v87 := Tryz.zeroValue201
  i87 := by kernel_rfl
  t89 := Tryz.underlying203
  a89 := Tryz.isAgg203
  z89 := Tryz.sizeOf203
  v89 := Tryz.zeroValue203
  i89 := by kernel_rfl }
end Go.Proofs
namespace Go.Proofs.YtccoobcggbbciaiGreatDoor.Stab
open Go.ChangeShapes Go.WideShapes Go.ChangeAt Go.RowKit Go.Shelf Go.Lib
open Go.Sort (swp swp_get swp_size SWO SWO.asymmA PermIn permIn_refl permIn_trans permIn_mono permIn_all swp_permIn grow)

/-- Numbers in a row that sort turns: what lies in w beside it stays. -/
structure HS2 (w : World) (gT n : Nat) (enc : Nat → Value) (ex : List Value) (W : World) (d : Array Nat) : Prop where
  gr : w.grownBy W (some gT)
  row : W.heap[gT]? = some (.cells (d.toList.map enc ++ ex).toArray 3 (0, 0))
  sz : d.size = n
theorem HS2.lt {w : World} {gT n : Nat} {enc : Nat → Value} {ex : List Value} {W : World} {d : Array Nat} (h : HS2 w gT n enc ex W d) : gT < W.heap.size := (Array.getElem?_eq_some_iff.1 h.row).1
theorem HS2.alloc {w : World} {gT n : Nat} {enc : Nat → Value} {ex : List Value} {W : World} {d : Array Nat} (h : HS2 w gT n enc ex W d) (o : Obj) : HS2 w gT n enc ex (W.alloc o) d :=
  ⟨h.gr.trans (World.grownBy_alloc _ _ _), by rw [Below.heap_alloc _ _ _ (by have := h.lt; omega)]; exact h.row, h.sz⟩
theorem HS2.below {w : World} {gT n : Nat} {enc : Nat → Value} {ex : List Value} {W W' : World} {d : Array Nat} (h : HS2 w gT n enc ex W d) (hb : Below W.heap.size W W') : HS2 w gT n enc ex W' d ∧ W.grownBy W' (some gT) := by
  have hg : W.grownBy W' (some gT) := ⟨hb.os, hb.tape, hb.output, hb.size, fun k hk _ => hb.block k hk⟩
  exact ⟨⟨h.gr.trans hg, (hb.block _ h.lt).trans h.row, h.sz⟩, hg⟩
theorem HS2.cell {w : World} {gT n : Nat} {enc : Nat → Value} {ex : List Value} {W : World} {d : Array Nat} (h : HS2 w gT n enc ex W d) {i : Nat} (hi : i < n) : W.cell? ⟨gT, i, none⟩ = some (enc d[i]!) ∧ W.frozen? ⟨gT, i, none⟩ = false := by
  obtain ⟨c, f, -⟩ := cells_of h.row
  have hi' : i < d.size := by rw [h.sz]; exact hi
  refine ⟨c i _ ?_, f i⟩
  rw [List.getElem?_append_left (by simpa using hi'), List.getElem?_map, Array.getElem?_toList, Array.getElem?_eq_getElem hi', getElem!_pos d i hi']
  rfl
theorem swp_list (enc : Nat → Value) (ex : List Value) (d : Array Nat) {i j : Nat} (hi : i < d.size) (hj : j < d.size) : ((d.toList.map enc ++ ex).set i (enc d[j]!)).set j (enc d[i]!) = (swp d i j).toList.map enc ++ ex := by
  rw [List.set_append_left _ _ (by simpa using hi), List.set_append_left _ _ (by simpa using hj)]
  congr 1
  unfold swp
  rw [Array.toList_setIfInBounds, Array.toList_setIfInBounds, List.map_set, List.map_set]
theorem setCell_lst {w : World} {g i : Nat} {l : List Value} {t : TypeId} {u : Value} (h : w.heap[g]? = some (.cells l.toArray t (0, 0))) : (w.setCell ⟨g, i, none⟩ u).heap[g]? = some (.cells (l.set i u).toArray t (0, 0)) := by
  rw [setCell_at h]
  simp
theorem grownBy_setC (W : World) (g i : Nat) (v : Value) : W.grownBy (W.setCell ⟨g, i, none⟩ v) (some g) :=
  ⟨rfl, rfl, rfl, by simp, fun k _ hne => Below.heap_setCell _ _ _ _ (fun e => hne (by rw [e]))⟩

noncomputable def siT : TypeInfo := (Tryz.prog.info? 24).get (by kernel_rfl)
noncomputable def siE : TypeInfo := (Tryz.prog.info? 3).get (by kernel_rfl)
theorem siK (n : Nat) (h2 : 2 ≤ n) : Lib.swapperK n siE 2 = 5 := by
  have a : siE.hasPointers = false := by kernel_rfl
  have b : siE.bytes = 8 := by kernel_rfl
  have c : (n == 0) = false := by simp; omega
  have d : (n == 1) = false := by simp; omega
  simp [Lib.swapperK, a, b, c, d]

theorem lsw_of {w : World} {gT n cT : Nat} {enc : Nat → Value} {ex : List Value} {lt : Nat → Nat → Bool} {g : Nat} {lb : Array Value} (eg : ∀ args W, (callFunc g args).run Tryz.prog W = .ok (.enter g args) W) (h1 : ∀ x, (enc x).oneCell' = true)
    (hless : ∀ W d, HS2 w gT n enc ex W d → ∀ i j : Nat, i < n → j < n → Calls Tryz.prog g (#[.int .i64 (i : Int), .int .i64 (j : Int)] ++ lb) W fun r w' => r = .returned (.bool (lt d[i]! d[j]!)) ∧ Below W.heap.size W w') :
    LSw (HS2 w gT n enc ex) lt n gT g lb 106 #[.slice (some ⟨gT, 0, none⟩) n cT, typeHandle Tryz.prog 3] where
  eg := eg
  less W d h i j hi hj := (hless W d h i j hi hj).mono (by
    rintro r w' ⟨rfl, hb⟩
    obtain ⟨h2, h3⟩ := h.below hb
    exact ⟨rfl, h2, h3⟩)
  swap W d h i j hi hj := by
    have hH : Go.Sort.Holds enc W gT 0 d := fun k hk => by
      rw [Nat.zero_add]
      exact h.cell (by rw [← h.sz]; exact hk)
    have hsw := swapSwaps_of_literal (P := Tryz.prog) true 106 (fun args W => run_callFunc_extern Tryz.func106 (by kernel_rfl) (by kernel_rfl) (by kernel_rfl) (e := Extern.ReflectliteSwapper.swap true) (by kernel_rfl) args W) 3 siE (by kernel_rfl) (by kernel_rfl) (fun _ => by kernel_rfl) enc h1 gT 0 n cT W d hH h.sz i j hi hj
    refine ⟨_, hsw, ?_, ?_⟩
    · rw [Nat.zero_add, Nat.zero_add]
      refine ⟨h.gr.trans ((grownBy_setC _ _ _ _).trans (grownBy_setC _ _ _ _)), ?_, by rw [swp_size, h.sz]⟩
      rw [setCell_lst (setCell_lst h.row), swp_list enc ex d (by rw [h.sz]; exact hi) (by rw [h.sz]; exact hj)]
    · rw [Nat.zero_add, Nat.zero_add]
      exact (grownBy_setC _ _ _ _).trans (grownBy_setC _ _ _ _)
  alloc W d o h := h.alloc o
  size W d h := h.sz
  low W d h := h.lt

theorem grownBy_grow (W : World) (os : Array Obj) (row : Option Nat) : W.grownBy (grow W os) row := ⟨rfl, rfl, rfl, by simp [grow], fun k hk _ => by unfold grow; simp [Array.getElem?_append, hk]⟩

set_option maxRecDepth 20000 in
set_option maxHeartbeats 2000000 in
/-- sort.SliceStable of numbers, however many. -/
theorem slStable_any {w : World} {gT n cT : Nat} {enc : Nat → Value} {ex : List Value} {lt : Nat → Nat → Bool} (hS : SWO lt) {g : Nat} {lb : Array Value} (eg : ∀ args W, (callFunc g args).run Tryz.prog W = .ok (.enter g args) W) (h1 : ∀ x, (enc x).oneCell' = true)
    (hless : ∀ W d, HS2 w gT n enc ex W d → ∀ i j : Nat, i < n → j < n → Calls Tryz.prog g (#[.int .i64 (i : Int), .int .i64 (j : Int)] ++ lb) W fun r w' => r = .returned (.bool (lt d[i]! d[j]!)) ∧ Below W.heap.size W w')
    (hrow : w.heap[gT]? = some (.cells ((List.range n).map enc ++ ex).toArray 3 (0, 0))) (hn : 1 ≤ n) (hs : n ≤ 4000000) :
    Calls Tryz.prog 34 #[.iface 24 (.slice (some ⟨gT, 0, none⟩) n cT), .func (.func g) #[] lb] w fun r w' => r = .returned (.tuple #[]) ∧ ∃ d', HS2 w gT n enc ex w' d' ∧ Asc lt id 0 n d' ∧ PermIn 0 n (Array.range n) d' := by
  have h0 : HS2 w gT n enc ex w (Array.range n) := ⟨World.grownBy.refl _ _, by rw [hrow]; simp, by simp⟩
  by_cases h2 : 2 ≤ n
  · have hL := lsw_of (cT := cT) eg h1 hless
    have h3 : HS2 w gT n enc ex (stableWorld Tryz.prog Tryz.sl8_ren 24 (some ⟨gT, 0, none⟩) n cT w) (Array.range n) := by
      unfold stableWorld
      exact (h0.alloc _).alloc _
    have hp := stableF_full n hS hL h3 hs (fun p hp => by rw [getElem!_pos _ p (by simpa using hp), Array.getElem_range])
    have hB : sliceBound Tryz.prog 3 siE 2 (some ⟨gT, 0, none⟩) n cT = #[.slice (some ⟨gT, 0, none⟩) n cT, typeHandle Tryz.prog 3] := by
      unfold sliceBound; rw [if_neg (swapperK_gt _ _ _ h2)]
    have h9 := Any.sort_SliceStable_of_stable (P := Tryz.prog) Tryz.sl8 24 3 siT siE (by kernel_rfl) (by kernel_rfl) (by kernel_rfl) (by kernel_rfl) 2 (fun _ => by kernel_rfl) (some ⟨gT, 0, none⟩) n cT (by omega) 106 (by rw [siK _ h2]; kernel_rfl) (.func g) #[] lb w
      (fun w' => ∃ d', HS2 w gT n enc ex w' d' ∧ Asc lt id 0 n d' ∧ PermIn 0 n (Array.range n) d') (by
        rw [hB]
        refine (show Calls Tryz.prog (Tryz.sl8_ren.f 15) _ _ _ from hp).mono ?_
        rintro e w' ⟨rfl, d', q1, -, q2, q3⟩
        exact ⟨rfl, d', q1, q2, q3⟩)
    exact h9
  · have hn1 : n = 1 := by omega
    subst hn1
    have h9 := Any.sort_SliceStable_tiny (P := Tryz.prog) Tryz.sl8 24 3 siT siE (by kernel_rfl) (by kernel_rfl) (by kernel_rfl) (by kernel_rfl) 2 (fun _ => by kernel_rfl) (some ⟨gT, 0, none⟩) 1 cT (by omega) 103 (by kernel_rfl) (.func g) #[] lb w
    refine (show Calls Tryz.prog 34 _ _ _ from h9).mono ?_
    rintro e w' ⟨rfl, os, rfl⟩
    refine ⟨rfl, Array.range 1, ⟨grownBy_grow _ _ _, ?_, by simp⟩, fun p q h3 h4 h5 => by omega, permIn_refl _ _ _⟩
    have hlt := h0.lt
    unfold grow
    simp only [Array.getElem?_append, hlt, if_true]
    exact h0.row
end Go.Proofs.YtccoobcggbbciaiGreatDoor.Stab
