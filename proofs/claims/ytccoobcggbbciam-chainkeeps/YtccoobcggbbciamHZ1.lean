import Derived.Test.YtccoobcggbbciamHZ4
import Derived.Shelf.SlGeneric
import Derived.Shelf.SlLaysF
import Derived.Shelf.SlSortCmp.Insertion1
import Derived.Ground.SlsfProg
import Derived.Sort.LotA
import Derived.Test.YtccoobcggbbciamHY2
import Derived.Test.YtccoobcggbbciamHK0
namespace Go.Proofs.Ytccoobcggbbciam
open Go.ChangeShapes Go.WideShapes Go.ChangeAt Go.RowKit Go.Sort Go.Shelf

def lay_insNu_ren : Go.Shelf.Ren := ⟨fun | 20 => 72 | n => n, fun | 24 => 3 | 22 => 24 | 3 => 3 | 25 => 51 | 4 => 4 | 0 => 0 | n => n, fun | n => n⟩
theorem lay_insNu : Go.Proofs.SlLaysF.n20 Try.prog lay_insNu_ren := {
  mixed := by kernel_rfl
  f20 := ⟨Try.f72.name, by decide, Try.func72.trans (congrArg some (by kernel_rfl))⟩
  t0 := Try.underlying0
  a0 := Try.isAgg0
  z0 := Try.sizeOf0
  v0 := Try.zeroValue0
  t3 := Try.underlying3
  a3 := Try.isAgg3
  z3 := Try.sizeOf3
  v3 := Try.zeroValue3
  t4 := Try.underlying4
  a4 := Try.isAgg4
  z4 := Try.sizeOf4
  v4 := Try.zeroValue4
  t22 := Try.underlying24
  a22 := Try.isAgg24
  z22 := Try.sizeOf24
  v22 := Try.zeroValue24
  a24 := Try.isAgg3
  z24 := Try.sizeOf3
  t25 := Try.underlying51
  a25 := Try.isAgg51
  z25 := Try.sizeOf51
  v25 := Try.zeroValue51 }


/-- All places. -/
def finL (N : Nat) : List (Fin N) := (List.range N).pmap (fun a h => ⟨a, h⟩) (fun a h => by simpa using h)

theorem finL_val (N : Nat) : (finL N).map (fun p => p.val) = List.range N := by
  unfold finL
  rw [List.map_pmap]
  simp

theorem finL_len (N : Nat) : (finL N).length = N := by simp [finL]

theorem putCells_all {α : Type} [Inhabited α] (enc : α → Value) (d : Array α) (c : Array Value) (h : c.size = d.size) : putCells enc 0 d c = d.map enc := by
  apply Array.ext
  · simp [putCells, h]
  · intro i h1 h2
    have hi : i < d.size := by simpa using h2
    simp [putCells, hi]

theorem sorted_heap {α : Type} [Inhabited α] (enc : α → Value) {w : World} {g n : Nat} {os : Array Obj} {cur : Array Value} {e : TypeId} {fr : Nat × Nat} (d : Array α) (hb : w.heap[g]? = some (.cells cur e fr)) (hs : cur.size = d.size) :
    (grow (putRow enc (Sort.ahead w n) g 0 d) os).heap[g]? = some (.cells (d.map enc) e fr) := by
  have hg : g < w.heap.size := (Array.getElem?_eq_some_iff.1 hb).1
  rw [heap_grow_old _ _ (by simpa using hg), ← putCells_all enc d cur hs]
  simp [putRow, mapBlock, Sort.ahead, Array.getElem?_modify, hb, onCells]

theorem sorted_keep {α : Type} [Inhabited α] (enc : α → Value) {w : World} {g n : Nat} {os : Array Obj} (d : Array α) : w.grownBy (grow (putRow enc (Sort.ahead w n) g 0 d) os) (some g) := by
  refine ⟨rfl, rfl, rfl, by simp, fun k hk hne => ?_⟩
  rw [heap_grow_old _ _ (by simpa using hk)]
  have : g ≠ k := fun e => hne (by rw [e])
  simp [putRow, mapBlock, Sort.ahead, Array.getElem?_modify, this]

theorem finL_get {n p : Nat} [Inhabited (Fin n)] (h : p < n) : ((finL n).toArray[p]!).val = p := by
  have hl : p < (finL n).length := by rw [finL_len]; exact h
  rw [getElem!_pos _ p (by simpa using hl)]
  have e := finL_val n
  have h2 : ((finL n).map (fun p => p.val))[p]? = some p := by rw [e]; simp [h]
  rw [List.getElem?_map, List.getElem?_eq_getElem hl] at h2
  simpa using h2

def encA (n : Nat) (p : Fin n) : Value := .int .i64 (p.val : Int)

theorem encA_map {n : Nat} (d : List (Fin n)) : d.map (encA n) = (d.map fun p => ((p.val : Nat) : Int)).map (Value.int .i64) := by
  unfold encA
  rw [List.map_map]
  rfl

theorem cmpI_neg (x y : Int) : decide (cmpI x y < 0) = decide (x < y) := by
  unfold cmpI
  by_cases h : x < y
  · simp [h]
  · by_cases h2 : y < x <;> simp [h, h2]

theorem swoA (l : List Co) : SWO (ltOf fun x y : Fin l.length => cmpI (Ck l x.val).a (Ck l y.val).a) where
  irrefl x := by unfold ltOf; rw [cmpI_neg]; simp
  trans x y z h1 h2 := by
    unfold ltOf at *
    rw [cmpI_neg] at *
    have := of_decide_eq_true h1
    have := of_decide_eq_true h2
    exact decide_eq_true (by omega)
  ntrans x y z h1 h2 := by
    unfold ltOf at *
    rw [cmpI_neg] at *
    have := of_decide_eq_false h1
    have := of_decide_eq_false h2
    exact decide_eq_false (by omega)

/-- What the insertion sort leaves. -/
def insO (l : List Co) [Inhabited (Fin l.length)] : List Nat := (insertionSort (ltOf fun x y : Fin l.length => cmpI (Ck l x.val).a (Ck l y.val).a) (finL l.length).toArray 0 l.length).toList.map fun p => p.val

set_option maxRecDepth 20000 in
set_option maxHeartbeats 2000000 in
theorem insC_any (W : World) (l : List Co) [Inhabited (Fin l.length)] (v : Value) (bS g : Nat) (h19 : l.length ≤ 19) (hv : RowSl Co.vals W l v) (h2 : W.cell? ⟨bS, 0, none⟩ = some v) (hn2 : bS ≠ g) (hrow : ∀ ad c, v = .slice ad l.length c → ∀ b o, ad = some ⟨b, o, none⟩ → b ≠ g) (hN : NumB W g ((List.range l.length).map fun k : Nat => (k : Int))) :
    Calls Try.prog 72 #[.slice (some ⟨g, 0, none⟩) l.length l.length, .int .i64 0, .int .i64 (l.length : Int), .func (.func 34) #[] #[.pointer (some ⟨bS, 0, none⟩)]] W fun r W' => r = .returned (.tuple #[]) ∧ NumB W' g ((insO l).map fun k : Nat => (k : Int)) ∧ W.grownBy W' (some g) := by
  have eg : ∀ args w, (callFunc 34 args).run Try.prog w = .ok (.enter 34 args) w := enters_of Try.func34 (by kernel_rfl) rfl
  have hsz : (finL l.length).toArray.size = l.length := by simp [finL_len]
  have hC' : W.heap[g]? = some (.cells ((finL l.length).toArray.map (encA l.length)) 3 (0, 0)) := by
    rw [hN, List.map_toArray, encA_map, show ((finL l.length).map fun p => ((p.val : Nat) : Int)) = ((finL l.length).map fun p => p.val).map (fun k : Nat => (k : Int)) from by rw [List.map_map]; rfl, finL_val]
  have hH : Holds (encA l.length) W g 0 (finL l.length).toArray := by
    intro j hj
    have hj' : j < l.length := by rw [hsz] at hj; exact hj
    obtain ⟨c1, c2⟩ := hN.cell (i := j) (x := (j : Int)) (by simp [hj'])
    refine ⟨?_, by rw [Nat.zero_add]; exact c2⟩
    rw [Nat.zero_add, c1]
    unfold encA
    rw [finL_get hj']
  have hcmp : CmpLays1 Try.prog 34 #[.pointer (some ⟨bS, 0, none⟩)] (encA l.length) (fun x y => cmpI (Ck l x.val).a (Ck l y.val).a) g 0 (finL l.length).toArray.size W := fun m os dk _ x y => by
    have hk := sorted_keep (encA l.length) (w := W) (g := g) (n := m) (os := os) dk
    have kc : ∀ (a : Addr) (u : Value), W.cell? a = some u → a.block ≠ g → (sortWorld (encA l.length) W g 0 m dk os).cell? a = some u := fun a u hu hne => hk.cell hu (fun e => hne (Option.some.inj e))
    have hv' : RowSl Co.vals (sortWorld (encA l.length) W g 0 m dk os) l v := by
      obtain ⟨ad, c, rfl, q1, q2, q3⟩ := hv
      refine ⟨ad, c, rfl, q1, q2, ?_⟩
      rcases q3 with q3 | ⟨b, o, e, q3⟩
      · exact .inl q3
      · exact .inr ⟨b, o, e, fun q u hq => kc _ _ (q3 q u hq) (hrow ad c rfl b o e)⟩
    refine (byAt_any _ l v bS x.val y.val x.isLt y.isLt hv' (kc _ _ h2 hn2)).mono ?_
    rintro r w' ⟨rfl, q, rfl⟩
    exact ⟨rfl, q, #[], by simp⟩
  have h := Any.insertionSortCmpFunc_s lay_insNu (encA l.length) (fun x y => cmpI (Ck l x.val).a (Ck l y.val).a) 34 #[.pointer (some ⟨bS, 0, none⟩)] g 0 l.length 0 l.length (finL l.length).toArray (finL l.length).toArray W W eg hcmp ⟨fun _ => rfl, hH, hN.lt⟩ rfl (SW.start hH) (Nat.zero_le _) (by omega) (by omega)
  rw [hsz] at h
  change Calls Try.prog 72 _ _ _ at h
  refine h.mono ?_
  rintro r W' ⟨rfl, n, os, rfl⟩
  have hds : (insertionSort (ltOf fun x y : Fin l.length => cmpI (Ck l x.val).a (Ck l y.val).a) (finL l.length).toArray 0 l.length).size = l.length := (insertionSort_holds (swoA l) (finL l.length).toArray 0 l.length (Nat.zero_le _) (by omega)).1.1.trans hsz
  refine ⟨rfl, ?_, sorted_keep _ _⟩
  have h9 := sorted_heap (n := n) (os := os) (encA l.length) (insertionSort (ltOf fun x y : Fin l.length => cmpI (Ck l x.val).a (Ck l y.val).a) (finL l.length).toArray 0 l.length) hC' (by rw [Array.size_map, hsz, hds])
  unfold NumB insO
  rw [show (sortWorld (encA l.length) W g 0 n _ os).heap[g]? = _ from h9, List.map_map]
  congr 2
  apply Array.toList_inj.1
  simp [encA]
end Go.Proofs.Ytccoobcggbbciam
namespace Go.Proofs.Ytccoobcggbbciam
open Go.ChangeShapes Go.WideShapes Go.ChangeAt Go.RowKit

/- Chapter 18: the parts of the law's own closed fact. -/
def ptsF : List Pa := [⟨0, -1, 0, 2, 20, 20, 2⟩, ⟨1, 0, 3, 4, 20, 20, 1⟩, ⟨1, -1, 0, 1, 10, 10, 2⟩, ⟨0, 2, 0, 1, 10, 10, 1⟩]
def csF : List Co := [⟨0, 0⟩, ⟨2, 4⟩]
set_option maxRecDepth 100000 in
theorem ends_closed : (playTo ptsF [] csF [0, 1] 30).2.ends = [[2, 9, -1, -1], [-1, -1, 5, 6]] := by kernel_rfl
theorem chk_closed : chkPl ptsF csF [] 30 = (0, 0) := by kernel_rfl
theorem chkP_closed : chkP ptsF = (0, 0) := by kernel_rfl
end Go.Proofs.Ytccoobcggbbciam
namespace Go.Proofs.Ytccoobcggbbciam
open Go.ChangeShapes Go.WideShapes Go.ChangeAt Go.RowKit Go.Sort

instance : Inhabited (Fin csF.length) := ⟨⟨0, by decide⟩⟩
theorem insO_closed : insO csF = [0, 1] := by
  unfold insO insertionSort
  kernel_rfl
end Go.Proofs.Ytccoobcggbbciam
namespace Go.Proofs.Ytccoobcggbbciam
open Go.ChangeShapes Go.WideShapes Go.ChangeAt Go.RowKit

theorem one_time {hd tl : List Fr} {m : Fr} {h busy w : Int} (hh : heldF tl = h) (hk : (kinds m busy).toNat = 1) (h1 : Fx (busyAsk h hd m) 1 (some busy)) (h2 : Fx (qAsk h hd m ((0 : Nat) : Int)) 0 (some w)) : Wst hd m tl (some (max 0 (m.j + w - ((0 : Nat) : Int) * m.t + m.c))) := by
  subst hh
  refine .some h1 ?_
  rw [hk]
  exact .next .zero h2
theorem msg0 : TmA [⟨3, 20, 20, 0⟩] [3] (0, 0) := by
  refine .inr ⟨by decide, .inl ⟨⟨by decide, fun i m v h1 h2 => ?_⟩, rfl, rfl⟩⟩
  rcases i with _ | i
  · simp at h1 h2
    subst h1 h2
    refine ⟨one_time (h := 0) (busy := 3) (w := 0) (by decide) (by decide) ⟨by decide, by decide, by decide, fun v a b e => ?_⟩ ⟨by decide, by decide, by decide, fun v a b e => ?_⟩, by decide⟩
    · simp [busyAsk, sumF, upF] at e; omega
    · simp [qAsk, sumF] at e; omega
  · simp at h1
theorem msg2 : TmA [⟨3, 20, 20, 2⟩] [5] (0, 0) := by
  refine .inr ⟨by decide, .inl ⟨⟨by decide, fun i m v h1 h2 => ?_⟩, rfl, rfl⟩⟩
  rcases i with _ | i
  · simp at h1 h2
    subst h1 h2
    refine ⟨one_time (h := 0) (busy := 3) (w := 0) (by decide) (by decide) ⟨by decide, by decide, by decide, fun v a b e => ?_⟩ ⟨by decide, by decide, by decide, fun v a b e => ?_⟩, by decide⟩
    · simp [busyAsk, sumF, upF] at e; omega
    · simp [qAsk, sumF] at e; omega
  · simp at h1

theorem lat_0 : LatR ptsF [0, 0, 0, 0] (some [0, 3, 0, 0]) := .inr ⟨by decide, [3], (0, 0), msg0, .inr ⟨rfl, rfl⟩⟩
theorem lat_1 : LatR ptsF [2, 8, 1, 3] (some [0, 5, 0, 1]) := .inr ⟨by decide, [5], (0, 0), msg2, .inr ⟨rfl, rfl⟩⟩
theorem lat_2 : LatR ptsF [2, 10, 1, 4] (some [0, 5, 0, 1]) := .inr ⟨by decide, [5], (0, 0), msg2, .inr ⟨rfl, rfl⟩⟩
set_option maxRecDepth 100000 in
theorem rsp_0 : respC ptsF [0, 3, 0, 0] 4 = some [2, 8, 1, 3] := by kernel_rfl
set_option maxRecDepth 100000 in
theorem rsp_1 : respC ptsF [0, 5, 0, 1] 4 = some [2, 10, 1, 4] := by kernel_rfl
theorem sett_closed : Sett ptsF [0, 0, 0, 0] (some [2, 10, 1, 4]) := by
  refine .go (nx := [2, 8, 1, 3]) ⟨_, lat_0, .inr ⟨_, rfl, rsp_0.symm⟩⟩ (by decide) ?_
  refine .go (nx := [2, 10, 1, 4]) ⟨_, lat_1, .inr ⟨_, rfl, rsp_1.symm⟩⟩ (by decide) ?_
  exact .fix ⟨_, lat_2, .inr ⟨_, rfl, rsp_1.symm⟩⟩
theorem resps_closed : RespsR ptsF [2, 10, 1, 4] (0, 0) := .inr ⟨by rw [chkP_closed], some [2, 10, 1, 4], sett_closed, .inr ⟨rfl, rfl, rfl⟩⟩
end Go.Proofs.Ytccoobcggbbciam
