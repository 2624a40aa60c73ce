import Derived.Test.YtccoobcggbbciaiGreatDoorSPI
import Derived.Shelf.SlSortCmp.WholeK
import Derived.Shelf.SlLaysF
import Derived.Ground.SlsfProg
import Derived.Test.YtccoobcggbbciaiGreatDoorSRF
import Derived.Shelf.SlSortCmp.Whole1
import Derived.Shelf.SlSortCmp.NoneTotal
import Derived.Test.YtccoobcggbbciaiGreatDoorSPV
namespace Go.Proofs.YtccoobcggbbciaiGreatDoor.S8
open Go.Shelf
def lay_sortInt_ren : Go.Shelf.Ren := ⟨fun | 6 => 85 | 15 => 127 | 14 => 126 | 28 => 148 | 29 => 149 | 20 => 140 | 21 => 141 | 22 => 142 | 23 => 143 | 24 => 144 | 25 => 145 | 26 => 146 | 27 => 147 | 46 => 162 | 47 => 163 | 48 => 164 | 49 => 165 | 50 => 166 | 57 => 169 | n => n, fun | 22 => 24 | 24 => 3 | 25 => 91 | 3 => 3 | 39 => 148 | 0 => 0 | 53 => 169 | 55 => 171 | 4 => 4 | 46 => 163 | 45 => 162 | 50 => 133 | 5 => 5 | 9 => 9 | 66 => 180 | 70 => 184 | 76 => 187 | 77 => 188 | n => n, fun | n => n⟩
theorem lay_sortInt : Go.Proofs.SlLaysF.n6 Tryz.prog lay_sortInt_ren := {
  mixed := by kernel_rfl
  f6 := ⟨Tryz.f85.name, by decide, Tryz.func85.trans (congrArg some (by kernel_rfl))⟩
  f14 := ⟨Tryz.f126.name, by decide, Tryz.func126.trans (congrArg some (by kernel_rfl))⟩
  f15 := Tryz.func127.trans (congrArg some (by kernel_rfl))
  f20 := ⟨Tryz.f140.name, by decide, Tryz.func140.trans (congrArg some (by kernel_rfl))⟩
  f21 := ⟨Tryz.f141.name, by decide, Tryz.func141.trans (congrArg some (by kernel_rfl))⟩
  f22 := ⟨Tryz.f142.name, by decide, Tryz.func142.trans (congrArg some (by kernel_rfl))⟩
  f23 := ⟨Tryz.f143.name, by decide, Tryz.func143.trans (congrArg some (by kernel_rfl))⟩
  f24 := ⟨Tryz.f144.name, by decide, Tryz.func144.trans (congrArg some (by kernel_rfl))⟩
  f25 := ⟨Tryz.f145.name, by decide, Tryz.func145.trans (congrArg some (by kernel_rfl))⟩
  f26 := ⟨Tryz.f146.name, by decide, Tryz.func146.trans (congrArg some (by kernel_rfl))⟩
  f27 := ⟨Tryz.f147.name, by decide, Tryz.func147.trans (congrArg some (by kernel_rfl))⟩
  f28 := Tryz.func148.trans (congrArg some (by kernel_rfl))
  f29 := Tryz.func149.trans (congrArg some (by kernel_rfl))
  f46 := ⟨Tryz.f162.name, by decide, Tryz.func162.trans (congrArg some (by kernel_rfl))⟩
  f47 := Tryz.func163.trans (congrArg some (by kernel_rfl))
  f48 := Tryz.func164.trans (congrArg some (by kernel_rfl))
  f49 := ⟨Tryz.f165.name, by decide, Tryz.func165.trans (congrArg some (by kernel_rfl))⟩
  f50 := ⟨Tryz.f166.name, by decide, Tryz.func166.trans (congrArg some (by kernel_rfl))⟩
  f57 := ⟨Tryz.f169.name, by decide, Tryz.func169.trans (congrArg some (by kernel_rfl))⟩
  t0 := Tryz.underlying0
  a0 := Tryz.isAgg0
  z0 := Tryz.sizeOf0
  v0 := Tryz.zeroValue0
  t3 := Tryz.underlying3
  a3 := Tryz.isAgg3
  z3 := Tryz.sizeOf3
  v3 := Tryz.zeroValue3
  t4 := Tryz.underlying4
  a4 := Tryz.isAgg4
  z4 := Tryz.sizeOf4
  v4 := Tryz.zeroValue4
  t5 := Tryz.underlying5
  a5 := Tryz.isAgg5
  z5 := Tryz.sizeOf5
  v5 := Tryz.zeroValue5
  t9 := Tryz.underlying9
  a9 := Tryz.isAgg9
  z9 := Tryz.sizeOf9
  v9 := Tryz.zeroValue9
  t22 := Tryz.underlying24
  a22 := Tryz.isAgg24
  z22 := Tryz.sizeOf24
  v22 := Tryz.zeroValue24
  a24 := Tryz.isAgg3
  z24 := Tryz.sizeOf3
  t25 := Tryz.underlying91
  a25 := Tryz.isAgg91
  z25 := Tryz.sizeOf91
  v25 := Tryz.zeroValue91
  t39 := Tryz.underlying148
  a39 := Tryz.isAgg148
  z39 := Tryz.sizeOf148
  v39 := Tryz.zeroValue148
  t45 := Tryz.underlying162
  a45 := Tryz.isAgg162
  z45 := Tryz.sizeOf162
  v45 := Tryz.zeroValue162
  t46 := Tryz.underlying163
  a46 := Tryz.isAgg163
  z46 := Tryz.sizeOf163
  v46 := Tryz.zeroValue163
  t50 := Tryz.underlying133
  a50 := Tryz.isAgg133
  z50 := Tryz.sizeOf133
  v50 := Tryz.zeroValue133
  t53 := Tryz.underlying169
  a53 := Tryz.isAgg169
  z53 := Tryz.sizeOf169
  v53 := Tryz.zeroValue169
  t55 := Tryz.underlying171
  a55 := Tryz.isAgg171
  z55 := Tryz.sizeOf171
  v55 := Tryz.zeroValue171
  t66 := Tryz.underlying180
  a66 := Tryz.isAgg180
  z66 := Tryz.sizeOf180
  v66 := Tryz.zeroValue180
  t70 := Tryz.underlying184
  a70 := Tryz.isAgg184
  z70 := Tryz.sizeOf184
  v70 := Tryz.zeroValue184
  t76 := Tryz.underlying187
  a76 := Tryz.isAgg187
  z76 := Tryz.sizeOf187
  v76 := Tryz.zeroValue187
  t77 := Tryz.underlying188
  a77 := Tryz.isAgg188
  z77 := Tryz.sizeOf188
  v77 := Tryz.zeroValue188 }
end Go.Proofs.YtccoobcggbbciaiGreatDoor.S8
namespace Go.Proofs.YtccoobcggbbciaiGreatDoor.S8
open Go.ChangeShapes Go.WideShapes Go.ChangeAt Go.RowKit Go.Sort

theorem lt_of_heapP {W : World} {g : Nat} {o : Obj} (h : W.heap[g]? = some o) : g < W.heap.size := (Array.getElem?_eq_some_iff.1 h).1

theorem permIn_all {α : Type} [Inhabited α] {d d' : Array α} (h : PermIn 0 d.size d d') : d'.toList.Perm d.toList ∧ d'.size = d.size := by
  obtain ⟨h1, -, h2⟩ := h
  rw [Array.extract_size, ← h1, Array.extract_size] at h2
  exact ⟨h2, h1⟩

/-- All places. -/
def finL (N : Nat) : List (Fin N) := (List.range N).pmap (fun a h => ⟨a, h⟩) (fun a h => by simpa using h)

theorem finL_val (N : Nat) : (finL N).map (fun p => p.val) = List.range N := by
  unfold finL
  rw [List.map_pmap]
  simp

theorem finL_len (N : Nat) : (finL N).length = N := by simp [finL]

def encF (N : Nat) (p : Fin N) : Value := .int .i64 (p.val : Int)

theorem encF_map {N : Nat} (d : List (Fin N)) : d.map (encF N) = (zI (d.map (fun p => p.val))).map (Value.int .i64) := by
  unfold zI encF
  rw [List.map_map, List.map_map]
  rfl

/-- Sorted, by a comparison. -/
structure Srt {N : Nat} (cf : Nat → Nat → Int) (d : List (Fin N)) : Prop where
  perm : d.Perm (finL N)
  srt : ∀ (i j : Nat) (x y : Fin N), i < j → d[i]? = some x → d[j]? = some y → ¬ cf y.val x.val < 0

theorem sortN_any (W : World) (N C c : Nat) (fs : Array Value) (cf : Nat → Nat → Int) (hN : N ≤ 4000) (hswo : SWO (ltOf (fun x y : Fin N => cf x.val y.val))) (eg : ∀ args w, (callFunc c args).run Tryz.prog w = .ok (.enter c args) w) (hC : W.heap[C]? = some (.cells ((zI (List.range N)).map (Value.int .i64)).toArray 3 (0, 0))) (hcl : ∀ W', W.grownBy W' (some C) → ∀ x y : Fin N, Calls Tryz.prog c (#[encF N x, encF N y] ++ fs) W' fun r w' => r = .returned (.int .i64 (cf x.val y.val)) ∧ Grown W' w') :
    Calls Tryz.prog 85 #[.slice (some ⟨C, 0, none⟩) N N, .func (.func c) #[] fs] W fun r W' => r = .returned (.tuple #[]) ∧ ∃ d : List (Fin N), Srt cf d ∧ W'.heap[C]? = some (.cells ((zI (d.map (fun p => p.val))).map (Value.int .i64)).toArray 3 (0, 0)) ∧ W.grownBy W' (some C) := by
  by_cases h0 : N = 0
  · subst h0
    have h := AnyF.slices_SortFunc_none { lay_sortInt with } (some ⟨C, 0, none⟩) 0 (.func (.func c) #[] fs) W
    change Calls Tryz.prog 85 _ _ _ at h
    refine h.mono ?_
    rintro r W' ⟨rfl, rfl⟩
    exact ⟨rfl, [], ⟨List.Perm.refl _, fun i j x y _ h => by simp at h⟩, hC, ⟨rfl, rfl, rfl, Nat.le_refl _, fun _ _ _ => rfl⟩⟩
  · haveI : Inhabited (Fin N) := ⟨⟨0, by omega⟩⟩
    have hdl : (finL N).toArray.size = N := by rw [List.size_toArray, finL_len]
    have hC' : W.heap[C]? = some (.cells ((finL N).toArray.map (encF N)) 3 (0, 0)) := by
      rw [hC, List.map_toArray, encF_map, finL_val]
    have hcmp : CmpLays1 Tryz.prog c fs (encF N) (fun x y => cf x.val y.val) C 0 (finL N).toArray.size W := fun m os dk _ x y => by
      refine (hcl _ (sorted_keep (encF N) (w := W) (g := C) (n := m) (os := os) dk) x y).mono ?_
      rintro r w' ⟨rfl, q, os', rfl⟩
      exact ⟨rfl, q, os', rfl⟩
    have h := Any.slices_SortFunc lay_sortInt (encF N) (fun _ => rfl) (fun x y => cf x.val y.val) hswo c fs C 0 N (finL N).toArray W eg hcmp (holds_of (encF N) _ hC') (lt_of_heapP hC) (by rw [hdl]; omega)
    rw [hdl] at h
    change Calls Tryz.prog 85 _ _ _ at h
    refine h.mono ?_
    rintro r W' ⟨rfl, d', n, os, hperm, hs, rfl⟩
    obtain ⟨hp1, hp2⟩ := permIn_all (by rw [hdl]; exact hperm)
    rw [hdl] at hp2
    refine ⟨rfl, d'.toList, ⟨by simpa using hp1, fun i j x y hij hi hj => ?_⟩, ?_, sorted_keep (encF N) d'⟩
    · obtain ⟨hi1, hi2⟩ := List.getElem?_eq_some_iff.1 hi
      obtain ⟨hj1, hj2⟩ := List.getElem?_eq_some_iff.1 hj
      have hi1' : i < d'.size := by simpa using hi1
      have hj1' : j < d'.size := by simpa using hj1
      have := hs i j (Nat.zero_le _) hij (by omega)
      rw [getElem!_pos d' i hi1', getElem!_pos d' j hj1'] at this
      have e1 : d'[i] = x := by simpa using hi2
      have e2 : d'[j] = y := by simpa using hj2
      rw [e1, e2] at this
      unfold ltOf at this
      simpa using this
    · have h9 := sorted_heap (n := n) (os := os) (encF N) d' hC' (by rw [Array.size_map, hdl, hp2])
      rw [show (sortWorld (encF N) W C 0 n d' os).heap[C]? = _ from h9, ← encF_map]
      congr 2
      apply Array.toList_inj.1
      simp

/- What is compared. -/
def cfS (l : List Jb) (x y : Nat) : Int := or2 (cmpI (J l x).a (J l y).a) (cmpI (x : Int) (y : Int))

def cfR (pol : Int) (l : List Jb) (x y : Nat) : Int := or2 (if pol = 2 then cmpI (J l x).d (J l y).d else cmpI (J l y).p (J l x).p) (cfS l x y)

theorem cmpI_neg (a b : Int) : cmpI a b < 0 ↔ a < b := by unfold cmpI; split <;> (try split) <;> omega

theorem cmpI_nil (a b : Int) : cmpI a b = 0 ↔ a = b := by unfold cmpI; split <;> (try split) <;> omega

theorem or2_neg (a b : Int) : or2 a b < 0 ↔ (a < 0 ∨ (a = 0 ∧ b < 0)) := by unfold or2; split <;> omega

theorem or2_nil (a b : Int) : or2 a b = 0 ↔ (a = 0 ∧ b = 0) := by unfold or2; split <;> omega

theorem cfS_neg (l : List Jb) (x y : Nat) : cfS l x y < 0 ↔ ((J l x).a < (J l y).a ∨ ((J l x).a = (J l y).a ∧ x < y)) := by
  unfold cfS
  rw [or2_neg, cmpI_neg, cmpI_nil, cmpI_neg]
  omega

theorem cfR_neg {pol : Int} (hp : pol = 1 ∨ pol = 2) (l : List Jb) (x y : Nat) : cfR pol l x y < 0 ↔ lexJ pol l x y := by
  unfold cfR lexJ lex key
  rw [or2_neg, cfS_neg]
  rcases hp with rfl | rfl
  · rw [if_neg (by decide), cmpI_neg, cmpI_nil]
    simp only [if_pos]
    omega
  · rw [if_pos rfl, cmpI_neg, cmpI_nil]
    simp only [show ¬ ((2 : Int) = 1) by decide, if_false]
    omega

theorem cfS_swo (l : List Jb) (N : Nat) : SWO (ltOf (fun x y : Fin N => cfS l x.val y.val)) := by
  have h : ∀ x y : Fin N, ltOf (fun x y : Fin N => cfS l x.val y.val) x y = decide ((J l x.val).a < (J l y.val).a ∨ ((J l x.val).a = (J l y.val).a ∧ x.val < y.val)) := fun x y => by
    unfold ltOf; exact decide_eq_decide.2 (cfS_neg l x.val y.val)
  refine ⟨fun x => by rw [h]; simp, fun x y z h1 h2 => ?_, fun x y z h1 h2 => ?_⟩
  · rw [h, decide_eq_true_iff] at *; omega
  · rw [h, decide_eq_false_iff_not] at *; omega

theorem cfR_swo {pol : Int} (hp : pol = 1 ∨ pol = 2) (l : List Jb) (N : Nat) : SWO (ltOf (fun x y : Fin N => cfR pol l x.val y.val)) := by
  have h : ∀ x y : Fin N, ltOf (fun x y : Fin N => cfR pol l x.val y.val) x y = true ↔ lexJ pol l x.val y.val := fun x y => by
    unfold ltOf; rw [decide_eq_true_iff]; exact cfR_neg hp l x.val y.val
  have hf : ∀ x y : Fin N, ltOf (fun x y : Fin N => cfR pol l x.val y.val) x y = false ↔ ¬ lexJ pol l x.val y.val := fun x y => by rw [← h]; simp
  refine ⟨fun x => (hf x x).2 lexJ_irr, fun x y z h1 h2 => (h x z).2 (lexJ_trans ((h x y).1 h1) ((h y z).1 h2)), fun x y z h1 h2 => (hf x z).2 ?_⟩
  have a := (hf x y).1 h1
  have b := (hf y z).1 h2
  unfold lexJ lex at *
  omega

theorem Srt.range {N : Nat} {cf : Nat → Nat → Int} {d : List (Fin N)} (h : Srt cf d) : (d.map (fun p => p.val)).Perm (List.range N) := by
  have := h.perm.map (fun p : Fin N => p.val)
  rwa [finL_val] at this

theorem ranked_srt {l : List Jb} {pol : Int} (hp : pol = 1 ∨ pol = 2) {d : List (Fin l.length)} (h : Srt (cfR pol l) d) : Ranked l pol (d.map (fun p => p.val)) := by
  have hnd : (d.map (fun p => p.val)).Nodup := h.range.nodup_iff.2 List.nodup_range
  refine ⟨h.range, fun p q hpq hq => ?_⟩
  have hq' : q < d.length := by simpa using hq
  have hp' : p < d.length := by omega
  have e1 : RK (d.map (fun p => p.val)) p = d[p].val := by
    unfold RK; rw [List.getD_eq_getElem?_getD, List.getElem?_map, List.getElem?_eq_getElem hp']; rfl
  have e2 : RK (d.map (fun p => p.val)) q = d[q].val := by
    unfold RK; rw [List.getD_eq_getElem?_getD, List.getElem?_map, List.getElem?_eq_getElem hq']; rfl
  have hs := h.srt p q _ _ hpq (List.getElem?_eq_getElem hp') (List.getElem?_eq_getElem hq')
  rw [cfR_neg hp] at hs
  have hne : d[q].val ≠ d[p].val := by
    have := List.pairwise_iff_getElem.1 hnd p q (by simpa using hp') (by simpa using hq') hpq
    simpa using Ne.symm this
  rw [e1, e2]
  exact lexJ_total hne hs

theorem Ranked.back {l : List Jb} {pol : Int} {rk : List Nat} (h : Ranked l pol rk) {j : Nat} (hj : j < l.length) : RK rk (rk.idxOf j) = j := by
  obtain ⟨p, hp, rfl⟩ := h.sur hj
  rw [h.idx hp]

/-- Those that come, by their ranks. -/
theorem coming_srt {l : List Jb} {pol : Int} {rk : List Nat} (hr : Ranked l pol rk) {d : List (Fin l.length)} (h : Srt (cfS l) d) : ∃ cm, Coming l rk cm ∧ d.map (fun p => p.val) = cm.map (RK rk) := by
  have hrk : rk.map (fun j => rk.idxOf j) = List.range l.length := by
    apply List.ext_getElem?
    intro p
    by_cases hp : p < l.length
    · rw [List.getElem?_map, RK_get (by rw [hr.len]; exact hp)]
      simp [hr.idx hp, hp]
    · rw [List.getElem?_eq_none (by simp [hr.len]; omega), List.getElem?_eq_none (by simp; omega)]
  refine ⟨(d.map (fun p => p.val)).map (fun j => rk.idxOf j), ⟨?_, ?_⟩, ?_⟩
  · rw [← hrk]
    exact (h.range.trans hr.perm.symm).map _
  · rw [List.map_map, List.pairwise_map, List.pairwise_iff_getElem]
    intro i j hi hj hij
    have hs := h.srt i j _ _ hij (List.getElem?_eq_getElem hi) (List.getElem?_eq_getElem hj)
    rw [cfS_neg] at hs
    simp only [Function.comp, hr.back (d[i].isLt), hr.back (d[j].isLt)]
    omega
  · rw [List.map_map, List.map_map]
    apply List.map_congr_left
    intro x _
    simp only [Function.comp, hr.back x.isLt]
end Go.Proofs.YtccoobcggbbciaiGreatDoor.S8
namespace Go.Proofs.YtccoobcggbbciaiGreatDoor.S8
open Go.ChangeShapes Go.WideShapes Go.ChangeAt Go.RowKit Go.Sort

/-- Rows that were made, in whatever order. -/
structure Mk (N : Nat) (W0 W : World) (gs : List Nat) : Prop where
  bel : Below W0.heap.size W0 W
  all : ∀ g ∈ gs, W.heap[g]? = some (.cells (runCells N []).toArray 3 (0, 0)) ∧ W0.heap.size ≤ g
  nd : gs.Nodup

theorem Mk.start (N : Nat) (W0 : World) : Mk N W0 W0 [] := ⟨Below.refl _ _, nofun, List.nodup_nil⟩

theorem Mk.add {N : Nat} {W0 W W' : World} {gs : List Nat} (h : Mk N W0 W gs) (hb : Below W.heap.size W W') (hh : W'.heap[W.heap.size]? = some (.cells (runCells N []).toArray 3 (0, 0))) : Mk N W0 W' (W.heap.size :: gs) := by
  refine ⟨below_seq h.bel hb, fun g hg => ?_, List.nodup_cons.2 ⟨fun e => ?_, h.nd⟩⟩
  · rcases List.mem_cons.1 hg with rfl | hg
    · exact ⟨hh, h.bel.size⟩
    · exact ⟨(hb.block g (lt_of_heapP (h.all g hg).1)).trans (h.all g hg).1, (h.all g hg).2⟩
  · exact absurd (lt_of_heapP (h.all _ e).1) (Nat.lt_irrefl _)

/-- A line that is being made. -/
structure NewL (w : World) (W : World) (N : Nat) (jv ov : Value) (K Lf Rn Rd C : Nat) (lf rn rd cc : List Value) : Prop where
  bel : Below w.heap.size w W
  jbox : W.heap[w.heap.size]? = some (.cells #[jv] 54 (0, 0))
  obox : W.heap[w.heap.size + 1]? = some (.cells #[ov] 101 (0, 0))
  line : W.heap[K]? = some (.cells #[jv, .slice (some ⟨Lf, 0, none⟩) N N, .slice (some ⟨Rn, 0, none⟩) N N, .slice (some ⟨Rd, 0, none⟩) N N, .slice (some ⟨C, 0, none⟩) N N, .slice none 0 0] 127 (0, 0))
  left : W.heap[Lf]? = some (.cells lf.toArray 3 (0, 0))
  ranks : W.heap[Rn]? = some (.cells rn.toArray 3 (0, 0))
  ranked : W.heap[Rd]? = some (.cells rd.toArray 3 (0, 0))
  comes : W.heap[C]? = some (.cells cc.toArray 3 (0, 0))
  low : w.heap.size + 2 ≤ K ∧ w.heap.size + 2 ≤ Lf ∧ w.heap.size + 2 ≤ Rn ∧ w.heap.size + 2 ≤ Rd ∧ w.heap.size + 2 ≤ C
  ds : K ≠ Lf ∧ K ≠ Rn ∧ K ≠ Rd ∧ K ≠ C ∧ Lf ≠ Rn ∧ Lf ≠ Rd ∧ Lf ≠ C ∧ Rn ≠ Rd ∧ Rn ≠ C ∧ Rd ≠ C

section

variable {w W W' : World} {N : Nat} {jv ov : Value} {K Lf Rn Rd C : Nat} {lf rn rd cc lf' rn' rd' cc' : List Value}

theorem NewL.grow (h : NewL w W N jv ov K Lf Rn Rd C lf rn rd cc) (hb : Below W.heap.size W W') : NewL w W' N jv ov K Lf Rn Rd C lf rn rd cc :=
  ⟨below_seq h.bel hb, (hb.block _ (lt_of_heapP h.jbox)).trans h.jbox, (hb.block _ (lt_of_heapP h.obox)).trans h.obox, (hb.block _ (lt_of_heapP h.line)).trans h.line, (hb.block _ (lt_of_heapP h.left)).trans h.left, (hb.block _ (lt_of_heapP h.ranks)).trans h.ranks, (hb.block _ (lt_of_heapP h.ranked)).trans h.ranked, (hb.block _ (lt_of_heapP h.comes)).trans h.comes, h.low, h.ds⟩

theorem NewL.left' (h : NewL w W N jv ov K Lf Rn Rd C lf rn rd cc) (hg : W.grownBy W' (some Lf)) (hh : W'.heap[Lf]? = some (.cells lf'.toArray 3 (0, 0))) : NewL w W' N jv ov K Lf Rn Rd C lf' rn rd cc := by
  obtain ⟨l1, l2, l3, l4, l5⟩ := h.low
  obtain ⟨d1, d2, d3, d4, d5, d6, d7, d8, d9, d10⟩ := h.ds
  have keep : ∀ q, q < W.heap.size → q ≠ Lf → W'.heap[q]? = W.heap[q]? := fun q hq hne => hg.block q hq (fun e => hne (Option.some.inj e))
  have hs := h.bel.size
  exact ⟨h.bel.trans (grownBy_below hg hs (fun q e => by cases e; omega)), (keep _ (lt_of_heapP h.jbox) (by omega)).trans h.jbox, (keep _ (lt_of_heapP h.obox) (by omega)).trans h.obox, (keep _ (lt_of_heapP h.line) (by omega)).trans h.line, hh, (keep _ (lt_of_heapP h.ranks) (by omega)).trans h.ranks, (keep _ (lt_of_heapP h.ranked) (by omega)).trans h.ranked, (keep _ (lt_of_heapP h.comes) (by omega)).trans h.comes, h.low, h.ds⟩

theorem NewL.left_set (h : NewL w W N jv ov K Lf Rn Rd C lf rn rd cc) (i : Nat) (u : Value) : NewL w (W.setCell ⟨Lf, i, none⟩ u) N jv ov K Lf Rn Rd C (lf.set i u) rn rd cc :=
  h.left' (set_grown _ _ _ _) (setCell_list h.left)

theorem NewL.ranks' (h : NewL w W N jv ov K Lf Rn Rd C lf rn rd cc) (hg : W.grownBy W' (some Rn)) (hh : W'.heap[Rn]? = some (.cells rn'.toArray 3 (0, 0))) : NewL w W' N jv ov K Lf Rn Rd C lf rn' rd cc := by
  obtain ⟨l1, l2, l3, l4, l5⟩ := h.low
  obtain ⟨d1, d2, d3, d4, d5, d6, d7, d8, d9, d10⟩ := h.ds
  have keep : ∀ q, q < W.heap.size → q ≠ Rn → W'.heap[q]? = W.heap[q]? := fun q hq hne => hg.block q hq (fun e => hne (Option.some.inj e))
  have hs := h.bel.size
  exact ⟨h.bel.trans (grownBy_below hg hs (fun q e => by cases e; omega)), (keep _ (lt_of_heapP h.jbox) (by omega)).trans h.jbox, (keep _ (lt_of_heapP h.obox) (by omega)).trans h.obox, (keep _ (lt_of_heapP h.line) (by omega)).trans h.line, (keep _ (lt_of_heapP h.left) (by omega)).trans h.left, hh, (keep _ (lt_of_heapP h.ranked) (by omega)).trans h.ranked, (keep _ (lt_of_heapP h.comes) (by omega)).trans h.comes, h.low, h.ds⟩

theorem NewL.ranks_set (h : NewL w W N jv ov K Lf Rn Rd C lf rn rd cc) (i : Nat) (u : Value) : NewL w (W.setCell ⟨Rn, i, none⟩ u) N jv ov K Lf Rn Rd C lf (rn.set i u) rd cc :=
  h.ranks' (set_grown _ _ _ _) (setCell_list h.ranks)

theorem NewL.ranked' (h : NewL w W N jv ov K Lf Rn Rd C lf rn rd cc) (hg : W.grownBy W' (some Rd)) (hh : W'.heap[Rd]? = some (.cells rd'.toArray 3 (0, 0))) : NewL w W' N jv ov K Lf Rn Rd C lf rn rd' cc := by
  obtain ⟨l1, l2, l3, l4, l5⟩ := h.low
  obtain ⟨d1, d2, d3, d4, d5, d6, d7, d8, d9, d10⟩ := h.ds
  have keep : ∀ q, q < W.heap.size → q ≠ Rd → W'.heap[q]? = W.heap[q]? := fun q hq hne => hg.block q hq (fun e => hne (Option.some.inj e))
  have hs := h.bel.size
  exact ⟨h.bel.trans (grownBy_below hg hs (fun q e => by cases e; omega)), (keep _ (lt_of_heapP h.jbox) (by omega)).trans h.jbox, (keep _ (lt_of_heapP h.obox) (by omega)).trans h.obox, (keep _ (lt_of_heapP h.line) (by omega)).trans h.line, (keep _ (lt_of_heapP h.left) (by omega)).trans h.left, (keep _ (lt_of_heapP h.ranks) (by omega)).trans h.ranks, hh, (keep _ (lt_of_heapP h.comes) (by omega)).trans h.comes, h.low, h.ds⟩

theorem NewL.ranked_set (h : NewL w W N jv ov K Lf Rn Rd C lf rn rd cc) (i : Nat) (u : Value) : NewL w (W.setCell ⟨Rd, i, none⟩ u) N jv ov K Lf Rn Rd C lf rn (rd.set i u) cc :=
  h.ranked' (set_grown _ _ _ _) (setCell_list h.ranked)

theorem NewL.comes' (h : NewL w W N jv ov K Lf Rn Rd C lf rn rd cc) (hg : W.grownBy W' (some C)) (hh : W'.heap[C]? = some (.cells cc'.toArray 3 (0, 0))) : NewL w W' N jv ov K Lf Rn Rd C lf rn rd cc' := by
  obtain ⟨l1, l2, l3, l4, l5⟩ := h.low
  obtain ⟨d1, d2, d3, d4, d5, d6, d7, d8, d9, d10⟩ := h.ds
  have keep : ∀ q, q < W.heap.size → q ≠ C → W'.heap[q]? = W.heap[q]? := fun q hq hne => hg.block q hq (fun e => hne (Option.some.inj e))
  have hs := h.bel.size
  exact ⟨h.bel.trans (grownBy_below hg hs (fun q e => by cases e; omega)), (keep _ (lt_of_heapP h.jbox) (by omega)).trans h.jbox, (keep _ (lt_of_heapP h.obox) (by omega)).trans h.obox, (keep _ (lt_of_heapP h.line) (by omega)).trans h.line, (keep _ (lt_of_heapP h.left) (by omega)).trans h.left, (keep _ (lt_of_heapP h.ranks) (by omega)).trans h.ranks, (keep _ (lt_of_heapP h.ranked) (by omega)).trans h.ranked, hh, h.low, h.ds⟩

theorem NewL.comes_set (h : NewL w W N jv ov K Lf Rn Rd C lf rn rd cc) (i : Nat) (u : Value) : NewL w (W.setCell ⟨C, i, none⟩ u) N jv ov K Lf Rn Rd C lf rn rd (cc.set i u) :=
  h.comes' (set_grown _ _ _ _) (setCell_list h.comes)

end

theorem Mk.fin {w W0 Wz : World} {N Lf Rn Rd C : Nat} {jv ov : Value} {gs : List Nat} (hW0 : ((w.alloc (.cells #[jv] 54)).alloc (.cells #[ov] 101)).drew = W0) (h : Mk N W0 Wz gs) (m1 : Lf ∈ gs) (m2 : Rn ∈ gs) (m3 : Rd ∈ gs) (m4 : C ∈ gs) (hd : Lf ≠ Rn ∧ Lf ≠ Rd ∧ Lf ≠ C ∧ Rn ≠ Rd ∧ Rn ≠ C ∧ Rd ≠ C) :
    NewL w (Wz.alloc (.cells #[jv, .slice (some ⟨Lf, 0, none⟩) N N, .slice (some ⟨Rn, 0, none⟩) N N, .slice (some ⟨Rd, 0, none⟩) N N, .slice (some ⟨C, 0, none⟩) N N, .slice none 0 0] 127)) N jv ov Wz.heap.size Lf Rn Rd C (runCells N []) (runCells N []) (runCells N []) (runCells N []) := by
  subst hW0
  have hs0 : ((w.alloc (.cells #[jv] 54)).alloc (.cells #[ov] 101)).drew.heap.size = w.heap.size + 2 := by simp
  have hsz := h.bel.size
  have hb0 := h.bel.block
  rw [hs0] at hsz hb0
  obtain ⟨a1, b1⟩ := h.all _ m1
  obtain ⟨a2, b2⟩ := h.all _ m2
  obtain ⟨a3, b3⟩ := h.all _ m3
  obtain ⟨a4, b4⟩ := h.all _ m4
  rw [hs0] at b1 b2 b3 b4
  have k1 := lt_of_heapP a1
  have k2 := lt_of_heapP a2
  have k3 := lt_of_heapP a3
  have k4 := lt_of_heapP a4
  have ka : ∀ q, q < Wz.heap.size → ∀ o, (Wz.alloc o).heap[q]? = Wz.heap[q]? := fun q hq o => Below.heap_alloc Wz o q hq
  have j1 : Wz.heap[w.heap.size]? = some (.cells #[jv] 54 (0, 0)) := by
    rw [hb0 _ (by omega)]
    show ((w.alloc (.cells #[jv] 54)).alloc (.cells #[ov] 101)).heap[w.heap.size]? = _
    rw [Below.heap_alloc _ _ _ (by simp), heap_alloc_new]
  have j2 : Wz.heap[w.heap.size + 1]? = some (.cells #[ov] 101 (0, 0)) := by
    rw [hb0 _ (by omega)]
    have e := heap_alloc_new (w.alloc (.cells #[jv] 54)) (.cells #[ov] 101)
    rw [show (w.alloc (.cells #[jv] 54)).heap.size = w.heap.size + 1 by simp] at e
    exact e
  have hB : Below w.heap.size w Wz := below_seq (below_seq (below_new w (.cells #[jv] 54)) ((below_new _ (.cells #[ov] 101)).drew)) h.bel
  obtain ⟨d1, d2, d3, d4, d5, d6⟩ := hd
  exact ⟨below_seq hB (below_new _ _), (ka _ (lt_of_heapP j1) _).trans j1, (ka _ (lt_of_heapP j2) _).trans j2, heap_alloc_new _ _, (ka _ k1 _).trans a1, (ka _ k2 _).trans a2, (ka _ k3 _).trans a3, (ka _ k4 _).trans a4, ⟨by omega, by omega, by omega, by omega, by omega⟩, ⟨by omega, by omega, by omega, by omega, d1, d2, d3, d4, d5, d6⟩⟩
end Go.Proofs.YtccoobcggbbciaiGreatDoor.S8
namespace Go.Proofs.YtccoobcggbbciaiGreatDoor.S8
open Go.ChangeShapes Go.WideShapes Go.ChangeAt Go.RowKit Go.Sort

theorem store_so (w : World) (jb : Nat) : (store ⟨w.heap.size, 0, none⟩ (.func (Fn.func 82) #[] #[.pointer (some ⟨jb, 0, none⟩)])).run Tryz.prog (w.alloc (.cells #[.nilFunc] 91)) = .ok () (w.alloc (.cells #[.func (Fn.func 82) #[] #[.pointer (some ⟨jb, 0, none⟩)]] 91)) := by
  rw [run_store Tryz.prog _ _ (.func (Fn.func 82) #[] #[.pointer (some ⟨jb, 0, none⟩)]) .plain rfl]
  simp [go_sem]

/-- Those that come are sorted. -/
theorem NewL.soon {w W : World} {l : List Jb} {jv : Value} {K Lf Rn Rd C : Nat} {lf rn rd : List Value} {ov : Value} (h : NewL w W l.length jv ov K Lf Rn Rd C lf rn rd ((zI (List.range l.length)).map (Value.int .i64))) (hv : RowSl Jb.vals w l jv) (hl : l.length ≤ 4000) :
    Calls Tryz.prog 85 #[.slice (some ⟨C, 0, none⟩) l.length l.length, (.func (.func 82) #[] #[.pointer (some ⟨w.heap.size, 0, none⟩)])] W fun r W' => r = .returned (.tuple #[]) ∧ ∃ d : List (Fin l.length), Srt (cfS l) d ∧ NewL w W' l.length jv ov K Lf Rn Rd C lf rn rd ((zI (d.map (fun p => p.val))).map (Value.int .i64)) ∧ W.grownBy W' (some C) := by
  obtain ⟨l1, l2, l3, l4, l5⟩ := h.low
  have hs := h.bel.size
  refine (sortN_any W l.length C 82 #[.pointer (some ⟨w.heap.size, 0, none⟩)] (cfS l) hl (cfS_swo l _) (enters_of Tryz.func82 (by kernel_rfl) rfl) h.comes (fun W' hg x y => ?_)).mono ?_
  · have hj := (hg.block _ (lt_of_heapP h.jbox) (fun e => by have := Option.some.inj e; omega)).trans h.jbox
    exact sooner_any W' l jv w.heap.size x.val y.val ((cells_of (l := [_]) hj).1 0 _ rfl) (hv.below (h.bel.trans (grownBy_below hg hs (fun q e => by cases e; omega)))) x.isLt y.isLt
  · rintro r W' ⟨rfl, d, hd, hC, hg⟩
    exact ⟨rfl, d, hd, h.comes' hg hC, hg⟩

/-- They are ranked. -/
theorem NewL.ranking {w W : World} {l : List Jb} {jv : Value} {K Lf Rn Rd C : Nat} {lf rn cc : List Value} {pol : Int} {sb : Nat} (hp : pol = 1 ∨ pol = 2) (h : NewL w W l.length jv (.func (.func (if pol = 2 then 87 else 88)) #[] #[]) K Lf Rn Rd C lf rn ((zI (List.range l.length)).map (Value.int .i64)) cc) (hv : RowSl Jb.vals w l jv) (hl : l.length ≤ 4000) (hb : W.heap[sb]? = some (.cells #[(.func (.func 82) #[] #[.pointer (some ⟨w.heap.size, 0, none⟩)])] 91 (0, 0))) (hne : sb ≠ Rd) :
    Calls Tryz.prog 85 #[.slice (some ⟨Rd, 0, none⟩) l.length l.length, .func (.func 86) #[] #[.pointer (some ⟨w.heap.size + 1, 0, none⟩), .pointer (some ⟨w.heap.size, 0, none⟩), .pointer (some ⟨sb, 0, none⟩)]] W fun r W' => r = .returned (.tuple #[]) ∧ ∃ rk, Ranked l pol rk ∧ NewL w W' l.length jv (.func (.func (if pol = 2 then 87 else 88)) #[] #[]) K Lf Rn Rd C lf rn ((zI rk).map (Value.int .i64)) cc ∧ W.grownBy W' (some Rd) := by
  obtain ⟨l1, l2, l3, l4, l5⟩ := h.low
  have hs := h.bel.size
  refine (sortN_any W l.length Rd 86 #[.pointer (some ⟨w.heap.size + 1, 0, none⟩), .pointer (some ⟨w.heap.size, 0, none⟩), .pointer (some ⟨sb, 0, none⟩)] (cfR pol l) hl (cfR_swo hp l _) (enters_of Tryz.func86 (by kernel_rfl) rfl) h.ranked (fun W' hg x y => ?_)).mono ?_
  · have hj := (hg.block _ (lt_of_heapP h.jbox) (fun e => by have := Option.some.inj e; omega)).trans h.jbox
    have ho := (hg.block _ (lt_of_heapP h.obox) (fun e => by have := Option.some.inj e; omega)).trans h.obox
    have hs' := (hg.block _ (lt_of_heapP hb) (fun e => hne (Option.some.inj e))).trans hb
    have hr := hv.below (h.bel.trans (grownBy_below hg hs (fun q e => by cases e; omega)))
    have c1 := (cells_of (l := [_]) hj).1 0 _ rfl
    have c2 := (cells_of (l := [_]) ho).1 0 _ rfl
    have c3 := (cells_of (l := [_]) hs').1 0 _ rfl
    unfold cfR cfS
    rcases hp with rfl | rfl
    · rw [if_neg (by decide)] at c2 ⊢
      exact rankGreat_any W' l jv w.heap.size (w.heap.size + 1) sb x.val y.val c1 c2 c3 hr x.isLt y.isLt
    · rw [if_pos rfl] at c2 ⊢
      exact rankDue_any W' l jv w.heap.size (w.heap.size + 1) sb x.val y.val c1 c2 c3 hr x.isLt y.isLt
  · rintro r W' ⟨rfl, d, hd, hC, hg⟩
    exact ⟨rfl, _, ranked_srt hp hd, h.ranked' hg hC, hg⟩
end Go.Proofs.YtccoobcggbbciaiGreatDoor.S8
