import Derived.Test.YtekbkcgpjkecbalDoorSRF
import Derived.Test.YtekbkcgpjkecbalDoorSPLs
import Derived.Shelf.SlSortCmp.Whole1
import Derived.Shelf.SlSortCmp.NoneTotal
namespace Go.Proofs.YtekbkcgpjkecbalDoor.S8
open Go.ChangeShapes Go.WideShapes Go.ChangeAt Go.RowKit Go.Sort

theorem lt_of_heapP {W : World} {g : Nat} {o : Obj} (h : W.heap[g]? = some o) : g < W.heap.size := (Array.getElem?_eq_some_iff.1 h).1

theorem permIn_all {α : Type} [Inhabited α] {d d' : Array α} (h : PermIn 0 d.size d d') : d'.toList.Perm d.toList ∧ d'.size = d.size := by
  obtain ⟨h1, -, h2⟩ := h
  rw [Array.extract_size, ← h1, Array.extract_size] at h2
  exact ⟨h2, h1⟩

/-- All places. -/
def finL (N : Nat) : List (Fin N) := (List.range N).pmap (fun a h => ⟨a, h⟩) (fun a h => by simpa using h)

theorem finL_val (N : Nat) : (finL N).map (fun p => p.val) = List.range N := by
  unfold finL
  rw [List.map_pmap]
  simp

theorem finL_len (N : Nat) : (finL N).length = N := by simp [finL]

def encF (N : Nat) (p : Fin N) : Value := .int .i64 (p.val : Int)

theorem encF_map {N : Nat} (d : List (Fin N)) : d.map (encF N) = (zI (d.map (fun p => p.val))).map (Value.int .i64) := by
  unfold zI encF
  rw [List.map_map, List.map_map]
  rfl

/-- Sorted, by a comparison. -/
structure Srt {N : Nat} (cf : Nat → Nat → Int) (d : List (Fin N)) : Prop where
  perm : d.Perm (finL N)
  srt : ∀ (i j : Nat) (x y : Fin N), i < j → d[i]? = some x → d[j]? = some y → ¬ cf y.val x.val < 0

theorem sortN_any (W : World) (N C c : Nat) (fs : Array Value) (cf : Nat → Nat → Int) (hN : N ≤ 4000) (hswo : SWO (ltOf (fun x y : Fin N => cf x.val y.val))) (eg : ∀ args w, (callFunc c args).run Tryd.prog w = .ok (.enter c args) w) (hC : W.heap[C]? = some (.cells ((zI (List.range N)).map (Value.int .i64)).toArray 3 (0, 0))) (hcl : ∀ W', W.grownBy W' (some C) → ∀ x y : Fin N, Calls Tryd.prog c (#[encF N x, encF N y] ++ fs) W' fun r w' => r = .returned (.int .i64 (cf x.val y.val)) ∧ Grown W' w') :
    Calls Tryd.prog 71 #[.slice (some ⟨C, 0, none⟩) N N, .func (.func c) #[] fs] W fun r W' => r = .returned (.tuple #[]) ∧ ∃ d : List (Fin N), Srt cf d ∧ W'.heap[C]? = some (.cells ((zI (d.map (fun p => p.val))).map (Value.int .i64)).toArray 3 (0, 0)) ∧ W.grownBy W' (some C) := by
  by_cases h0 : N = 0
  · subst h0
    have h := AnyF.slices_SortFunc_none { lay_sortInt with } (some ⟨C, 0, none⟩) 0 (.func (.func c) #[] fs) W
    change Calls Tryd.prog 71 _ _ _ at h
    refine h.mono ?_
    rintro r W' ⟨rfl, rfl⟩
    exact ⟨rfl, [], ⟨List.Perm.refl _, fun i j x y _ h => by simp at h⟩, hC, ⟨rfl, rfl, rfl, Nat.le_refl _, fun _ _ _ => rfl⟩⟩
  · haveI : Inhabited (Fin N) := ⟨⟨0, by omega⟩⟩
    have hdl : (finL N).toArray.size = N := by rw [List.size_toArray, finL_len]
    have hC' : W.heap[C]? = some (.cells ((finL N).toArray.map (encF N)) 3 (0, 0)) := by
      rw [hC, List.map_toArray, encF_map, finL_val]
    have hcmp : CmpLays1 Tryd.prog c fs (encF N) (fun x y => cf x.val y.val) C 0 (finL N).toArray.size W := fun m os dk _ x y => by
      refine (hcl _ (sorted_keep (encF N) (w := W) (g := C) (n := m) (os := os) dk) x y).mono ?_
      rintro r w' ⟨rfl, q, os', rfl⟩
      exact ⟨rfl, q, os', rfl⟩
    have h := Any.slices_SortFunc lay_sortInt (encF N) (fun _ => rfl) (fun x y => cf x.val y.val) hswo c fs C 0 N (finL N).toArray W eg hcmp (holds_of (encF N) _ hC') (lt_of_heapP hC) (by rw [hdl]; omega)
    rw [hdl] at h
    change Calls Tryd.prog 71 _ _ _ at h
    refine h.mono ?_
    rintro r W' ⟨rfl, d', n, os, hperm, hs, rfl⟩
    obtain ⟨hp1, hp2⟩ := permIn_all (by rw [hdl]; exact hperm)
    rw [hdl] at hp2
    refine ⟨rfl, d'.toList, ⟨by simpa using hp1, fun i j x y hij hi hj => ?_⟩, ?_, sorted_keep (encF N) d'⟩
    · obtain ⟨hi1, hi2⟩ := List.getElem?_eq_some_iff.1 hi
      obtain ⟨hj1, hj2⟩ := List.getElem?_eq_some_iff.1 hj
      have hi1' : i < d'.size := by simpa using hi1
      have hj1' : j < d'.size := by simpa using hj1
      have := hs i j (Nat.zero_le _) hij (by omega)
      rw [getElem!_pos d' i hi1', getElem!_pos d' j hj1'] at this
      have e1 : d'[i] = x := by simpa using hi2
      have e2 : d'[j] = y := by simpa using hj2
      rw [e1, e2] at this
      unfold ltOf at this
      simpa using this
    · have h9 := sorted_heap (n := n) (os := os) (encF N) d' hC' (by rw [Array.size_map, hdl, hp2])
      rw [show (sortWorld (encF N) W C 0 n d' os).heap[C]? = _ from h9, ← encF_map]
      congr 2
      apply Array.toList_inj.1
      simp

/- What is compared. -/
def cfS (l : List Jb) (x y : Nat) : Int := or2 (cmpI (J l x).a (J l y).a) (cmpI (x : Int) (y : Int))

def cfR (pol : Int) (l : List Jb) (x y : Nat) : Int := or2 (if pol = 2 then cmpI (J l x).d (J l y).d else cmpI (J l y).p (J l x).p) (cfS l x y)

theorem cmpI_neg (a b : Int) : cmpI a b < 0 ↔ a < b := by unfold cmpI; split <;> (try split) <;> omega

theorem cmpI_nil (a b : Int) : cmpI a b = 0 ↔ a = b := by unfold cmpI; split <;> (try split) <;> omega

theorem or2_neg (a b : Int) : or2 a b < 0 ↔ (a < 0 ∨ (a = 0 ∧ b < 0)) := by unfold or2; split <;> omega

theorem or2_nil (a b : Int) : or2 a b = 0 ↔ (a = 0 ∧ b = 0) := by unfold or2; split <;> omega

theorem cfS_neg (l : List Jb) (x y : Nat) : cfS l x y < 0 ↔ ((J l x).a < (J l y).a ∨ ((J l x).a = (J l y).a ∧ x < y)) := by
  unfold cfS
  rw [or2_neg, cmpI_neg, cmpI_nil, cmpI_neg]
  omega

theorem cfR_neg {pol : Int} (hp : pol = 1 ∨ pol = 2) (l : List Jb) (x y : Nat) : cfR pol l x y < 0 ↔ lexJ pol l x y := by
  unfold cfR lexJ lex key
  rw [or2_neg, cfS_neg]
  rcases hp with rfl | rfl
  · rw [if_neg (by decide), cmpI_neg, cmpI_nil]
    simp only [if_pos]
    omega
  · rw [if_pos rfl, cmpI_neg, cmpI_nil]
    simp only [show ¬ ((2 : Int) = 1) by decide, if_false]
    omega

theorem cfS_swo (l : List Jb) (N : Nat) : SWO (ltOf (fun x y : Fin N => cfS l x.val y.val)) := by
  have h : ∀ x y : Fin N, ltOf (fun x y : Fin N => cfS l x.val y.val) x y = decide ((J l x.val).a < (J l y.val).a ∨ ((J l x.val).a = (J l y.val).a ∧ x.val < y.val)) := fun x y => by
    unfold ltOf; exact decide_eq_decide.2 (cfS_neg l x.val y.val)
  refine ⟨fun x => by rw [h]; simp, fun x y z h1 h2 => ?_, fun x y z h1 h2 => ?_⟩
  · rw [h, decide_eq_true_iff] at *; omega
  · rw [h, decide_eq_false_iff_not] at *; omega

theorem cfR_swo {pol : Int} (hp : pol = 1 ∨ pol = 2) (l : List Jb) (N : Nat) : SWO (ltOf (fun x y : Fin N => cfR pol l x.val y.val)) := by
  have h : ∀ x y : Fin N, ltOf (fun x y : Fin N => cfR pol l x.val y.val) x y = true ↔ lexJ pol l x.val y.val := fun x y => by
    unfold ltOf; rw [decide_eq_true_iff]; exact cfR_neg hp l x.val y.val
  have hf : ∀ x y : Fin N, ltOf (fun x y : Fin N => cfR pol l x.val y.val) x y = false ↔ ¬ lexJ pol l x.val y.val := fun x y => by rw [← h]; simp
  refine ⟨fun x => (hf x x).2 lexJ_irr, fun x y z h1 h2 => (h x z).2 (lexJ_trans ((h x y).1 h1) ((h y z).1 h2)), fun x y z h1 h2 => (hf x z).2 ?_⟩
  have a := (hf x y).1 h1
  have b := (hf y z).1 h2
  unfold lexJ lex at *
  omega

theorem Srt.range {N : Nat} {cf : Nat → Nat → Int} {d : List (Fin N)} (h : Srt cf d) : (d.map (fun p => p.val)).Perm (List.range N) := by
  have := h.perm.map (fun p : Fin N => p.val)
  rwa [finL_val] at this

theorem ranked_srt {l : List Jb} {pol : Int} (hp : pol = 1 ∨ pol = 2) {d : List (Fin l.length)} (h : Srt (cfR pol l) d) : Ranked l pol (d.map (fun p => p.val)) := by
  have hnd : (d.map (fun p => p.val)).Nodup := h.range.nodup_iff.2 List.nodup_range
  refine ⟨h.range, fun p q hpq hq => ?_⟩
  have hq' : q < d.length := by simpa using hq
  have hp' : p < d.length := by omega
  have e1 : RK (d.map (fun p => p.val)) p = d[p].val := by
    unfold RK; rw [List.getD_eq_getElem?_getD, List.getElem?_map, List.getElem?_eq_getElem hp']; rfl
  have e2 : RK (d.map (fun p => p.val)) q = d[q].val := by
    unfold RK; rw [List.getD_eq_getElem?_getD, List.getElem?_map, List.getElem?_eq_getElem hq']; rfl
  have hs := h.srt p q _ _ hpq (List.getElem?_eq_getElem hp') (List.getElem?_eq_getElem hq')
  rw [cfR_neg hp] at hs
  have hne : d[q].val ≠ d[p].val := by
    have := List.pairwise_iff_getElem.1 hnd p q (by simpa using hp') (by simpa using hq') hpq
    simpa using Ne.symm this
  rw [e1, e2]
  exact lexJ_total hne hs

theorem Ranked.back {l : List Jb} {pol : Int} {rk : List Nat} (h : Ranked l pol rk) {j : Nat} (hj : j < l.length) : RK rk (rk.idxOf j) = j := by
  obtain ⟨p, hp, rfl⟩ := h.sur hj
  rw [h.idx hp]

/-- Those that come, by their ranks. -/
theorem coming_srt {l : List Jb} {pol : Int} {rk : List Nat} (hr : Ranked l pol rk) {d : List (Fin l.length)} (h : Srt (cfS l) d) : ∃ cm, Coming l rk cm ∧ d.map (fun p => p.val) = cm.map (RK rk) := by
  have hrk : rk.map (fun j => rk.idxOf j) = List.range l.length := by
    apply List.ext_getElem?
    intro p
    by_cases hp : p < l.length
    · rw [List.getElem?_map, RK_get (by rw [hr.len]; exact hp)]
      simp [hr.idx hp, hp]
    · rw [List.getElem?_eq_none (by simp [hr.len]; omega), List.getElem?_eq_none (by simp; omega)]
  refine ⟨(d.map (fun p => p.val)).map (fun j => rk.idxOf j), ⟨?_, ?_⟩, ?_⟩
  · rw [← hrk]
    exact (h.range.trans hr.perm.symm).map _
  · rw [List.map_map, List.pairwise_map, List.pairwise_iff_getElem]
    intro i j hi hj hij
    have hs := h.srt i j _ _ hij (List.getElem?_eq_getElem hi) (List.getElem?_eq_getElem hj)
    rw [cfS_neg] at hs
    simp only [Function.comp, hr.back (d[i].isLt), hr.back (d[j].isLt)]
    omega
  · rw [List.map_map, List.map_map]
    apply List.map_congr_left
    intro x _
    simp only [Function.comp, hr.back x.isLt]
end Go.Proofs.YtekbkcgpjkecbalDoor.S8
