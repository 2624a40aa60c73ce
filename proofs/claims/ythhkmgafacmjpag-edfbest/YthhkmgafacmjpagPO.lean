import Derived.Test.YthhkmgafacmjpagPM
namespace Go.Proofs.Ythhkmgafacmjpag
open Go.ChangeShapes Go.WideShapes Go.ChangeAt Go.RowKit Go.Sort

/-- All places. -/
def finL (N : Nat) : List (Fin N) := (List.range N).pmap (fun a h => ⟨a, h⟩) (fun a h => by simpa using h)

theorem finL_val (N : Nat) : (finL N).map (fun p => p.val) = List.range N := by
  unfold finL
  rw [List.map_pmap]
  simp

theorem finL_len (N : Nat) : (finL N).length = N := by simp [finL]

def encF (N : Nat) (p : Fin N) : Value := .int .i64 (p.val : Int)

theorem encF_map {N : Nat} (d : List (Fin N)) : d.map (encF N) = (zI (d.map (fun p => p.val))).map (Value.int .i64) := by
  unfold zI encF
  rw [List.map_map, List.map_map]
  rfl

theorem coming_of {l : List Jb} {rk : List Nat} {d' : List (Fin l.length)} (hperm : d'.Perm (finL l.length)) (hs : ∀ (i j : Nat) (x y : Fin l.length), i < j → d'[i]? = some x → d'[j]? = some y → (J l (RK rk x.val)).a ≤ (J l (RK rk y.val)).a) : Coming l rk (d'.map (fun p => p.val)) := by
  refine ⟨?_, ?_⟩
  · have := hperm.map (fun p : Fin l.length => p.val)
    rwa [finL_val] at this
  · rw [List.pairwise_map, List.pairwise_iff_getElem]
    intro i j hi hj hij
    exact hs i j _ _ hij (List.getElem?_eq_getElem hi) (List.getElem?_eq_getElem hj)

/-- Sorting those that come. -/
theorem sortCm_any (W : World) (l : List Jb) (pol : Int) (rk : List Nat) (left : List Int) (R K C V : Nat) (cv tv : Value) (hr : Ranked l pol rk) (hl : l.length ≤ 4000) (hV : W.heap[V]? = some (.cells #[.pointer (some ⟨K, 0, none⟩)] 50 (0, 0))) (hK : W.heap[K]? = some (.cells #[.slice (some ⟨R, 0, none⟩) l.length l.length, cv, tv] 61 (0, 0))) (hR : W.heap[R]? = some (.cells ((entsOf l rk left).flatMap En.vals).toArray 63 (0, 0))) (hC : W.heap[C]? = some (.cells ((zI (List.range l.length)).map (Value.int .i64)).toArray 3 (0, 0))) (dV : V ≠ C) (dK : K ≠ C) (dR : R ≠ C) :
    Calls Try.prog 29 #[.slice (some ⟨C, 0, none⟩) l.length l.length, .func (.func 30) #[] #[.pointer (some ⟨V, 0, none⟩)]] W fun r W' => r = .returned (.tuple #[]) ∧ ∃ cm, Coming l rk cm ∧ W'.heap[C]? = some (.cells ((zI cm).map (Value.int .i64)).toArray 3 (0, 0)) ∧ W.grownBy W' (some C) := by
  by_cases h0 : l.length = 0
  · have h := AnyF.slices_SortFunc_none { lay_sortInt with } (some ⟨C, 0, none⟩) 0 (.func (.func 30) #[] #[.pointer (some ⟨V, 0, none⟩)]) W
    change Calls Try.prog 29 _ _ _ at h
    rw [h0] at hC ⊢
    refine h.mono ?_
    rintro r W' ⟨rfl, rfl⟩
    refine ⟨rfl, [], ⟨by rw [h0]; exact List.Perm.refl _, List.Pairwise.nil⟩, hC, ⟨rfl, rfl, rfl, Nat.le_refl _, fun _ _ _ => rfl⟩⟩
  · haveI : Inhabited (Fin l.length) := ⟨⟨0, by omega⟩⟩
    have eg : ∀ args w, (callFunc 30 args).run Try.prog w = .ok (.enter 30 args) w := enters_of Try.func30 (by kernel_rfl) rfl
    have hdl : (finL l.length).toArray.size = l.length := by rw [List.size_toArray, finL_len]
    have hC' : W.heap[C]? = some (.cells ((finL l.length).toArray.map (encF l.length)) 3 (0, 0)) := by
      rw [hC, List.map_toArray, encF_map, finL_val]
    have hcmp : CmpLays1 Try.prog 30 #[.pointer (some ⟨V, 0, none⟩)] (encF l.length) (fun x y => cmpI (J l (RK rk x.val)).a (J l (RK rk y.val)).a) C 0 (finL l.length).toArray.size W := fun m os dk _ x y => by
      have hk := sorted_keep (encF l.length) (w := W) (g := C) (n := m) (os := os) dk
      have k1 := (hk.block V (lt_of_heapP hV) (fun e => dV (Option.some.inj e))).trans hV
      have k2 := (hk.block K (lt_of_heapP hK) (fun e => dK (Option.some.inj e))).trans hK
      have k3 := (hk.block R (lt_of_heapP hR) (fun e => dR (Option.some.inj e))).trans hR
      refine (comesC_any _ l pol rk left V K R x.val y.val cv tv hr k1 k2 k3 x.isLt y.isLt).mono ?_
      rintro r w' ⟨rfl, q, rfl⟩
      exact ⟨rfl, q, #[], by rw [grow_empty]; rfl⟩
    have h := Any.slices_SortFunc lay_sortInt (encF l.length) (fun _ => rfl) (fun x y => cmpI (J l (RK rk x.val)).a (J l (RK rk y.val)).a) (cmpI_swo (fun x : Fin l.length => (J l (RK rk x.val)).a)) 30 #[.pointer (some ⟨V, 0, none⟩)] C 0 l.length (finL l.length).toArray W eg hcmp (holds_of (encF l.length) _ hC') (lt_of_heapP hC) (by rw [hdl]; omega)
    rw [hdl] at h
    change Calls Try.prog 29 _ _ _ at h
    refine h.mono ?_
    rintro r W' ⟨rfl, d', n, os, hperm, hs, rfl⟩
    obtain ⟨hp1, hp2⟩ := permIn_all (by rw [hdl]; exact hperm)
    rw [hdl] at hp2
    refine ⟨rfl, d'.toList.map (fun p => p.val), coming_of (by simpa using hp1) (fun i j x y hij hi hj => ?_), ?_, sorted_keep (encF l.length) d'⟩
    · obtain ⟨hi1, hi2⟩ := List.getElem?_eq_some_iff.1 hi
      obtain ⟨hj1, hj2⟩ := List.getElem?_eq_some_iff.1 hj
      have hi1' : i < d'.size := by simpa using hi1
      have hj1' : j < d'.size := by simpa using hj1
      have := hs i j (Nat.zero_le _) hij (by omega)
      rw [getElem!_pos d' i hi1', getElem!_pos d' j hj1'] at this
      have e1 : d'[i] = x := by simpa using hi2
      have e2 : d'[j] = y := by simpa using hj2
      rw [e1, e2] at this
      unfold ltOf cmpI at this
      simp at this
      split at this
      · simp at this
      · omega
    · have h9 := sorted_heap (n := n) (os := os) (encF l.length) d' hC' (by rw [Array.size_map, hdl, hp2])
      rw [show (sortWorld (encF l.length) W C 0 n d' os).heap[C]? = _ from h9, ← encF_map]
      congr 2
      apply Array.toList_inj.1
      simp
end Go.Proofs.Ythhkmgafacmjpag
