import Derived.Test.YthhkmgafacmjpagPV
import Derived.Shelf.SlSortCmp.Whole1
import Derived.Shelf.SlSortCmp.NoneTotal
namespace Go.Proofs.Ythhkmgafacmjpag
open Go.ChangeShapes Go.WideShapes Go.ChangeAt Go.RowKit Go.Sort

def en0 : En := ⟨jb0, 0, 0⟩

abbrev enInh : Inhabited En := ⟨en0⟩

def enN (l : List Jb) (j : Nat) : En := ⟨J l j, (j : Int), (J l j).c⟩

/-- So many are laid. -/
def rkRow (l : List Jb) (i : Nat) : List En := (List.range i).map (enN l) ++ List.replicate (l.length - i) en0

theorem rkRow_len {l : List Jb} {i : Nat} (h : i ≤ l.length) : (rkRow l i).length = l.length := by simp [rkRow]; omega

theorem rkRow_start (l : List Jb) : (rkRow l 0).flatMap En.vals = List.replicate (l.length * 7) (.int .i64 0) := by
  have : ∀ n, (List.replicate n en0).flatMap En.vals = List.replicate (n * 7) (.int .i64 0) := fun n => by
    induction n with
    | zero => rfl
    | succ n ih => rw [List.replicate_succ, List.flatMap_cons, ih, Nat.succ_mul, Nat.add_comm, ← List.replicate_append_replicate]; rfl
  simp only [rkRow, List.range_zero, List.map_nil, List.nil_append, Nat.sub_zero]
  exact this _

theorem rkRow_at {l : List Jb} {i : Nat} (h : i < l.length) : (rkRow l i)[i]? = some en0 := by
  unfold rkRow
  rw [List.getElem?_append_right (by simp), List.getElem?_replicate, if_pos (by simp; omega)]

theorem rkRow_set {l : List Jb} {i : Nat} (h : i < l.length) : (rkRow l i).set i (enN l i) = rkRow l (i + 1) := by
  unfold rkRow
  rw [List.set_append_right _ _ (by simp)]
  obtain ⟨m, hm⟩ : ∃ m, l.length - i = m + 1 := ⟨l.length - i - 1, by omega⟩
  rw [hm, List.replicate_succ, List.range_succ]
  simp [show l.length - (i + 1) = m by omega]

theorem rkRow_full (l : List Jb) : rkRow l l.length = (List.range l.length).map (enN l) := by simp [rkRow]

theorem flat_put {α : Type} (f : α → List Value) (sz : Nat) (hf : ∀ x, (f x).length = sz) : ∀ (l : List α) (p : Nat) (x : α), p < l.length → (l.set p x).flatMap f = (l.flatMap f).take (p * sz) ++ f x ++ (l.flatMap f).drop (p * sz + sz)
  | [], p, x, h => by simp at h
  | z :: r, 0, x, _ => by
    rw [List.set_cons_zero, List.flatMap_cons, List.flatMap_cons, Nat.zero_mul, Nat.zero_add, drop_head _ _ _ (hf z)]
    simp
  | z :: r, p + 1, x, h => by
    have e1 : (f z ++ r.flatMap f).take (p * sz + sz) = f z ++ (r.flatMap f).take (p * sz) := by
      rw [show p * sz + sz = (f z).length + p * sz by rw [hf]; omega, List.take_length_add_append]
    have e2 : (f z ++ r.flatMap f).drop (p * sz + sz + sz) = (r.flatMap f).drop (p * sz + sz) := by
      rw [show p * sz + sz + sz = (f z).length + (p * sz + sz) by rw [hf]; omega, List.drop_length_add_append]
    rw [List.set_cons_succ, List.flatMap_cons, List.flatMap_cons, flat_put f sz hf r p x (by simpa using h), Nat.succ_mul, e1, e2]
    simp only [List.append_assoc]

theorem cmpI_swo {α : Type} (f : α → Int) : SWO (ltOf fun x y : α => cmpI (f x) (f y)) := by
  have h : ∀ x y : α, ltOf (fun x y : α => cmpI (f x) (f y)) x y = decide (f x < f y) := fun x y => by
    unfold ltOf cmpI
    by_cases h1 : f x < f y
    · simp [h1]
    · by_cases h2 : f y < f x <;> simp [h1, h2]
  refine ⟨fun x => by rw [h]; simp, fun x y z h1 h2 => by rw [h] at *; simp at *; omega, fun x y z h1 h2 => by rw [h] at *; simp at *; omega⟩

theorem cfA_swo {pol : Int} (hp : pol = 1 ∨ pol = 2) : SWO (ltOf (cfA pol)) := by
  have h : ∀ x y : En, ltOf (cfA pol) x y = true ↔ ltE pol x y := fun x y => by
    unfold ltOf; rw [decide_eq_true_iff]; exact cfA_lt hp x y
  have hf : ∀ x y : En, ltOf (cfA pol) x y = false ↔ ¬ ltE pol x y := fun x y => by rw [← h]; simp
  refine ⟨fun x => (hf x x).2 (by unfold ltE lex; omega), fun x y z h1 h2 => (h x z).2 ?_, fun x y z h1 h2 => (hf x z).2 ?_⟩
  · have a := (h x y).1 h1
    have b := (h y z).1 h2
    unfold ltE lex at *; omega
  · have a := (hf x y).1 h1
    have b := (hf y z).1 h2
    unfold ltE lex at *; omega

theorem permIn_all {α : Type} [Inhabited α] {d d' : Array α} (h : PermIn 0 d.size d d') : d'.toList.Perm d.toList ∧ d'.size = d.size := by
  obtain ⟨h1, -, h2⟩ := h
  rw [Array.extract_size, ← h1, Array.extract_size] at h2
  exact ⟨h2, h1⟩

/-- What sorting leaves: the ranks. -/
theorem ranked_of {l : List Jb} {pol : Int} (hp : pol = 1 ∨ pol = 2) {d' : List En} (hperm : d'.Perm ((List.range l.length).map (enN l))) (hs : ∀ (i j : Nat) (x y : En), i < j → d'[i]? = some x → d'[j]? = some y → ltOf (cfA pol) y x = false) :
    ∃ rk : List Nat, Ranked l pol rk ∧ d' = entsOf l rk (l.map (·.c)) := by
  have hmem : ∀ x ∈ d', ∃ n, n < l.length ∧ x = enN l n := fun x hx => by
    obtain ⟨n, hn, e⟩ := List.mem_map.1 (hperm.mem_iff.1 hx)
    exact ⟨n, by simpa using hn, e.symm⟩
  have hrk : (d'.map (fun x => x.n.toNat)).Perm (List.range l.length) := by
    have := hperm.map (fun x : En => x.n.toNat)
    rw [List.map_map] at this
    have e : ((fun x : En => x.n.toNat) ∘ enN l) = id := funext fun n => by simp [enN]
    rwa [e, List.map_id] at this
  have hnd : (d'.map (fun x => x.n.toNat)).Nodup := hrk.nodup_iff.2 List.nodup_range
  have hat : ∀ p, p < d'.length → ∃ x, d'[p]? = some x ∧ x = enN l (RK (d'.map (fun x => x.n.toNat)) p) ∧ RK (d'.map (fun x => x.n.toNat)) p < l.length := fun p hp' => by
    obtain ⟨n, hn, e⟩ := hmem d'[p] (List.getElem_mem hp')
    refine ⟨d'[p], List.getElem?_eq_getElem hp', ?_⟩
    have : RK (d'.map (fun x => x.n.toNat)) p = n := by
      unfold RK
      rw [List.getD_eq_getElem?_getD, List.getElem?_map, List.getElem?_eq_getElem hp', e]
      simp [enN]
    rw [this]
    exact ⟨e, hn⟩
  refine ⟨d'.map (fun x => x.n.toNat), ⟨hrk, fun p q hpq hq => ?_⟩, ?_⟩
  · rw [List.length_map] at hq
    obtain ⟨x, hx, ex, -⟩ := hat p (by omega)
    obtain ⟨y, hy, ey, -⟩ := hat q hq
    have hl := hs p q x y hpq hx hy
    have hl' : ¬ ltE pol y x := fun h => by
      have h2 := (cfA_lt hp y x).2 h
      unfold ltOf at hl
      simp at hl
      omega
    have hne : RK (d'.map (fun x => x.n.toNat)) p ≠ RK (d'.map (fun x => x.n.toNat)) q := by
      unfold RK
      rw [List.getD_eq_getElem?_getD, List.getD_eq_getElem?_getD, List.getElem?_eq_getElem (by simp; omega), List.getElem?_eq_getElem (by simp; omega)]
      have h9 := List.pairwise_iff_getElem.1 hnd p q (by simp; omega) (by simp; omega) hpq
      simpa using h9
    refine lexJ_total (Ne.symm hne) (fun h => hl' ?_)
    rw [ex, ey]
    exact h
  · apply List.ext_getElem?
    intro p
    by_cases hp' : p < d'.length
    · obtain ⟨x, hx, ex, hlt⟩ := hat p hp'
      rw [hx, ents_at (by simpa using hp'), ex]
      unfold enN L
      rw [List.getD_eq_getElem?_getD, List.getElem?_map]
      unfold J
      rw [List.getD_eq_getElem?_getD, List.getElem?_eq_getElem hlt]
      rfl
    · rw [List.getElem?_eq_none (by omega), List.getElem?_eq_none (by simp [entsOf]; omega)]

theorem lt_of_heapP {W : World} {g : Nat} {o : Obj} (h : W.heap[g]? = some o) : g < W.heap.size := (Array.getElem?_eq_some_iff.1 h).1

set_option maxRecDepth 20000 in
/-- The closure that says who comes first. -/
theorem comesC_any (w : World) (l : List Jb) (pol : Int) (rk : List Nat) (left : List Int) (V K R p q : Nat) (cv tv : Value) (hr : Ranked l pol rk) (hV : w.heap[V]? = some (.cells #[.pointer (some ⟨K, 0, none⟩)] 50 (0, 0))) (hK : w.heap[K]? = some (.cells #[.slice (some ⟨R, 0, none⟩) l.length l.length, cv, tv] 61 (0, 0))) (hR : w.heap[R]? = some (.cells ((entsOf l rk left).flatMap En.vals).toArray 63 (0, 0))) (hp : p < l.length) (hq : q < l.length) :
    Calls Try.prog 30 #[.int .i64 (p : Int), .int .i64 (q : Int), .pointer (some ⟨V, 0, none⟩)] w fun r w' => r = .returned (.int .i64 (cmpI (J l (RK rk p)).a (J l (RK rk q)).a)) ∧ ∃ m, w' = w.drewN m := by
  have cell : ∀ p, p < l.length → w.cell? ⟨R, p * 7 + 1, none⟩ = some (.int .i64 (J l (RK rk p)).a) := fun p hp => by
    refine (cells_of (l := (entsOf l rk left).flatMap En.vals) hR).1 _ _ ?_
    rw [flat_at En.vals 7 En.len _ p 1 _ (ents_at (by rw [hr.len]; exact hp)) (by omega)]
    rfl
  have d1 := cell p hp
  have d2 := cell q hq
  obtain ⟨vs, -, -⟩ := cells_of (l := [_]) hV
  have v0 := vs 0 _ rfl
  obtain ⟨ks, -, -⟩ := cells_of (l := [_, _, _]) hK
  have k0 := ks 0 _ rfl
  have hpi : (p : Int) < (l.length : Int) := by omega
  have hqi : (q : Int) < (l.length : Int) := by omega
  clear cell vs ks hV hK hR
  generalize (J l (RK rk p)).a = A1 at *
  generalize (J l (RK rk q)).a = A2 at *
  go_enter Try.func30, Try.ntmps30
  go_wp2_with fail
  go_quiet (first | (go_at_call 16; exact Calls.quiet_of_same (Compare_any _ A1 A2)))
  go_wp2_with fail
  go_ret
  exact ⟨rfl, nq, rfl⟩

/-- Sorting the ranks. -/
theorem sortEn_any (W : World) (l : List Jb) (pol : Int) (R pb : Nat) (hp : pol = 1 ∨ pol = 2) (hl : l.length ≤ 4000) (hR : W.heap[R]? = some (.cells (((List.range l.length).map (enN l)).flatMap En.vals).toArray 63 (0, 0))) (hpb : W.heap[pb]? = some (.cells #[.int .i64 pol] 3 (0, 0))) (hne : pb ≠ R) :
    Calls Try.prog 26 #[.slice (some ⟨R, 0, none⟩) l.length l.length, .func (.func 27) #[] #[.pointer (some ⟨pb, 0, none⟩)]] W fun r W' => r = .returned (.tuple #[]) ∧ ∃ rk, Ranked l pol rk ∧ W'.heap[R]? = some (.cells ((entsOf l rk (l.map (·.c))).flatMap En.vals).toArray 63 (0, 0)) ∧ W.grownBy W' (some R) := by
  haveI := enInh
  have eg : ∀ args w, (callFunc 27 args).run Try.prog w = .ok (.enter 27 args) w := enters_of Try.func27 (by kernel_rfl) rfl
  have hdl : ((List.range l.length).map (enN l)).toArray.size = l.length := by simp
  have hcmp : CmpLays Try.prog 27 #[.pointer (some ⟨pb, 0, none⟩)] En.vals 7 (cfA pol) R 0 ((List.range l.length).map (enN l)).toArray.size W := fun m os dk _ x y => by
    have hc : (sortWorldK En.vals 7 W R 0 m dk os).cell? ⟨pb, 0, none⟩ = some (.int .i64 pol) := by
      have hb := (sortedK_keep En.vals 7 (w := W) (g := R) (n := m) (os := os) dk).block pb (lt_of_heapP hpb) (fun e => hne (Option.some.inj e))
      exact (cells_of (l := [_]) (hb.trans hpb)).1 0 _ rfl
    refine (aheadC_any _ pol pb x y hc).mono ?_
    rintro r w' ⟨rfl, q, os', rfl⟩
    exact ⟨rfl, q, os', rfl⟩
  have h := AnyQ.slices_SortFunc lay_sortEn 7 Try.isAgg63 Try.sizeOf63 En.vals En.len (fun x u hu => En.one hu) (cfA pol) (cfA_swo hp) 27 #[.pointer (some ⟨pb, 0, none⟩)] R 0 l.length ((List.range l.length).map (enN l)).toArray W eg hcmp (holdsK_of En.vals 7 En.len (by omega) _ (by simpa using hR)) (lt_of_heapP hR) (by rw [hdl]; omega)
  rw [hdl] at h
  change Calls Try.prog 26 _ _ _ at h
  refine h.mono ?_
  rintro r W' ⟨rfl, d', n, os, hperm, hs, rfl⟩
  obtain ⟨hp1, hp2⟩ := permIn_all (by rw [hdl]; exact hperm)
  rw [hdl] at hp2
  obtain ⟨rk, hrk, e⟩ := ranked_of (d' := d'.toList) hp hp1 (fun i j x y hij hi hj => by
    obtain ⟨hi1, hi2⟩ := List.getElem?_eq_some_iff.1 hi
    obtain ⟨hj1, hj2⟩ := List.getElem?_eq_some_iff.1 hj
    have hi1' : i < d'.size := by simpa using hi1
    have hj1' : j < d'.size := by simpa using hj1
    have := hs i j (Nat.zero_le _) hij (by omega)
    rw [getElem!_pos d' i hi1', getElem!_pos d' j hj1'] at this
    rw [← hi2, ← hj2]
    simpa using this)
  refine ⟨rfl, rk, hrk, ?_, sortedK_keep En.vals 7 d'⟩
  rw [sortedK_heap En.vals 7 En.len (by omega) d' hR (by rw [List.size_toArray, flat_length En.vals 7 En.len, List.length_map, List.length_range, hp2]), e]
end Go.Proofs.Ythhkmgafacmjpag
