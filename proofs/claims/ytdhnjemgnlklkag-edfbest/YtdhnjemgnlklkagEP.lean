import Derived.Test.YtdhnjemgnlklkagES
import Derived.Test.YtdhnjemgnlklkagEX
import Derived.Test.YtdhnjemgnlklkagPB
import Derived.Shelf.SlSortCmp.WholeK
import Derived.Shelf.SlSortCmp.NoneTotal
import Derived.Shelf.Slices.In.SortNone
namespace Go.Proofs.Ytdhnjemgnlklkag
open Go.ChangeShapes Go.WideShapes Go.ChangeAt Go.RowKit Go.Sort

theorem eflatK {α : Type} [Inhabited α] (enc : α → List Value) (k : Nat) (hk : ∀ x, (enc x).length = k) (k0 : 0 < k) (d : Array α) : flatK enc k d = (d.toList.flatMap enc).toArray := by
  refine ext_get! (by simp only [size_flatK, List.size_toArray]; rw [flat_length enc k hk]; simp) fun t ht => ?_
  have ht' : t < d.size * k := by simpa using ht
  rw [get_flatK _ _ _ t ht']
  have hj : t / k < d.size := Nat.div_lt_of_lt_mul (by rw [Nat.mul_comm]; exact ht')
  have hm : t % k < k := Nat.mod_lt _ k0
  have := flat_at enc k hk d.toList (t / k) (t % k) d[t / k] (by simp [hj]) hm
  rw [Nat.mul_comm (t / k) k, Nat.div_add_mod] at this
  rw [getElem!_pos d _ hj]
  have e1 : (d.toList.flatMap enc).toArray[t]! = ((d.toList.flatMap enc)[t]?).getD default := by
    simp [Array.getElem!_eq_getD, Array.getD_eq_getD_getElem?]
  rw [e1, this, List.getElem?_eq_getElem (by rw [hk]; exact hm)]
  simp [hk, hm]

theorem ekeep {α : Type} [Inhabited α] (enc : α → Value) {w : World} {g n : Nat} {os : Array Obj} (d : Array α) : w.grownBy (grow (putRow enc (Sort.ahead w n) g 0 d) os) (some g) := by
  refine ⟨rfl, rfl, rfl, by simp, fun k hk hne => ?_⟩
  rw [heap_grow_old _ _ (by simpa using hk)]
  have : g ≠ k := fun e => hne (by rw [e])
  simp [putRow, mapBlock, Sort.ahead, Array.getElem?_modify, this]

theorem grownRow_below {a b : World} {row : Option Nat} {B : Nat} (h : a.grownBy b row) (hB : B ≤ a.heap.size) (hr : ∀ q, row = some q → B ≤ q) : Below B a b :=
  (Below.refl _ a).grown h hB hr

/- Rows of jobs and of numbers, held. -/
theorem holdsJ_of [Inhabited Jb] {w : World} {B g cap : Nat} {l : List Jb} (h : w.ownsRow B 30 5 (.slice (some ⟨g, 0, none⟩) l.length cap) l.length (l.flatMap Jb.vals)) : HoldsK Jb.vals 5 w g 0 l.toArray := by
  unfold HoldsK
  rw [eflatK Jb.vals 5 Jb.len (by omega)]
  intro j hj
  have hj' : j < (l.flatMap Jb.vals).length := by simpa using hj
  have hl := flat_length Jb.vals 5 Jb.len l
  refine ⟨?_, by rw [Nat.zero_add]; exact h.frozenAt j⟩
  rw [Nat.zero_add, h.cellAt j (by omega), List.getElem?_eq_getElem hj']
  have e2 : (l.toArray.toList.flatMap Jb.vals).toArray[j]! = (l.flatMap Jb.vals)[j] := getElem!_pos (l.flatMap Jb.vals).toArray j (by simpa using hj')
  rw [e2]
  rfl

theorem rowJ_of [Inhabited Jb] {w : World} {g n cap : Nat} {l : List Jb} (hn : n = l.length) (hc : n ≤ cap) (h : HoldsK Jb.vals 5 w g 0 l.toArray) : RowSl Jb.vals w l (.slice (some ⟨g, 0, none⟩) n cap) := by
  subst hn
  refine ⟨_, cap, rfl, (fun e => by cases e), hc, .inr ⟨g, 0, rfl, fun q u hq => ?_⟩⟩
  have hq' := (List.getElem?_eq_some_iff.1 hq).1
  have h9 := (h q (by rw [eflatK Jb.vals 5 Jb.len (by omega)]; simpa using hq')).1
  rw [eflatK Jb.vals 5 Jb.len (by omega)] at h9
  have e2 : (l.toArray.toList.flatMap Jb.vals).toArray[q]! = (l.flatMap Jb.vals)[q] := getElem!_pos (l.flatMap Jb.vals).toArray q (by simpa using hq')
  rw [e2] at h9
  rw [h9, ← hq, List.getElem?_eq_getElem hq']
  rfl

theorem flatN (xs : List Int) : xs.flatMap nuV = xs.map (Value.int .i64) := by
  induction xs with
  | nil => rfl
  | cons x r ih => rw [List.flatMap_cons, ih]; rfl

theorem holdsN_of {w : World} {B g cap : Nat} {xs : List Int} (h : w.ownsRow B 3 1 (.slice (some ⟨g, 0, none⟩) xs.length cap) xs.length (xs.flatMap nuV)) : Holds (Value.int .i64) w g 0 xs.toArray := by
  intro j hj
  have hj' : j < xs.length := by simpa using hj
  refine ⟨?_, by rw [Nat.zero_add]; exact h.frozenAt j⟩
  rw [Nat.zero_add, h.cellAt j (by omega), flatN, List.getElem?_map, List.getElem?_eq_getElem hj']
  have e2 : xs.toArray[j]! = xs[j] := getElem!_pos xs.toArray j (by simpa using hj')
  rw [e2]
  rfl

theorem rowN_of {w : World} {g n cap : Nat} {xs ys : List Int} (hn : n = xs.length) (hc : n ≤ cap) (h : Holds (Value.int .i64) w g 0 (xs ++ ys).toArray) : RowSl nuV w xs (.slice (some ⟨g, 0, none⟩) n cap) := by
  subst hn
  refine ⟨_, cap, rfl, (fun e => by cases e), hc, .inr ⟨g, 0, rfl, fun q u hq => ?_⟩⟩
  rw [flatN, List.getElem?_map] at hq
  have hq' : q < xs.length := by
    apply Classical.byContradiction
    intro hn
    rw [List.getElem?_eq_none (by omega)] at hq
    cases hq
  have h9 := (h q (by simp; omega)).1
  have e2 : (xs ++ ys).toArray[q]! = xs[q] := by
    rw [getElem!_pos (xs ++ ys).toArray q (by simp; omega)]
    simp [hq']
  rw [e2] at h9
  rw [h9, ← hq, List.getElem?_eq_getElem hq']
  rfl

/- slices.Clone of jobs. -/
set_option maxRecDepth 100000 in
set_option maxHeartbeats 2000000 in
theorem clone_zero (w : World) (a : Addr) (c : Nat) : Calls Try.prog 13 #[.slice (some a) 0 c] w fun e w' => ∃ v', e = .returned v' ∧ w'.ownsRow w.heap.size 30 5 v' 0 [] ∧ Below w.heap.size w w' := by
  obtain ⟨i0, hi, hz0, hz1, hz2⟩ := info_parts infoJb
  have q22 : ∀ (w : World) (a : Option Addr) (n c n' c' : Nat), (binOp .eql 22 (.slice a n c) (.slice none n' c')).run Try.prog w = .ok (.bool a.isNone) w := fun w a n c n' c' => Lib.run_eql_slice_nil w _ _ a n c n' c' Try.underlying22
  go_enter Try.func13, Try.ntmps13
  go_wp2_with (at_builtin; refine wpList_append_own _ rfl _ _ 22 rfl w.heap.size 30 i0 (.agg #[.int .i64 0, .int .i64 0, .int .i64 0, .int .i64 0, .int .i64 0]) 5 40 Try.underlying22 hi hz0 hz1 hz2 rfl (by decide) _ _ _ rfl (World.ownsRow_made w #[] 0 (Nat.le_refl _) (Nat.zero_le _) rfl) a 0 c [] rfl rfl (by intro j u hj; simp at hj) (by intro u hu; cases hu) (by unfold maxLen; omega) (by omega) (by simp) ?_)
  intro v' w1 hown hgrow hnil
  go_wp2
  go_ret
  refine ⟨v', rfl, by simpa using hown, ?_⟩
  exact ((Below.refl _ w).alloc (Nat.le_refl _) _).grown hgrow (by simp) (by intro k hk; simp [Value.ownBlock] at hk; omega)

theorem cloneJ_any (w : World) (l : List Jb) (v : Value) (hv : RowSl Jb.vals w l v) (hl : l.length ≤ 100000) : Calls Try.prog 13 #[v] w fun r w' => ∃ v', r = .returned v' ∧ w'.ownsRow w.heap.size 30 5 v' l.length (l.flatMap Jb.vals) ∧ Below w.heap.size w w' := by
  obtain ⟨ad, c, rfl, h1, h2, h3⟩ := hv
  rcases ad with _ | A
  · obtain ⟨h9, rfl⟩ := h1 rfl
    have hnil : l = [] := List.eq_nil_of_length_eq_zero h9
    subst hnil
    have h := AnyE.slices_Clone_nil lay_cloneJb 0 0 w
    change Calls Try.prog 13 _ _ _ at h
    refine h.mono ?_
    rintro r w' ⟨rfl, rfl⟩
    exact ⟨_, rfl, World.ownsRow_nil _ _ _ _, Below.refl _ _⟩
  · rcases h3 with rfl | ⟨b, o, e, hc⟩
    · refine (clone_zero w A c).mono ?_
      rintro r w' ⟨v', rfl, ho, hb⟩
      exact ⟨v', rfl, ho, hb⟩
    · cases e
      obtain ⟨i0, hi0, hz0, hz1, hz2⟩ := info_parts infoJb
      have h := AnyE.slices_Clone lay_cloneJb i0 _ 5 40 hi0 hz0 hz1 hz2 rfl (by omega) Try.sizeOf30 b o l.length c (l.flatMap Jb.vals) w (flat_length Jb.vals 5 Jb.len l) (by unfold maxLen; omega) (by omega) hc (fun u hu => flatOneJb hu)
      change Calls Try.prog 13 _ _ _ at h
      refine h.mono ?_
      rintro r w' ⟨v', rfl, ho, -, hb⟩
      exact ⟨v', rfl, ho, hb⟩

/- slices.SortFunc of jobs, by their dues. -/
set_option maxRecDepth 20000 in
theorem dueC_any (w : World) (x y : Jb) : Calls Try.prog 15 #[.agg #[.int .i64 x.k, .int .i64 x.a, .int .i64 x.c, .int .i64 x.d, .int .i64 x.p], .agg #[.int .i64 y.k, .int .i64 y.a, .int .i64 y.c, .int .i64 y.d, .int .i64 y.p]] w fun r w' => r = .returned (.int .i64 (cmpI x.d y.d)) ∧ Grown w w' := by
  obtain ⟨xk, xa, xc, xd, xp⟩ := x
  obtain ⟨yk, ya, yc, yd, yp⟩ := y
  dsimp only
  go_enter Try.func15, Try.ntmps15
  go_wp2_with (go_at_call 16; refine (Compare_any _ xd yd).mono ?_; rintro r w3 ⟨rfl, hw3⟩; subst hw3)
  go_ret
  exact ⟨rfl, ((Grown.refl w).alloc _).alloc _⟩

theorem due_swo : SWO (ltOf fun x y : Jb => cmpI x.d y.d) := by
  have h : ∀ x y : Jb, ltOf (fun x y : Jb => cmpI x.d y.d) x y = decide (x.d < y.d) := fun x y => by
    unfold ltOf cmpI
    by_cases h1 : x.d < y.d
    · simp [h1]
    · by_cases h2 : y.d < x.d <;> simp [h1, h2]
  refine ⟨fun x => by rw [h]; simp, fun x y z h1 h2 => by rw [h] at *; simp at *; omega, fun x y z h1 h2 => by rw [h] at *; simp at *; omega⟩

theorem epermIn {α : Type} [Inhabited α] {d d' : Array α} (h : PermIn 0 d.size d d') : d'.toList.Perm d.toList ∧ d'.size = d.size := by
  obtain ⟨h1, -, h2⟩ := h
  rw [Array.extract_size, ← h1, Array.extract_size] at h2
  exact ⟨h2, h1⟩

theorem sortJ_any (W : World) (B : Nat) (l : List Jb) (v : Value) (h : W.ownsRow B 30 5 v l.length (l.flatMap Jb.vals)) (hl : l.length ≤ 100000) :
    Calls Try.prog 14 #[v, .func (.func 15) #[] #[]] W fun r W' => r = .returned (.tuple #[]) ∧ ∃ l', l'.Perm l ∧ l'.Pairwise (fun x y => x.d ≤ y.d) ∧ RowSl Jb.vals W' l' v ∧ W.grownBy W' v.ownBlock := by
  haveI : Inhabited Jb := ⟨⟨0, 0, 0, 0, 0⟩⟩
  have h' := h
  obtain ⟨-, ⟨rfl, h0⟩ | ⟨g, cap, cur, rfl, hB, hg, hcap, hm, hcs, htk⟩⟩ := h
  · have hnil : l = [] := List.eq_nil_of_length_eq_zero h0
    subst hnil
    have h9 := AnyF.slices_SortFunc_none { lay_sortJb with } none 0 (.func (.func 15) #[] #[]) W
    change Calls Try.prog 14 _ _ _ at h9
    refine h9.mono ?_
    rintro r W' ⟨rfl, rfl⟩
    exact ⟨rfl, [], List.Perm.refl _, List.Pairwise.nil, RowSl.nil _ _, ⟨rfl, rfl, rfl, Nat.le_refl _, fun _ _ _ => rfl⟩⟩
  · have eg : ∀ args w, (callFunc 15 args).run Try.prog w = .ok (.enter 15 args) w := enters_of Try.func15 (by kernel_rfl) rfl
    have hlt : g < W.heap.size := (Array.getElem?_eq_some_iff.1 hg).1
    have hdl : l.toArray.size = l.length := by simp
    have hcmp : CmpLays Try.prog 15 #[] Jb.vals 5 (fun x y => cmpI x.d y.d) g 0 l.toArray.size W := fun m os dk _ x y => by
      refine (dueC_any _ x y).mono ?_
      rintro r w' ⟨rfl, q, os', rfl⟩
      exact ⟨rfl, q, os', rfl⟩
    have h9 := AnyQ.slices_SortFunc lay_sortJb 5 Try.isAgg30 Try.sizeOf30 Jb.vals Jb.len (fun x u hu => Jb.one hu) (fun x y => cmpI x.d y.d) due_swo 15 #[] g 0 cap l.toArray W eg hcmp (holdsJ_of h') hlt (by rw [hdl]; omega)
    rw [hdl] at h9
    change Calls Try.prog 14 _ _ _ at h9
    refine h9.mono ?_
    rintro r W' ⟨rfl, d', n, os, hperm, hs, rfl⟩
    obtain ⟨hp1, hp2⟩ := epermIn (by rw [hdl]; exact hperm)
    rw [hdl] at hp2
    refine ⟨rfl, d'.toList, hp1, ?_, ?_, ekeep id _⟩
    · rw [List.pairwise_iff_getElem]
      intro i j hi hj hij
      have hi1' : i < d'.size := by simpa using hi
      have hj1' : j < d'.size := by simpa using hj
      have := hs i j (Nat.zero_le _) hij (by omega)
      rw [getElem!_pos d' i hi1', getElem!_pos d' j hj1'] at this
      unfold ltOf cmpI at this
      simp at this
      split at this
      · simp at this
      · simp only [Array.getElem_toList]; omega
    · refine rowJ_of (by simp [hp2]) hcap ?_
      have e1 := holdsK_putRowK Jb.vals 5 (Sort.ahead W n) g 0 l.toArray d' (holdsK_ahead Jb.vals 5 W n g 0 l.toArray (holdsJ_of h')) (by rw [hp2, hdl])
      have e2 := holdsK_grow Jb.vals 5 (putRowK Jb.vals 5 (Sort.ahead W n) g 0 d') os g 0 d' (by
        have : (putRowK Jb.vals 5 (Sort.ahead W n) g 0 d').heap.size = W.heap.size := by simp [putRowK, putRow, mapBlock, Sort.ahead]
        omega) e1
      exact e2

/- slices.Sort and slices.Compact of numbers. -/
theorem compact_sub (zs : List Int) : (Lib.compact zs).Sublist zs := by
  unfold Lib.compact Lib.compactUpTo
  have h := (List.filter_sublist (p := Lib.keeps zs.toArray) (l := List.range zs.length)).map (zs.toArray[·]!)
  have e := Lib.range_map_get zs.toArray
  simp only [List.size_toArray] at e
  rw [e] at h
  exact h

theorem compact_mem (zs : List Int) (z : Int) : z ∈ Lib.compact zs ↔ z ∈ zs := by
  refine ⟨fun h => (compact_sub zs).subset h, fun h => ?_⟩
  obtain ⟨i, hi, rfl⟩ := List.getElem_of_mem h
  have key : ∀ j (hj : j < zs.length), zs[j] ∈ Lib.compact zs := by
    intro j
    induction j with
    | zero =>
      intro hj
      unfold Lib.compact Lib.compactUpTo
      refine List.mem_map.2 ⟨0, List.mem_filter.2 ⟨List.mem_range.2 hj, Lib.keeps_lt_one _ 0 (by omega)⟩, ?_⟩
      exact getElem!_pos zs.toArray 0 (by simpa using hj)
    | succ j ih =>
      intro hj
      have e1 : zs.toArray[j + 1]! = zs[j + 1] := getElem!_pos zs.toArray (j + 1) (by simpa using hj)
      have e0 : zs.toArray[j]! = zs[j] := getElem!_pos zs.toArray j (by simp; omega)
      by_cases he : zs[j + 1] = zs[j]
      · rw [he]; exact ih (by omega)
      · unfold Lib.compact Lib.compactUpTo
        refine List.mem_map.2 ⟨j + 1, List.mem_filter.2 ⟨List.mem_range.2 hj, Lib.keeps_pos ?_⟩, e1⟩
        rw [Nat.add_sub_cancel, e1, e0]
        exact he
  exact key i hi

theorem sortNE_any (W : World) (B : Nat) (xs : List Int) (v : Value) (h : W.ownsRow B 3 1 v xs.length (xs.flatMap nuV)) (hl : xs.length ≤ 100000) :
    Calls Try.prog 25 #[v] W fun r W' => r = .returned (.tuple #[]) ∧ ∃ ys : List Int, ys.Perm xs ∧ ys.Pairwise (fun x y => x ≤ y) ∧ ((v = .slice none 0 0 ∧ ys = []) ∨ ∃ g cap, v = .slice (some ⟨g, 0, none⟩) ys.length cap ∧ B ≤ g ∧ g < W.heap.size ∧ ys.length ≤ cap ∧ Holds (Value.int .i64) W' g 0 ys.toArray) ∧ W.grownBy W' v.ownBlock := by
  have h' := h
  obtain ⟨-, ⟨rfl, h0⟩ | ⟨g, cap, cur, rfl, hB, hg, hcap, hm, hcs, htk⟩⟩ := h
  · have hnil : xs = [] := List.eq_nil_of_length_eq_zero h0
    subst hnil
    have h9 := Any.slices_Sort_int_none lay_sortNu none 0 W
    change Calls Try.prog 25 _ _ _ at h9
    refine h9.mono ?_
    rintro r W' ⟨rfl, rfl⟩
    exact ⟨rfl, [], List.Perm.refl _, List.Pairwise.nil, .inl ⟨rfl, rfl⟩, ⟨rfl, rfl, rfl, Nat.le_refl _, fun _ _ _ => rfl⟩⟩
  · have hlt : g < W.heap.size := (Array.getElem?_eq_some_iff.1 hg).1
    have h9 := Any.slices_Sort_int lay_sortNu g 0 cap xs W (holdsN_of h') hlt (by omega)
    change Calls Try.prog 25 _ _ _ at h9
    refine h9.mono ?_
    rintro r W' ⟨rfl, n, os, rfl⟩
    have hp : (xs.mergeSort fun x y => decide (x ≤ y)).Perm xs := List.mergeSort_perm _ _
    have hs : (xs.mergeSort fun x y => decide (x ≤ y)).Pairwise (fun x y => x ≤ y) := by
      have := List.pairwise_mergeSort (le := fun x y : Int => decide (x ≤ y)) (fun a b c h1 h2 => by simp at *; omega) (fun a b => by simp; omega) xs
      exact this.imp (fun h => by simpa using h)
    refine ⟨rfl, _, hp, hs, .inr ⟨g, cap, by rw [hp.length_eq], hB, hlt, by rw [hp.length_eq]; exact hcap, ?_⟩, ekeep _ _⟩
    have e1 := holds_putRow (Value.int .i64) (Sort.ahead W n) g 0 xs.toArray (xs.mergeSort fun x y => decide (x ≤ y)).toArray (holdsN_of h') (by simp)
    exact holds_grow (Value.int .i64) _ os g 0 _ (by
      have : (putRow (Value.int .i64) (Sort.ahead W n) g 0 (xs.mergeSort fun x y => decide (x ≤ y)).toArray).heap.size = W.heap.size := by simp [putRow, mapBlock, Sort.ahead]
      omega) e1

theorem compactN_any (W : World) (ys : List Int) (v : Value) (h : (v = .slice none 0 0 ∧ ys = []) ∨ ∃ g cap, v = .slice (some ⟨g, 0, none⟩) ys.length cap ∧ ys.length ≤ cap ∧ Holds (Value.int .i64) W g 0 ys.toArray) (hl : ys.length ≤ 100000) :
    Calls Try.prog 26 #[v] W fun r W' => ∃ v', r = .returned v' ∧ RowSl nuV W' (Lib.compact ys) v' ∧ W.grownBy W' v.ownBlock := by
  rcases h with ⟨rfl, rfl⟩ | ⟨g, cap, rfl, hcap, hH⟩
  · have h9 := Any.slices_Compact_int_empty lay_compactNu none 0 W
    change Calls Try.prog 26 _ _ _ at h9
    refine h9.mono ?_
    rintro r W' ⟨rfl, rfl⟩
    exact ⟨_, rfl, RowSl.nil _ _, ⟨rfl, rfl, rfl, Nat.le_refl _, fun _ _ _ => rfl⟩⟩
  · have h9 := Any.slices_Compact_int lay_compactNu g 0 cap ys W hH (by omega) hcap
    change Calls Try.prog 26 _ _ _ at h9
    refine h9.mono ?_
    rintro r W' ⟨rfl, q, rfl⟩
    have hle : (Lib.compact ys).length ≤ ys.length := (compact_sub ys).length_le
    refine ⟨_, rfl, rowN_of rfl (by omega) (holds_putRow (Value.int .i64) (Sort.ahead W q) g 0 ys.toArray _ hH (by simp; omega)), ?_⟩
    have := ekeep (n := q) (os := #[]) (w := W) (g := g) (Value.int .i64) (Lib.compact ys ++ List.replicate (ys.length - (Lib.compact ys).length) 0).toArray
    rw [grow_empty] at this
    exact this

end Go.Proofs.Ytdhnjemgnlklkag
