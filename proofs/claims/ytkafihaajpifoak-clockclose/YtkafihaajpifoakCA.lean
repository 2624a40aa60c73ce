import Derived.Test.YtkafihaajpifoakBA
import Derived.Test.YtkafihaajpifoakCS
import Derived.Shelf.Slices.In.SortNone
import Derived.Laws.AppendOwnNone
namespace Go.Proofs.Ytkafihaajpifoak
open Go.ChangeShapes Go.WideShapes Go.ChangeAt Go.RowKit Go.Sort

/- Which is the first. -/
def idxI (P : Int → Bool) : List Int → Nat → Int
  | [], _ => -1
  | x :: r, i => if P x = true then (i : Int) else idxI P r (i + 1)

theorem idxI_find {P : Int → Bool} : ∀ (xs : List Int) (i : Nat), (xs.findIdx? P = none ∧ idxI P xs i = -1) ∨ (∃ a, xs.findIdx? P = some a ∧ a < xs.length ∧ idxI P xs i = ((a + i : Nat) : Int))
  | [], i => .inl ⟨rfl, rfl⟩
  | x :: r, i => by
    rw [List.findIdx?_cons, idxI]
    rcases hp : P x with _ | _
    · rcases idxI_find (P := P) r (i + 1) with ⟨h1, h2⟩ | ⟨a, h1, h2, h3⟩
      · exact .inl ⟨by rw [h1]; rfl, by simpa using h2⟩
      · exact .inr ⟨a + 1, by rw [h1]; rfl, by simpa using h2, by rw [show a + 1 + i = a + (i + 1) by omega, ← h3]; simp⟩
    · exact .inr ⟨0, by simp, by simp, by simp⟩

set_option maxRecDepth 20000 in
set_option maxHeartbeats 2000000 in
theorem index28_any (w : World) (xs : List Int) (v : Value) (P : Int → Bool) (hl : xs.length ≤ 1000000) (hv : RowSl nuV w xs v) (HA : ∀ W, Below w.heap.size w W → ∀ x ∈ xs, Calls Try.prog 13 #[.int .i64 x] W fun r w' => r = .returned (.bool (P x)) ∧ Below W.heap.size W w') :
    Calls Try.prog 17 #[v, .func (Fn.func 13) #[] #[]] w fun r w' => r = .returned (.int .i64 (idxI P xs 0)) ∧ Below w.heap.size w w' := by
  obtain ⟨ad, c, rfl, -, hcap, hrow⟩ := hv
  have HR : Hid (xs = [] ∨ ∃ b o, ad = some ⟨b, o, none⟩ ∧ ∀ q u, (xs.flatMap nuV)[q]? = some u → w.cell? ⟨b, o + q, none⟩ = some u) := hrow
  have HH : Hid (∀ W, Below w.heap.size w W → ∀ x ∈ xs, Calls Try.prog 13 #[.int .i64 x] W fun r w' => r = .returned (.bool (P x)) ∧ Below W.heap.size W w') := HA
  clear hrow HA
  go_enter Try.func17, Try.ntmps17
  go_wp2_with fail
  go_loopw [8] (fun i wr => ∃ j : Nat, j ≤ xs.length ∧ i = .int .i64 j ∧ Below w.heap.size w wr ∧ idxI P (xs.drop j) j = idxI P xs 0) (fun i _ => xs.length - (intOf i).toNat)
  case atStart => exact ⟨0, Nat.zero_le _, rfl, Below.refl _ _, rfl⟩
  case round =>
    obtain ⟨j, hj, rfl, hg, hac⟩ := hrel
    have HG : Hid (Below w.heap.size w wr) := hg
    by_cases hjl : j < xs.length
    · obtain ⟨x, hx, hd⟩ := drop_at hjl
      rcases HR.out with h | ⟨gb, go, rfl, hr1⟩
      · rw [h] at hjl; simp at hjl
      have y0 := nu_at (fun q u hq => below_cell hg (hr1 q u hq)) hx
      have HC := HH.out wr hg x (List.mem_of_getElem? hx)
      have hji : (j : Int) < (xs.length : Int) := by omega
      rw [hd, idxI] at hac
      rcases hp : P x with _ | _
      · rw [hp] at hac HC
        have hac' : idxI P (xs.drop (j + 1)) (j + 1) = idxI P xs 0 := by simpa using hac
        have HE : Hid (idxI P (xs.drop (j + 1)) (j + 1) = idxI P xs 0) := hac'
        clear hac'
        clear hac hd hr1 hx hg hp
        go_wp2_with (go_at_call 13; refine HC.mono ?_; rintro r w5 ⟨rfl, hb5⟩; have H5 : Hid (Below w.heap.size w w5) := below_seq HG.out hb5; clear hb5 HC)
        exact ⟨⟨j + 1, by omega, by simp, H5.out, HE.out⟩, by simp [intOf]; omega⟩
      · rw [hp] at hac HC
        have hac' : (j : Int) = idxI P xs 0 := by simpa using hac
        have HE : Hid ((j : Int) = idxI P xs 0) := hac'
        clear hac'
        clear hac hd hr1 hx hg hp
        go_wp2_with (go_at_call 13; refine HC.mono ?_; rintro r w5 ⟨rfl, hb5⟩; have H5 : Hid (Below w.heap.size w w5) := below_seq HG.out hb5; clear hb5 HC)
        go_ret
        rw [← HE.out]
        exact ⟨rfl, H5.out⟩
    · have hje : j = xs.length := by omega
      subst hje
      have HE : Hid ((-1 : Int) = idxI P xs 0) := by rw [List.drop_length] at hac; exact hac
      clear hac hg
      go_wp2_with fail
      go_ret
      rw [← HE.out]
      exact ⟨rfl, HG.out⟩


theorem ekeep {α : Type} [Inhabited α] (enc : α → Value) {w : World} {g n : Nat} {os : Array Obj} (d : Array α) : w.grownBy (grow (putRow enc (Sort.ahead w n) g 0 d) os) (some g) := by
  refine ⟨rfl, rfl, rfl, by simp, fun k hk hne => ?_⟩
  rw [heap_grow_old _ _ (by simpa using hk)]
  have : g ≠ k := fun e => hne (by rw [e])
  simp [putRow, mapBlock, Sort.ahead, Array.getElem?_modify, this]

theorem grownRow_below {a b : World} {row : Option Nat} {B : Nat} (h : a.grownBy b row) (hB : B ≤ a.heap.size) (hr : ∀ q, row = some q → B ≤ q) : Below B a b :=
  (Below.refl _ a).grown h hB hr

theorem flatN (xs : List Int) : xs.flatMap nuV = xs.map (Value.int .i64) := by
  induction xs with
  | nil => rfl
  | cons x r ih => rw [List.flatMap_cons, ih]; rfl

theorem holdsN_of {w : World} {B g cap : Nat} {xs : List Int} (h : w.ownsRow B 3 1 (.slice (some ⟨g, 0, none⟩) xs.length cap) xs.length (xs.flatMap nuV)) : Holds (Value.int .i64) w g 0 xs.toArray := by
  intro j hj
  have hj' : j < xs.length := by simpa using hj
  refine ⟨?_, by rw [Nat.zero_add]; exact h.frozenAt j⟩
  rw [Nat.zero_add, h.cellAt j (by omega), flatN, List.getElem?_map, List.getElem?_eq_getElem hj']
  have e2 : xs.toArray[j]! = xs[j] := getElem!_pos xs.toArray j (by simpa using hj')
  rw [e2]
  rfl

theorem rowN_of {w : World} {g n cap : Nat} {xs ys : List Int} (hn : n = xs.length) (hc : n ≤ cap) (h : Holds (Value.int .i64) w g 0 (xs ++ ys).toArray) : RowSl nuV w xs (.slice (some ⟨g, 0, none⟩) n cap) := by
  subst hn
  refine ⟨_, cap, rfl, (fun e => by cases e), hc, .inr ⟨g, 0, rfl, fun q u hq => ?_⟩⟩
  rw [flatN, List.getElem?_map] at hq
  have hq' : q < xs.length := by
    apply Classical.byContradiction
    intro hn
    rw [List.getElem?_eq_none (by omega)] at hq
    cases hq
  have h9 := (h q (by simp; omega)).1
  have e2 : (xs ++ ys).toArray[q]! = xs[q] := by
    rw [getElem!_pos (xs ++ ys).toArray q (by simp; omega)]
    simp [hq']
  rw [e2] at h9
  rw [h9, ← hq, List.getElem?_eq_getElem hq']
  rfl


theorem infoNu : (Try.prog.info? 3).map (fun i => (i.zero, i.size, i.bytes)) = some (some (.int .i64 0), 1, 8) := by kernel_rfl

theorem flatOneNu {l : List Int} {u : Value} (h : u ∈ l.flatMap nuV) : u.oneCell' = true := by
  rw [flatN] at h
  obtain ⟨x, -, rfl⟩ := List.mem_map.1 h
  rfl

set_option maxRecDepth 100000 in
set_option maxHeartbeats 2000000 in
theorem cloneN_zero (w : World) (a : Addr) (c : Nat) : Calls Try.prog 15 #[.slice (some a) 0 c] w fun e w' => ∃ v', e = .returned v' ∧ w'.ownsRow w.heap.size 3 1 v' 0 [] ∧ Below w.heap.size w w' := by
  obtain ⟨i0, hi, hz0, hz1, hz2⟩ := info_parts infoNu
  have q24 : ∀ (w : World) (a : Option Addr) (n c n' c' : Nat), (binOp .eql 22 (.slice a n c) (.slice none n' c')).run Try.prog w = .ok (.bool a.isNone) w := fun w a n c n' c' => Lib.run_eql_slice_nil w _ _ a n c n' c' Try.underlying22
  go_enter Try.func15, Try.ntmps15
  go_wp2_with (at_builtin; refine wpList_append_own _ rfl _ _ 22 rfl w.heap.size 3 i0 (.int .i64 0) 1 8 Try.underlying22 hi hz0 hz1 hz2 rfl (by decide) _ _ _ rfl (World.ownsRow_made w #[] 0 (Nat.le_refl _) (Nat.zero_le _) rfl) a 0 c [] rfl rfl (by intro j u hj; simp at hj) (by intro u hu; cases hu) (by unfold maxLen; omega) (by omega) (by simp) ?_)
  intro v' w1 hown hgrow hnil
  go_wp2
  go_ret
  refine ⟨v', rfl, by simpa using hown, ?_⟩
  exact ((Below.refl _ w).alloc (Nat.le_refl _) _).grown hgrow (by simp) (by intro k hk; simp [Value.ownBlock] at hk; omega)

theorem cloneN_any (w : World) (l : List Int) (v : Value) (hv : RowSl nuV w l v) (hl : l.length ≤ 100000) : Calls Try.prog 15 #[v] w fun r w' => ∃ v', r = .returned v' ∧ w'.ownsRow w.heap.size 3 1 v' l.length (l.flatMap nuV) ∧ Below w.heap.size w w' := by
  obtain ⟨ad, c, rfl, h1, h2, h3⟩ := hv
  rcases ad with _ | A
  · obtain ⟨h9, rfl⟩ := h1 rfl
    have hnil : l = [] := List.eq_nil_of_length_eq_zero h9
    subst hnil
    have h := AnyE.slices_Clone_nil lay_cloneNu 0 0 w
    change Calls Try.prog 15 _ _ _ at h
    refine h.mono ?_
    rintro r w' ⟨rfl, rfl⟩
    exact ⟨_, rfl, World.ownsRow_nil _ _ _ _, Below.refl _ _⟩
  · rcases h3 with rfl | ⟨b, o, e, hc⟩
    · refine (cloneN_zero w A c).mono ?_
      rintro r w' ⟨v', rfl, ho, hb⟩
      exact ⟨v', rfl, ho, hb⟩
    · cases e
      obtain ⟨i0, hi0, hz0, hz1, hz2⟩ := info_parts infoNu
      have h := AnyE.slices_Clone lay_cloneNu i0 _ 1 8 hi0 hz0 hz1 hz2 rfl (by omega) Try.sizeOf3 b o l.length c (l.flatMap nuV) w (flat_length nuV 1 nuV_len l) (by unfold maxLen; omega) (by omega) hc (fun u hu => flatOneNu hu)
      change Calls Try.prog 15 _ _ _ at h
      refine h.mono ?_
      rintro r w' ⟨v', rfl, ho, -, hb⟩
      exact ⟨v', rfl, ho, hb⟩


/-- The numbers, from the least one on. -/
def srt (xs : List Int) : List Int := xs.mergeSort fun x y => decide (x ≤ y)
theorem srt_perm (xs : List Int) : (srt xs).Perm xs := List.mergeSort_perm _ _
theorem srt_len (xs : List Int) : (srt xs).length = xs.length := (srt_perm xs).length_eq

theorem sort31_any (W : World) (B : Nat) (xs : List Int) (v : Value) (h : W.ownsRow B 3 1 v xs.length (xs.flatMap nuV)) (hl : xs.length ≤ 100000) :
    Calls Try.prog 16 #[v] W fun r W' => r = .returned (.tuple #[]) ∧ ∃ ys : List Int, ys = srt xs ∧ ((v = .slice none 0 0 ∧ ys = []) ∨ ∃ g cap, v = .slice (some ⟨g, 0, none⟩) ys.length cap ∧ B ≤ g ∧ g < W.heap.size ∧ ys.length ≤ cap ∧ Holds (Value.int .i64) W' g 0 ys.toArray) ∧ W.grownBy W' v.ownBlock := by
  have h' := h
  obtain ⟨-, ⟨rfl, h0⟩ | ⟨g, cap, cur, rfl, hB, hg, hcap, hm, hcs, htk⟩⟩ := h
  · have hnil : xs = [] := List.eq_nil_of_length_eq_zero h0
    subst hnil
    have h9 := Any.slices_Sort_int_none lay_sortNu none 0 W
    change Calls Try.prog 16 _ _ _ at h9
    refine h9.mono ?_
    rintro r W' ⟨rfl, rfl⟩
    exact ⟨rfl, [], by simp [srt], .inl ⟨rfl, rfl⟩, ⟨rfl, rfl, rfl, Nat.le_refl _, fun _ _ _ => rfl⟩⟩
  · have hlt : g < W.heap.size := (Array.getElem?_eq_some_iff.1 hg).1
    have h9 := Any.slices_Sort_int lay_sortNu g 0 cap xs W (holdsN_of h') hlt (by omega)
    change Calls Try.prog 16 _ _ _ at h9
    refine h9.mono ?_
    rintro r W' ⟨rfl, n, os, rfl⟩
    have hp : (srt xs).Perm xs := srt_perm xs
    refine ⟨rfl, _, rfl, .inr ⟨g, cap, by rw [hp.length_eq], hB, hlt, by rw [hp.length_eq]; exact hcap, ?_⟩, ekeep _ _⟩
    have e1 := holds_putRow (Value.int .i64) (Sort.ahead W n) g 0 xs.toArray (xs.mergeSort fun x y => decide (x ≤ y)).toArray (holdsN_of h') (by simp)
    exact holds_grow (Value.int .i64) _ os g 0 _ (by
      have : (putRow (Value.int .i64) (Sort.ahead W n) g 0 (xs.mergeSort fun x y => decide (x ≤ y)).toArray).heap.size = W.heap.size := by simp [putRow, mapBlock, Sort.ahead]
      omega) e1

end Go.Proofs.Ytkafihaajpifoak
