import Derived.Test.YtcmoehednkaehadDoorGLend
import Derived.Laws.MakeOwn
import Derived.OwnWalk
namespace Go.Proofs.YtcmoehednkaehadDoor
open Go.ChangeShapes Go.WideShapes Go.ChangeAt Go.RowKit

theorem ownsRow_belowX {w w' : World} {B n size : Nat} {e : TypeId} {v : Value} {xs : List Value} (h : w.ownsRow B e size v n xs) (hb : Below w.heap.size w w') : w'.ownsRow B e size v n xs := ownsRow_same h (fun k _ hk => hb.block k hk)

theorem IntSl.belowX {w w' : World} {vs : List Int} {v : Value} (h : IntSl w vs v) (hb : Below w.heap.size w w') : IntSl w' vs v := by
  obtain ⟨ad, c, h1, h2⟩ := h
  refine ⟨ad, c, h1, ?_⟩
  rcases h2 with h2 | ⟨b, o, h2, h3⟩
  · exact .inl h2
  · exact .inr ⟨b, o, h2, fun j hj => below_cell hb (h3 j hj)⟩

/-- A list that was lent, and its room. -/
def LentSl (w : World) (vs : List Int) (m : Int) (v : Value) : Prop := ∃ b o cap, v = .slice (some ⟨b, o, none⟩) vs.length cap ∧ vs.length + 3 ≤ cap ∧ (∀ j, j < vs.length → w.cell? ⟨b, o + j, none⟩ = some (.int .i64 (vs.getD j 0))) ∧ (∀ j, vs.length ≤ j → j < vs.length + 3 → w.cell? ⟨b, o + j, none⟩ = some (.int .i64 m))

theorem LentSl.below {w w' : World} {vs : List Int} {m : Int} {v : Value} (h : LentSl w vs m v) (hb : Below w.heap.size w w') : LentSl w' vs m v := by
  obtain ⟨b, o, cap, h1, h2, h3, h4⟩ := h
  exact ⟨b, o, cap, h1, h2, fun j hj => below_cell hb (h3 j hj), fun j hj hj' => below_cell hb (h4 j hj hj')⟩

theorem LentSl.plain {w : World} {vs : List Int} {m : Int} {v : Value} (h : LentSl w vs m v) : IntSl w vs v := by
  obtain ⟨b, o, cap, h1, -, h3, -⟩ := h
  exact ⟨_, _, h1, .inr ⟨b, o, rfl, h3⟩⟩

set_option maxRecDepth 20000 in
set_option maxHeartbeats 4000000 in
/-- Still, of a list that was lent and stands as it did. -/
theorem StillN_any (w : World) (vs : List Int) (m : Int) (v v' : Value) (hl : vs.length ≤ 4194304) (h : LentSl w vs m v) (h' : IntSl w vs v') :
    Calls Tryd.prog 15 #[v, v', .int .i64 m] w fun r w' => r = .returned (.bool true) ∧ Below w.heap.size w w' := by
  obtain ⟨b, o, cap, rfl, hcap, hrow, hmark⟩ := h
  obtain ⟨ad', c', rfl, hc'⟩ := h'
  have HR : Hid ((∀ j, j < vs.length → w.cell? ⟨b, o + j, none⟩ = some (.int .i64 (vs.getD j 0))) ∧ (∀ j, vs.length ≤ j → j < vs.length + 3 → w.cell? ⟨b, o + j, none⟩ = some (.int .i64 m)) ∧ (vs = [] ∨ ∃ b o, ad' = some ⟨b, o, none⟩ ∧ ∀ j, j < vs.length → w.cell? ⟨b, o + j, none⟩ = some (.int .i64 (vs.getD j 0)))) := ⟨hrow, hmark, hc'⟩
  clear hrow hmark hc'
  go_enter Tryd.func15, Tryd.ntmps15
  go_wp2_with fail
  go_loopw [17] (fun x wr => ∃ j : Nat, j ≤ vs.length + 3 ∧ x = .int .i64 j ∧ Below w.heap.size w wr) (fun x _ => vs.length + 3 - (intOf x).toNat)
  case atStart => exact ⟨0, Nat.zero_le _, rfl, Below.refl _ _⟩
  case round =>
    obtain ⟨j, hj, rfl, hb⟩ := hrel
    by_cases hlt : j < vs.length
    · have c0 := below_cell hb (HR.out.1 j hlt)
      rcases HR.out.2.2 with h | ⟨b', o', had', hrow'⟩
      · rw [h] at hlt; simp at hlt
      subst had'
      have d0 := below_cell hb (hrow' j hlt)
      clear hrow'
      generalize vs.getD j 0 = z at *
      have HB : Hid (Below w.heap.size w wr) := hb
      clear hb
      go_wp2_with fail
      go_roundw
      case rel => exact ⟨j + 1, by omega, by go_num, HB.out⟩
      case measure => simp [intOf]; omega
    · by_cases hlt2 : j < vs.length + 3
      · have c0 := below_cell hb (HR.out.2.1 j (by omega) hlt2)
        have HB : Hid (Below w.heap.size w wr) := hb
        clear hb
        go_wp2_with fail
        go_roundw
        case rel => exact ⟨j + 1, by omega, by go_num, HB.out⟩
        case measure => simp [intOf]; omega
      · have hje : j = vs.length + 3 := by omega
        subst hje
        go_wp2_with fail
        go_ret
        exact ⟨rfl, hb⟩

theorem IntSl.arg {w w1 : World} {vs : List Int} {ad : Option Addr} {c : Nat} (h : IntSl w vs (.slice ad vs.length c)) (hb : Below w.heap.size w w1) : ∀ ad', ad = some ad' → ∀ j u, (intVs vs)[j]? = some u → w1.cell? (ad'.add j) = some u := by
  intro ad' hd j u hj
  have hjl : j < vs.length := by have := (List.getElem?_eq_some_iff.1 hj).1; simpa [intVs] using this
  obtain ⟨ad2, c2, e, h2⟩ := h
  cases e
  rcases h2 with h2 | ⟨b, o, h2, h3⟩
  · subst h2; simp at hjl
  · rw [hd] at h2
    cases h2
    rw [Addr.add_lit]
    refine below_cell hb ?_
    rw [h3 j hjl]
    have e : (intVs vs)[j]? = some (Value.int .i64 (vs.getD j 0)) := by simp [intVs, List.getD, hjl]
    rw [e] at hj
    exact hj

theorem marks_cell (w : World) (m : Int) (j : Nat) (u : Value) (hj : [Value.int .i64 m, .int .i64 m, .int .i64 m][j]? = some u) : (w.alloc (.cells #[.int .i64 m, .int .i64 m, .int .i64 m] 3)).cell? ((⟨w.heap.size, 0, none⟩ : Addr).add j) = some u := by
  rw [Addr.add_lit]
  have := (cells_of (l := [_, _, _]) (heap_alloc_new w (.cells #[.int .i64 m, .int .i64 m, .int .i64 m] 3))).1 j u hj
  simpa using this

set_option maxRecDepth 20000 in
set_option maxHeartbeats 4000000 in
/-- Lend. -/
theorem LendN_any (w : World) (vs : List Int) (m : Int) (ad : Option Addr) (c : Nat) (hl : vs.length ≤ 4194304) (h : IntSl w vs (.slice ad vs.length c)) (hnil : ad = none → vs.length = 0 ∧ c = 0) :
    Calls Tryd.prog 11 #[.slice ad vs.length c, .int .i64 m] w fun r w' => ∃ u, r = .returned u ∧ LentSl w' vs m u ∧ Below w.heap.size w w' := by
  obtain ⟨i0, hi0, hz0, hz1, hz2⟩ := info_parts info3
  obtain ⟨w1, hrun, hown, hgr⟩ := run_make_own (P := Tryd.prog) w w.heap.size 23 3 i0 _ 1 Tryd.underlying23 hi0 hz0 hz1 .i64 .i64 (vs.length + 3) (by rw [hz2]; omega) (by unfold maxLen; omega) (Nat.le_refl _)
  have hmk : (Instr.makeSlice 23 (.int .i64 0) (.int .i64 ((vs.length : Int) + 3))).run Tryd.prog w = .ok (.slice (some ⟨w.heap.size, 0, none⟩) 0 (vs.length + 3)) w1 := hrun
  have hb1 : Below w.heap.size w w1 := (Below.refl _ w).grown hgr (Nat.le_refl _) (by intro k hk; cases hk)
  have HM : Hid (w1.ownsRow w.heap.size 3 1 (.slice (some ⟨w.heap.size, 0, none⟩) 0 (vs.length + 3)) 0 [] ∧ Below w.heap.size w w1 ∧ (∀ ad', ad = some ad' → ∀ j u, (intVs vs)[j]? = some u → w1.cell? (ad'.add j) = some u) ∧ (ad = none → vs.length = 0 ∧ c = 0)) := ⟨hown, hb1, h.arg hb1, hnil⟩
  clear hrun hown hgr hb1 h hnil
  go_enter Tryd.func11, Tryd.ntmps11
  go_wp2_with (first
    | (at_builtin; refine wpList_append_fits_any _ rfl (.tmp 9) (.tmp 10) 23 rfl w.heap.size 3 i0 1 Tryd.underlying23 hi0 hz1 w.heap.size 0 (vs.length + 3) [] rfl HM.out.1 ad vs.length c (intVs vs) rfl (by simp [intVs]) HM.out.2.2.2 HM.out.2.2.1 (fun u hu => by obtain ⟨x, _, rfl⟩ := List.mem_map.1 hu; rfl) (by omega) ?_; intro w2 ho2 hg2; simp only [Nat.zero_add, List.nil_append] at ho2 ⊢; have H2 : Hid (w2.ownsRow w.heap.size 3 1 (.slice (some ⟨w.heap.size, 0, none⟩) vs.length (vs.length + 3)) vs.length (intVs vs) ∧ Below w.heap.size w w2) := ⟨ho2, HM.out.2.1.grown hg2 HM.out.2.1.size (by intro k hk; cases hk; exact Nat.le_refl _)⟩; clear ho2 hg2)
    | (at_builtin; refine wpList_append_fits_any _ rfl (.tmp 11) (.tmp 15) 23 rfl w.heap.size 3 i0 1 Tryd.underlying23 hi0 hz1 w.heap.size vs.length (vs.length + 3) (intVs vs) rfl (ownsRow_belowX H2.out.1 ((Below.refl _ _).alloc (Nat.le_refl _) _)) (some ⟨w2.heap.size, 0, none⟩) 3 3 [.int .i64 m, .int .i64 m, .int .i64 m] rfl rfl (by intro e; cases e) (by intro ad' e j u hj; cases e; exact marks_cell w2 m j u hj) (by intro u hu; simp at hu; subst hu; rfl) (Nat.le_refl _) ?_; intro w3 ho3 hg3; have H3 : Hid (w3.ownsRow w.heap.size 3 1 (.slice (some ⟨w.heap.size, 0, none⟩) (vs.length + 3) (vs.length + 3)) (vs.length + 3) (intVs vs ++ [.int .i64 m, .int .i64 m, .int .i64 m]) ∧ Below w.heap.size w w3) := ⟨ho3, (H2.out.2.alloc H2.out.2.size _).grown hg3 (by have := H2.out.2.size; simp; omega) (by intro k hk; cases hk; exact Nat.le_refl _)⟩; clear ho3 hg3))
  go_ret
  refine ⟨_, rfl, ⟨w.heap.size, 0, vs.length + 3, rfl, Nat.le_refl _, fun j hj => ?_, fun j hj hj' => ?_⟩, H3.out.2⟩
  · have := H3.out.1.cells rfl j (.int .i64 (vs.getD j 0)) (by rw [List.getElem?_append_left (by simpa [intVs] using hj)]; simp [intVs, List.getD, hj])
    rwa [Addr.add_lit] at this
  · have := H3.out.1.cells rfl j (.int .i64 m) (by
      rw [List.getElem?_append_right (by simpa [intVs] using hj)]
      have e : j - (intVs vs).length = 0 ∨ j - (intVs vs).length = 1 ∨ j - (intVs vs).length = 2 := by simp [intVs]; omega
      rcases e with e | e | e <;> rw [e] <;> rfl)
    rwa [Addr.add_lit] at this

end Go.Proofs.YtcmoehednkaehadDoor
