import Derived.Test.YtccoobcggbbciaiGreatDoorTQ
import Derived.Test.YtccoobcggbbciaiGreatDoorJB
import Derived.OwnWalk
namespace Go.Proofs.YtccoobcggbbciaiGreatDoor
open Go.ChangeShapes Go.WideShapes Go.ChangeAt Go.RowKit

theorem info3 : (Tryz.prog.info? 3).map (fun i => (i.zero, i.size, i.bytes)) = some (some (.int .i64 0), 1, 8) := by kernel_rfl

theorem flatOneN {l : List Int} {u : Value} (h : u ∈ l.flatMap nuV) : u.oneCell' = true := by
  obtain ⟨x, h⟩ := flat_mem h
  simp only [nuV, List.mem_singleton] at h
  subst h
  rfl

theorem ownsRow_below {w w' : World} {B n size : Nat} {e : TypeId} {v : Value} {xs : List Value} (h : w.ownsRow B e size v n xs) (hb : Below w.heap.size w w') : w'.ownsRow B e size v n xs := ownsRow_same h (fun k _ hk => hb.block k hk)

theorem marks_cell (w : World) (m : Int) (j : Nat) (u : Value) (hj : [Value.int .i64 m, .int .i64 m, .int .i64 m][j]? = some u) : (w.alloc (.cells #[.int .i64 m, .int .i64 m, .int .i64 m] 3)).cell? ((⟨w.heap.size, 0, none⟩ : Addr).add j) = some u := by
  rw [Addr.add_lit]
  have := (cells_of (l := [_, _, _]) (heap_alloc_new w (.cells #[.int .i64 m, .int .i64 m, .int .i64 m] 3))).1 j u hj
  simpa using this

theorem lentOfN {w : World} {B g : Nat} {l : List Int} {m : Int} (h : w.ownsRow B 3 1 (.slice (some ⟨g, 0, none⟩) (l.length + 3) (l.length + 3)) (l.length + 3) (l.flatMap nuV ++ [.int .i64 m, .int .i64 m, .int .i64 m])) : Lent nuV w l m (.slice (some ⟨g, 0, none⟩) l.length (l.length + 3)) := by
  refine ⟨g, 0, l.length + 3, rfl, Nat.le_refl _, fun q u hq => ?_⟩
  rw [List.flatMap_append] at hq
  have hql := (List.getElem?_eq_some_iff.1 hq).1
  rw [List.length_append, flat_length nuV 1 nuV_len] at hql
  have h9 : ([m, m, m].flatMap nuV).length = 3 := rfl
  rw [Nat.zero_add]
  exact (h.cellAt q (by omega)).trans hq

set_option maxRecDepth 20000 in
set_option maxHeartbeats 4000000 in
/-- Lend, of numbers. -/
theorem LendN_any (w : World) (vs : List Int) (m : Int) (v : Value) (hl : vs.length ≤ 4194304) (hv : RowSl nuV w vs v) :
    Calls Tryz.prog 11 #[v, .int .i64 m] w fun r w' => ∃ u, r = .returned u ∧ Lent nuV w' vs m u ∧ Below w.heap.size w w' := by
  obtain ⟨ad, c, rfl, hnil, -, h⟩ := hv
  obtain ⟨i0, hi0, hz0, hz1, hz2⟩ := info_parts info3
  obtain ⟨w1, hrun, hown, hgr⟩ := run_make_own (P := Tryz.prog) w w.heap.size 24 3 i0 _ 1 Tryz.underlying24 hi0 hz0 hz1 .i64 .i64 (vs.length + 3) (by rw [hz2]; omega) (by unfold maxLen; omega) (Nat.le_refl _)
  have hmk : (Instr.makeSlice 24 (.int .i64 0) (.int .i64 ((vs.length : Int) + 3))).run Tryz.prog w = .ok (.slice (some ⟨w.heap.size, 0, none⟩) 0 (vs.length + 3)) w1 := hrun
  have hb1 : Below w.heap.size w w1 := (Below.refl _ w).grown hgr (Nat.le_refl _) (by intro k hk; cases hk)
  have HM : Hid (w1.ownsRow w.heap.size 3 1 (.slice (some ⟨w.heap.size, 0, none⟩) 0 (vs.length + 3)) 0 [] ∧ Below w.heap.size w w1 ∧ (∀ ad', ad = some ad' → ∀ j u, (vs.flatMap nuV)[j]? = some u → w1.cell? (ad'.add j) = some u) ∧ (ad = none → vs.length = 0 ∧ c = 0)) := ⟨hown, hb1, rowArg h hb1, hnil⟩
  clear hrun hown hgr hb1 h hnil
  go_enter Tryz.func11, Tryz.ntmps11
  go_wp2_with (first
    | (at_builtin; refine wpList_append_fits_any _ rfl (.tmp 9) (.tmp 10) 24 rfl w.heap.size 3 i0 1 Tryz.underlying24 hi0 hz1 w.heap.size 0 (vs.length + 3) [] rfl HM.out.1 ad vs.length c (vs.flatMap nuV) rfl (flat_length nuV 1 nuV_len vs) HM.out.2.2.2 HM.out.2.2.1 (fun u hu => flatOneN hu) (by omega) ?_; intro w2 ho2 hg2; simp only [Nat.zero_add, List.nil_append] at ho2 ⊢; have H2 : Hid (w2.ownsRow w.heap.size 3 1 (.slice (some ⟨w.heap.size, 0, none⟩) vs.length (vs.length + 3)) vs.length (vs.flatMap nuV) ∧ Below w.heap.size w w2) := ⟨ho2, HM.out.2.1.grown hg2 HM.out.2.1.size (by intro k hk; cases hk; exact Nat.le_refl _)⟩; clear ho2 hg2)
    | (at_builtin; refine wpList_append_fits_any _ rfl (.tmp 11) (.tmp 15) 24 rfl w.heap.size 3 i0 1 Tryz.underlying24 hi0 hz1 w.heap.size vs.length (vs.length + 3) (vs.flatMap nuV) rfl (ownsRow_below H2.out.1 ((Below.refl _ _).alloc (Nat.le_refl _) _)) (some ⟨w2.heap.size, 0, none⟩) 3 3 [.int .i64 m, .int .i64 m, .int .i64 m] rfl rfl (by intro e; cases e) (by intro ad' e j u hj; cases e; exact marks_cell w2 m j u hj) (by intro u hu; simp at hu; subst hu; rfl) (Nat.le_refl _) ?_; intro w3 ho3 hg3; have H3 : Hid (w3.ownsRow w.heap.size 3 1 (.slice (some ⟨w.heap.size, 0, none⟩) (vs.length + 3) (vs.length + 3)) (vs.length + 3) (vs.flatMap nuV ++ [.int .i64 m, .int .i64 m, .int .i64 m]) ∧ Below w.heap.size w w3) := ⟨ho3, (H2.out.2.alloc H2.out.2.size _).grown hg3 (by have := H2.out.2.size; simp; omega) (by intro k hk; cases hk; exact Nat.le_refl _)⟩; clear ho3 hg3))
  go_ret
  exact ⟨_, rfl, lentOfN H3.out.1, H3.out.2⟩

set_option maxRecDepth 20000 in
set_option maxHeartbeats 4000000 in
/-- Still, of numbers that were lent and stand as they did. -/
theorem StillN_any (w : World) (vs : List Int) (m : Int) (v v' : Value) (hl : vs.length ≤ 4194304) (h : Lent nuV w vs m v) (h' : RowSl nuV w vs v') :
    Calls Tryz.prog 17 #[v, v', .int .i64 m] w fun r w' => r = .returned (.bool true) ∧ Below w.heap.size w w' := by
  obtain ⟨b, o, cap, rfl, hcap, hrow⟩ := h
  obtain ⟨ad', c', rfl, -, -, hc'⟩ := h'
  have HR : Hid (_ ∧ _) := ⟨hrow, hc'⟩
  clear hrow hc'
  go_enter Tryz.func17, Tryz.ntmps17
  go_wp2_with fail
  go_loopw [17] (fun x wr => ∃ j : Nat, j ≤ vs.length + 3 ∧ x = .int .i64 j ∧ Below w.heap.size w wr) (fun x _ => vs.length + 3 - (intOf x).toNat)
  case atStart => exact ⟨0, Nat.zero_le _, rfl, Below.refl _ _⟩
  case round =>
    obtain ⟨j, hj, rfl, hb⟩ := hrel
    by_cases hlt : j < vs.length
    · obtain ⟨z, hz, -⟩ := drop_at hlt
      have c0 := nu_at (fun q u hq => below_cell hb (HR.out.1 q u hq)) (show (vs ++ _)[j]? = some z by rw [List.getElem?_append_left hlt]; exact hz)
      rcases HR.out.2 with h | ⟨b', o', had', hrow'⟩
      · rw [h] at hlt; simp at hlt
      subst had'
      have d0 := nu_at (fun q u hq => below_cell hb (hrow' q u hq)) hz
      clear hrow' hz
      have HB : Hid (Below w.heap.size w wr) := hb
      clear hb
      go_wp2_with fail
      go_roundw
      case rel => exact ⟨j + 1, by omega, by go_num, HB.out⟩
      case measure => simp [intOf]; omega
    · by_cases hlt2 : j < vs.length + 3
      · have c0 := lent_at (k := 0) nuV_len (fun q u hq => below_cell hb (HR.out.1 q u hq)) (by omega) hlt2 (by omega) rfl
        rw [Nat.mul_one, Nat.add_zero] at c0
        have HB : Hid (Below w.heap.size w wr) := hb
        clear hb
        go_wp2_with fail
        go_roundw
        case rel => exact ⟨j + 1, by omega, by go_num, HB.out⟩
        case measure => simp [intOf]; omega
      · have hje : j = vs.length + 3 := by omega
        subst hje
        go_wp2_with fail
        go_ret
        exact ⟨rfl, hb⟩
end Go.Proofs.YtccoobcggbbciaiGreatDoor
