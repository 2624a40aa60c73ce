import Derived.Test.YtgemadoieielcacDoorGXM
import Derived.Test.YtgemadoieielcacDoorGWB
import Derived.Lib.SliceRun
import Derived.Test.YtgemadoieielcacDoorGYL
namespace Go.Proofs.YtgemadoieielcacDoor
open Go.ChangeShapes Go.WideShapes Go.ChangeAt Go.RowKit

set_option maxRecDepth 20000 in
set_option maxHeartbeats 4000000 in
/-- Same, of two lists of the same numbers. -/
theorem SameI_any (w : World) (vs : List Int) (v v' : Value) (hl : vs.length ≤ 4194304) (h : IntSl w vs v) (h' : IntSl w vs v') :
    Calls Tryd.prog 40 #[v, v'] w fun r w' => r = .returned (.bool true) ∧ Below w.heap.size w w' := by
  obtain ⟨ad, c, rfl, hc⟩ := h
  obtain ⟨ad', c', rfl, hc'⟩ := h'
  have HR : Hid ((vs = [] ∨ ∃ b o, ad = some ⟨b, o, none⟩ ∧ ∀ j, j < vs.length → w.cell? ⟨b, o + j, none⟩ = some (.int .i64 (vs.getD j 0))) ∧ (vs = [] ∨ ∃ b o, ad' = some ⟨b, o, none⟩ ∧ ∀ j, j < vs.length → w.cell? ⟨b, o + j, none⟩ = some (.int .i64 (vs.getD j 0)))) := ⟨hc, hc'⟩
  clear hc hc'
  go_enter Tryd.func40, Tryd.ntmps40
  go_wp2_with fail
  go_loopw [13] (fun x wr => ∃ j : Nat, j ≤ vs.length ∧ x = .int .i64 j ∧ Below w.heap.size w wr) (fun x _ => vs.length - (intOf x).toNat)
  case atStart => exact ⟨0, Nat.zero_le _, rfl, Below.refl _ _⟩
  case round =>
    obtain ⟨j, hj, rfl, hb⟩ := hrel
    by_cases hlt : j < vs.length
    · rcases HR.out.1 with h | ⟨b, o, had, hrow⟩
      · rw [h] at hlt; simp at hlt
      rcases HR.out.2 with h | ⟨b', o', had', hrow'⟩
      · rw [h] at hlt; simp at hlt
      subst had had'
      have c0 := below_cell hb (hrow j hlt)
      have d0 := below_cell hb (hrow' j hlt)
      clear hrow hrow'
      generalize vs.getD j 0 = z at *
      have HB : Hid (Below w.heap.size w wr) := hb
      clear hb
      go_wp2_with fail
      go_region
      go_wp2_with fail
      go_roundw
      case rel => exact ⟨j + 1, by omega, by go_num, HB.out.drew⟩
      case measure => simp [intOf]; omega
    · have hje : j = vs.length := by omega
      subst hje
      go_wp2_with fail
      go_ret
      exact ⟨rfl, hb⟩

theorem below_setCells {N b : Nat} (hb : N ≤ b) : ∀ (l : List Value) (o : Nat) (w : World), Below N w (w.setCells b o l)
  | [], _, _ => Below.refl _ _
  | v :: r, o, w => by
    refine Below.trans ?_ (below_setCells hb r (o + 1) _)
    exact (Below.refl _ w).setCell (p := ⟨b, o, none⟩) hb v

theorem setCells_other {b k : Nat} (hk : k ≠ b) : ∀ (l : List Value) (o : Nat) (w : World), (w.setCells b o l).heap[k]? = w.heap[k]?
  | [], _, _ => rfl
  | _ :: r, o, _ => (setCells_other hk r (o + 1) _).trans (Below.heap_setCell _ _ _ _ hk)

set_option maxRecDepth 20000 in
set_option maxHeartbeats 4000000 in
/-- Spoil, of a block of numbers: it alone changes. -/
theorem Spoil_block (w : World) (g n : Nat) (xs : List Value) (hg : w.heap[g]? = some (.cells xs.toArray 3 (0, 0))) (hn : xs.length = n) (hl : n ≤ 100000) :
    Calls Tryd.prog 17 #[.slice (some ⟨g, 0, none⟩) n n] w fun r w' => r = .returned (.tuple #[]) ∧ Below g w w' ∧ ∀ k, k ≠ g → w'.heap[k]? = w.heap[k]? := by
  obtain ⟨i0, hi0, hz0, hz1, hz2⟩ := info_parts info3
  have hz : ∀ w, (zeroValue 3).run Tryd.prog w = .ok (.int .i64 0) w := fun w => by simp [zeroValue, typeInfo, hi0, hz0]
  have hcl : ∀ ty, (Builtin.clear_ #[23] ty #[.slice (some ⟨g, 0, none⟩) n n]).run Tryd.prog w = .ok (.tuple #[]) (w.setCells g 0 (List.replicate n (.int .i64 0))) := fun ty => by
    by_cases hc : n = 0
    · subst hc
      simp [Builtin.clear_, run_underlying Tryd.underlying23, World.setCells]
    · exact Lib.run_clear_slice w 23 3 ty (.int .i64 0) Tryd.underlying23 hz rfl rfl g 0 n n (by omega) (fun j hj => by unfold World.cell?; rw [hg]; simp; omega) (fun j hj => by unfold World.frozen?; rw [hg]; simp)
  have HB : Hid (Below g w (w.setCells g 0 (List.replicate n (.int .i64 0))) ∧ ∀ k, k ≠ g → (w.setCells g 0 (List.replicate n (.int .i64 0))).heap[k]? = w.heap[k]?) := ⟨below_setCells (Nat.le_refl _) _ 0 w, fun k hk => setCells_other hk _ _ _⟩
  clear hg hz
  go_enter Tryd.func17, Tryd.ntmps17
  go_wp2
  go_end0
  exact ⟨rfl, HB.out⟩

set_option maxRecDepth 20000 in
set_option maxHeartbeats 4000000 in
/-- Spoil, of nothing. -/
theorem Spoil_nil (w : World) : Calls Tryd.prog 17 #[.slice none 0 0] w fun r w' => r = .returned (.tuple #[]) ∧ w' = w := by
  have hcl : ∀ ty, (Builtin.clear_ #[23] ty #[.slice none 0 0]).run Tryd.prog w = .ok (.tuple #[]) w := fun ty => by
    simp [Builtin.clear_, run_underlying Tryd.underlying23]
  go_enter Tryd.func17, Tryd.ntmps17
  go_wp2
  go_end0
  exact ⟨rfl, rfl⟩

theorem int_row {w : World} {ad : Option Addr} {n c : Nat} {R : Nat → Int} (h : RowI w ad n R) : IntSl w ((List.range n).map R) (.slice ad ((List.range n).map R).length c) := by
  refine ⟨ad, c, rfl, ?_⟩
  rcases h with h | ⟨b, o, h1, h2⟩
  · exact .inl (by subst h; rfl)
  · refine .inr ⟨b, o, h1, fun j hj => ?_⟩
    have hj' : j < n := by simpa using hj
    rw [h2 j hj']
    simp [List.getD, hj']

/-- Same, of two rows of the same numbers. -/
theorem Same_row (w : World) (n : Nat) (R : Nat → Int) (ad ad' : Option Addr) (c c' : Nat) (hl : n ≤ 100000) (h : RowI w ad n R) (h' : RowI w ad' n R) : Calls Tryd.prog 40 #[.slice ad n c, .slice ad' n c'] w fun r w' => r = .returned (.bool true) ∧ Below w.heap.size w w' := by
  have := SameI_any w ((List.range n).map R) _ _ (by simp; omega) (int_row (c := c) h) (int_row (c := c') h')
  simpa using this

end Go.Proofs.YtgemadoieielcacDoor
namespace Go.Proofs.YtgemadoieielcacDoor
open Go.ChangeShapes Go.WideShapes Go.ChangeAt Go.RowKit

def nL (l : List In) : Nat := if (anF l).1 = 0 then l.length else 0
def mL (l : List In) : Nat := if (anF l).1 = 0 then 4 else 0
def wL (l : List In) : Int := if (anF l).1 = 0 then restF l 0 else 0

theorem nL_le (l : List In) : nL l ≤ l.length := by unfold nL; split <;> omega
theorem mL_le (l : List In) : mL l ≤ 4 := by unfold mL; split <;> omega

/-- What may be spoiled: nothing, or a block of its own. -/
def Sp (w : World) (B : Nat) (ad : Option Addr) (n c : Nat) : Prop := (ad = none ∧ n = 0 ∧ c = 0) ∨ ∃ g, B ≤ g ∧ ad = some ⟨g, 0, none⟩ ∧ c = n ∧ ∃ xs : List Value, xs.length = n ∧ w.heap[g]? = some (.cells xs.toArray 3 (0, 0))

theorem Sp.below {w w' : World} {B n c : Nat} {ad : Option Addr} (h : Sp w B ad n c) (hb : Below w.heap.size w w') : Sp w' B ad n c := by
  rcases h with h | ⟨g, h1, h2, h3, xs, h4, h5⟩
  · exact .inl h
  · exact .inr ⟨g, h1, h2, h3, xs, h4, (hb.block g (Array.getElem?_eq_some_iff.1 h5).1).trans h5⟩

theorem Sp.same {w w' : World} {B n c : Nat} {ad : Option Addr} (h : Sp w B ad n c) (hb : ∀ k, B ≤ k → w'.heap[k]? = w.heap[k]?) : Sp w' B ad n c := by
  rcases h with h | ⟨g, h1, h2, h3, xs, h4, h5⟩
  · exact .inl h
  · exact .inr ⟨g, h1, h2, h3, xs, h4, (hb g h1).trans h5⟩

/-- Spoil: one block alone changes, one that is no older than B; those from C on stay where it is older. -/
theorem Sp.spoil {w : World} {B C n c : Nat} {ad : Option Addr} (h : Sp w B ad n c) (hn : n ≤ 100000) (hC : ∀ g, ad = some ⟨g, 0, none⟩ → g < C) : Calls Tryd.prog 17 #[.slice ad n c] w fun r w' => r = .returned (.tuple #[]) ∧ Below B w w' ∧ ∀ k, C ≤ k → w'.heap[k]? = w.heap[k]? := by
  rcases h with ⟨rfl, rfl, rfl⟩ | ⟨g, h1, rfl, rfl, xs, h4, h5⟩
  · refine (Spoil_nil w).mono ?_
    rintro r w' ⟨rfl, rfl⟩
    exact ⟨rfl, Below.refl _ _, fun _ _ => rfl⟩
  · refine (Spoil_block w g _ xs h5 h4 hn).mono ?_
    rintro r w' ⟨rfl, hb, hk⟩
    exact ⟨rfl, hb.mono h1, fun k hk' => hk k (by have := hC g rfl; omega)⟩

theorem Analyse_u (w : World) (l : List In) (iad : Option Addr) (ic : Nat) (hkk : KindsIn w) (hI : InSl w l (.slice iad l.length ic)) : Calls Tryd.prog 45 #[.slice iad l.length ic] w fun r w' => ∃ ad c, r = .returned (.tuple #[.agg #[.int .i64 (wL l), .slice ad (nL l) c], .agg #[.int .i64 (anF l).1, .int .i64 (anF l).2]]) ∧ RowI w' ad (nL l) (restF l) ∧ Sp w' w.heap.size ad (nL l) c ∧ Below w.heap.size w w' := by
  refine (Analyse_an w l iad ic hkk hI).mono ?_
  rintro r w' ⟨hb, h1, h2⟩
  by_cases h : (anF l).1 = 0
  · obtain ⟨hall, rb, hrb, rfl, hc, hk⟩ := h2 h
    have e : nL l = l.length := if_pos h
    have e2 : wL l = restF l 0 := if_pos h
    have e3 := (anF_zero h).2
    rw [e, e2, e3]
    exact ⟨_, _, rfl, row_of hc, .inr ⟨rb, hrb, rfl, rfl, rowV (restF l) l.length, by simp [rowV], hk⟩, hb⟩
  · have e : nL l = 0 := if_neg h
    have e2 : wL l = 0 := if_neg h
    rw [e, e2]
    exact ⟨_, _, h1 h, .inl rfl, .inl ⟨rfl, rfl, rfl⟩, hb⟩

theorem Worst_u (w : World) (l : List In) (iad : Option Addr) (ic : Nat) (hI : InSl w l (.slice iad l.length ic)) : Calls Tryd.prog 43 #[.slice iad l.length ic] w fun r w' => ∃ ad c, r = .returned (.tuple #[.agg #[.int .i64 (wL l), .slice ad (nL l) c], .agg #[.int .i64 (anF l).1, .int .i64 (anF l).2]]) ∧ RowI w' ad (nL l) (restF l) ∧ Below w.heap.size w w' := by
  refine (Worst_any w l iad ic hI).mono ?_
  rintro r w' ⟨hb, h1, h2⟩
  by_cases h : (anF l).1 = 0
  · obtain ⟨hall, rad, rc, hrc, rfl, hr⟩ := h2 h
    have e : nL l = l.length := if_pos h
    have e2 : wL l = restF l 0 := if_pos h
    have e3 := (anF_zero h).2
    rw [e, e2, e3]
    exact ⟨_, _, rfl, hr, hb⟩
  · have e : nL l = 0 := if_neg h
    have e2 : wL l = 0 := if_neg h
    rw [e, e2]
    exact ⟨_, _, h1 h, .inl rfl, hb⟩

theorem hd_u {w w' : World} {l : List In} {r : Ending} (hd : HdP l w r w') : ∃ ad c, r = .returned (.tuple #[.slice ad (mL l) c, .agg #[.int .i64 (anF l).1, .int .i64 (anF l).2]]) ∧ RowI w' ad (mL l) (fun j => heldA l j l.length) ∧ Sp w' w.heap.size ad (mL l) c ∧ Below w.heap.size w w' := by
  obtain ⟨hb, h1, h2⟩ := hd
  by_cases h : (anF l).1 = 0
  · obtain ⟨g, hg, rfl, hk⟩ := h2 h
    have e : mL l = 4 := if_pos h
    have e3 := (anF_zero h).2
    rw [e, e3]
    refine ⟨_, _, rfl, .inr ⟨g, 0, rfl, fun j hj => ?_⟩, .inr ⟨g, hg, rfl, rfl, heldV l l.length, rfl, hk⟩, hb⟩
    rw [Nat.zero_add]
    exact (cells_of hk).1 j _ (heldV_at l _ j hj)
  · have e : mL l = 0 := if_neg h
    rw [e]
    exact ⟨_, _, h1 h, .inl rfl, .inl ⟨rfl, rfl, rfl⟩, hb⟩

end Go.Proofs.YtgemadoieielcacDoor
