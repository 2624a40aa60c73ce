import Derived.Test.YtccoobcggbbciadDoorRH0
namespace Go.Proofs.YtccoobcggbbciadDoor
open Go.ChangeShapes Go.WideShapes Go.ChangeAt Go.RowKit

/-- A variable that holds an error. -/
def ErrAt (w : World) (g : Nat) : Prop := ∃ ev, w.cell? ⟨g, 0, none⟩ = some ev ∧ (ev = .nilIface ∨ ∃ te pe, ev = .iface te pe)
theorem ErrAt.below {w w' : World} {g : Nat} (h : ErrAt w g) (hb : Below w.heap.size w w') : ErrAt w' g := by
  obtain ⟨ev, h1, h2⟩ := h
  exact ⟨ev, below_cell hb h1, h2⟩

/-- What strconv.Atoi tells of a word. -/
def AtoiPost (w : World) (s : ByteArray) (e : Ending) (w' : World) : Prop := ∃ n ev, e = .returned (.tuple #[.int .i64 n, ev]) ∧ Below w.heap.size w w' ∧ -9223372036854775808 ≤ n ∧ n ≤ 9223372036854775807 ∧ ((ev = .nilIface ∧ Lib.atoiAll s.data.toList = .ok n) ∨ (∃ t p, ev = .iface t p ∧ numD s.data.toList = none))

theorem bytesB (w : World) (e : TypeId) (t : ByteArray) : Below w.heap.size w (Lib.bytesWorld w e t) := Lib.bytesWorld_below w e t

theorem Atoi_any (w : World) (s : ByteArray) (hs : s.size ≤ 30000) (h4 : ErrAt w 4) (h5 : ErrAt w 5) : Calls Tryd.prog 62 #[.string s] w (AtoiPost w s) := by
  cases h : Lib.atoiAll s.data.toList with
  | ok n =>
    obtain ⟨b1, b2⟩ := Lib.atoiAll_bounds h
    refine (sh_strconv_Atoi_ok s (by omega) n h w).mono ?_
    rintro e w' ⟨rfl, hw⟩
    refine ⟨n, _, rfl, ?_, by omega, by omega, .inl ⟨rfl, h⟩⟩
    rcases hw with rfl | ⟨t, rfl⟩
    · exact Below.refl _ _
    · exact bytesB _ _ _
  | «syntax» =>
    obtain ⟨ev, g1, g2⟩ := h4
    refine (sh_strconv_Atoi_syntax s (by omega) h ev w g1 g2).mono ?_
    rintro e w' ⟨M, rfl, -, -, hb⟩
    exact ⟨0, _, rfl, hb, by omega, by omega, .inr ⟨_, _, rfl, by unfold numD; rw [h]⟩⟩
  | range =>
    obtain ⟨ev, g1, g2⟩ := h5
    obtain ⟨b1, b2⟩ := Lib.atoiSat_bounds s.data.toList
    refine (sh_strconv_Atoi_range s (by omega) h ev w g1 g2).mono ?_
    rintro e w' ⟨M, rfl, -, -, hb⟩
    exact ⟨_, _, rfl, hb, by omega, by omega, .inr ⟨_, _, rfl, by unfold numD; rw [h]⟩⟩

/-- strings.SplitAfter. -/
theorem SplitAfter_any (w : World) (s : ByteArray) (m : Int) (hs : s.size ≤ 30000) (hm : w.cell? ⟨3, 0, none⟩ = some (.int .i64 m)) :
    Calls Tryd.prog 58 #[.string s, .string ⟨#[10]⟩] w fun e w' => e = .returned (.slice (some ⟨w.heap.size, 0, none⟩) (Lib.countB s ⟨#[10]⟩ + 1) (Lib.countB s ⟨#[10]⟩ + 1)) ∧ w' = w.alloc (.cells ((Lib.splitB ⟨#[10]⟩ 1 (Lib.countB s ⟨#[10]⟩) s).map Value.string).toArray 9) := by
  have hle := Lib.countB_le ⟨#[10]⟩ (by decide) s.size s (Nat.le_refl _)
  have hlen := Lib.splitB_all ⟨#[10]⟩ (by decide) 1 _ s rfl
  have c := sh_strings_genSplit s ⟨#[10]⟩ 1 (-1) (Lib.countB s ⟨#[10]⟩ + 1) m w (by omega) hm (by decide) (by decide) (by decide) (by decide) (by rw [if_pos (by decide)]; omega)
  rw [Nat.add_sub_cancel, hlen] at c
  have e2 : Lib.cellsOf (Lib.splitB ⟨#[10]⟩ 1 (Lib.countB s ⟨#[10]⟩) s) (Lib.countB s ⟨#[10]⟩ + 1) = ((Lib.splitB ⟨#[10]⟩ 1 (Lib.countB s ⟨#[10]⟩) s).map Value.string).toArray := by rw [← hlen]; exact Lib.cellsOf_full _
  rw [e2] at c
  go_enter Tryd.func58, Tryd.ntmps58
  go_wp2_with (go_at_call 96; refine c.mono ?_; rintro e w' ⟨rfl, hw⟩; rw [hw])
  go_ret
  exact ⟨rfl, rfl⟩

theorem afters_are (s : ByteArray) (c : UInt8) : (Lib.splitB ⟨#[c]⟩ 1 (Lib.countB s ⟨#[c]⟩) s).map (·.data.toList) = (pcs c s.data.toList).dropLast.map (· ++ [c]) ++ [(pcs c s.data.toList).getLastD []] := by
  rw [Lib.splitB_data]
  have e : Lib.countB s ⟨#[c]⟩ = s.data.toList.count c := Lib.count_one c s.data.toList
  rw [e]
  exact (splitK_is c 1 [c] (.inr ⟨rfl, rfl⟩) _ s.data.toList (Nat.le_refl _)).trans (after_is c s.data.toList)
end Go.Proofs.YtccoobcggbbciadDoor
