import Derived.Test.YtccoobcggbbciakDoorKK0
import Derived.Lib.SplitLaws
namespace Go.Proofs.YtccoobcggbbciakDoor
open Go.ChangeShapes Go.WideShapes Go.ChangeAt Go.RowKit

theorem size_list (s : ByteArray) : s.data.toList.length = s.size := by first | rfl | simp
theorem back_list (l : List UInt8) : (⟨l.toArray⟩ : ByteArray).data.toList = l := by simp
theorem back_size (l : List UInt8) : (⟨l.toArray⟩ : ByteArray).size = l.length := by rw [← size_list, back_list]
theorem cat_list (a b : ByteArray) : (a ++ b).data.toList = a.data.toList ++ b.data.toList := by simp
theorem cat_size (a b : ByteArray) : (a ++ b).size = a.size + b.size := by rw [← size_list, ← size_list, ← size_list, cat_list, List.length_append]
theorem bytes_same {a b : ByteArray} (h : a.data.toList = b.data.toList) : a = b := by
  obtain ⟨⟨x⟩⟩ := a
  obtain ⟨⟨y⟩⟩ := b
  simp at h
  rw [h]

theorem growB (w : World) (k : Nat) (os : Array Obj) : Below w.heap.size w (Go.Sort.grow (w.drewN k) os) :=
  ⟨rfl, rfl, rfl, by show w.heap.size ≤ (w.heap ++ os).size; simp, fun i hi => by
    show (w.heap ++ os)[i]? = w.heap[i]?
    rw [Array.getElem?_append_left hi]⟩

/-- A variable that holds an error. -/
def ErrAt (w : World) (g : Nat) : Prop := ∃ ev, w.cell? ⟨g, 0, none⟩ = some ev ∧ (ev = .nilIface ∨ ∃ te pe, ev = .iface te pe)
theorem ErrAt.below {w w' : World} {g : Nat} (h : ErrAt w g) (hb : Below w.heap.size w w') : ErrAt w' g := by
  obtain ⟨ev, h1, h2⟩ := h
  exact ⟨ev, below_cell hb h1, h2⟩

/-- What strconv.Atoi tells of a word. -/
def AtoiPost (w : World) (s : ByteArray) (e : Ending) (w' : World) : Prop := ∃ n ev, e = .returned (.tuple #[.int .i64 n, ev]) ∧ Below w.heap.size w w' ∧ -9223372036854775808 ≤ n ∧ n ≤ 9223372036854775807 ∧ ((ev = .nilIface ∧ Lib.atoiAll s.data.toList = .ok n) ∨ (∃ t p, ev = .iface t p ∧ atoF s.data.toList = none))

theorem bytesB (w : World) (e : TypeId) (t : ByteArray) : Below w.heap.size w (Lib.bytesWorld w e t) := Lib.bytesWorld_below w e t

theorem Atoi_any (w : World) (s : ByteArray) (hs : s.size ≤ 1000000) (h4 : ErrAt w 5) (h5 : ErrAt w 6) : Calls Tryd.prog 26 #[.string s] w (AtoiPost w s) := by
  cases h : Lib.atoiAll s.data.toList with
  | ok n =>
    obtain ⟨b1, b2⟩ := Lib.atoiAll_bounds h
    refine (sh_strconv_Atoi_ok s (by omega) n h w).mono ?_
    rintro e w' ⟨rfl, hw⟩
    refine ⟨n, _, rfl, ?_, by omega, by omega, .inl ⟨rfl, h⟩⟩
    rcases hw with rfl | ⟨t, rfl⟩
    · exact Below.refl _ _
    · exact bytesB _ _ _
  | «syntax» =>
    obtain ⟨ev, g1, g2⟩ := h4
    refine (sh_strconv_Atoi_syntax s (by omega) h ev w g1 g2).mono ?_
    rintro e w' ⟨M, rfl, -, -, hb⟩
    exact ⟨0, _, rfl, hb, by omega, by omega, .inr ⟨_, _, rfl, by unfold atoF; rw [h]⟩⟩
  | range =>
    obtain ⟨ev, g1, g2⟩ := h5
    obtain ⟨b1, b2⟩ := Lib.atoiSat_bounds s.data.toList
    refine (sh_strconv_Atoi_range s (by omega) h ev w g1 g2).mono ?_
    rintro e w' ⟨M, rfl, -, -, hb⟩
    exact ⟨_, _, rfl, hb, by omega, by omega, .inr ⟨_, _, rfl, by unfold atoF; rw [h]⟩⟩

/-- strings.SplitAfter. -/
theorem SplitAfter_any (w : World) (s : ByteArray) (m : Int) (hs : s.size ≤ 1000000) (hm : w.cell? ⟨4, 0, none⟩ = some (.int .i64 m)) :
    Calls Tryd.prog 24 #[.string s, .string ⟨#[10]⟩] w fun e w' => e = .returned (.slice (some ⟨w.heap.size, 0, none⟩) (Lib.countB s ⟨#[10]⟩ + 1) (Lib.countB s ⟨#[10]⟩ + 1)) ∧ w' = w.alloc (.cells ((Lib.splitB ⟨#[10]⟩ 1 (Lib.countB s ⟨#[10]⟩) s).map Value.string).toArray 9) := by
  have hle := Lib.countB_le ⟨#[10]⟩ (by decide) s.size s (Nat.le_refl _)
  have hlen := Lib.splitB_all ⟨#[10]⟩ (by decide) 1 _ s rfl
  have c := sh_strings_genSplit s ⟨#[10]⟩ 1 (-1) (Lib.countB s ⟨#[10]⟩ + 1) m w (by omega) hm (by decide) (by decide) (by decide) (by decide) (by rw [if_pos (by decide)]; omega)
  rw [Nat.add_sub_cancel, hlen] at c
  have e2 : Lib.cellsOf (Lib.splitB ⟨#[10]⟩ 1 (Lib.countB s ⟨#[10]⟩) s) (Lib.countB s ⟨#[10]⟩ + 1) = ((Lib.splitB ⟨#[10]⟩ 1 (Lib.countB s ⟨#[10]⟩) s).map Value.string).toArray := by rw [← hlen]; exact Lib.cellsOf_full _
  rw [e2] at c
  go_enter Tryd.func24, Tryd.ntmps24
  go_wp2_with (go_at_call 48; refine c.mono ?_; rintro e w' ⟨rfl, hw⟩; rw [hw])
  go_ret
  exact ⟨rfl, rfl⟩

theorem afters_are (s : ByteArray) (c : UInt8) : (Lib.splitB ⟨#[c]⟩ 1 (Lib.countB s ⟨#[c]⟩) s).map (·.data.toList) = (pcs c s.data.toList).dropLast.map (· ++ [c]) ++ [(pcs c s.data.toList).getLastD []] := by
  rw [Lib.splitB_data]
  have e : Lib.countB s ⟨#[c]⟩ = s.data.toList.count c := Lib.count_one c s.data.toList
  rw [e]
  exact (splitK_is c 1 [c] (.inr ⟨rfl, rfl⟩) _ s.data.toList (Nat.le_refl _)).trans (after_is c s.data.toList)

theorem gPow : Tryd.prog.globalNamed "internal/strconv.uint64pow10" = some 7 := by kernel_rfl
theorem gSp : Tryd.prog.globalNamed "strings.asciiSpace" = some 2 := by kernel_rfl

theorem tab_below {w w' : World} {nm : String} {g : Nat} {k : IntKind} {zs : List Int} (hg : Tryd.prog.globalNamed nm = some g) (h : Lib.TabIs Tryd.prog w nm k zs) (hb : Below w.heap.size w w') : Lib.TabIs Tryd.prog w' nm k zs := by
  unfold Lib.TabIs World.var? at h ⊢
  rw [hg] at h ⊢
  simp only [Option.bind_some] at h ⊢
  have hlt : g < w.heap.size := by
    rcases Nat.lt_or_ge g w.heap.size with h' | h'
    · exact h'
    · rw [Array.getElem?_eq_none h'] at h; cases h
  rw [hb.block g hlt]
  exact h

def wordsB : List ByteArray := [⟨#[]⟩, ⟨#[99, 111, 109, 101]⟩, ⟨#[114, 117, 110]⟩, ⟨#[100, 111, 110, 101]⟩, ⟨#[107, 105, 108, 108]⟩, ⟨#[108, 97, 116, 101]⟩, ⟨#[112, 117, 116]⟩]

/-- What is laid, that the log's functions read. -/
structure Gr (w : World) : Prop where
  mx : ∃ m, w.cell? ⟨4, 0, none⟩ = some (.int .i64 m)
  e5 : ErrAt w 5
  e6 : ErrAt w 6
  tb : Lib.TabIs Tryd.prog w "internal/strconv.uint64pow10" .u64 Lib.pow10Tab
  sp : Lib.TabIs Tryd.prog w "strings.asciiSpace" .u8 Lib.asciiSpaceTab
  wt : Lib.WhiteTab 3 w
  wd : ∀ (k : Nat) (b : ByteArray), wordsB[k]? = some b → w.cell? ⟨1, k, none⟩ = some (.string b)

theorem Gr.below {w w' : World} (h : Gr w) (hb : Below w.heap.size w w') : Gr w' := by
  obtain ⟨m, hm⟩ := h.mx
  obtain ⟨T, oT, R, oR, h1, h2, h3, h4, h5⟩ := h.wt
  exact ⟨⟨m, below_cell hb hm⟩, h.e5.below hb, h.e6.below hb, tab_below gPow h.tb hb, tab_below gSp h.sp hb, ⟨T, oT, R, oR, below_cell hb h1, below_cell hb h2, below_cell hb h3, below_cell hb h4, fun i hi => below_cell hb (h5 i hi)⟩, fun k b hk => below_cell hb (h.wd k b hk)⟩

theorem word_at {e : Ev} (h : standsE e) : ∃ b : ByteArray, wordsB[e.k.toNat]? = some b ∧ b.data.toList = wordE e.k ∧ (e.k.toNat : Int) = e.k := by
  obtain ⟨h1, h6, -⟩ := h
  obtain ⟨a, k, t, m, n⟩ := e
  dsimp only at h1 h6 ⊢
  have : k = 1 ∨ k = 2 ∨ k = 3 ∨ k = 4 ∨ k = 5 ∨ k = 6 := by omega
  rcases this with rfl | rfl | rfl | rfl | rfl | rfl <;> exact ⟨_, rfl, rfl, rfl⟩
end Go.Proofs.YtccoobcggbbciakDoor
