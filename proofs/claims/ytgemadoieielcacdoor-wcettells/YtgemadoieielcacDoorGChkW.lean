import Derived.Test.YtgemadoieielcacDoorGSRun
namespace Go.Proofs.YtgemadoieielcacDoor
open Go.ChangeShapes Go.WideShapes Go.ChangeAt Go.RowKit

theorem scan_none (f : Nat → In → Int) : ∀ (l : List In) (k : Nat), scan f l k = none → ∀ j, j < l.length → f (k + j) (l.getD j in0) = 0
  | [], _, _, j, hj => by simp at hj
  | x :: r, k, h, j, hj => by
    rw [scan] at h
    split at h
    · simp at h
    · rename_i hx
      cases j with
      | zero => simpa using hx
      | succ j =>
        have := scan_none f r (k + 1) h j (by simpa using hj)
        rw [show k + (j + 1) = k + 1 + j by omega]
        simpa using this

/-- What stays while the stack is looked at. -/
structure SS (w wF wq : World) (rb wb mb B : Nat) : Prop where
  bel : Below w.heap.size w wq
  bas : B ≤ wq.heap.size
  fix : ∀ j, j < B → j ≠ rb → j ≠ wb → j ≠ mb → wq.heap[j]? = wF.heap[j]?

theorem SS.step {w wF wq w' : World} {rb wb mb B : Nat} (h : SS w wF wq rb wb mb B) (h0 : w.heap.size ≤ mb) (h1 : ∀ B0, B0 ≤ mb → Below B0 wq w') (h2 : wq.heap.size ≤ w'.heap.size) (h3 : ∀ j, j < wq.heap.size → j ≠ mb → w'.heap[j]? = wq.heap[j]?) : SS w wF w' rb wb mb B :=
  ⟨h.bel.trans (h1 _ h0), Nat.le_trans h.bas h2, fun j a b c d => (h3 j (Nat.lt_of_lt_of_le a h.bas) d).trans (h.fix j a b c d)⟩

theorem SS.grow {w wF wq w' : World} {rb wb mb B : Nat} (h : SS w wF wq rb wb mb B) (hb : Below wq.heap.size wq w') : SS w wF w' rb wb mb B :=
  ⟨below_seq h.bel hb, Nat.le_trans h.bas hb.size, fun j a b c d => (hb.block j (Nat.lt_of_lt_of_le a h.bas)).trans (h.fix j a b c d)⟩

theorem SS.stk {w wF wq : World} {rb wb mb B s n fj : Nat} (h : SS w wF wq rb wb mb B) (hx : FX wF s mb wb n fj rb) (h1 : fj + 1 < B) (h2 : fj + 1 ≠ rb) (h3 : fj + 1 ≠ wb) (h4 : fj + 1 ≠ mb) : wq.cell? ⟨fj + 1, 0, none⟩ = some (.map (some mb)) :=
  (cells_of (l := [_]) ((h.fix _ h1 h2 h3 h4).trans hx.stk)).1 0 _ rfl

theorem NS.ss {w wF wq : World} {rb wb B : Nat} {l : List In} {iv : Value} {os : List Nat} {ov : Value} {ws : List Int} (h : NS w wF wq rb wb B l iv os ov ws) (mb : Nat) : SS w wF wq rb wb mb B :=
  ⟨h.bel, h.bas, fun j a b c _ => h.fix j a b c⟩

theorem NS.jmp {w wF wq : World} {rb wb B s mb fj : Nat} {l : List In} {iv : Value} {os : List Nat} {ov : Value} {ws : List Int} (h : NS w wF wq rb wb B l iv os ov ws) (hx : FX wF s mb wb l.length fj rb) (h1 : fj < B) (h2 : fj ≠ rb) (h3 : fj ≠ wb) : wq.cell? ⟨fj, 0, none⟩ = some (.slice (some ⟨wb, 0, none⟩) ws.length (l.length + 1)) := by
  rw [h.len]
  exact (cells_of (l := [_]) ((h.fix _ h1 h2 h3).trans hx.jmp)).1 0 _ rfl

theorem M0_low : ∀ z h, M0 z = some h → 0 ≤ h ∧ h ≤ 20 := by
  intro z h hz
  unfold M0 setH at hz
  split at hz
  · cases hz; omega
  · simp at hz

/-- How far the looks are. -/
def OutRel (w wF : World) (rb wb B mb : Nat) (l : List In) (iv : Value) (i : Nat) (wr : World) : Prop :=
  (i = 0 ∧ NS w wF wr rb wb B l iv [] (.slice none 0 0) (List.replicate (l.length + 1) 0)) ∨
  (i = 1 ∧ scan (fun _ x => formErr x) l 0 = none ∧ NS w wF wr rb wb B l iv [] (.slice none 0 0) (List.replicate (l.length + 1) 0)) ∨
  (∃ os ov ws, scan (fun _ x => formErr x) l 0 = none ∧ nestScan l l 0 [] (List.replicate (l.length + 1) 0) = .inr (os, ws) ∧ NS w wF wr rb wb B l iv os ov ws ∧ os.length ≤ 2000 ∧ (i = 2 ∨ (i = 3 ∧ scan (unclosedErr os) l 0 = none) ∨ (i = 4 ∧ scan (unclosedErr os) l 0 = none ∧ scan (jumpErr ws) l 0 = none))) ∨
  (i = 5 ∧ ∃ M N, checkI l = (if (M l.length).getD 0 ≠ 0 then (8, (l.length : Int)) else (0, 0)) ∧ HtAt wr mb N M ∧ SS w wF wr rb wb mb B)

set_option maxRecDepth 20000 in
set_option maxHeartbeats 4000000 in
theorem Check_walk (w : World) (l : List In) (iad : Option Addr) (ic : Nat) (hkk : KindsIn w) (h : InSl w l (.slice iad l.length ic)) (hl : l.length ≤ 2000) (c k : Int) (hc : checkI l = (c, k)) : Calls Tryd.prog 38 #[.slice iad l.length ic] w fun r w' => r = .returned (.agg #[.int .i64 c, .int .i64 k]) ∧ Below w.heap.size w w' := by
  have hg : ¬ ((2000 : Int) < (l.length : Int)) := by omega
  have hmk := make_zeros (l.length + 1) (by omega)
  rw [show ((l.length + 1 : Nat) : Int) = (l.length : Int) + 1 by simp] at hmk
  have hmm := @run_makeMap Tryd.prog
  obtain ⟨w5, hrun, HN⟩ := check_start w l iad ic h
  obtain ⟨cs, fs, lt2⟩ := cells_of (l := [_, _, _]) HN.out.1.blk
  have k2 := cs 2 _ rfl
  have HK : Hid (KindsIn w ∧ checkI l = (c, k) ∧ InSl w l (.slice iad l.length ic)) := ⟨hkk, hc, h⟩
  clear cs fs hkk hc h
  go_enter Tryd.func38, Tryd.ntmps38
  go_wp2_with (first
    | (go_at_call 70; refine (jumps_any w5 _ _ _).mono ?_; rintro r w6 ⟨rfl, rfl⟩)
    | (go_at_call 71; refine (stack_any _ _).mono ?_; rintro r w7 ⟨rfl, rfl⟩))
  have HF : Hid (FX (((w5.alloc (.cells #[.slice (some ⟨w.heap.size + 1, 0, none⟩) (l.length + 1) (l.length + 1)] 23)).alloc (.cells #[.map (some (w.heap.size + 1 + 1 + 1))] 105)).alloc (.cells #[.func (Fn.func 67) #[] #[], .func (Fn.func 68) #[.pointer (some ⟨w.heap.size + 1 + 1, 0, none⟩)] #[], .func (Fn.func 69) #[.pointer (some ⟨w.heap.size + 1 + 1, 0, none⟩)] #[], .func (Fn.func 105) #[] #[.pointer (some ⟨w5.heap.size, 0, none⟩)], .func (Fn.func 106) #[] #[.pointer (some ⟨w5.heap.size + 1, 0, none⟩)]] 131)) w.heap.size (w.heap.size + 1 + 1 + 1) (w.heap.size + 1) l.length w5.heap.size (w.heap.size + 1 + 1)) := looks_fx w5 HN.out.2.2 HN.out.2.1
  have HG : Hid (NS w (((w5.alloc (.cells #[.slice (some ⟨w.heap.size + 1, 0, none⟩) (l.length + 1) (l.length + 1)] 23)).alloc (.cells #[.map (some (w.heap.size + 1 + 1 + 1))] 105)).alloc (.cells #[.func (Fn.func 67) #[] #[], .func (Fn.func 68) #[.pointer (some ⟨w.heap.size + 1 + 1, 0, none⟩)] #[], .func (Fn.func 69) #[.pointer (some ⟨w.heap.size + 1 + 1, 0, none⟩)] #[], .func (Fn.func 105) #[] #[.pointer (some ⟨w5.heap.size, 0, none⟩)], .func (Fn.func 106) #[] #[.pointer (some ⟨w5.heap.size + 1, 0, none⟩)]] 131)) (((w5.alloc (.cells #[.slice (some ⟨w.heap.size + 1, 0, none⟩) (l.length + 1) (l.length + 1)] 23)).alloc (.cells #[.map (some (w.heap.size + 1 + 1 + 1))] 105)).alloc (.cells #[.func (Fn.func 67) #[] #[], .func (Fn.func 68) #[.pointer (some ⟨w.heap.size + 1 + 1, 0, none⟩)] #[], .func (Fn.func 69) #[.pointer (some ⟨w.heap.size + 1 + 1, 0, none⟩)] #[], .func (Fn.func 105) #[] #[.pointer (some ⟨w5.heap.size, 0, none⟩)], .func (Fn.func 106) #[] #[.pointer (some ⟨w5.heap.size + 1, 0, none⟩)]] 131)) (w.heap.size + 1 + 1) (w.heap.size + 1) (w5.heap.size + 1 + 1 + 1) l (.slice iad l.length ic) [] (.slice none 0 0) (List.replicate (l.length + 1) 0)) := looks_ns HN.out.1 _ _ _
  have hs5 : w.heap.size + 4 ≤ w5.heap.size := HN.out.1.bas
  generalize (((w5.alloc (.cells #[.slice (some ⟨w.heap.size + 1, 0, none⟩) (l.length + 1) (l.length + 1)] 23)).alloc (.cells #[.map (some (w.heap.size + 1 + 1 + 1))] 105)).alloc (.cells #[.func (Fn.func 67) #[] #[], .func (Fn.func 68) #[.pointer (some ⟨w.heap.size + 1 + 1, 0, none⟩)] #[], .func (Fn.func 69) #[.pointer (some ⟨w.heap.size + 1 + 1, 0, none⟩)] #[], .func (Fn.func 105) #[] #[.pointer (some ⟨w5.heap.size, 0, none⟩)], .func (Fn.func 106) #[] #[.pointer (some ⟨w5.heap.size + 1, 0, none⟩)]] 131)) = wF at *
  clear k2
  go_loopw [31] (fun i wr => ∃ n : Nat, n ≤ 5 ∧ i = .int .i64 n ∧ OutRel w wF (w.heap.size + 1 + 1) (w.heap.size + 1) (w5.heap.size + 1 + 1 + 1) (w.heap.size + 1 + 1 + 1) l (.slice iad l.length ic) n wr) (fun i _ => 5 - (intOf i).toNat)
  case atStart => exact ⟨0, by omega, rfl, .inl ⟨rfl, HG.out⟩⟩
  case round =>
    obtain ⟨n, hn, rfl, hrel⟩ := hrel
    rcases hrel with ⟨rfl, hns⟩ | ⟨rfl, hfo, hns⟩ | ⟨os, ov, ws, hfo, hne, hns, hol, rfl | ⟨rfl, hun⟩ | ⟨rfl, hun, hju⟩⟩ | hrel
    · have hlk := (hns.fix (w5.heap.size + 1 + 1) (by omega) (by omega) (by omega)).trans HF.out.lks
      obtain ⟨ls, -, llt⟩ := cells_of (l := [_, _, _, _, _]) hlk
      have q0 := ls 0 _ rfl
      have HR : Hid _ := hns
      clear ls hlk hns
      go_wp2_with fail
      go_loopw [37] (fun i wq => ∃ j : Nat, j ≤ l.length ∧ i = .int .i64 j ∧ scan (fun _ x => formErr x) (l.drop j) j = scan (fun _ x => formErr x) l 0 ∧ NS w wF wq (w.heap.size + 1 + 1) (w.heap.size + 1) (w5.heap.size + 1 + 1 + 1) l (.slice iad l.length ic) [] (.slice none 0 0) (List.replicate (l.length + 1) 0)) (fun i _ => l.length - (intOf i).toNat)
      case atStart => exact ⟨0, Nat.zero_le _, rfl, rfl, HR.out⟩
      case round =>
        obtain ⟨j, hj, rfl, hsc, hns⟩ := hrel
        by_cases hlt : j < l.length
        · obtain ⟨iad', ic', e, himg⟩ := hns.img.below hns.bel
          cases e
          rcases himg with h0 | ⟨b, o, rfl, himg⟩
          · rw [h0] at hlt; simp at hlt
          obtain ⟨x0, x1, x2⟩ := himg j hlt
          rw [scan_at _ hlt] at hsc
          have HS : Hid (_ ∧ _) := ⟨hsc, hns⟩
          clear himg hsc hns
          generalize l.getD j in0 = x at *
          obtain ⟨xo, xa, xb⟩ := x
          dsimp only at x0 x1 x2
          by_cases hz : formErr ⟨xo, xa, xb⟩ = 0
          · go_wp2_with (go_at_call 67; refine (form_any _ (HK.out.1.below (below_seq HS.out.2.bel (below_new _ _))) _ ⟨xo, xa, xb⟩).mono ?_; rw [hz]; rintro r w9 ⟨rfl, hb9⟩; have H9 : Hid (Below _ _ w9) := hb9; clear hb9)
            go_roundw
            case rel => exact ⟨_, _, _, _, _, _, _, _, _, _, _, _, _, _, _, _, _, _, ⟨j + 1, by omega, by go_num, by have := HS.out.1; rw [if_neg (by simpa using hz)] at this; exact this, HS.out.2.grow (below_seq (below_new _ _) H9.out)⟩, rfl⟩
            case measure => simp [intOf]; omega
          · obtain ⟨z, hze⟩ : ∃ z, formErr ⟨xo, xa, xb⟩ = z := ⟨_, rfl⟩
            have hzb : (z != 0) = true := by rw [← hze]; simpa using hz
            go_wp2_with (go_at_call 67; refine (form_any _ (HK.out.1.below (below_seq HS.out.2.bel (below_new _ _))) _ ⟨xo, xa, xb⟩).mono ?_; rw [hze]; rintro r w9 ⟨rfl, hb9⟩; have H9 : Hid (NS w wF w9 (w.heap.size + 1 + 1) (w.heap.size + 1) (w5.heap.size + 1 + 1 + 1) l _ [] (.slice none 0 0) (List.replicate (l.length + 1) 0)) := HS.out.2.grow (below_seq (below_new _ _) hb9); obtain ⟨rs, rf, rl⟩ := cells_of (l := [_, _]) ((H9.out.fix w.heap.size (by omega) (by omega) (by omega)).trans HF.out.res); have r0 := rs 0 _ rfl; have r1 := rs 1 _ rfl; clear hb9 rs)
            have hck : checkI l = (z, (j : Int)) := by
              have := HS.out.1
              rw [if_pos (by simpa using hz), hze] at this
              unfold checkI
              rw [if_neg (by omega), ← this]
            have hcc := HK.out.2.1.symm.trans hck
            simp only [Prod.mk.injEq] at hcc
            obtain ⟨rfl, rfl⟩ := hcc
            have hres := setCell_at (i := 1) (u := .int .i64 (j : Int)) (setCell_at (i := 0) (u := .int .i64 c) ((H9.out.fix w.heap.size (by omega) (by omega) (by omega)).trans HF.out.res))
            exact bodyPost_ret (v := .agg #[.int .i64 c, .int .i64 (j : Int)]) (Check_ends (by simpa using hres) rfl) rfl ⟨rfl, (H9.out.bel.setCell (Nat.le_refl _) _).setCell (Nat.le_refl _) _⟩
        · have hje : j = l.length := by omega
          subst hje
          rw [List.drop_length] at hsc
          have HS : Hid (_ ∧ _) := ⟨hsc.symm, hns⟩
          clear hsc hns
          go_wp2_with fail
          go_roundw
          case rel => exact ⟨1, by omega, by go_num, .inr (.inl ⟨rfl, HS.out.1, HS.out.2⟩)⟩
          case measure => simp [intOf]
    · have hlk := (hns.fix (w5.heap.size + 1 + 1) (by omega) (by omega) (by omega)).trans HF.out.lks
      obtain ⟨ls, -, llt⟩ := cells_of (l := [_, _, _, _, _]) hlk
      have q0 := ls 1 _ rfl
      have HR : Hid (scan (fun _ x => formErr x) l 0 = none ∧ _) := ⟨hfo, hns⟩
      clear ls hlk hns hfo
      go_wp2_with fail
      go_loopw [37] (fun i wq => ∃ (j : Nat) (os : List Nat) (ov : Value) (ws : List Int), j ≤ l.length ∧ i = .int .i64 j ∧ os.length ≤ j ∧ nestScan l (l.drop j) j os ws = nestScan l l 0 [] (List.replicate (l.length + 1) 0) ∧ NS w wF wq (w.heap.size + 1 + 1) (w.heap.size + 1) (w5.heap.size + 1 + 1 + 1) l (.slice iad l.length ic) os ov ws) (fun i _ => l.length - (intOf i).toNat)
      case atStart => exact ⟨0, [], _, _, Nat.zero_le _, rfl, Nat.le_refl _, rfl, HR.out.2⟩
      case round =>
        obtain ⟨j, os, ov, ws, hj, rfl, hol, hsc, hns⟩ := hrel
        by_cases hlt : j < l.length
        · obtain ⟨iad', ic', e, himg⟩ := hns.img.below hns.bel
          cases e
          rcases himg with h0 | ⟨b, o, rfl, himg⟩
          · rw [h0] at hlt; simp at hlt
          obtain ⟨x0, x1, x2⟩ := himg j hlt
          rw [nestScan_at _ hlt] at hsc
          have HS : Hid (_ ∧ _) := ⟨hsc, hns⟩
          clear himg hsc hns
          generalize l.getD j in0 = x at *
          obtain ⟨xo, xa, xb⟩ := x
          dsimp only at x0 x1 x2
          have hlen := nestOf_length l j ⟨xo, xa, xb⟩ os
          rcases hne : nestOf l j ⟨xo, xa, xb⟩ os with ⟨z, os'⟩
          rw [hne] at hlen
          by_cases hz : z = 0
          · subst hz
            go_wp2_with (go_at_call 68; refine (nested_any w wF _ _ _ _ l _ os ov ws j ⟨xo, xa, xb⟩ (HS.out.2.grow (below_new _ _)) hlt hl (by omega)).mono ?_; rw [hne]; rintro r w9 ⟨rfl, ov9, hns9⟩; have H9 : Hid (NS w wF w9 (w.heap.size + 1 + 1) (w.heap.size + 1) (w5.heap.size + 1 + 1 + 1) l _ os' ov9 (ws.set j (beginOf os.getLast?))) := hns9; clear hns9)
            go_roundw
            case rel => exact ⟨_, _, _, _, _, _, _, _, _, _, _, _, _, _, _, _, _, _, ⟨j + 1, os', ov9, _, by omega, by go_num, by omega, by have := HS.out.1; rw [hne, if_neg (by simp)] at this; exact this, H9.out⟩, rfl⟩
            case measure => simp [intOf]; omega
          · have hzb : (z != 0) = true := by simpa using hz
            go_wp2_with (go_at_call 68; refine (nested_any w wF _ _ _ _ l _ os ov ws j ⟨xo, xa, xb⟩ (HS.out.2.grow (below_new _ _)) hlt hl (by omega)).mono ?_; rw [hne]; rintro r w9 ⟨rfl, ov9, hns9⟩; have H9 : Hid (NS w wF w9 (w.heap.size + 1 + 1) (w.heap.size + 1) (w5.heap.size + 1 + 1 + 1) l _ os' ov9 (ws.set j (beginOf os.getLast?))) := hns9; obtain ⟨rs, rf, rl⟩ := cells_of (l := [_, _]) ((hns9.fix w.heap.size (by omega) (by omega) (by omega)).trans HF.out.res); have r0 := rs 0 _ rfl; have r1 := rs 1 _ rfl; clear hns9 rs)
            have hck : checkI l = (z, (j : Int)) := by
              have := HS.out.1
              rw [hne, if_pos (by simpa using hz)] at this
              unfold checkI
              rw [if_neg (by omega), HR.out.1]
              dsimp only
              rw [← this]
            have hcc := HK.out.2.1.symm.trans hck
            simp only [Prod.mk.injEq] at hcc
            obtain ⟨rfl, rfl⟩ := hcc
            have hres := setCell_at (i := 1) (u := .int .i64 (j : Int)) (setCell_at (i := 0) (u := .int .i64 c) ((H9.out.fix w.heap.size (by omega) (by omega) (by omega)).trans HF.out.res))
            exact bodyPost_ret (v := .agg #[.int .i64 c, .int .i64 (j : Int)]) (Check_ends (by simpa using hres) rfl) rfl ⟨rfl, (H9.out.bel.setCell (Nat.le_refl _) _).setCell (Nat.le_refl _) _⟩
        · have hje : j = l.length := by omega
          subst hje
          rw [List.drop_length, nestScan] at hsc
          have HS : Hid (_ ∧ _) := ⟨hsc.symm, hns⟩
          clear hsc hns
          go_wp2_with fail
          go_roundw
          case rel => exact ⟨2, by omega, by go_num, .inr (.inr (.inl ⟨os, ov, ws, HR.out.1, HS.out.1, HS.out.2, by omega, .inl rfl⟩))⟩
          case measure => simp [intOf]
    · have hlk := (hns.fix (w5.heap.size + 1 + 1) (by omega) (by omega) (by omega)).trans HF.out.lks
      obtain ⟨ls, -, llt⟩ := cells_of (l := [_, _, _, _, _]) hlk
      have q0 := ls 2 _ rfl
      have HR : Hid ((scan (fun _ x => formErr x) l 0 = none ∧ nestScan l l 0 [] (List.replicate (l.length + 1) 0) = .inr (os, ws)) ∧ _) := ⟨⟨hfo, hne⟩, hns⟩
      clear ls hlk hns hfo hne
      go_wp2_with fail
      go_loopw [37] (fun i wq => ∃ j : Nat, j ≤ l.length ∧ i = .int .i64 j ∧ scan (unclosedErr os) (l.drop j) j = scan (unclosedErr os) l 0 ∧ NS w wF wq (w.heap.size + 1 + 1) (w.heap.size + 1) (w5.heap.size + 1 + 1 + 1) l (.slice iad l.length ic) os ov ws) (fun i _ => l.length - (intOf i).toNat)
      case atStart => exact ⟨0, Nat.zero_le _, rfl, rfl, HR.out.2⟩
      case round =>
        obtain ⟨j, hj, rfl, hsc, hns⟩ := hrel
        by_cases hlt : j < l.length
        · obtain ⟨iad', ic', e, himg⟩ := hns.img.below hns.bel
          cases e
          rcases himg with h0 | ⟨b, o, rfl, himg⟩
          · rw [h0] at hlt; simp at hlt
          obtain ⟨x0, x1, x2⟩ := himg j hlt
          rw [scan_at _ hlt] at hsc
          have HS : Hid (_ ∧ _) := ⟨hsc, hns⟩
          clear himg hsc hns
          generalize l.getD j in0 = x at *
          obtain ⟨xo, xa, xb⟩ := x
          dsimp only at x0 x1 x2
          obtain ⟨z, hze⟩ : ∃ z, unclosedErr os j ⟨xo, xa, xb⟩ = z := ⟨_, rfl⟩
          rw [hze] at HS
          by_cases hz : z = 0
          · subst hz
            go_wp2_with (go_at_call 69; refine (unclosed_any w wF _ _ _ _ l _ os ov ws j xo xa xb 0 (HS.out.2.grow (below_new _ _)) (by omega) (by omega) hze).mono ?_; rintro r w9 ⟨rfl, hb9⟩; have H9 : Hid (Below _ _ w9) := hb9; clear hb9)
            go_roundw
            case rel => exact ⟨_, _, _, _, _, _, _, _, _, _, _, _, _, _, _, _, _, _, ⟨j + 1, by omega, by go_num, by have := HS.out.1; rw [if_neg (by simp)] at this; exact this, HS.out.2.grow (below_seq (below_new _ _) H9.out)⟩, rfl⟩
            case measure => simp [intOf]; omega
          · have hzb : (z != 0) = true := by simpa using hz
            go_wp2_with (go_at_call 69; refine (unclosed_any w wF _ _ _ _ l _ os ov ws j xo xa xb z (HS.out.2.grow (below_new _ _)) (by omega) (by omega) hze).mono ?_; rintro r w9 ⟨rfl, hb9⟩; have H9 : Hid (NS w wF w9 (w.heap.size + 1 + 1) (w.heap.size + 1) (w5.heap.size + 1 + 1 + 1) l _ os ov ws) := HS.out.2.grow (below_seq (below_new _ _) hb9); obtain ⟨rs, rf, rl⟩ := cells_of (l := [_, _]) ((H9.out.fix w.heap.size (by omega) (by omega) (by omega)).trans HF.out.res); have r0 := rs 0 _ rfl; have r1 := rs 1 _ rfl; clear hb9 rs)
            have hck : checkI l = (z, (j : Int)) := by
              have := HS.out.1
              rw [if_pos (by simpa using hz)] at this
              unfold checkI
              rw [if_neg (by omega), HR.out.1.1]
              dsimp only
              rw [HR.out.1.2]
              dsimp only
              rw [← this]
            have hcc := HK.out.2.1.symm.trans hck
            simp only [Prod.mk.injEq] at hcc
            obtain ⟨rfl, rfl⟩ := hcc
            have hres := setCell_at (i := 1) (u := .int .i64 (j : Int)) (setCell_at (i := 0) (u := .int .i64 c) ((H9.out.fix w.heap.size (by omega) (by omega) (by omega)).trans HF.out.res))
            exact bodyPost_ret (v := .agg #[.int .i64 c, .int .i64 (j : Int)]) (Check_ends (by simpa using hres) rfl) rfl ⟨rfl, (H9.out.bel.setCell (Nat.le_refl _) _).setCell (Nat.le_refl _) _⟩
        · have hje : j = l.length := by omega
          subst hje
          rw [List.drop_length] at hsc
          have HS : Hid (_ ∧ _) := ⟨hsc.symm, hns⟩
          clear hsc hns
          go_wp2_with fail
          go_roundw
          case rel => exact ⟨3, by omega, by go_num, .inr (.inr (.inl ⟨os, ov, ws, HR.out.1.1, HR.out.1.2, HS.out.2, hol, .inr (.inl ⟨rfl, HS.out.1⟩)⟩))⟩
          case measure => simp [intOf]
    · have hlk := (hns.fix (w5.heap.size + 1 + 1) (by omega) (by omega) (by omega)).trans HF.out.lks
      obtain ⟨ls, -, llt⟩ := cells_of (l := [_, _, _, _, _]) hlk
      have q0 := ls 3 _ rfl
      have HR : Hid ((scan (fun _ x => formErr x) l 0 = none ∧ nestScan l l 0 [] (List.replicate (l.length + 1) 0) = .inr (os, ws) ∧ scan (unclosedErr os) l 0 = none) ∧ _) := ⟨⟨hfo, hne, hun⟩, hns⟩
      clear ls hlk hns hfo hne hun
      go_wp2_with fail
      go_loopw [37] (fun i wq => ∃ j : Nat, j ≤ l.length ∧ i = .int .i64 j ∧ scan (jumpErr ws) (l.drop j) j = scan (jumpErr ws) l 0 ∧ NS w wF wq (w.heap.size + 1 + 1) (w.heap.size + 1) (w5.heap.size + 1 + 1 + 1) l (.slice iad l.length ic) os ov ws) (fun i _ => l.length - (intOf i).toNat)
      case atStart => exact ⟨0, Nat.zero_le _, rfl, rfl, HR.out.2⟩
      case round =>
        obtain ⟨j, hj, rfl, hsc, hns⟩ := hrel
        by_cases hlt : j < l.length
        · obtain ⟨iad', ic', e, himg⟩ := hns.img.below hns.bel
          cases e
          rcases himg with h0 | ⟨b, o, rfl, himg⟩
          · rw [h0] at hlt; simp at hlt
          obtain ⟨x0, x1, x2⟩ := himg j hlt
          rw [scan_at _ hlt] at hsc
          have HS : Hid (_ ∧ _) := ⟨hsc, hns⟩
          clear himg hsc hns
          generalize l.getD j in0 = x at *
          obtain ⟨xo, xa, xb⟩ := x
          dsimp only at x0 x1 x2
          obtain ⟨z, hze⟩ : ∃ z, jumpErr ws j ⟨xo, xa, xb⟩ = z := ⟨_, rfl⟩
          rw [hze] at HS
          by_cases hz : z = 0
          · subst hz
            go_wp2_with (go_at_call 105; refine (jumps1_any _ w5.heap.size (w.heap.size + 1) ws j ⟨xo, xa, xb⟩ (l.length + 1) ((HS.out.2.grow (below_new _ _)).jmp HF.out (by omega) (by omega) (by omega)) ((HS.out.2.grow (below_new _ _)).within) (by rw [HS.out.2.len]; omega) (by rw [HS.out.2.len]; omega)).mono ?_; rw [hze]; rintro r w9 ⟨rfl, hb9⟩; have H9 : Hid (Below _ _ w9) := hb9; clear hb9)
            go_roundw
            case rel => exact ⟨_, _, _, _, _, _, _, _, _, _, _, _, _, _, _, _, _, _, ⟨j + 1, by omega, by go_num, by have := HS.out.1; rw [if_neg (by simp)] at this; exact this, HS.out.2.grow (below_seq (below_new _ _) H9.out)⟩, rfl⟩
            case measure => simp [intOf]; omega
          · have hzb : (z != 0) = true := by simpa using hz
            go_wp2_with (go_at_call 105; refine (jumps1_any _ w5.heap.size (w.heap.size + 1) ws j ⟨xo, xa, xb⟩ (l.length + 1) ((HS.out.2.grow (below_new _ _)).jmp HF.out (by omega) (by omega) (by omega)) ((HS.out.2.grow (below_new _ _)).within) (by rw [HS.out.2.len]; omega) (by rw [HS.out.2.len]; omega)).mono ?_; rw [hze]; rintro r w9 ⟨rfl, hb9⟩; have H9 : Hid (NS w wF w9 (w.heap.size + 1 + 1) (w.heap.size + 1) (w5.heap.size + 1 + 1 + 1) l _ os ov ws) := HS.out.2.grow (below_seq (below_new _ _) hb9); obtain ⟨rs, rf, rl⟩ := cells_of (l := [_, _]) ((H9.out.fix w.heap.size (by omega) (by omega) (by omega)).trans HF.out.res); have r0 := rs 0 _ rfl; have r1 := rs 1 _ rfl; clear hb9 rs)
            have hck : checkI l = (z, (j : Int)) := by
              have := HS.out.1
              rw [if_pos (by simpa using hz)] at this
              unfold checkI
              rw [if_neg (by omega), HR.out.1.1]
              dsimp only
              rw [HR.out.1.2.1]
              dsimp only
              rw [HR.out.1.2.2]
              dsimp only
              rw [← this]
            have hcc := HK.out.2.1.symm.trans hck
            simp only [Prod.mk.injEq] at hcc
            obtain ⟨rfl, rfl⟩ := hcc
            have hres := setCell_at (i := 1) (u := .int .i64 (j : Int)) (setCell_at (i := 0) (u := .int .i64 c) ((H9.out.fix w.heap.size (by omega) (by omega) (by omega)).trans HF.out.res))
            exact bodyPost_ret (v := .agg #[.int .i64 c, .int .i64 (j : Int)]) (Check_ends (by simpa using hres) rfl) rfl ⟨rfl, (H9.out.bel.setCell (Nat.le_refl _) _).setCell (Nat.le_refl _) _⟩
        · have hje : j = l.length := by omega
          subst hje
          rw [List.drop_length] at hsc
          have HS : Hid (_ ∧ _) := ⟨hsc.symm, hns⟩
          clear hsc hns
          go_wp2_with fail
          go_roundw
          case rel => exact ⟨4, by omega, by go_num, .inr (.inr (.inl ⟨os, ov, ws, HR.out.1.1, HR.out.1.2.1, HS.out.2, hol, .inr (.inr ⟨rfl, HR.out.1.2.2, HS.out.1⟩)⟩))⟩
          case measure => simp [intOf]
    · have hlk := (hns.fix (w5.heap.size + 1 + 1) (by omega) (by omega) (by omega)).trans HF.out.lks
      obtain ⟨ls, -, llt⟩ := cells_of (l := [_, _, _, _, _]) hlk
      have q0 := ls 4 _ rfl
      have HR : Hid ((scan (fun _ x => formErr x) l 0 = none ∧ nestScan l l 0 [] (List.replicate (l.length + 1) 0) = .inr (os, ws) ∧ scan (unclosedErr os) l 0 = none ∧ scan (jumpErr ws) l 0 = none) ∧ SS w wF wr (w.heap.size + 1 + 1) (w.heap.size + 1) (w.heap.size + 1 + 1 + 1) (w5.heap.size + 1 + 1 + 1) ∧ HtAt wr (w.heap.size + 1 + 1 + 1) 1 M0) := ⟨⟨hfo, hne, hun, hju⟩, hns.ss _, HF.out.hts.same (hns.fix _ (by omega) (by omega) (by omega))⟩
      clear ls hlk hns hfo hne hun hju
      go_wp2_with fail
      go_loopw [37] (fun i wq => ∃ (j N : Nat) (M : Int → Option Int), j ≤ l.length ∧ i = .int .i64 j ∧ N ≤ 1 + 2 * j ∧ (∀ z h, M z = some h → 0 ≤ h ∧ h ≤ 20) ∧ stackScan (l.drop j) j M = stackScan l 0 M0 ∧ HtAt wq (w.heap.size + 1 + 1 + 1) N M ∧ SS w wF wq (w.heap.size + 1 + 1) (w.heap.size + 1) (w.heap.size + 1 + 1 + 1) (w5.heap.size + 1 + 1 + 1)) (fun i _ => l.length - (intOf i).toNat)
      case atStart => exact ⟨0, 1, M0, Nat.zero_le _, rfl, by omega, M0_low, rfl, HR.out.2.2, HR.out.2.1⟩
      case round =>
        obtain ⟨j, N, M, hj, rfl, hN, hr, hsc, hM, hss⟩ := hrel
        by_cases hlt : j < l.length
        · obtain ⟨iad', ic', e, himg⟩ := HK.out.2.2.below hss.bel
          cases e
          rcases himg with h0 | ⟨b, o, rfl, himg⟩
          · rw [h0] at hlt; simp at hlt
          obtain ⟨x0, x1, x2⟩ := himg j hlt
          rw [stackScan_at hlt] at hsc
          have hfo := scan_none _ l 0 HR.out.1.1 j hlt
          have HS : Hid ((_ ∧ _) ∧ (_ ∧ _)) := ⟨⟨hsc, hfo⟩, hM, hss⟩
          have Hr : Hid (∀ z h, M z = some h → 0 ≤ h ∧ h ≤ 20) := hr
          clear himg hsc hM hss hfo hr
          generalize l.getD j in0 = x at *
          obtain ⟨xo, xa, xb⟩ := x
          dsimp only at x0 x1 x2
          rcases hst : stackStep M j ⟨xo, xa, xb⟩ with ⟨z, M'⟩
          rw [hst] at HS
          by_cases hz : z = 0
          · subst hz
            go_wp2_with (go_at_call 106; refine (stack1_any _ (w5.heap.size + 1) (w.heap.size + 1 + 1 + 1) N M j ⟨xo, xa, xb⟩ (HK.out.1.below (HS.out.2.2.grow (below_new _ _)).bel) ((HS.out.2.2.grow (below_new _ _)).stk HF.out (by omega) (by omega) (by omega) (by omega)) (HS.out.2.1.below (below_new _ _)) (by omega) HS.out.1.2 Hr.out (by omega) (Nat.lt_of_lt_of_le (by omega) (HS.out.2.2.grow (below_new _ _)).bas)).mono ?_; rw [hst]; rintro r w9 ⟨rfl, hb9, hs9, hf9, hM9, hr9⟩; have H9 : Hid (SS w wF w9 (w.heap.size + 1 + 1) (w.heap.size + 1) (w.heap.size + 1 + 1 + 1) (w5.heap.size + 1 + 1 + 1) ∧ HtAt w9 (w.heap.size + 1 + 1 + 1) (N + 2) M' ∧ ∀ z h, M' z = some h → 0 ≤ h ∧ h ≤ 20) := ⟨(HS.out.2.2.grow (below_new _ _)).step (by omega) hb9 hs9 hf9, hM9, hr9⟩; clear hb9 hs9 hf9 hM9 hr9)
            go_roundw
            case rel => exact ⟨_, _, _, _, _, _, _, _, _, _, _, _, _, _, _, _, _, _, ⟨j + 1, N + 2, M', by omega, by go_num, by omega, H9.out.2.2, by have := HS.out.1.1; rw [if_neg (by simp)] at this; exact this, H9.out.2.1, H9.out.1⟩, rfl⟩
            case measure => simp [intOf]; omega
          · have hzb : (z != 0) = true := by simpa using hz
            go_wp2_with (go_at_call 106; refine (stack1_any _ (w5.heap.size + 1) (w.heap.size + 1 + 1 + 1) N M j ⟨xo, xa, xb⟩ (HK.out.1.below (HS.out.2.2.grow (below_new _ _)).bel) ((HS.out.2.2.grow (below_new _ _)).stk HF.out (by omega) (by omega) (by omega) (by omega)) (HS.out.2.1.below (below_new _ _)) (by omega) HS.out.1.2 Hr.out (by omega) (Nat.lt_of_lt_of_le (by omega) (HS.out.2.2.grow (below_new _ _)).bas)).mono ?_; rw [hst]; rintro r w9 ⟨rfl, hb9, hs9, hf9, hM9, hr9⟩; have H9 : Hid (SS w wF w9 (w.heap.size + 1 + 1) (w.heap.size + 1) (w.heap.size + 1 + 1 + 1) (w5.heap.size + 1 + 1 + 1)) := (HS.out.2.2.grow (below_new _ _)).step (by omega) hb9 hs9 hf9; obtain ⟨rs, rf, rl⟩ := cells_of (l := [_, _]) ((H9.out.fix w.heap.size (by omega) (by omega) (by omega) (by omega)).trans HF.out.res); have r0 := rs 0 _ rfl; have r1 := rs 1 _ rfl; clear hb9 hs9 hf9 hM9 hr9 rs)
            have hck : checkI l = (z, (j : Int)) := by
              have := HS.out.1.1
              rw [if_pos (by simpa using hz)] at this
              unfold checkI
              rw [if_neg (by omega), HR.out.1.1]
              dsimp only
              rw [HR.out.1.2.1]
              dsimp only
              rw [HR.out.1.2.2.1]
              dsimp only
              rw [HR.out.1.2.2.2]
              dsimp only
              rw [← this]
            have hcc := HK.out.2.1.symm.trans hck
            simp only [Prod.mk.injEq] at hcc
            obtain ⟨rfl, rfl⟩ := hcc
            have hres := setCell_at (i := 1) (u := .int .i64 (j : Int)) (setCell_at (i := 0) (u := .int .i64 c) ((H9.out.fix w.heap.size (by omega) (by omega) (by omega) (by omega)).trans HF.out.res))
            exact bodyPost_ret (v := .agg #[.int .i64 c, .int .i64 (j : Int)]) (Check_ends (by simpa using hres) rfl) rfl ⟨rfl, (H9.out.bel.setCell (Nat.le_refl _) _).setCell (Nat.le_refl _) _⟩
        · have hje : j = l.length := by omega
          subst hje
          rw [List.drop_length, stackScan] at hsc
          have hck : checkI l = (if (M l.length).getD 0 ≠ 0 then (8, (l.length : Int)) else (0, 0)) := by
            unfold checkI
            rw [if_neg (by omega), HR.out.1.1]
            dsimp only
            rw [HR.out.1.2.1]
            dsimp only
            rw [HR.out.1.2.2.1]
            dsimp only
            rw [HR.out.1.2.2.2]
            dsimp only
            rw [← hsc]
          have HS : Hid (_ ∧ _ ∧ _) := ⟨hck, hM, hss⟩
          clear hsc hM hss hck hr
          go_wp2_with fail
          go_roundw
          case rel => exact ⟨5, by omega, by go_num, .inr (.inr (.inr ⟨rfl, M, N, HS.out.1, HS.out.2.1, HS.out.2.2⟩))⟩
          case measure => simp [intOf]
    · obtain ⟨rfl, M, N, hck, hM, hss⟩ := hrel
      have hlook := hM.look1 (z := (l.length : Int)) (by omega)
      obtain ⟨rs, rf, rl⟩ := cells_of (l := [_, _]) ((hss.fix w.heap.size (by omega) (by omega) (by omega) (by omega)).trans HF.out.res)
      have r0 := rs 0 _ rfl
      have r1 := rs 1 _ rfl
      have HS : Hid (_ ∧ _) := ⟨HK.out.2.1.symm.trans hck, hss⟩
      clear hck hM hss rs
      obtain ⟨z, hze⟩ : ∃ z, (M (l.length : Int)).getD 0 = z := ⟨_, rfl⟩
      rw [hze] at hlook HS
      by_cases hz : z = 0
      · subst hz
        go_wp2_with fail
        have hcc := HS.out.1
        rw [if_neg (by simp)] at hcc
        simp only [Prod.mk.injEq] at hcc
        obtain ⟨rfl, rfl⟩ := hcc
        have hres := setCell_at (i := 1) (u := .int .i64 0) (setCell_at (i := 0) (u := .int .i64 0) ((HS.out.2.fix w.heap.size (by omega) (by omega) (by omega) (by omega)).trans HF.out.res))
        exact bodyPost_ret (v := .agg #[.int .i64 0, .int .i64 0]) (Check_ends (by simpa using hres) rfl) rfl ⟨rfl, (HS.out.2.bel.setCell (Nat.le_refl _) _).setCell (Nat.le_refl _) _⟩
      · have hzb : (z != 0) = true := by simpa using hz
        go_wp2_with fail
        have hcc := HS.out.1
        rw [if_pos (by simpa using hz)] at hcc
        simp only [Prod.mk.injEq] at hcc
        obtain ⟨rfl, rfl⟩ := hcc
        have hres := setCell_at (i := 1) (u := .int .i64 (l.length : Int)) (setCell_at (i := 0) (u := .int .i64 8) ((HS.out.2.fix w.heap.size (by omega) (by omega) (by omega) (by omega)).trans HF.out.res))
        exact bodyPost_ret (v := .agg #[.int .i64 8, .int .i64 (l.length : Int)]) (Check_ends (by simpa using hres) rfl) rfl ⟨rfl, (HS.out.2.bel.setCell (Nat.le_refl _) _).setCell (Nat.le_refl _) _⟩
end Go.Proofs.YtgemadoieielcacDoor
