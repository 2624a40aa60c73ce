import Derived.Test.YtcmoehednkaehadDoorHts
import Derived.Test.YtcmoehednkaehadDoorNest
namespace Go.Proofs.YtcmoehednkaehadDoor
open Go.ChangeShapes Go.WideShapes Go.ChangeAt Go.RowKit

/-- The height behind an instruction, where it goes on. -/
def putWays (bh : Int) : List Int → (Int → Option Int) → Int × (Int → Option Int)
  | [], M => (0, M)
  | t :: r, M => if M t ≠ none ∧ M t ≠ some bh then (8, M) else putWays bh r (setH M t bh)

/-- The look at the stack, of one instruction. -/
def stackStep (M : Int → Option Int) (k : Nat) (x : In) : Int × (Int → Option Int) :=
  match M k with
  | none => (7, M)
  | some h => if h < takesOf x.op.toNat ∨ 20 < h - takesOf x.op.toNat + putsOf x.op.toNat then (8, M) else putWays (h - takesOf x.op.toNat + putsOf x.op.toNat) (waysOf k x) M

theorem takes_le {m : Nat} (h2 : m ≤ 18) : 0 ≤ takesOf m ∧ takesOf m ≤ 2 ∧ 0 ≤ putsOf m ∧ putsOf m ≤ 1 := by
  have : m = 0 ∨ m = 1 ∨ m = 2 ∨ m = 3 ∨ m = 4 ∨ m = 5 ∨ m = 6 ∨ m = 7 ∨ m = 8 ∨ m = 9 ∨ m = 10 ∨ m = 11 ∨ m = 12 ∨ m = 13 ∨ m = 14 ∨ m = 15 ∨ m = 16 ∨ m = 17 ∨ m = 18 := by omega
  rcases this with rfl | rfl | rfl | rfl | rfl | rfl | rfl | rfl | rfl | rfl | rfl | rfl | rfl | rfl | rfl | rfl | rfl | rfl | rfl <;> decide

set_option maxRecDepth 20000 in
set_option maxHeartbeats 4000000 in
/-- Nothing leads there. -/
theorem stack1_none (w : World) (fb mb N : Nat) (M : Int → Option Int) (k : Nat) (op a b : Int) (hf : w.cell? ⟨fb, 0, none⟩ = some (.map (some mb))) (hM : HtAt w mb N M) (hk : k ≤ 2000) (hh : M k = none) :
    Calls Tryd.prog 106 #[.int .i64 k, .agg #[.int .i64 op, .int .i64 a, .int .i64 b], .pointer (some ⟨fb, 0, none⟩)] w fun r w' => r = .returned (.int .i64 7) ∧ Below w.heap.size w w' := by
  have lf : fb < w.heap.size := World.block_lt_of_cell? w _ hf
  have hlook := (hM.below (below_new w (.cells #[.int .i64 op, .int .i64 a, .int .i64 b] 27))).look (z := k) (by omega)
  rw [hh] at hlook
  simp only [Option.getD_none, Option.isSome_none] at hlook
  go_enter Tryd.func106, Tryd.ntmps106
  go_wp2_with fail
  go_ret
  exact ⟨rfl, below_new _ _⟩

set_option maxRecDepth 20000 in
set_option maxHeartbeats 4000000 in
/-- Too little or too much. -/
theorem stack1_bad (w : World) (fb mb N : Nat) (M : Int → Option Int) (k m : Nat) (a b : Int) (hkk : KindsIn w) (hf : w.cell? ⟨fb, 0, none⟩ = some (.map (some mb))) (hM : HtAt w mb N M) (hk : k ≤ 2000) (h1 : 1 ≤ m) (h2 : m ≤ 18) (h : Int) (hh : M k = some h) (hr : 0 ≤ h ∧ h ≤ 20) (hbad : h < takesOf m ∨ 20 < h - takesOf m + putsOf m) :
    Calls Tryd.prog 106 #[.int .i64 k, .agg #[.int .i64 m, .int .i64 a, .int .i64 b], .pointer (some ⟨fb, 0, none⟩)] w fun r w' => r = .returned (.int .i64 8) ∧ Below w.heap.size w w' := by
  have lf : fb < w.heap.size := World.block_lt_of_cell? w _ hf
  have hlook := (hM.below (below_new w (.cells #[.int .i64 m, .int .i64 a, .int .i64 b] 27))).look (z := k) (by omega)
  rw [hh] at hlook
  simp only [Option.getD_some, Option.isSome_some] at hlook
  obtain ⟨k0, k1, k2, k3, k4, k5⟩ := hkk m h1 h2
  have l1 : 2 < w.heap.size := World.block_lt_of_cell? w _ k0
  obtain ⟨t1, t2, t3, t4⟩ := takes_le h2
  generalize takesOf m = tk at *
  generalize putsOf m = pt at *
  clear hkk hM
  by_cases hb1 : h < tk
  · go_enter Tryd.func106, Tryd.ntmps106
    go_wp2_with fail
    go_ret
    exact ⟨rfl, (below_new _ _).alloc (by simp) _⟩
  · have hb2 : 20 < h - tk + pt := by omega
    go_enter Tryd.func106, Tryd.ntmps106
    go_wp2_with fail
    go_ret
    exact ⟨rfl, (below_new _ _).alloc (by simp) _⟩

theorem grown_trans {w w' w'' : World} {row : Option Nat} (h : w.grownBy w' row) (h' : w'.grownBy w'' row) : w.grownBy w'' row :=
  ⟨h'.os.trans h.os, h'.tape.trans h.tape, h'.output.trans h.output, Nat.le_trans h.size h'.size, fun k hk hr => (h'.block k (Nat.lt_of_lt_of_le hk h.size) hr).trans (h.block k hk hr)⟩

theorem HtAt.mono {w : World} {mb N N' : Nat} {M : Int → Option Int} (h : HtAt w mb N M) (hn : N ≤ N') : HtAt w mb N' M := by
  obtain ⟨D, h1, h2⟩ := h
  exact ⟨D, h1.mono hn, h2⟩

theorem not_map {w : World} {b o mb N : Nat} {v : Value} {M : Int → Option Int} (h : w.cell? ⟨b, o, none⟩ = some v) (hM : HtAt w mb N M) : b ≠ mb := by
  obtain ⟨D, ⟨es, clock, h1, -⟩, -⟩ := hM
  intro e
  subst e
  unfold World.cell? at h
  rw [h1] at h
  simp at h

set_option maxRecDepth 20000 in
set_option maxHeartbeats 4000000 in
theorem stack1_good (w : World) (fb mb N : Nat) (M : Int → Option Int) (k m : Nat) (a b : Int) (hkk : KindsIn w) (hf : w.cell? ⟨fb, 0, none⟩ = some (.map (some mb))) (hM : HtAt w mb N M) (hk : k ≤ 2000) (h1 : 1 ≤ m) (h2 : m ≤ 18) (h : Int) (hh : M k = some h) (hr : 0 ≤ h ∧ h ≤ 20) (hg1 : takesOf m ≤ h) (hg2 : h - takesOf m + putsOf m ≤ 20) (bh : Int) (hbh : h - takesOf m + putsOf m = bh) (ts : List Int) (hts : waysOf k ⟨m, a, b⟩ = ts) (hlow : ∀ t ∈ ts, 0 ≤ t ∧ t ≤ 1000000) (hN : N ≤ 100000) (hlen : ts.length ≤ 2) (c : Int) (M' : Int → Option Int) (hp : putWays bh ts M = (c, M')) :
    Calls Tryd.prog 106 #[.int .i64 k, .agg #[.int .i64 m, .int .i64 a, .int .i64 b], .pointer (some ⟨fb, 0, none⟩)] w fun r w' => r = .returned (.int .i64 c) ∧ w.grownBy w' (some mb) ∧ HtAt w' mb (N + 2) M' := by
  have lf : fb < w.heap.size := World.block_lt_of_cell? w _ hf
  have hlook := (hM.below (below_new w (.cells #[.int .i64 m, .int .i64 a, .int .i64 b] 27))).look (z := k) (by omega)
  rw [hh] at hlook
  simp only [Option.getD_some, Option.isSome_some] at hlook
  obtain ⟨k0, k1, k2, k3, k4, k5⟩ := hkk m h1 h2
  have l1 : 2 < w.heap.size := World.block_lt_of_cell? w _ k0
  obtain ⟨t1, t2, t3, t4⟩ := takes_le h2
  generalize takesOf m = tk at *
  generalize putsOf m = pt at *
  have HM : Hid (HtAt w mb N M) := hM
  have HT : Hid (waysOf k ⟨m, a, b⟩ = ts ∧ (∀ t ∈ ts, 0 ≤ t ∧ t ≤ 1000000) ∧ putWays bh ts M = (c, M')) := ⟨hts, hlow, hp⟩
  clear hkk hM hts hlow hp
  go_enter Tryd.func106, Tryd.ntmps106
  go_wp2_with (go_at_call 82; refine (ways_any _ k ⟨m, a, b⟩ (by omega)).mono ?_; rw [HT.out.1]; rintro r w3 ⟨⟨v3, rfl, hsl⟩, hb3⟩; obtain ⟨tad, tc, rfl, hrow⟩ := hsl; have H3 : Hid (Below _ _ w3 ∧ (ts = [] ∨ ∃ b o, tad = some ⟨b, o, none⟩ ∧ ∀ j, j < ts.length → w3.cell? ⟨b, o + j, none⟩ = some (.int .i64 (ts.getD j 0)))) := ⟨hb3, hrow⟩; clear hrow hb3)
  have H4 : Hid (HtAt w3 mb N M ∧ w3.cell? ⟨fb, 0, none⟩ = some (.map (some mb)) ∧ w.grownBy w3 (some mb)) := by
    have hb : Below w.heap.size w w3 := below_seq ((below_new _ _).alloc (by simp) _) H3.out.1
    exact ⟨HM.out.below hb, below_cell hb hf, ⟨hb.os, hb.tape, hb.output, hb.size, fun j hj _ => hb.block j hj⟩⟩
  go_loopw [11, 12, 13, 45] (fun _ _ _ i wr => ∃ (j : Nat) (M1 : Int → Option Int), j ≤ ts.length ∧ i = .int .i64 j ∧ putWays bh (ts.drop j) M1 = (c, M') ∧ HtAt wr mb (N + j) M1 ∧ w3.grownBy wr (some mb)) (fun _ _ _ i _ => ts.length - (intOf i).toNat)
  case atStart => exact ⟨0, M, Nat.zero_le _, rfl, HT.out.2.2, H4.out.1, ⟨rfl, rfl, rfl, Nat.le_refl _, fun _ _ _ => rfl⟩⟩
  case round =>
    obtain ⟨j, M1, hj, rfl, hput, hht, hgr⟩ := hrel
    by_cases hlt : j < ts.length
    · rcases H3.out.2 with hx | ⟨b', o', had, hrow⟩
      · rw [hx] at hlt; simp at hlt
      subst had
      have q := hgr.cell (hrow j hlt) (by simpa using not_map (hrow j hlt) H4.out.1)
      have qf := hgr.cell H4.out.2.1 (by simpa using not_map H4.out.2.1 H4.out.1)
      have hget : ts.getD j 0 = ts[j] := by rw [List.getD_eq_getElem?_getD, List.getElem?_eq_getElem hlt]; rfl
      have hmem := HT.out.2.1 (ts.getD j 0) (by rw [hget]; exact List.getElem_mem hlt)
      have hdrop : ts.drop j = ts.getD j 0 :: ts.drop (j + 1) := by rw [hget]; exact List.drop_eq_getElem_cons hlt
      rw [hdrop] at hput
      generalize ts.getD j 0 = t at *
      have hl2 := hht.look (z := t) (by omega)
      have HP : Hid (putWays bh (t :: ts.drop (j + 1)) M1 = (c, M') ∧ HtAt wr mb (N + j) M1 ∧ w3.grownBy wr (some mb)) := ⟨hput, hht, hgr⟩
      clear hput hht hgr hrow hget hdrop
      cases hm1 : M1 t with
      | none =>
        rw [hm1] at hl2
        simp only [Option.getD_none, Option.isSome_none] at hl2
        have hp2 : putWays bh (ts.drop (j + 1)) (setH M1 t bh) = (c, M') := by
          have := HP.out.1
          unfold putWays at this
          rw [if_neg (by simp [hm1])] at this
          exact this
        obtain ⟨w5, hrun, hset, hg5⟩ := HP.out.2.1.set (by omega) (z := t) (v := bh) (by omega) (by omega)
        have HS : Hid (putWays bh (ts.drop (j + 1)) (setH M1 t bh) = (c, M') ∧ HtAt w5 mb (N + j + 1) (setH M1 t bh) ∧ wr.grownBy w5 (some mb)) := ⟨hp2, hset, hg5⟩
        clear hp2 hset hg5
        go_wp2_with fail
        go_roundw
        case rel => exact ⟨j + 1, setH M1 t bh, by omega, by go_num, HS.out.1, HS.out.2.1, grown_trans HP.out.2.2 HS.out.2.2⟩
        case measure => simp [intOf]; omega
      | some o =>
        rw [hm1] at hl2
        simp only [Option.getD_some, Option.isSome_some] at hl2
        by_cases ho : o = bh
        · subst ho
          have hp2 : putWays o (ts.drop (j + 1)) (setH M1 t o) = (c, M') := by
            have := HP.out.1
            unfold putWays at this
            rw [if_neg (by simp [hm1])] at this
            exact this
          obtain ⟨w5, hrun, hset, hg5⟩ := HP.out.2.1.set (by omega) (z := t) (v := o) (by omega) (by omega)
          have HS : Hid (putWays o (ts.drop (j + 1)) (setH M1 t o) = (c, M') ∧ HtAt w5 mb (N + j + 1) (setH M1 t o) ∧ wr.grownBy w5 (some mb)) := ⟨hp2, hset, hg5⟩
          clear hp2 hset hg5
          go_wp2_with fail
          go_roundw
          case rel => exact ⟨j + 1, setH M1 t o, by omega, by go_num, HS.out.1, HS.out.2.1, grown_trans HP.out.2.2 HS.out.2.2⟩
          case measure => simp [intOf]; omega
        · have hob : (o != bh) = true := by simpa using ho
          have e : c = 8 ∧ M' = M1 := by
            have := HP.out.1
            unfold putWays at this
            rw [if_pos (by simp [hm1, ho])] at this
            simpa [eq_comm] using this
          obtain ⟨rfl, rfl⟩ := e
          go_wp2_with fail
          go_ret
          exact ⟨rfl, grown_trans H4.out.2.2 HP.out.2.2, HP.out.2.1.mono (by omega)⟩
    · have hje : j = ts.length := by omega
      subst hje
      rw [List.drop_length] at hput
      have e : c = 0 ∧ M' = M1 := by simpa [putWays, eq_comm] using hput
      obtain ⟨rfl, rfl⟩ := e
      have HP : Hid (HtAt wr mb (N + ts.length) M' ∧ w3.grownBy wr (some mb)) := ⟨hht, hgr⟩
      clear hht hgr hput
      go_wp2_with fail
      go_ret
      exact ⟨rfl, grown_trans H4.out.2.2 HP.out.2, HP.out.1.mono (by omega)⟩
end Go.Proofs.YtcmoehednkaehadDoor
