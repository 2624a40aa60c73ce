import Derived.Test.YtgemadoieielcacDoorGNest
namespace Go.Proofs.YtgemadoieielcacDoor
open Go.ChangeShapes Go.WideShapes Go.ChangeAt Go.RowKit

/-- The height behind an instruction, where it goes on. -/
def putWays (bh : Int) : List Int → (Int → Option Int) → Int × (Int → Option Int)
  | [], M => (0, M)
  | t :: r, M => if M t ≠ none ∧ M t ≠ some bh then (8, M) else putWays bh r (setH M t bh)

/-- The look at the stack, of one instruction. -/
def stackStep (M : Int → Option Int) (k : Nat) (x : In) : Int × (Int → Option Int) :=
  match M k with
  | none => (7, M)
  | some h => if h < takesOf x.op.toNat ∨ 20 < h - takesOf x.op.toNat + putsOf x.op.toNat then (8, M) else putWays (h - takesOf x.op.toNat + putsOf x.op.toNat) (waysOf k x) M

theorem takes_le {m : Nat} (h2 : m ≤ 18) : 0 ≤ takesOf m ∧ takesOf m ≤ 2 ∧ 0 ≤ putsOf m ∧ putsOf m ≤ 1 := by
  have : m = 0 ∨ m = 1 ∨ m = 2 ∨ m = 3 ∨ m = 4 ∨ m = 5 ∨ m = 6 ∨ m = 7 ∨ m = 8 ∨ m = 9 ∨ m = 10 ∨ m = 11 ∨ m = 12 ∨ m = 13 ∨ m = 14 ∨ m = 15 ∨ m = 16 ∨ m = 17 ∨ m = 18 := by omega
  rcases this with rfl | rfl | rfl | rfl | rfl | rfl | rfl | rfl | rfl | rfl | rfl | rfl | rfl | rfl | rfl | rfl | rfl | rfl | rfl <;> decide

set_option maxRecDepth 20000 in
set_option maxHeartbeats 4000000 in
/-- Nothing leads there. -/
theorem stack1_none (w : World) (fb mb N : Nat) (M : Int → Option Int) (k : Nat) (op a b : Int) (hf : w.cell? ⟨fb, 0, none⟩ = some (.map (some mb))) (hM : HtAt w mb N M) (hk : k ≤ 2000) (hh : M k = none) :
    Calls Tryd.prog 106 #[.int .i64 k, .agg #[.int .i64 op, .int .i64 a, .int .i64 b], .pointer (some ⟨fb, 0, none⟩)] w fun r w' => r = .returned (.int .i64 7) ∧ Below w.heap.size w w' := by
  have lf : fb < w.heap.size := World.block_lt_of_cell? w _ hf
  have hlook := (hM.below (below_new w (.cells #[.int .i64 op, .int .i64 a, .int .i64 b] 35))).look (z := k) (by omega)
  rw [hh] at hlook
  simp only [Option.getD_none, Option.isSome_none] at hlook
  go_enter Tryd.func106, Tryd.ntmps106
  go_wp2_with fail
  go_ret
  exact ⟨rfl, below_new _ _⟩

set_option maxRecDepth 20000 in
set_option maxHeartbeats 4000000 in
/-- Too little or too much. -/
theorem stack1_bad (w : World) (fb mb N : Nat) (M : Int → Option Int) (k m : Nat) (a b : Int) (hkk : KindsIn w) (hf : w.cell? ⟨fb, 0, none⟩ = some (.map (some mb))) (hM : HtAt w mb N M) (hk : k ≤ 2000) (h1 : 1 ≤ m) (h2 : m ≤ 18) (h : Int) (hh : M k = some h) (hr : 0 ≤ h ∧ h ≤ 20) (hbad : h < takesOf m ∨ 20 < h - takesOf m + putsOf m) :
    Calls Tryd.prog 106 #[.int .i64 k, .agg #[.int .i64 m, .int .i64 a, .int .i64 b], .pointer (some ⟨fb, 0, none⟩)] w fun r w' => r = .returned (.int .i64 8) ∧ Below w.heap.size w w' := by
  have lf : fb < w.heap.size := World.block_lt_of_cell? w _ hf
  have hlook := (hM.below (below_new w (.cells #[.int .i64 m, .int .i64 a, .int .i64 b] 35))).look (z := k) (by omega)
  rw [hh] at hlook
  simp only [Option.getD_some, Option.isSome_some] at hlook
  obtain ⟨k0, k1, k2, k3, k4, k5⟩ := hkk m h1 h2
  have l1 : 1 < w.heap.size := World.block_lt_of_cell? w _ k0
  obtain ⟨t1, t2, t3, t4⟩ := takes_le h2
  generalize takesOf m = tk at *
  generalize putsOf m = pt at *
  clear hkk hM
  by_cases hb1 : h < tk
  · go_enter Tryd.func106, Tryd.ntmps106
    go_wp2_with fail
    go_ret
    exact ⟨rfl, (below_new _ _).alloc (by simp) _⟩
  · have hb2 : 20 < h - tk + pt := by omega
    go_enter Tryd.func106, Tryd.ntmps106
    go_wp2_with fail
    go_ret
    exact ⟨rfl, (below_new _ _).alloc (by simp) _⟩

theorem grown_trans {w w' w'' : World} {row : Option Nat} (h : w.grownBy w' row) (h' : w'.grownBy w'' row) : w.grownBy w'' row :=
  ⟨h'.os.trans h.os, h'.tape.trans h.tape, h'.output.trans h.output, Nat.le_trans h.size h'.size, fun k hk hr => (h'.block k (Nat.lt_of_lt_of_le hk h.size) hr).trans (h.block k hk hr)⟩

theorem HtAt.mono {w : World} {mb N N' : Nat} {M : Int → Option Int} (h : HtAt w mb N M) (hn : N ≤ N') : HtAt w mb N' M := by
  obtain ⟨D, h1, h2⟩ := h
  exact ⟨D, h1.mono hn, h2⟩

theorem not_map {w : World} {b o mb N : Nat} {v : Value} {M : Int → Option Int} (h : w.cell? ⟨b, o, none⟩ = some v) (hM : HtAt w mb N M) : b ≠ mb := by
  obtain ⟨D, ⟨es, clock, h1, -⟩, -⟩ := hM
  intro e
  subst e
  unfold World.cell? at h
  rw [h1] at h
  simp at h

set_option maxRecDepth 20000 in
set_option maxHeartbeats 4000000 in
theorem stack1_good (w : World) (fb mb N : Nat) (M : Int → Option Int) (k m : Nat) (a b : Int) (hkk : KindsIn w) (hf : w.cell? ⟨fb, 0, none⟩ = some (.map (some mb))) (hM : HtAt w mb N M) (hk : k ≤ 2000) (h1 : 1 ≤ m) (h2 : m ≤ 18) (h : Int) (hh : M k = some h) (hr : 0 ≤ h ∧ h ≤ 20) (hg1 : takesOf m ≤ h) (hg2 : h - takesOf m + putsOf m ≤ 20) (bh : Int) (hbh : h - takesOf m + putsOf m = bh) (ts : List Int) (hts : waysOf k ⟨m, a, b⟩ = ts) (hlow : ∀ t ∈ ts, 0 ≤ t ∧ t ≤ 1000000) (hN : N ≤ 100000) (hlen : ts.length ≤ 2) (c : Int) (M' : Int → Option Int) (hp : putWays bh ts M = (c, M')) :
    Calls Tryd.prog 106 #[.int .i64 k, .agg #[.int .i64 m, .int .i64 a, .int .i64 b], .pointer (some ⟨fb, 0, none⟩)] w fun r w' => r = .returned (.int .i64 c) ∧ w.grownBy w' (some mb) ∧ HtAt w' mb (N + 2) M' := by
  have lf : fb < w.heap.size := World.block_lt_of_cell? w _ hf
  have hlook := (hM.below (below_new w (.cells #[.int .i64 m, .int .i64 a, .int .i64 b] 35))).look (z := k) (by omega)
  rw [hh] at hlook
  simp only [Option.getD_some, Option.isSome_some] at hlook
  obtain ⟨k0, k1, k2, k3, k4, k5⟩ := hkk m h1 h2
  have l1 : 1 < w.heap.size := World.block_lt_of_cell? w _ k0
  obtain ⟨t1, t2, t3, t4⟩ := takes_le h2
  generalize takesOf m = tk at *
  generalize putsOf m = pt at *
  have HM : Hid (HtAt w mb N M) := hM
  have HT : Hid (waysOf k ⟨m, a, b⟩ = ts ∧ (∀ t ∈ ts, 0 ≤ t ∧ t ≤ 1000000) ∧ putWays bh ts M = (c, M')) := ⟨hts, hlow, hp⟩
  clear hkk hM hts hlow hp
  go_enter Tryd.func106, Tryd.ntmps106
  go_wp2_with (go_at_call 83; refine (ways_any _ k ⟨m, a, b⟩ (by omega)).mono ?_; rw [HT.out.1]; rintro r w3 ⟨⟨v3, rfl, hsl⟩, hb3⟩; obtain ⟨tad, tc, rfl, hrow⟩ := hsl; have H3 : Hid (Below _ _ w3 ∧ (ts = [] ∨ ∃ b o, tad = some ⟨b, o, none⟩ ∧ ∀ j, j < ts.length → w3.cell? ⟨b, o + j, none⟩ = some (.int .i64 (ts.getD j 0)))) := ⟨hb3, hrow⟩; clear hrow hb3)
  have H4 : Hid (HtAt w3 mb N M ∧ w3.cell? ⟨fb, 0, none⟩ = some (.map (some mb)) ∧ w.grownBy w3 (some mb)) := by
    have hb : Below w.heap.size w w3 := below_seq ((below_new _ _).alloc (by simp) _) H3.out.1
    exact ⟨HM.out.below hb, below_cell hb hf, ⟨hb.os, hb.tape, hb.output, hb.size, fun j hj _ => hb.block j hj⟩⟩
  go_loopw [11, 12, 13, 45] (fun _ _ _ i wr => ∃ (j : Nat) (M1 : Int → Option Int), j ≤ ts.length ∧ i = .int .i64 j ∧ putWays bh (ts.drop j) M1 = (c, M') ∧ HtAt wr mb (N + j) M1 ∧ w3.grownBy wr (some mb)) (fun _ _ _ i _ => ts.length - (intOf i).toNat)
  case atStart => exact ⟨0, M, Nat.zero_le _, rfl, HT.out.2.2, H4.out.1, ⟨rfl, rfl, rfl, Nat.le_refl _, fun _ _ _ => rfl⟩⟩
  case round =>
    obtain ⟨j, M1, hj, rfl, hput, hht, hgr⟩ := hrel
    by_cases hlt : j < ts.length
    · rcases H3.out.2 with hx | ⟨b', o', had, hrow⟩
      · rw [hx] at hlt; simp at hlt
      subst had
      have q := hgr.cell (hrow j hlt) (by simpa using not_map (hrow j hlt) H4.out.1)
      have qf := hgr.cell H4.out.2.1 (by simpa using not_map H4.out.2.1 H4.out.1)
      have hget : ts.getD j 0 = ts[j] := by rw [List.getD_eq_getElem?_getD, List.getElem?_eq_getElem hlt]; rfl
      have hmem := HT.out.2.1 (ts.getD j 0) (by rw [hget]; exact List.getElem_mem hlt)
      have hdrop : ts.drop j = ts.getD j 0 :: ts.drop (j + 1) := by rw [hget]; exact List.drop_eq_getElem_cons hlt
      rw [hdrop] at hput
      generalize ts.getD j 0 = t at *
      have hl2 := hht.look (z := t) (by omega)
      have HP : Hid (putWays bh (t :: ts.drop (j + 1)) M1 = (c, M') ∧ HtAt wr mb (N + j) M1 ∧ w3.grownBy wr (some mb)) := ⟨hput, hht, hgr⟩
      clear hput hht hgr hrow hget hdrop
      cases hm1 : M1 t with
      | none =>
        rw [hm1] at hl2
        simp only [Option.getD_none, Option.isSome_none] at hl2
        have hp2 : putWays bh (ts.drop (j + 1)) (setH M1 t bh) = (c, M') := by
          have := HP.out.1
          unfold putWays at this
          rw [if_neg (by simp [hm1])] at this
          exact this
        obtain ⟨w5, hrun, hset, hg5⟩ := HP.out.2.1.set (by omega) (z := t) (v := bh) (by omega) (by omega)
        have HS : Hid (putWays bh (ts.drop (j + 1)) (setH M1 t bh) = (c, M') ∧ HtAt w5 mb (N + j + 1) (setH M1 t bh) ∧ wr.grownBy w5 (some mb)) := ⟨hp2, hset, hg5⟩
        clear hp2 hset hg5
        go_wp2_with fail
        go_roundw
        case rel => exact ⟨j + 1, setH M1 t bh, by omega, by go_num, HS.out.1, HS.out.2.1, grown_trans HP.out.2.2 HS.out.2.2⟩
        case measure => simp [intOf]; omega
      | some o =>
        rw [hm1] at hl2
        simp only [Option.getD_some, Option.isSome_some] at hl2
        by_cases ho : o = bh
        · subst ho
          have hp2 : putWays o (ts.drop (j + 1)) (setH M1 t o) = (c, M') := by
            have := HP.out.1
            unfold putWays at this
            rw [if_neg (by simp [hm1])] at this
            exact this
          obtain ⟨w5, hrun, hset, hg5⟩ := HP.out.2.1.set (by omega) (z := t) (v := o) (by omega) (by omega)
          have HS : Hid (putWays o (ts.drop (j + 1)) (setH M1 t o) = (c, M') ∧ HtAt w5 mb (N + j + 1) (setH M1 t o) ∧ wr.grownBy w5 (some mb)) := ⟨hp2, hset, hg5⟩
          clear hp2 hset hg5
          go_wp2_with fail
          go_roundw
          case rel => exact ⟨j + 1, setH M1 t o, by omega, by go_num, HS.out.1, HS.out.2.1, grown_trans HP.out.2.2 HS.out.2.2⟩
          case measure => simp [intOf]; omega
        · have hob : (o != bh) = true := by simpa using ho
          have e : c = 8 ∧ M' = M1 := by
            have := HP.out.1
            unfold putWays at this
            rw [if_pos (by simp [hm1, ho])] at this
            simpa [eq_comm] using this
          obtain ⟨rfl, rfl⟩ := e
          go_wp2_with fail
          go_ret
          exact ⟨rfl, grown_trans H4.out.2.2 HP.out.2.2, HP.out.2.1.mono (by omega)⟩
    · have hje : j = ts.length := by omega
      subst hje
      rw [List.drop_length] at hput
      have e : c = 0 ∧ M' = M1 := by simpa [putWays, eq_comm] using hput
      obtain ⟨rfl, rfl⟩ := e
      have HP : Hid (HtAt wr mb (N + ts.length) M' ∧ w3.grownBy wr (some mb)) := ⟨hht, hgr⟩
      clear hht hgr hput
      go_wp2_with fail
      go_ret
      exact ⟨rfl, grown_trans H4.out.2.2 HP.out.2, HP.out.1.mono (by omega)⟩
end Go.Proofs.YtgemadoieielcacDoor
namespace Go.Proofs.YtgemadoieielcacDoor
open Go.ChangeShapes Go.WideShapes Go.ChangeAt Go.RowKit

set_option maxRecDepth 20000 in
set_option maxHeartbeats 4000000 in
theorem nested_other (w0 wF w : World) (rb wb B : Nat) (l : List In) (iv : Value) (os : List Nat) (ov : Value) (ws : List Int) (k : Nat) (op a b : Int) (h : NS w0 wF w rb wb B l iv os ov ws) (hk : k < l.length) (_hl : l.length ≤ 2000) (ho : os.length ≤ 2000) (h13 : op ≠ 13) (h16 : op ≠ 16) (h14 : op ≠ 14) (h17 : op ≠ 17) (h15 : op ≠ 15) :
    Calls Tryd.prog 68 #[.pointer (some ⟨rb, 0, none⟩), .int .i64 k, .agg #[.int .i64 op, .int .i64 a, .int .i64 b]] w fun r w' => r = .returned (.int .i64 0) ∧ ∃ ov', NS w0 wF w' rb wb B l iv os ov' (ws.set k (beginOf os.getLast?)) := by
  obtain ⟨oad, oc, rfl⟩ := owns_value h.own
  have hkw : k < ws.length := by rw [h.len]; omega
  have lr : rb < w.heap.size := (Array.getElem?_eq_some_iff.1 h.blk).1
  have lw : wb < w.heap.size := (Array.getElem?_eq_some_iff.1 h.wth).1
  have lo := h.ord.2.1
  have n1 : ¬ w.heap.size = wb := by omega
  have n2 : ¬ rb = wb := by omega
  have n3 : ¬ w.heap.size = rb := by omega
  have H0 : Hid (NS w0 wF w rb wb B l iv os (.slice oad os.length oc) ws) := h
  clear h
  generalize hin : beginOf os.getLast? = inn
  have HIN : Hid (beginOf os.getLast? = inn) := hin
  have f13 : (op == 13) = false := by simpa using h13
  have f16 : (op == 16) = false := by simpa using h16
  have f14 : (op == 14) = false := by simpa using h14
  have f17 : (op == 17) = false := by simpa using h17
  have f15 : (op == 15) = false := by simpa using h15
  go_enter Tryd.func68, Tryd.ntmps68
  go_wp2_with (go_at_call 101; refine (innermost_any _ rb l os _ _ _ ((H0.out.grow (below_new _ _)).rg) (by omega)).mono ?_; rintro r w1 ⟨rfl, hb1⟩; have c0 : w1.cell? ⟨w.heap.size, 0, none⟩ = some (.int .i64 op) := below_cell hb1 (by go_simp); have c1 : w1.cell? ⟨w.heap.size, 1, none⟩ = some (.int .i64 a) := below_cell hb1 (by go_simp); have c2 : w1.cell? ⟨w.heap.size, 2, none⟩ = some (.int .i64 b) := below_cell hb1 (by go_simp); have H1 : Hid (NS w0 wF w1 rb wb B l iv os (.slice oad os.length oc) ws) := H0.out.grow (below_seq (below_new _ _) hb1); obtain ⟨cs, fs, lt1⟩ := cells_of (l := [_, _, _]) H1.out.blk; have k0 := cs 0 _ rfl; have k1 := cs 1 _ rfl; have k2 := cs 2 _ rfl; have fr1 := fs 1; obtain ⟨ds, es, lt2⟩ := cells_of (l := intVs ws) H1.out.wth; have kw := ds k (.int .i64 (ws.getD k 0)) (by simp [intVs, List.getD, hkw]); have fw := es k; have lx : w.heap.size < w1.heap.size := World.block_lt_of_cell? w1 _ c0; clear hb1 cs fs ds es; rw [hin]; clear hin)
  go_ret
  exact ⟨rfl, _, H1.out.setW k inn⟩
set_option maxRecDepth 20000 in
set_option maxHeartbeats 4000000 in
theorem nested_stop_no (w0 wF w : World) (rb wb B : Nat) (l : List In) (iv : Value) (os : List Nat) (ov : Value) (ws : List Int) (k : Nat) (a b : Int) (h : NS w0 wF w rb wb B l iv os ov ws) (hk : k < l.length) (hl : l.length ≤ 2000) (ho : os.length ≤ 2000) (hq : opens l os 13 a = none) :
    Calls Tryd.prog 68 #[.pointer (some ⟨rb, 0, none⟩), .int .i64 k, .agg #[.int .i64 15, .int .i64 a, .int .i64 b]] w fun r w' => r = .returned (.int .i64 9) ∧ ∃ ov', NS w0 wF w' rb wb B l iv os ov' (ws.set k (beginOf os.getLast?)) := by
  obtain ⟨oad, oc, rfl⟩ := owns_value h.own
  have hkw : k < ws.length := by rw [h.len]; omega
  have lr : rb < w.heap.size := (Array.getElem?_eq_some_iff.1 h.blk).1
  have lw : wb < w.heap.size := (Array.getElem?_eq_some_iff.1 h.wth).1
  have lo := h.ord.2.1
  have n1 : ¬ w.heap.size = wb := by omega
  have n2 : ¬ rb = wb := by omega
  have n3 : ¬ w.heap.size = rb := by omega
  have H0 : Hid (NS w0 wF w rb wb B l iv os (.slice oad os.length oc) ws) := h
  clear h
  generalize hin : beginOf os.getLast? = inn
  have HIN : Hid (beginOf os.getLast? = inn) := hin
  go_enter Tryd.func68, Tryd.ntmps68
  go_wp2_with (go_at_call 101; refine (innermost_any _ rb l os _ _ _ ((H0.out.grow (below_new _ _)).rg) (by omega)).mono ?_; rintro r w1 ⟨rfl, hb1⟩; have c0 : w1.cell? ⟨w.heap.size, 0, none⟩ = some (.int .i64 15) := below_cell hb1 (by go_simp); have c1 : w1.cell? ⟨w.heap.size, 1, none⟩ = some (.int .i64 a) := below_cell hb1 (by go_simp); have c2 : w1.cell? ⟨w.heap.size, 2, none⟩ = some (.int .i64 b) := below_cell hb1 (by go_simp); have H1 : Hid (NS w0 wF w1 rb wb B l iv os (.slice oad os.length oc) ws) := H0.out.grow (below_seq (below_new _ _) hb1); obtain ⟨cs, fs, lt1⟩ := cells_of (l := [_, _, _]) H1.out.blk; have k0 := cs 0 _ rfl; have k1 := cs 1 _ rfl; have k2 := cs 2 _ rfl; have fr1 := fs 1; obtain ⟨ds, es, lt2⟩ := cells_of (l := intVs ws) H1.out.wth; have kw := ds k (.int .i64 (ws.getD k 0)) (by simp [intVs, List.getD, hkw]); have fw := es k; have lx : w.heap.size < w1.heap.size := World.block_lt_of_cell? w1 _ c0; clear hb1 cs fs ds es; rw [hin]; clear hin)
  go_wp2_with (go_at_call 102; refine (begins_any _ rb l os _ _ _ 13 a ((H1.out.setW k inn).rg) (by omega) (by omega)).mono ?_; rw [hq]; rintro r w3 ⟨rfl, hb3⟩; have H3 : Hid (NS w0 wF w3 rb wb B l iv os (.slice oad os.length oc) (ws.set k inn)) := (H1.out.setW k inn).grow hb3; replace c0 : w3.cell? ⟨w.heap.size, 0, none⟩ = some (.int .i64 15) := below_cell hb3 (by go_simp); replace c1 : w3.cell? ⟨w.heap.size, 1, none⟩ = some (.int .i64 a) := below_cell hb3 (by go_simp); replace c2 : w3.cell? ⟨w.heap.size, 2, none⟩ = some (.int .i64 b) := below_cell hb3 (by go_simp); obtain ⟨cs, fs, lt3⟩ := cells_of (l := [_, _, _]) H3.out.blk; replace k0 := cs 0 _ rfl; replace k1 := cs 1 _ rfl; replace k2 := cs 2 _ rfl; replace fr1 := fs 1; clear hb3 cs fs kw fw; dsimp only [beginOf])
  go_ret
  exact ⟨rfl, _, H3.out⟩

set_option maxRecDepth 20000 in
set_option maxHeartbeats 4000000 in
theorem nested_stop_yes (w0 wF w : World) (rb wb B : Nat) (l : List In) (iv : Value) (os : List Nat) (ov : Value) (ws : List Int) (k : Nat) (a b : Int) (h : NS w0 wF w rb wb B l iv os ov ws) (hk : k < l.length) (hl : l.length ≤ 2000) (ho : os.length ≤ 2000) (q : Nat) (hq : opens l os 13 a = some q) :
    Calls Tryd.prog 68 #[.pointer (some ⟨rb, 0, none⟩), .int .i64 k, .agg #[.int .i64 15, .int .i64 a, .int .i64 b]] w fun r w' => r = .returned (.int .i64 0) ∧ ∃ ov', NS w0 wF w' rb wb B l iv os ov' (ws.set k (beginOf os.getLast?)) := by
  obtain ⟨oad, oc, rfl⟩ := owns_value h.own
  have hkw : k < ws.length := by rw [h.len]; omega
  have lr : rb < w.heap.size := (Array.getElem?_eq_some_iff.1 h.blk).1
  have lw : wb < w.heap.size := (Array.getElem?_eq_some_iff.1 h.wth).1
  have lo := h.ord.2.1
  have n1 : ¬ w.heap.size = wb := by omega
  have n2 : ¬ rb = wb := by omega
  have n3 : ¬ w.heap.size = rb := by omega
  have H0 : Hid (NS w0 wF w rb wb B l iv os (.slice oad os.length oc) ws) := h
  clear h
  generalize hin : beginOf os.getLast? = inn
  have HIN : Hid (beginOf os.getLast? = inn) := hin
  have hz : ¬ ((q : Int) + 1 = 0) := by omega
  have hzb : (((q : Int) + 1) == 0) = false := by simpa using hz
  go_enter Tryd.func68, Tryd.ntmps68
  go_wp2_with (go_at_call 101; refine (innermost_any _ rb l os _ _ _ ((H0.out.grow (below_new _ _)).rg) (by omega)).mono ?_; rintro r w1 ⟨rfl, hb1⟩; have c0 : w1.cell? ⟨w.heap.size, 0, none⟩ = some (.int .i64 15) := below_cell hb1 (by go_simp); have c1 : w1.cell? ⟨w.heap.size, 1, none⟩ = some (.int .i64 a) := below_cell hb1 (by go_simp); have c2 : w1.cell? ⟨w.heap.size, 2, none⟩ = some (.int .i64 b) := below_cell hb1 (by go_simp); have H1 : Hid (NS w0 wF w1 rb wb B l iv os (.slice oad os.length oc) ws) := H0.out.grow (below_seq (below_new _ _) hb1); obtain ⟨cs, fs, lt1⟩ := cells_of (l := [_, _, _]) H1.out.blk; have k0 := cs 0 _ rfl; have k1 := cs 1 _ rfl; have k2 := cs 2 _ rfl; have fr1 := fs 1; obtain ⟨ds, es, lt2⟩ := cells_of (l := intVs ws) H1.out.wth; have kw := ds k (.int .i64 (ws.getD k 0)) (by simp [intVs, List.getD, hkw]); have fw := es k; have lx : w.heap.size < w1.heap.size := World.block_lt_of_cell? w1 _ c0; clear hb1 cs fs ds es; rw [hin]; clear hin)
  go_wp2_with (go_at_call 102; refine (begins_any _ rb l os _ _ _ 13 a ((H1.out.setW k inn).rg) (by omega) (by omega)).mono ?_; rw [hq]; rintro r w3 ⟨rfl, hb3⟩; have H3 : Hid (NS w0 wF w3 rb wb B l iv os (.slice oad os.length oc) (ws.set k inn)) := (H1.out.setW k inn).grow hb3; replace c0 : w3.cell? ⟨w.heap.size, 0, none⟩ = some (.int .i64 15) := below_cell hb3 (by go_simp); replace c1 : w3.cell? ⟨w.heap.size, 1, none⟩ = some (.int .i64 a) := below_cell hb3 (by go_simp); replace c2 : w3.cell? ⟨w.heap.size, 2, none⟩ = some (.int .i64 b) := below_cell hb3 (by go_simp); obtain ⟨cs, fs, lt3⟩ := cells_of (l := [_, _, _]) H3.out.blk; replace k0 := cs 0 _ rfl; replace k1 := cs 1 _ rfl; replace k2 := cs 2 _ rfl; replace fr1 := fs 1; clear hb3 cs fs kw fw; dsimp only [beginOf])
  go_ret
  exact ⟨rfl, _, H3.out⟩

end Go.Proofs.YtgemadoieielcacDoor
