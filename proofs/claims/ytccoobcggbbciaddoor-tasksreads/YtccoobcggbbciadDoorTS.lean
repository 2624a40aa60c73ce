import Derived.Test.YtccoobcggbbciadDoorTK
import Derived.Deep.CutRange
namespace Go.Proofs.YtccoobcggbbciadDoor
open Go.ChangeShapes Go.WideShapes Go.ChangeAt Go.RowKit

theorem six_ends {w : World} {g : Nat} {a0 a1 a2 a3 a4 a5 : Value} {a : Act} (h : w.heap[g]? = some (.cells #[a0, a1, a2, a3, a4, a5] 95 (0, 0))) (h3 : a.tmps[2]?.getD undef = .pointer (some ⟨g, 0, none⟩)) :
    (results Tryd.f51 a.tmps).run Tryd.prog w = .ok (.agg #[a0, a1, a2, a3, a4, a5]) w := by
  obtain ⟨c1, f1, l1⟩ := cells_of (l := [_, _, _, _, _, _]) h
  have c10 := c1 0 _ rfl
  have c11 := c1 1 _ rfl
  have c12 := c1 2 _ rfl
  have c13 := c1 3 _ rfl
  have c14 := c1 4 _ rfl
  have c15 := c1 5 _ rfl
  simp [results, Tryd.results51, go_sem, h3, c10, c11, c12, c13, c14, c15]

set_option maxRecDepth 20000 in
theorem sixOf_any (w : World) (x : Ta) : Calls Tryd.prog 51 #[x.val] w fun r w' => r = .returned (.agg #[.int .i64 x.c, .int .i64 x.t, .int .i64 x.d, .int .i64 x.j, .int .i64 x.o, .int .i64 x.p]) ∧ Below w.heap.size w w' := by
  obtain ⟨nm, c, t, d, j, o, p⟩ := x
  unfold Ta.val
  dsimp only
  go_enter Tryd.func51, Tryd.ntmps51
  go_wp2_with fail
  refine bodyPost_ret (six_ends (g := w.heap.size + 1) (by simpa using heap_alloc_new (w.alloc _) _) (by rfl)) rfl ?_
  exact ⟨rfl, below_seq (below_new _ _) (below_new _ _)⟩

theorem upTo_step {s : ByteArray} {k : Nat} (h : k < s.size) (P : UInt8 → Bool) : (s.data.toList.take (k + 1)).all P = ((s.data.toList.take k).all P && P (s[k]'h)) := by
  have hk : k < s.data.toList.length := by simpa using h
  rw [List.take_succ_eq_append_getElem hk, List.all_append]
  simp
  rfl

def okB (b : UInt8) : Bool := decide (97 ≤ b.toNat) && decide (b.toNat ≤ 122)
def upTo (s : ByteArray) (k : Nat) : Bool := within (s.size : Int) 1 10 && (s.data.toList.take k).all okB

theorem upTo_end (s : ByteArray) : upTo s s.size = isNm s := by
  unfold upTo isNm allLo
  rw [List.take_of_length_le (by simp)]
  rfl

theorem upTo_next {s : ByteArray} {k : Nat} (h : k < s.size) : upTo s (k + 1) = (upTo s k && okB (s[k]'h)) := by
  unfold upTo
  rw [upTo_step h, Bool.and_assoc]

theorem set_F {w W W' : World} {g : Nat} {a b : Value} (h : FB w W g) (hb : Below W.heap.size W W') : ((W'.setCell ⟨g, 0, none⟩ a).setCell ⟨g, 1, none⟩ b).heap[g]? = some (.cells #[a, b] 37 (0, 0)) ∧ Below w.heap.size w ((W'.setCell ⟨g, 0, none⟩ a).setCell ⟨g, 1, none⟩ b) :=
  ⟨set_two (h.grow hb).res, (h.grow hb).set _ _⟩

theorem CheckSet_ends {w : World} {g : Nat} {c k : Value} {a : Act} (h : w.heap[g]? = some (.cells #[c, k] 37 (0, 0))) (h3 : a.tmps[2]?.getD undef = .pointer (some ⟨g, 0, none⟩)) :
    (results Tryd.f24 a.tmps).run Tryd.prog w = .ok (.agg #[c, k]) w := by
  obtain ⟨c1, f1, l1⟩ := cells_of (l := [_, _]) h
  have c10 := c1 0 _ rfl
  have c11 := c1 1 _ rfl
  simp [results, Tryd.results24, go_sem, h3, c10, c11]

theorem wrong_name {x : Ta} {a : List Ta} (h : isNm x.nm = false) : wrongF x a = 4 := by unfold wrongF; rw [if_pos h]
theorem wrong_twice {x : Ta} {a : List Ta} (h : isNm x.nm = true) (h2 : a.any (fun y => sameNm y.nm x.nm) = true) : wrongF x a = 5 := by unfold wrongF; rw [if_neg (by simp [h]), if_pos h2]
theorem wrong_range {x : Ta} {a : List Ta} (h : isNm x.nm = true) (h2 : a.any (fun y => sameNm y.nm x.nm) = false) (h3 : stands x = false) : wrongF x a = 3 := by unfold wrongF; rw [if_neg (by simp [h]), if_neg (by simp [h2]), if_pos h3]
theorem wrong_rest {x : Ta} {a : List Ta} (h : isNm x.nm = true) (h2 : a.any (fun y => sameNm y.nm x.nm) = false) (h3 : stands x = true) : wrongF x a = if x.d < x.c then 12 else 0 := by unfold wrongF; rw [if_neg (by simp [h]), if_neg (by simp [h2]), if_neg (by simp [h3])]

theorem six_0 (W : World) (a0 a1 a2 a3 a4 a5 : Int) : (Instr.index 95 (.agg #[.int .i64 a0, .int .i64 a1, .int .i64 a2, .int .i64 a3, .int .i64 a4, .int .i64 a5]) (.int .i64 0)).run Tryd.prog W = .ok (.int .i64 a0) W := by kernel_rfl
theorem six_1 (W : World) (a0 a1 a2 a3 a4 a5 : Int) : (Instr.index 95 (.agg #[.int .i64 a0, .int .i64 a1, .int .i64 a2, .int .i64 a3, .int .i64 a4, .int .i64 a5]) (.int .i64 1)).run Tryd.prog W = .ok (.int .i64 a1) W := by kernel_rfl
theorem six_2 (W : World) (a0 a1 a2 a3 a4 a5 : Int) : (Instr.index 95 (.agg #[.int .i64 a0, .int .i64 a1, .int .i64 a2, .int .i64 a3, .int .i64 a4, .int .i64 a5]) (.int .i64 2)).run Tryd.prog W = .ok (.int .i64 a2) W := by kernel_rfl
theorem six_3 (W : World) (a0 a1 a2 a3 a4 a5 : Int) : (Instr.index 95 (.agg #[.int .i64 a0, .int .i64 a1, .int .i64 a2, .int .i64 a3, .int .i64 a4, .int .i64 a5]) (.int .i64 3)).run Tryd.prog W = .ok (.int .i64 a3) W := by kernel_rfl
theorem six_4 (W : World) (a0 a1 a2 a3 a4 a5 : Int) : (Instr.index 95 (.agg #[.int .i64 a0, .int .i64 a1, .int .i64 a2, .int .i64 a3, .int .i64 a4, .int .i64 a5]) (.int .i64 4)).run Tryd.prog W = .ok (.int .i64 a4) W := by kernel_rfl
theorem six_5 (W : World) (a0 a1 a2 a3 a4 a5 : Int) : (Instr.index 95 (.agg #[.int .i64 a0, .int .i64 a1, .int .i64 a2, .int .i64 a3, .int .i64 a4, .int .i64 a5]) (.int .i64 5)).run Tryd.prog W = .ok (.int .i64 a5) W := by kernel_rfl

def R4 (x : Ta) (k : Nat) : Prop := (0 < k → within x.c 1 10000 = true) ∧ (1 < k → within x.t 1 10000 = true) ∧ (2 < k → within x.d 1 10000 = true) ∧ (3 < k → within x.j 0 10000 = true) ∧ (4 < k → within x.o 0 10000 = true) ∧ (5 < k → within x.p 0 1000 = true)
theorem R4_end {x : Ta} (h : R4 x 6) : stands x = true := by
  obtain ⟨h0, h1, h2, h3, h4, h5⟩ := h
  simp [stands, h0, h1, h2, h3, h4, h5]
theorem out_of {n a b : Int} (h : n < a ∨ b < n) : within n a b = false := by unfold within; simp; omega
theorem in_of {n a b : Int} (h : ¬ (n < a)) (h2 : ¬ (b < n)) : within n a b = true := by unfold within; simp; omega

set_option maxRecDepth 20000 in
set_option maxHeartbeats 4000000 in
theorem CheckSet_few (w : World) (l : List Ta) (ad : Option Addr) (c : Nat) (hS : ∀ x ∈ l, x.nm.size ≤ 9223372036854775807) (h1 : l.length ≠ 0) (h8 : l.length ≤ 8) (hv : RowSl Ta.vals w l (.slice ad l.length c)) : Calls Tryd.prog 24 #[.slice ad l.length c] w fun r w' => r = .returned (.agg #[.int .i64 (chkFrom l l 0).1, .int .i64 (chkFrom l l 0).2]) ∧ Below w.heap.size w w' := by
  obtain ⟨_, _, e, -, hcap, hrow⟩ := hv
  cases e
  rcases hrow with h | ⟨b, o, rfl, hrow⟩
  · rw [h] at h1; simp at h1
  have HR : Hid (∀ q u, (l.flatMap Ta.vals)[q]? = some u → w.cell? ⟨b, o + q, none⟩ = some u) := hrow
  clear hrow
  have g1 : ((l.length : Int) == 0) = false := by simpa using h1
  have g2 : ¬ (8 : Int) < (l.length : Int) := by omega
  go_enter Tryd.func24, Tryd.ntmps24
  go_wp2_with fail
  go_loopw [24] (fun i wr => ∃ j : Nat, j ≤ l.length ∧ i = .int .i64 j ∧ FB w wr w.heap.size ∧ chkFrom l (l.drop j) j = chkFrom l l 0) (fun i _ => l.length - (intOf i).toNat)
  case atStart => exact ⟨0, Nat.zero_le _, rfl, FB.start _, rfl⟩
  case round =>
    obtain ⟨j, hj, rfl, hb, hf⟩ := hrel
    by_cases hlt : j < l.length
    · obtain ⟨x, hx, hd⟩ := drop_at hlt
      rw [chkFrom_at hd] at hf
      have ha := ta_at (fun q u hq => below_cell hb.bel (HR.out q u hq)) hx
      obtain ⟨c0, c1, c2, c3, c4, c5, c6⟩ := ha
      have lb : b < wr.heap.size := World.block_lt_of_cell? _ _ c0
      have hsx : x.nm.size ≤ 9223372036854775807 := hS x (List.mem_of_getElem? hx)
      have hj' : (j : Int) ≤ (l.length : Int) := by omega
      have hjc : (j : Int) ≤ (c : Int) := by omega
      have HB : Hid (FB w (wr.alloc (.cells #[.string x.nm, .int .i64 x.c, .int .i64 x.t, .int .i64 x.d, .int .i64 x.j, .int .i64 x.o, .int .i64 x.p] 55)) w.heap.size) := hb.grow (below_new _ _)
      have HF : Hid ((if wrongF x (List.take j l) = 0 then chkFrom l (List.drop (j + 1) l) (j + 1) else (wrongF x (List.take j l), (j : Int))) = chkFrom l l 0) := hf
      clear hb hf
      go_upto_region 6 with fail
      go_cut [5] from 29 to 38 (fun v wc => v = .bool (upTo x.nm 0) ∧ wc = wr.alloc (.cells #[.string x.nm, .int .i64 x.c, .int .i64 x.t, .int .i64 x.d, .int .i64 x.j, .int .i64 x.o, .int .i64 x.p] 55))
      case first =>
        go_wp2_with fail
        all_goals go_meet
        all_goals
          refine ⟨?_, rfl⟩
          congr 1
          unfold upTo within
          first | (simp; done) | (simp; omega)
      case rest =>
      obtain ⟨rfl, rfl⟩ := hcut
      go_wp2_with fail
      go_loopw [5, 6] (fun v i wl => ∃ k : Nat, k ≤ x.nm.size ∧ v = .bool (upTo x.nm k) ∧ i = .int .i64 k ∧ wl = wr.alloc (.cells #[.string x.nm, .int .i64 x.c, .int .i64 x.t, .int .i64 x.d, .int .i64 x.j, .int .i64 x.o, .int .i64 x.p] 55)) (fun _ i _ => x.nm.size - (intOf i).toNat)
      case atStart => exact ⟨0, Nat.zero_le _, rfl, rfl, rfl⟩
      case round =>
        obtain ⟨k, hk, rfl, rfl, rfl⟩ := hrel
        by_cases hkl : k < x.nm.size
        · have hn := upTo_next hkl
          rcases hu : upTo x.nm k with _ | _
          · have e : upTo x.nm (k + 1) = false := by rw [hn, hu]; rfl
            clear hn
            go_wp2_with fail
            exact ⟨⟨k + 1, by omega, by rw [e], by simp, trivial⟩, by simp [intOf]; omega⟩
          · rw [hu, Bool.true_and] at hn
            have HN : Hid (upTo x.nm (k + 1) = okB (x.nm[k]'hkl)) := hn
            clear hn
            go_wp2_with fail
            all_goals
              have e := HN.out
              refine ⟨⟨k + 1, by omega, ?_, by simp, trivial⟩, by simp [intOf]; omega⟩
              rw [e]
              congr 1
              unfold okB
              first | (rw [Bool.eq_iff_iff]; simp; omega) | (simp; done) | (simp; omega)
        · have hke : k = x.nm.size := by omega
          subst hke
          rw [upTo_end]
          rcases hN : isNm x.nm with _ | _
          · have e := HF.out
            rw [wrong_name hN, if_neg (by decide)] at e
            have HE : Hid ((4, (j : Int)) = chkFrom l l 0) := e
            clear e
            go_wp2_with (go_at_call 21; refine (F_any _ _ _).mono ?_; rintro r w1 ⟨rfl, hb1⟩; obtain ⟨rs1, rf1, rl1⟩ := cells_of (l := [_, _]) (HB.out.grow hb1).res; have r10 := rs1 0 _ rfl; have r11 := rs1 1 _ rfl; have f10 := rf1 0; have f11 := rf1 1; have H1 : Hid (FB w w1 w.heap.size) := HB.out.grow hb1; clear rs1 rf1 hb1)
            refine bodyPost_ret (CheckSet_ends (set_two H1.out.res) rfl) rfl ?_
            exact ⟨by rw [← HE.out], H1.out.set _ _⟩
          · have d0 : (wr.alloc (.cells #[.string x.nm, .int .i64 x.c, .int .i64 x.t, .int .i64 x.d, .int .i64 x.j, .int .i64 x.o, .int .i64 x.p] 55)).cell? ⟨wr.heap.size, 0, none⟩ = some (.string x.nm) := by go_simp
            have d1 : (wr.alloc (.cells #[.string x.nm, .int .i64 x.c, .int .i64 x.t, .int .i64 x.d, .int .i64 x.j, .int .i64 x.o, .int .i64 x.p] 55)).cell? ⟨wr.heap.size, 1, none⟩ = some (.int .i64 x.c) := by go_simp
            have d2 : (wr.alloc (.cells #[.string x.nm, .int .i64 x.c, .int .i64 x.t, .int .i64 x.d, .int .i64 x.j, .int .i64 x.o, .int .i64 x.p] 55)).cell? ⟨wr.heap.size, 2, none⟩ = some (.int .i64 x.t) := by go_simp
            have d3 : (wr.alloc (.cells #[.string x.nm, .int .i64 x.c, .int .i64 x.t, .int .i64 x.d, .int .i64 x.j, .int .i64 x.o, .int .i64 x.p] 55)).cell? ⟨wr.heap.size, 3, none⟩ = some (.int .i64 x.d) := by go_simp
            have d4 : (wr.alloc (.cells #[.string x.nm, .int .i64 x.c, .int .i64 x.t, .int .i64 x.d, .int .i64 x.j, .int .i64 x.o, .int .i64 x.p] 55)).cell? ⟨wr.heap.size, 4, none⟩ = some (.int .i64 x.j) := by go_simp
            have d5 : (wr.alloc (.cells #[.string x.nm, .int .i64 x.c, .int .i64 x.t, .int .i64 x.d, .int .i64 x.j, .int .i64 x.o, .int .i64 x.p] 55)).cell? ⟨wr.heap.size, 5, none⟩ = some (.int .i64 x.o) := by go_simp
            have d6 : (wr.alloc (.cells #[.string x.nm, .int .i64 x.c, .int .i64 x.t, .int .i64 x.d, .int .i64 x.j, .int .i64 x.o, .int .i64 x.p] 55)).cell? ⟨wr.heap.size, 6, none⟩ = some (.int .i64 x.p) := by go_simp
            have HD : Hid (TaAt (wr.alloc (.cells #[.string x.nm, .int .i64 x.c, .int .i64 x.t, .int .i64 x.d, .int .i64 x.j, .int .i64 x.o, .int .i64 x.p] 55)) wr.heap.size 0 x) := ⟨d0, d1, d2, d3, d4, d5, d6⟩
            clear d1 d2 d3 d4 d5 d6 c0 c1 c2 c3 c4 c5 c6
            generalize wr.alloc (.cells #[.string x.nm, .int .i64 x.c, .int .i64 x.t, .int .i64 x.d, .int .i64 x.j, .int .i64 x.o, .int .i64 x.p] 55) = W1 at *
            generalize wr.heap.size = T at *
            go_wp2_with fail
            clear d0
            go_loopw [69] (fun i wl => ∃ k : Nat, k ≤ j ∧ i = .int .i64 k ∧ Below W1.heap.size W1 wl ∧ (l.take k).any (fun y => sameNm y.nm x.nm) = false) (fun i _ => j - (intOf i).toNat)
            case atStart => exact ⟨0, Nat.zero_le _, rfl, Below.refl _ _, by simp⟩
            case round =>
              obtain ⟨k, hk, rfl, hbl, hno⟩ := hrel
              by_cases hkj : k < j
              · obtain ⟨y, hy, hyd⟩ := drop_at (l := l) (k := k) (by omega)
                obtain ⟨y0, y1, y2, y3, y4, y5, y6⟩ := ta_at (fun q u hq => below_cell (below_seq HB.out.bel hbl) (HR.out q u hq)) hy
                have x0 := (HD.out.below hbl).1
                have lT : T < wr.heap.size := World.block_lt_of_cell? _ _ x0
                have lby : b < wr.heap.size := World.block_lt_of_cell? _ _ y0
                have HL : Hid (Below W1.heap.size W1 wr) := hbl
                have HN0 : (l.take (k + 1)).any (fun y => sameNm y.nm x.nm) = sameNm y.nm x.nm := by
                  rw [List.take_add_one, hy, List.any_append, hno]; simp
                have HN : Hid ((l.take (k + 1)).any (fun y => sameNm y.nm x.nm) = sameNm y.nm x.nm) := HN0
                clear HN0
                have HO : Hid (FB w (wr.alloc (.cells #[.string y.nm, .int .i64 y.c, .int .i64 y.t, .int .i64 y.d, .int .i64 y.j, .int .i64 y.o, .int .i64 y.p] 55)) w.heap.size) := (HB.out.grow hbl).grow (below_new _ _)
                rcases hsm : sameNm y.nm x.nm with _ | _
                · have hsm' : (y.nm.toList == x.nm.toList) = false := hsm
                  clear hbl hno
                  go_wp2_with fail
                  go_roundw
                  case rel => exact ⟨k + 1, by omega, by go_num, below_seq HL.out (below_new _ _), by rw [HN.out, hsm]⟩
                  case measure => simp [intOf]; omega
                · have hsm' : (y.nm.toList == x.nm.toList) = true := hsm
                  have e := HF.out
                  have e2 : (l.take j).any (fun y => sameNm y.nm x.nm) = true := by
                    have e3 := List.take_append_drop (k + 1) (l.take j)
                    rw [List.take_take, Nat.min_eq_left (by omega)] at e3
                    rw [← e3, List.any_append, HN.out, hsm]
                    rfl
                  rw [wrong_twice hN e2, if_neg (by decide)] at e
                  have HE : Hid ((5, (j : Int)) = chkFrom l l 0) := e
                  clear hbl hno e e2
                  go_wp2_with (go_at_call 21; refine (F_any _ _ _).mono ?_; rintro r w1 ⟨rfl, hb1⟩; obtain ⟨rs1, rf1, rl1⟩ := cells_of (l := [_, _]) (HO.out.grow hb1).res; have r10 := rs1 0 _ rfl; have r11 := rs1 1 _ rfl; have f10 := rf1 0; have f11 := rf1 1; have H1 : Hid (FB w w1 w.heap.size) := HO.out.grow hb1; clear rs1 rf1 hb1)
                  refine bodyPost_ret (CheckSet_ends (set_two H1.out.res) rfl) rfl ?_
                  exact ⟨by rw [← HE.out], H1.out.set _ _⟩
              · have hke : k = j := by omega
                subst hke
                have HO : Hid (FB w wr w.heap.size) := HB.out.grow hbl
                obtain ⟨d0, d1, d2, d3, d4, d5, d6⟩ := HD.out.below hbl
                have lT : T < wr.heap.size := World.block_lt_of_cell? _ _ d0
                have HS := sixOf_any
                unfold Ta.val at HS
                clear hbl HD HB
                go_wp2_with (go_at_call 51; refine (HS _ x).mono ?_; rintro r w1 ⟨rfl, hb1⟩)
                have a0 : w1.cell? ⟨wr.heap.size, 0, none⟩ = some (.int .i64 1) := below_cell hb1 (by go_simp)
                have a1 : w1.cell? ⟨wr.heap.size, 1, none⟩ = some (.int .i64 1) := below_cell hb1 (by go_simp)
                have a2 : w1.cell? ⟨wr.heap.size, 2, none⟩ = some (.int .i64 1) := below_cell hb1 (by go_simp)
                have a3 : w1.cell? ⟨wr.heap.size, 3, none⟩ = some (.int .i64 0) := below_cell hb1 (by go_simp)
                have a4 : w1.cell? ⟨wr.heap.size, 4, none⟩ = some (.int .i64 0) := below_cell hb1 (by go_simp)
                have a5 : w1.cell? ⟨wr.heap.size, 5, none⟩ = some (.int .i64 0) := below_cell hb1 (by go_simp)
                have b0 : w1.cell? ⟨wr.heap.size + 1, 0, none⟩ = some (.int .i64 10000) := below_cell hb1 (by go_simp)
                have b1 : w1.cell? ⟨wr.heap.size + 1, 1, none⟩ = some (.int .i64 10000) := below_cell hb1 (by go_simp)
                have b2 : w1.cell? ⟨wr.heap.size + 1, 2, none⟩ = some (.int .i64 10000) := below_cell hb1 (by go_simp)
                have b3 : w1.cell? ⟨wr.heap.size + 1, 3, none⟩ = some (.int .i64 10000) := below_cell hb1 (by go_simp)
                have b4 : w1.cell? ⟨wr.heap.size + 1, 4, none⟩ = some (.int .i64 10000) := below_cell hb1 (by go_simp)
                have b5 : w1.cell? ⟨wr.heap.size + 1, 5, none⟩ = some (.int .i64 1000) := below_cell hb1 (by go_simp)
                have H1 : Hid (FB w w1 w.heap.size) := ((HO.out.grow (below_new wr (.cells #[.int .i64 1, .int .i64 1, .int .i64 1, .int .i64 0, .int .i64 0, .int .i64 0] 95))).grow (below_new _ (.cells #[.int .i64 10000, .int .i64 10000, .int .i64 10000, .int .i64 10000, .int .i64 10000, .int .i64 1000] 95))).grow hb1
                have HX : Hid (TaAt w1 T 0 x) := (((show TaAt wr T 0 x from ⟨d0, d1, d2, d3, d4, d5, d6⟩).below (below_new wr (.cells #[.int .i64 1, .int .i64 1, .int .i64 1, .int .i64 0, .int .i64 0, .int .i64 0] 95))).below (below_new _ (.cells #[.int .i64 10000, .int .i64 10000, .int .i64 10000, .int .i64 10000, .int .i64 10000, .int .i64 1000] 95))).below hb1
                clear hb1 d0 d1 d2 d3 d4 d5 d6 HO HS
                generalize wr.heap.size = G at *
                obtain ⟨rs1, rf1, rl1⟩ := cells_of (l := [_, _]) H1.out.res
                clear rs1 rf1
                go_loopw [85] (fun i wl => ∃ k4 : Int, (k4 = 0 ∨ k4 = 1 ∨ k4 = 2 ∨ k4 = 3 ∨ k4 = 4 ∨ k4 = 5 ∨ k4 = 6) ∧ i = .int .i64 k4 ∧ wl = w1 ∧ R4 x k4.toNat) (fun i _ => 6 - (intOf i).toNat)
                case atStart => exact ⟨0, by omega, rfl, rfl, by unfold R4; simp⟩
                case round =>
                  obtain ⟨k4, hc, rfl, rfl, h4⟩ := hrel
                  have HQ : Hid (R4 x k4.toNat) := h4
                  clear h4
                  rcases hc with rfl | rfl | rfl | rfl | rfl | rfl | rfl
                  · have hix := fun W => six_0 W x.c x.t x.d x.j x.o x.p
                    by_cases q1 : x.c < 1
                    · have e := HF.out
                      rw [wrong_range hN hno (by unfold stands; rw [out_of (n := x.c) (a := 1) (b := 10000) (by omega)]; simp), if_neg (by decide)] at e
                      have HE : Hid ((3, (k : Int)) = chkFrom l l 0) := e
                      clear e
                      go_wp2_with (go_at_call 21; refine (F_any _ _ _).mono ?_; rintro r w2 ⟨rfl, hb2⟩; obtain ⟨rs1, rf1, rl1⟩ := cells_of (l := [_, _]) (H1.out.grow hb2).res; have r10 := rs1 0 _ rfl; have r11 := rs1 1 _ rfl; have f10 := rf1 0; have f11 := rf1 1; have H2 : Hid (FB w w2 w.heap.size) := H1.out.grow hb2; clear rs1 rf1 hb2)
                      refine bodyPost_ret (CheckSet_ends (set_two H2.out.res) rfl) rfl ?_
                      exact ⟨by rw [← HE.out], H2.out.set _ _⟩
                    by_cases q2 : 10000 < x.c
                    · have e := HF.out
                      rw [wrong_range hN hno (by unfold stands; rw [out_of (n := x.c) (a := 1) (b := 10000) (by omega)]; simp), if_neg (by decide)] at e
                      have HE : Hid ((3, (k : Int)) = chkFrom l l 0) := e
                      clear e
                      go_wp2_with (go_at_call 21; refine (F_any _ _ _).mono ?_; rintro r w2 ⟨rfl, hb2⟩; obtain ⟨rs1, rf1, rl1⟩ := cells_of (l := [_, _]) (H1.out.grow hb2).res; have r10 := rs1 0 _ rfl; have r11 := rs1 1 _ rfl; have f10 := rf1 0; have f11 := rf1 1; have H2 : Hid (FB w w2 w.heap.size) := H1.out.grow hb2; clear rs1 rf1 hb2)
                      refine bodyPost_ret (CheckSet_ends (set_two H2.out.res) rfl) rfl ?_
                      exact ⟨by rw [← HE.out], H2.out.set _ _⟩
                    · go_wp2_with fail
                      go_roundw
                      case rel =>
                        have hin := in_of q1 q2
                        obtain ⟨z0, z1, z2, z3, z4, z5⟩ := HQ.out
                        exact ⟨1, by omega, by first | rfl | go_num, by first | rfl | trivial, by refine ⟨?_, ?_, ?_, ?_, ?_, ?_⟩ <;> intro hh <;> first | assumption | (exact z0 (by omega)) | (exact z1 (by omega)) | (exact z2 (by omega)) | (exact z3 (by omega)) | (exact z4 (by omega)) | (exact z5 (by omega)) | (exfalso; omega)⟩
                      case measure => simp [intOf]
                  · have hix := fun W => six_1 W x.c x.t x.d x.j x.o x.p
                    by_cases q1 : x.t < 1
                    · have e := HF.out
                      rw [wrong_range hN hno (by unfold stands; rw [out_of (n := x.t) (a := 1) (b := 10000) (by omega)]; simp), if_neg (by decide)] at e
                      have HE : Hid ((3, (k : Int)) = chkFrom l l 0) := e
                      clear e
                      go_wp2_with (go_at_call 21; refine (F_any _ _ _).mono ?_; rintro r w2 ⟨rfl, hb2⟩; obtain ⟨rs1, rf1, rl1⟩ := cells_of (l := [_, _]) (H1.out.grow hb2).res; have r10 := rs1 0 _ rfl; have r11 := rs1 1 _ rfl; have f10 := rf1 0; have f11 := rf1 1; have H2 : Hid (FB w w2 w.heap.size) := H1.out.grow hb2; clear rs1 rf1 hb2)
                      refine bodyPost_ret (CheckSet_ends (set_two H2.out.res) rfl) rfl ?_
                      exact ⟨by rw [← HE.out], H2.out.set _ _⟩
                    by_cases q2 : 10000 < x.t
                    · have e := HF.out
                      rw [wrong_range hN hno (by unfold stands; rw [out_of (n := x.t) (a := 1) (b := 10000) (by omega)]; simp), if_neg (by decide)] at e
                      have HE : Hid ((3, (k : Int)) = chkFrom l l 0) := e
                      clear e
                      go_wp2_with (go_at_call 21; refine (F_any _ _ _).mono ?_; rintro r w2 ⟨rfl, hb2⟩; obtain ⟨rs1, rf1, rl1⟩ := cells_of (l := [_, _]) (H1.out.grow hb2).res; have r10 := rs1 0 _ rfl; have r11 := rs1 1 _ rfl; have f10 := rf1 0; have f11 := rf1 1; have H2 : Hid (FB w w2 w.heap.size) := H1.out.grow hb2; clear rs1 rf1 hb2)
                      refine bodyPost_ret (CheckSet_ends (set_two H2.out.res) rfl) rfl ?_
                      exact ⟨by rw [← HE.out], H2.out.set _ _⟩
                    · go_wp2_with fail
                      go_roundw
                      case rel =>
                        have hin := in_of q1 q2
                        obtain ⟨z0, z1, z2, z3, z4, z5⟩ := HQ.out
                        exact ⟨2, by omega, by first | rfl | go_num, by first | rfl | trivial, by refine ⟨?_, ?_, ?_, ?_, ?_, ?_⟩ <;> intro hh <;> first | assumption | (exact z0 (by omega)) | (exact z1 (by omega)) | (exact z2 (by omega)) | (exact z3 (by omega)) | (exact z4 (by omega)) | (exact z5 (by omega)) | (exfalso; omega)⟩
                      case measure => simp [intOf]
                  · have hix := fun W => six_2 W x.c x.t x.d x.j x.o x.p
                    by_cases q1 : x.d < 1
                    · have e := HF.out
                      rw [wrong_range hN hno (by unfold stands; rw [out_of (n := x.d) (a := 1) (b := 10000) (by omega)]; simp), if_neg (by decide)] at e
                      have HE : Hid ((3, (k : Int)) = chkFrom l l 0) := e
                      clear e
                      go_wp2_with (go_at_call 21; refine (F_any _ _ _).mono ?_; rintro r w2 ⟨rfl, hb2⟩; obtain ⟨rs1, rf1, rl1⟩ := cells_of (l := [_, _]) (H1.out.grow hb2).res; have r10 := rs1 0 _ rfl; have r11 := rs1 1 _ rfl; have f10 := rf1 0; have f11 := rf1 1; have H2 : Hid (FB w w2 w.heap.size) := H1.out.grow hb2; clear rs1 rf1 hb2)
                      refine bodyPost_ret (CheckSet_ends (set_two H2.out.res) rfl) rfl ?_
                      exact ⟨by rw [← HE.out], H2.out.set _ _⟩
                    by_cases q2 : 10000 < x.d
                    · have e := HF.out
                      rw [wrong_range hN hno (by unfold stands; rw [out_of (n := x.d) (a := 1) (b := 10000) (by omega)]; simp), if_neg (by decide)] at e
                      have HE : Hid ((3, (k : Int)) = chkFrom l l 0) := e
                      clear e
                      go_wp2_with (go_at_call 21; refine (F_any _ _ _).mono ?_; rintro r w2 ⟨rfl, hb2⟩; obtain ⟨rs1, rf1, rl1⟩ := cells_of (l := [_, _]) (H1.out.grow hb2).res; have r10 := rs1 0 _ rfl; have r11 := rs1 1 _ rfl; have f10 := rf1 0; have f11 := rf1 1; have H2 : Hid (FB w w2 w.heap.size) := H1.out.grow hb2; clear rs1 rf1 hb2)
                      refine bodyPost_ret (CheckSet_ends (set_two H2.out.res) rfl) rfl ?_
                      exact ⟨by rw [← HE.out], H2.out.set _ _⟩
                    · go_wp2_with fail
                      go_roundw
                      case rel =>
                        have hin := in_of q1 q2
                        obtain ⟨z0, z1, z2, z3, z4, z5⟩ := HQ.out
                        exact ⟨3, by omega, by first | rfl | go_num, by first | rfl | trivial, by refine ⟨?_, ?_, ?_, ?_, ?_, ?_⟩ <;> intro hh <;> first | assumption | (exact z0 (by omega)) | (exact z1 (by omega)) | (exact z2 (by omega)) | (exact z3 (by omega)) | (exact z4 (by omega)) | (exact z5 (by omega)) | (exfalso; omega)⟩
                      case measure => simp [intOf]
                  · have hix := fun W => six_3 W x.c x.t x.d x.j x.o x.p
                    by_cases q1 : x.j < 0
                    · have e := HF.out
                      rw [wrong_range hN hno (by unfold stands; rw [out_of (n := x.j) (a := 0) (b := 10000) (by omega)]; simp), if_neg (by decide)] at e
                      have HE : Hid ((3, (k : Int)) = chkFrom l l 0) := e
                      clear e
                      go_wp2_with (go_at_call 21; refine (F_any _ _ _).mono ?_; rintro r w2 ⟨rfl, hb2⟩; obtain ⟨rs1, rf1, rl1⟩ := cells_of (l := [_, _]) (H1.out.grow hb2).res; have r10 := rs1 0 _ rfl; have r11 := rs1 1 _ rfl; have f10 := rf1 0; have f11 := rf1 1; have H2 : Hid (FB w w2 w.heap.size) := H1.out.grow hb2; clear rs1 rf1 hb2)
                      refine bodyPost_ret (CheckSet_ends (set_two H2.out.res) rfl) rfl ?_
                      exact ⟨by rw [← HE.out], H2.out.set _ _⟩
                    by_cases q2 : 10000 < x.j
                    · have e := HF.out
                      rw [wrong_range hN hno (by unfold stands; rw [out_of (n := x.j) (a := 0) (b := 10000) (by omega)]; simp), if_neg (by decide)] at e
                      have HE : Hid ((3, (k : Int)) = chkFrom l l 0) := e
                      clear e
                      go_wp2_with (go_at_call 21; refine (F_any _ _ _).mono ?_; rintro r w2 ⟨rfl, hb2⟩; obtain ⟨rs1, rf1, rl1⟩ := cells_of (l := [_, _]) (H1.out.grow hb2).res; have r10 := rs1 0 _ rfl; have r11 := rs1 1 _ rfl; have f10 := rf1 0; have f11 := rf1 1; have H2 : Hid (FB w w2 w.heap.size) := H1.out.grow hb2; clear rs1 rf1 hb2)
                      refine bodyPost_ret (CheckSet_ends (set_two H2.out.res) rfl) rfl ?_
                      exact ⟨by rw [← HE.out], H2.out.set _ _⟩
                    · go_wp2_with fail
                      go_roundw
                      case rel =>
                        have hin := in_of q1 q2
                        obtain ⟨z0, z1, z2, z3, z4, z5⟩ := HQ.out
                        exact ⟨4, by omega, by first | rfl | go_num, by first | rfl | trivial, by refine ⟨?_, ?_, ?_, ?_, ?_, ?_⟩ <;> intro hh <;> first | assumption | (exact z0 (by omega)) | (exact z1 (by omega)) | (exact z2 (by omega)) | (exact z3 (by omega)) | (exact z4 (by omega)) | (exact z5 (by omega)) | (exfalso; omega)⟩
                      case measure => simp [intOf]
                  · have hix := fun W => six_4 W x.c x.t x.d x.j x.o x.p
                    by_cases q1 : x.o < 0
                    · have e := HF.out
                      rw [wrong_range hN hno (by unfold stands; rw [out_of (n := x.o) (a := 0) (b := 10000) (by omega)]; simp), if_neg (by decide)] at e
                      have HE : Hid ((3, (k : Int)) = chkFrom l l 0) := e
                      clear e
                      go_wp2_with (go_at_call 21; refine (F_any _ _ _).mono ?_; rintro r w2 ⟨rfl, hb2⟩; obtain ⟨rs1, rf1, rl1⟩ := cells_of (l := [_, _]) (H1.out.grow hb2).res; have r10 := rs1 0 _ rfl; have r11 := rs1 1 _ rfl; have f10 := rf1 0; have f11 := rf1 1; have H2 : Hid (FB w w2 w.heap.size) := H1.out.grow hb2; clear rs1 rf1 hb2)
                      refine bodyPost_ret (CheckSet_ends (set_two H2.out.res) rfl) rfl ?_
                      exact ⟨by rw [← HE.out], H2.out.set _ _⟩
                    by_cases q2 : 10000 < x.o
                    · have e := HF.out
                      rw [wrong_range hN hno (by unfold stands; rw [out_of (n := x.o) (a := 0) (b := 10000) (by omega)]; simp), if_neg (by decide)] at e
                      have HE : Hid ((3, (k : Int)) = chkFrom l l 0) := e
                      clear e
                      go_wp2_with (go_at_call 21; refine (F_any _ _ _).mono ?_; rintro r w2 ⟨rfl, hb2⟩; obtain ⟨rs1, rf1, rl1⟩ := cells_of (l := [_, _]) (H1.out.grow hb2).res; have r10 := rs1 0 _ rfl; have r11 := rs1 1 _ rfl; have f10 := rf1 0; have f11 := rf1 1; have H2 : Hid (FB w w2 w.heap.size) := H1.out.grow hb2; clear rs1 rf1 hb2)
                      refine bodyPost_ret (CheckSet_ends (set_two H2.out.res) rfl) rfl ?_
                      exact ⟨by rw [← HE.out], H2.out.set _ _⟩
                    · go_wp2_with fail
                      go_roundw
                      case rel =>
                        have hin := in_of q1 q2
                        obtain ⟨z0, z1, z2, z3, z4, z5⟩ := HQ.out
                        exact ⟨5, by omega, by first | rfl | go_num, by first | rfl | trivial, by refine ⟨?_, ?_, ?_, ?_, ?_, ?_⟩ <;> intro hh <;> first | assumption | (exact z0 (by omega)) | (exact z1 (by omega)) | (exact z2 (by omega)) | (exact z3 (by omega)) | (exact z4 (by omega)) | (exact z5 (by omega)) | (exfalso; omega)⟩
                      case measure => simp [intOf]
                  · have hix := fun W => six_5 W x.c x.t x.d x.j x.o x.p
                    by_cases q1 : x.p < 0
                    · have e := HF.out
                      rw [wrong_range hN hno (by unfold stands; rw [out_of (n := x.p) (a := 0) (b := 1000) (by omega)]; simp), if_neg (by decide)] at e
                      have HE : Hid ((3, (k : Int)) = chkFrom l l 0) := e
                      clear e
                      go_wp2_with (go_at_call 21; refine (F_any _ _ _).mono ?_; rintro r w2 ⟨rfl, hb2⟩; obtain ⟨rs1, rf1, rl1⟩ := cells_of (l := [_, _]) (H1.out.grow hb2).res; have r10 := rs1 0 _ rfl; have r11 := rs1 1 _ rfl; have f10 := rf1 0; have f11 := rf1 1; have H2 : Hid (FB w w2 w.heap.size) := H1.out.grow hb2; clear rs1 rf1 hb2)
                      refine bodyPost_ret (CheckSet_ends (set_two H2.out.res) rfl) rfl ?_
                      exact ⟨by rw [← HE.out], H2.out.set _ _⟩
                    by_cases q2 : 1000 < x.p
                    · have e := HF.out
                      rw [wrong_range hN hno (by unfold stands; rw [out_of (n := x.p) (a := 0) (b := 1000) (by omega)]; simp), if_neg (by decide)] at e
                      have HE : Hid ((3, (k : Int)) = chkFrom l l 0) := e
                      clear e
                      go_wp2_with (go_at_call 21; refine (F_any _ _ _).mono ?_; rintro r w2 ⟨rfl, hb2⟩; obtain ⟨rs1, rf1, rl1⟩ := cells_of (l := [_, _]) (H1.out.grow hb2).res; have r10 := rs1 0 _ rfl; have r11 := rs1 1 _ rfl; have f10 := rf1 0; have f11 := rf1 1; have H2 : Hid (FB w w2 w.heap.size) := H1.out.grow hb2; clear rs1 rf1 hb2)
                      refine bodyPost_ret (CheckSet_ends (set_two H2.out.res) rfl) rfl ?_
                      exact ⟨by rw [← HE.out], H2.out.set _ _⟩
                    · go_wp2_with fail
                      go_roundw
                      case rel =>
                        have hin := in_of q1 q2
                        obtain ⟨z0, z1, z2, z3, z4, z5⟩ := HQ.out
                        exact ⟨6, by omega, by first | rfl | go_num, by first | rfl | trivial, by refine ⟨?_, ?_, ?_, ?_, ?_, ?_⟩ <;> intro hh <;> first | assumption | (exact z0 (by omega)) | (exact z1 (by omega)) | (exact z2 (by omega)) | (exact z3 (by omega)) | (exact z4 (by omega)) | (exact z5 (by omega)) | (exfalso; omega)⟩
                      case measure => simp [intOf]
                  · have e := HF.out
                    rw [wrong_rest hN hno (R4_end HQ.out)] at e
                    have d1 := HX.out.2.1
                    have d3 := HX.out.2.2.2.1
                    have lT1 : T < wr.heap.size := World.block_lt_of_cell? _ _ d1
                    by_cases q1 : x.d < x.c
                    · rw [if_pos q1, if_neg (by decide)] at e
                      have HE : Hid ((12, (k : Int)) = chkFrom l l 0) := e
                      clear e
                      go_wp2_with (go_at_call 21; refine (F_any _ _ _).mono ?_; rintro r w2 ⟨rfl, hb2⟩; obtain ⟨rs1, rf1, rl1⟩ := cells_of (l := [_, _]) (H1.out.grow hb2).res; have r10 := rs1 0 _ rfl; have r11 := rs1 1 _ rfl; have f10 := rf1 0; have f11 := rf1 1; have H2 : Hid (FB w w2 w.heap.size) := H1.out.grow hb2; clear rs1 rf1 hb2)
                      refine bodyPost_ret (CheckSet_ends (set_two H2.out.res) rfl) rfl ?_
                      exact ⟨by rw [← HE.out], H2.out.set _ _⟩
                    · rw [if_neg q1, if_pos rfl] at e
                      have HE : Hid (chkFrom l (List.drop (k + 1) l) (k + 1) = chkFrom l l 0) := e
                      clear e
                      go_wp2_with fail
                      go_roundw
                      case rel => exact ⟨k + 1, by omega, by go_num, H1.out, HE.out⟩
                      case measure => simp [intOf]; omega
    · have hje : j = l.length := by omega
      subst hje
      rw [List.drop_length, chkFrom] at hf
      have H1 : Hid (FB w wr w.heap.size) := hb
      obtain ⟨rs1, rf1, rl1⟩ := cells_of (l := [_, _]) hb.res
      have r10 := rs1 0 _ rfl
      have r11 := rs1 1 _ rfl
      have f10 := rf1 0
      have f11 := rf1 1
      clear rs1 rf1 hb
      have HF : Hid ((0, 0) = chkFrom l l 0) := hf
      clear hf
      go_wp2_with fail
      refine bodyPost_ret (CheckSet_ends (set_two H1.out.res) rfl) rfl ?_
      exact ⟨by rw [← HF.out], H1.out.set _ _⟩
end Go.Proofs.YtccoobcggbbciadDoor
