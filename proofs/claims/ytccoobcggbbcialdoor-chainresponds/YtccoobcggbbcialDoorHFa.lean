import Derived.Test.YtccoobcggbbcialDoorHZ8
import Derived.Test.YtccoobcggbbcialDoorHS0
import Derived.Test.YtccoobcggbbcialDoorHT0
import Derived.Test.YtccoobcggbbcialDoorHU0
import Derived.Test.YtccoobcggbbcialDoorTK
import Derived.LaidMore
import Derived.ChangeArms
import Derived.OpenShut
namespace Go.Proofs.YtccoobcggbbcialDoor
open Go.ChangeShapes Go.WideShapes Go.ChangeAt Go.RowKit

def noP : Pa := ⟨0, 0, 0, -9, 0, 0, 0⟩

/-- Whether parts that lie so have response times. -/
noncomputable def goodP (l : List Pa) (ws : List Int) : Bool := @decide (∃ ts, RespsR (onC l ws) ts (0, 0)) (Classical.propDecidable _)
theorem goodP_iff (l : List Pa) (ws : List Int) : goodP l ws = true ↔ ∃ ts, RespsR (onC l ws) ts (0, 0) := by
  unfold goodP
  exact @decide_eq_true_iff _ (Classical.propDecidable _)
theorem goodP_of (l : List Pa) (ws ts : List Int) (e : Int × Int) (h : RespsR (onC l ws) ts e) : goodP l ws = (e.1 == 0) := by
  by_cases h0 : e.1 = 0
  · have he : e = (0, 0) := by
      rcases h with ⟨h1, -, h2⟩ | ⟨-, res, -, ⟨-, -, h2⟩ | ⟨-, -, h2⟩⟩
      · rw [← h2] at h1; exact absurd h0 h1
      · rw [h2] at h0; cases h0
      · exact h2
    subst he
    rw [(goodP_iff l ws).2 ⟨ts, h⟩]
    rfl
  · have : goodP l ws = false := by
      cases hg : goodP l ws with
      | false => rfl
      | true =>
        obtain ⟨ts', h'⟩ := (goodP_iff l ws).1 hg
        have := (RespsR.one h h').2
        rw [this] at h0
        exact absurd rfl h0
    rw [this]
    simp [h0]
theorem goodP_inv (l : List Pa) (cn : Nat) (hc : cn ≤ 4) : allF (goodP l) cn l.length [] = layF (goodP l) cn l.length [] 0 :=
  all_lay (good_on hc (goodP_iff l)) l.length [] 0 (by simp) (Nat.zero_le _) (fun x hx => by simp at hx)

theorem placeF_len (good : List Int → Bool) (l : List Pa) (cores : Int) : (placeF good l cores).1.length ≤ 5 := by
  unfold placeF
  split
  · simp
  split
  · simp
  split
  · simp
  next h5 =>
    split
    · simp
    · next ws h =>
      have := (layF_pre _ _ _ _ h).1
      simp at this
      show ws.length ≤ 5
      omega
theorem RespsR.short {l : List Pa} {ts : List Int} {e : Int × Int} (h : RespsR l ts e) (hl : l.length ≤ 5000) : ts.length ≤ 5000 := by
  rcases h with ⟨-, rfl, -⟩ | ⟨-, res, -, ⟨-, rfl, -⟩ | ⟨-, h, -⟩⟩
  · simp
  · simp
  · omega

set_option maxRecDepth 20000 in
set_option maxHeartbeats 8000000 in
theorem cr_walk (w : World) (l : List Pa) (cores : Int) (v : Value) (hg : PaAt7 w 2 0 noP) (hv : RowSl Pa.vals w l v) :
    Calls Tryd.prog 5 #[v, .int .i64 cores] w fun r w' => r = .returned (.bool true) ∧ Below w.heap.size w w' := by
  obtain ⟨ad, c, rfl⟩ := hv.len
  have HV : Hid (PaAt7 w 2 0 noP ∧ RowSl Pa.vals w l (.slice ad l.length c)) := ⟨hg, hv⟩
  clear hg hv
  have HL := LendPa_any
  have HT := StillPa_any
  unfold Pa.val at HL HT
  go_enter Tryd.func5, Tryd.ntmps5
  go_wp2_with (go_at_call 21; refine (chained_any _).mono ?_; rintro r w4 ⟨rfl, hb4⟩; have H4 : Hid (Below w.heap.size w w4) := hb4; clear hb4)
  by_cases hl : l.length ≤ 5000
  rotate_left 1
  · have hl' : decide ((l.length : Int) ≤ 5000) = false := by simp; omega
    go_wp2_with (go_at_call 7; refine (few_any _ _).mono ?_; rintro r w5 ⟨rfl, rfl⟩; rw [hl'])
    go_ret
    exact ⟨rfl, H4.out⟩
  have hl' : decide ((l.length : Int) ≤ 5000) = true := by simp; omega
  go_wp2_with (go_at_call 7; refine (few_any _ _).mono ?_; rintro r w5 ⟨rfl, h5⟩; have h5' := h5.symm; subst h5'; clear h5; rw [hl'])
  go_loopw [24] (fun i wr => ∃ j : Nat, j ≤ l.length ∧ i = .int .i64 j ∧ Below w.heap.size w wr) (fun i _ => l.length - (intOf i).toNat)
  case atStart => exact ⟨0, Nat.zero_le _, rfl, H4.out⟩
  case round =>
    obtain ⟨j, hj, rfl, hb⟩ := hrel
    generalize wr = wR at *
    have HB : Hid (Below w.heap.size w wR) := hb
    clear hb H4
    by_cases hlt : j < l.length
    · obtain ⟨x, hx, -⟩ := drop_at hlt
      obtain ⟨ad', c', he, -, -, hrow⟩ := HV.out.2.below HB.out
      injection he with he1 he2 he3
      subst he1
      rcases hrow with h | ⟨b, o, rfl, hrow⟩
      · rw [h] at hlt; simp at hlt
      obtain ⟨x0, x1, x2, x3, x4, x5, x6⟩ := paAt_of hrow hx
      have hji : (j : Int) < (l.length : Int) := by omega
      clear hrow hx he2 he3 HL HT
      by_cases h1 : 400 < x.d
      · by_cases h2 : x.d ≤ 10000
        · go_wp2_with fail
          go_ret
          exact ⟨rfl, below_seq HB.out (below_new _ _)⟩
        · go_wp2_with fail
          exact ⟨⟨j + 1, by omega, by simp, below_seq HB.out (below_new _ _)⟩, by simp [intOf]; omega⟩
      · go_wp2_with fail
        exact ⟨⟨j + 1, by omega, by simp, below_seq HB.out (below_new _ _)⟩, by simp [intOf]; omega⟩
    · have hje : j = l.length := by omega
      subst hje
      obtain ⟨e0, e1, e2, e3, e4, e5, e6⟩ := HV.out.1.below HB.out
      have z0 : 2 < wR.heap.size := World.block_lt_of_cell? _ _ e0
      have A9 := fun W u (hu : RowSl Pa.vals W l u) => CheckC_any W l u hu
      have A10 := fun W u (hu : RowSl Pa.vals W l u) => CheckParts_any W l u hu
      generalize (chkP l).1 = q1 at A9 A10
      generalize (chkP l).2 = q2 at A9 A10
      have A13 := fun W u (hu : RowSl Pa.vals W l u) => PlaceC_any W l u cores (goodP l) (goodP_of l) hu
      have A14 := fun W u (hu : RowSl Pa.vals W l u) => PlaceD_any W l u cores (goodP l) (goodP_of l) (goodP_inv l) hu
      have HP := placeF_len (goodP l) l cores
      unfold PlacePost at A13 A14
      generalize placeF (goodP l) l cores = pa at *
      obtain ⟨ps, p1, p2⟩ := pa
      dsimp only at A13 A14 HP
      go_wp2_with (go_at_call 22; refine (HL _ l noP _ (by omega) (HV.out.2.below HB.out)).mono ?_; rintro r w6 ⟨u6, rfl, hlent, hb6⟩; obtain ⟨b6, o6, c6, rfl, -⟩ := id hlent; have H6 : Hid (Below w.heap.size w w6 ∧ Lent Pa.vals w6 l noP (.slice (some ⟨b6, o6, none⟩) l.length c6)) := ⟨below_seq HB.out hb6, hlent⟩; clear e0 e1 e2 e3 e4 e5 e6 z0 hlent hb6 HB HL)
      go_wp2_with (go_at_call 23; refine (A9 _ _ H6.out.2.plain).mono ?_; rintro r w7 ⟨rfl, hb7⟩; have H7 : Hid (Below w.heap.size w w7 ∧ Lent Pa.vals w7 l noP (.slice (some ⟨b6, o6, none⟩) l.length c6)) := ⟨below_seq H6.out.1 hb7, H6.out.2.below hb7⟩; clear hb7 H6 A9)
      go_wp2_with (go_at_call 24; refine (A10 _ _ (HV.out.2.below H7.out.1)).mono ?_; rintro r w8 ⟨rfl, hb8⟩; have H8 : Hid (Below w.heap.size w w8 ∧ Lent Pa.vals w8 l noP (.slice (some ⟨b6, o6, none⟩) l.length c6)) := ⟨below_seq H7.out.1 hb8, H7.out.2.below hb8⟩; clear hb8 H7 A10)
      go_wp2_with (go_at_call 25; refine (RespsC_any _ l _ H8.out.2.plain).mono ?_; rintro r w9 ⟨ts, e, tv, hR, rfl, ht, hb9, -⟩; obtain ⟨f1, f2⟩ := e; have H9 : Hid (Below w.heap.size w (w9.alloc (.cells #[.int .i64 f1, .int .i64 f2] 30)) ∧ Lent Pa.vals (w9.alloc (.cells #[.int .i64 f1, .int .i64 f2] 30)) l noP (.slice (some ⟨b6, o6, none⟩) l.length c6) ∧ FL (w9.alloc (.cells #[.int .i64 f1, .int .i64 f2] 30)) w9.heap.size f1 f2 ∧ RowSl nuV (w9.alloc (.cells #[.int .i64 f1, .int .i64 f2] 30)) ts tv ∧ RespsR l ts (f1, f2)) := ⟨below_seq H8.out.1 (below_seq hb9 (below_new _ _)), H8.out.2.below (below_seq hb9 (below_new _ _)), FL.new _ _ _, ht.below (below_new _ _), hR⟩; clear hb9 H8 ht hR)
      generalize w9.alloc (.cells #[.int .i64 f1, .int .i64 f2] 30) = W9 at *
      generalize w9.heap.size = g9 at *
      go_wp2_with (go_at_call 26; refine (PartTimes_any _ l _ (HV.out.2.below H9.out.1)).mono ?_; rintro r w10 ⟨ts', e, tv', hR, rfl, ht, hb10, -⟩; obtain ⟨hts, he⟩ := RespsR.one H9.out.2.2.2.2 hR; subst hts; subst he; have H10 : Hid (Below w.heap.size w (w10.alloc (.cells #[.int .i64 f1, .int .i64 f2] 30)) ∧ Lent Pa.vals (w10.alloc (.cells #[.int .i64 f1, .int .i64 f2] 30)) l noP (.slice (some ⟨b6, o6, none⟩) l.length c6) ∧ FL (w10.alloc (.cells #[.int .i64 f1, .int .i64 f2] 30)) g9 f1 f2 ∧ RowSl nuV (w10.alloc (.cells #[.int .i64 f1, .int .i64 f2] 30)) ts tv ∧ RespsR l ts (f1, f2) ∧ FL (w10.alloc (.cells #[.int .i64 f1, .int .i64 f2] 30)) w10.heap.size f1 f2 ∧ RowSl nuV (w10.alloc (.cells #[.int .i64 f1, .int .i64 f2] 30)) ts tv') := ⟨below_seq H9.out.1 (below_seq hb10 (below_new _ _)), H9.out.2.1.below (below_seq hb10 (below_new _ _)), H9.out.2.2.1.grow (below_seq hb10 (below_new _ _)), H9.out.2.2.2.1.below (below_seq hb10 (below_new _ _)), H9.out.2.2.2.2, FL.new _ _ _, ht.below (below_new _ _)⟩; clear hb10 H9 ht hR)
      generalize w10.alloc (.cells #[.int .i64 f1, .int .i64 f2] 30) = W10 at *
      generalize w10.heap.size = g10 at *
      go_wp2_with (go_at_call 27; refine (A13 _ _ H10.out.2.1.plain).mono ?_; rintro r w11 ⟨pv, rfl, hp, hb11, -⟩; have H11 : Hid (Below w.heap.size w (w11.alloc (.cells #[.int .i64 p1, .int .i64 p2] 30)) ∧ Lent Pa.vals (w11.alloc (.cells #[.int .i64 p1, .int .i64 p2] 30)) l noP (.slice (some ⟨b6, o6, none⟩) l.length c6) ∧ FL (w11.alloc (.cells #[.int .i64 p1, .int .i64 p2] 30)) g9 f1 f2 ∧ RowSl nuV (w11.alloc (.cells #[.int .i64 p1, .int .i64 p2] 30)) ts tv ∧ RespsR l ts (f1, f2) ∧ FL (w11.alloc (.cells #[.int .i64 p1, .int .i64 p2] 30)) g10 f1 f2 ∧ RowSl nuV (w11.alloc (.cells #[.int .i64 p1, .int .i64 p2] 30)) ts tv' ∧ FL (w11.alloc (.cells #[.int .i64 p1, .int .i64 p2] 30)) w11.heap.size p1 p2 ∧ RowSl nuV (w11.alloc (.cells #[.int .i64 p1, .int .i64 p2] 30)) ps pv) := ⟨below_seq H10.out.1 (below_seq hb11 (below_new _ _)), H10.out.2.1.below (below_seq hb11 (below_new _ _)), H10.out.2.2.1.grow (below_seq hb11 (below_new _ _)), H10.out.2.2.2.1.below (below_seq hb11 (below_new _ _)), H10.out.2.2.2.2.1, H10.out.2.2.2.2.2.1.grow (below_seq hb11 (below_new _ _)), H10.out.2.2.2.2.2.2.below (below_seq hb11 (below_new _ _)), FL.new _ _ _, hp.below (below_new _ _)⟩; clear hb11 H10 hp A13)
      generalize w11.alloc (.cells #[.int .i64 p1, .int .i64 p2] 30) = W11 at *
      generalize w11.heap.size = g11 at *
      go_upto_region 18 with (go_at_call 28; refine (A14 _ _ (HV.out.2.below H11.out.1)).mono ?_; rintro r w12 ⟨pv', rfl, hp, hb12, -⟩; have hs := below_seq hb12 (below_new w12 (.cells #[.int .i64 p1, .int .i64 p2] 30)); have H12 : Hid (Below w.heap.size w (w12.alloc (.cells #[.int .i64 p1, .int .i64 p2] 30)) ∧ Lent Pa.vals (w12.alloc (.cells #[.int .i64 p1, .int .i64 p2] 30)) l noP (.slice (some ⟨b6, o6, none⟩) l.length c6) ∧ FL (w12.alloc (.cells #[.int .i64 p1, .int .i64 p2] 30)) g9 f1 f2 ∧ RowSl nuV (w12.alloc (.cells #[.int .i64 p1, .int .i64 p2] 30)) ts tv ∧ RespsR l ts (f1, f2) ∧ FL (w12.alloc (.cells #[.int .i64 p1, .int .i64 p2] 30)) g10 f1 f2 ∧ RowSl nuV (w12.alloc (.cells #[.int .i64 p1, .int .i64 p2] 30)) ts tv' ∧ FL (w12.alloc (.cells #[.int .i64 p1, .int .i64 p2] 30)) g11 p1 p2 ∧ RowSl nuV (w12.alloc (.cells #[.int .i64 p1, .int .i64 p2] 30)) ps pv ∧ FL (w12.alloc (.cells #[.int .i64 p1, .int .i64 p2] 30)) w12.heap.size p1 p2 ∧ RowSl nuV (w12.alloc (.cells #[.int .i64 p1, .int .i64 p2] 30)) ps pv') := ⟨below_seq H11.out.1 hs, H11.out.2.1.below hs, H11.out.2.2.1.grow hs, H11.out.2.2.2.1.below hs, H11.out.2.2.2.2.1, H11.out.2.2.2.2.2.1.grow hs, H11.out.2.2.2.2.2.2.1.below hs, H11.out.2.2.2.2.2.2.2.1.grow hs, H11.out.2.2.2.2.2.2.2.2.below hs, FL.new _ _ _, hp.below (below_new _ _)⟩; clear hb12 H11 hp hs A14)
      generalize w12.alloc (.cells #[.int .i64 p1, .int .i64 p2] 30) = W12 at *
      generalize w12.heap.size = g12 at *
      obtain ⟨a0, a1, a2⟩ := H12.out.2.2.1.cells
      obtain ⟨b0, b1, b2⟩ := H12.out.2.2.2.2.2.1.cells
      have hts : ts.length ≤ 4194304 := Nat.le_trans (H12.out.2.2.2.2.1.short hl) (by decide)
      have S1 := SmN_any W12 ts ts tv tv' hts rfl H12.out.2.2.2.1 H12.out.2.2.2.2.2.2.1
      rw [show decide (ts = ts) = true from by simp] at S1
      have HPS : Hid (ps.length ≤ 5) := HP
      clear hts HP
      go_wp2_with (go_at_call 29; refine S1.mono ?_; rintro r w13 ⟨rfl, hb13⟩; have H13 : Hid (Below W12.heap.size W12 w13) := hb13; obtain ⟨c0, c1, c2⟩ := (H12.out.2.2.2.2.2.2.2.1.grow hb13).cells; obtain ⟨d0, d1, d2⟩ := (H12.out.2.2.2.2.2.2.2.2.2.1.grow hb13).cells; have S2 := SmN_any w13 ps ps pv pv' (Nat.le_trans HPS.out (by decide)) rfl (H12.out.2.2.2.2.2.2.2.2.1.below hb13) (H12.out.2.2.2.2.2.2.2.2.2.2.below hb13); rw [show decide (ps = ps) = true from by simp] at S2; clear hb13 S1)
      go_wp2_with (go_at_call 29; refine S2.mono ?_; rintro r w14 ⟨rfl, hb14⟩; have H14 : Hid (Below W12.heap.size W12 w14) := below_seq H13.out hb14; obtain ⟨e0, e1, e2, e3, e4, e5, e6⟩ := HV.out.1.below (below_seq H12.out.1 H14.out); have z0 : 2 < w14.heap.size := World.block_lt_of_cell? _ _ e0; clear hb14 H13 S2)
      go_wp2_with (go_at_call 30; refine (HT _ l noP _ _ (by omega) (H12.out.2.1.below H14.out) (HV.out.2.below (below_seq H12.out.1 H14.out))).mono ?_; rintro r w15 ⟨rfl, hb15⟩; have H15 : Hid (Below w.heap.size w w15) := below_seq (below_seq H12.out.1 H14.out) hb15; clear hb15 e0 e1 e2 e3 e4 e5 e6)
      go_ret
      exact ⟨rfl, H15.out⟩
end Go.Proofs.YtccoobcggbbcialDoor
namespace Go.Proofs.YtccoobcggbbcialDoor
open Go.ChangeShapes Go.WideShapes Go.ChangeAt Go.RowKit

theorem cellsI : Tryd.prog.cellsOf 3 = 1 := by kernel_rfl

section
variable {H : Type} {enc : TypeId × Value → H} {w : World} {sp : Nat → Bool} {held : Bool}

/-- A cell that is there lies at a plain address. -/
theorem plain_addr {w : World} {a : Addr} {v : Value} (h : w.cell? a = some v) : a = ⟨a.block, a.off, none⟩ := by
  obtain ⟨b, o, s⟩ := a
  cases s with
  | none => rfl
  | some x =>
    exfalso
    unfold World.cell? at h
    simp at h
    split at h <;> simp_all

theorem add_plain' (g o n : Nat) : (⟨g, o, none⟩ : Addr).add n = ⟨g, o + n, none⟩ := by
  unfold Addr.add
  by_cases h : n = 0
  · subst h; rfl
  · simp [h]

theorem cells_at {g o n : Nat} {cs : List Value} (h : w.cells? 0 ⟨g, o, none⟩ n = some cs) : cs.length = n ∧ ∀ i, i < n → w.cell? ⟨g, o + i, none⟩ = cs[i]? := by
  obtain ⟨-, h1, h2⟩ := World.cells?_some h
  refine ⟨h1, fun i hi => ?_⟩
  rw [← h2 i hi, add_plain']

theorem cellsPa : Tryd.prog.cellsOf 53 = 7 := by kernel_rfl
/-- A part that can be read. -/
theorem pa_one {n : Nat} {cs : List Value} {y : DataW H × List MemPlace} (hl : cs.length = 7) (h : DataW.trod enc Tryd.prog w 0 sp held n 53 cs = some y) : ∃ x : Pa, cs = x.vals ∧ y.1 = .agg [.lit (.int .i64 x.co), .lit (.int .i64 x.fr), .lit (.int .i64 x.se), .lit (.int .i64 x.c), .lit (.int .i64 x.t), .lit (.int .i64 x.d), .lit (.int .i64 x.p)] := by
  match cs, hl with
  | [c0, c1, c2, c3, c4, c5, c6], _ =>
    obtain ⟨xs, n1, rfl, hy, -, hlen, hf⟩ := DataW.trod_struct Tryd.underlying53 h
    match xs, hlen with
    | [y0, y1, y2, y3, y4, y5, y6], _ =>
      have f0 : DataW.trod enc Tryd.prog w 0 sp held n1 3 ((([c0, c1, c2, c3, c4, c5, c6] : List Value).drop 0).take (Tryd.prog.cellsOf 3)) = some y0 := hf 0 _ rfl
      have f1 : DataW.trod enc Tryd.prog w 0 sp held n1 3 ((([c0, c1, c2, c3, c4, c5, c6] : List Value).drop 1).take (Tryd.prog.cellsOf 3)) = some y1 := hf 1 _ rfl
      have f2 : DataW.trod enc Tryd.prog w 0 sp held n1 3 ((([c0, c1, c2, c3, c4, c5, c6] : List Value).drop 2).take (Tryd.prog.cellsOf 3)) = some y2 := hf 2 _ rfl
      have f3 : DataW.trod enc Tryd.prog w 0 sp held n1 3 ((([c0, c1, c2, c3, c4, c5, c6] : List Value).drop 3).take (Tryd.prog.cellsOf 3)) = some y3 := hf 3 _ rfl
      have f4 : DataW.trod enc Tryd.prog w 0 sp held n1 3 ((([c0, c1, c2, c3, c4, c5, c6] : List Value).drop 4).take (Tryd.prog.cellsOf 3)) = some y4 := hf 4 _ rfl
      have f5 : DataW.trod enc Tryd.prog w 0 sp held n1 3 ((([c0, c1, c2, c3, c4, c5, c6] : List Value).drop 5).take (Tryd.prog.cellsOf 3)) = some y5 := hf 5 _ rfl
      have f6 : DataW.trod enc Tryd.prog w 0 sp held n1 3 ((([c0, c1, c2, c3, c4, c5, c6] : List Value).drop 6).take (Tryd.prog.cellsOf 3)) = some y6 := hf 6 _ rfl
      rw [cellsI] at f0 f1 f2 f3 f4 f5 f6
      obtain ⟨k0, e0, g0, -⟩ := DataW.trod_int Tryd.underlying3 (show DataW.trod enc Tryd.prog w 0 sp held n1 3 [c0] = some y0 from f0)
      obtain ⟨k1, e1, g1, -⟩ := DataW.trod_int Tryd.underlying3 (show DataW.trod enc Tryd.prog w 0 sp held n1 3 [c1] = some y1 from f1)
      obtain ⟨k2, e2, g2, -⟩ := DataW.trod_int Tryd.underlying3 (show DataW.trod enc Tryd.prog w 0 sp held n1 3 [c2] = some y2 from f2)
      obtain ⟨k3, e3, g3, -⟩ := DataW.trod_int Tryd.underlying3 (show DataW.trod enc Tryd.prog w 0 sp held n1 3 [c3] = some y3 from f3)
      obtain ⟨k4, e4, g4, -⟩ := DataW.trod_int Tryd.underlying3 (show DataW.trod enc Tryd.prog w 0 sp held n1 3 [c4] = some y4 from f4)
      obtain ⟨k5, e5, g5, -⟩ := DataW.trod_int Tryd.underlying3 (show DataW.trod enc Tryd.prog w 0 sp held n1 3 [c5] = some y5 from f5)
      obtain ⟨k6, e6, g6, -⟩ := DataW.trod_int Tryd.underlying3 (show DataW.trod enc Tryd.prog w 0 sp held n1 3 [c6] = some y6 from f6)
      simp only [List.cons.injEq, and_true] at e0 e1 e2 e3 e4 e5 e6
      refine ⟨⟨k0, k1, k2, k3, k4, k5, k6⟩, by rw [e0, e1, e2, e3, e4, e5, e6]; rfl, ?_⟩
      rw [hy, g0, g1, g2, g3, g4, g5, g6]
      rfl

theorem pa_row {n : Nat} (g : Nat) : ∀ (elems : List (DataW H × List MemPlace)) (o : Nat),
    (∀ i, i < elems.length → (w.cells? 0 ⟨g, o + i * 7, none⟩ 7).bind (DataW.trod enc Tryd.prog w 0 sp held n 53) = elems[i]?) →
    ∃ l : List Pa, l.length = elems.length ∧ ∀ q u, (l.flatMap Pa.vals)[q]? = some u → w.cell? ⟨g, o + q, none⟩ = some u
  | [], o, _ => ⟨[], rfl, fun q u hq => by simp at hq⟩
  | y :: r, o, h => by
    have h0 := h 0 (by simp)
    simp only [Nat.zero_mul, Nat.add_zero, List.getElem?_cons_zero] at h0
    obtain ⟨cs, hc, ht⟩ := Option.bind_eq_some_iff.1 h0
    obtain ⟨hlen, hcell⟩ := cells_at hc
    obtain ⟨x, rfl, -⟩ := pa_one hlen ht
    obtain ⟨l, hl, hrow⟩ := pa_row g r (o + 7) (fun i hi => by
      have := h (i + 1) (by simp; omega)
      rw [show o + (i + 1) * 7 = o + 7 + i * 7 by omega] at this
      simpa using this)
    refine ⟨x :: l, by simp [hl], fun q u hq => ?_⟩
    · rw [List.flatMap_cons] at hq
      by_cases h7 : q < 7
      · rw [List.getElem?_append_left (by rw [Pa.len]; exact h7)] at hq
        rw [hcell q h7]
        exact hq
      · rw [List.getElem?_append_right (by rw [Pa.len]; omega), Pa.len] at hq
        have := hrow (q - 7) u hq
        rw [show o + 7 + (q - 7) = o + q by omega] at this
        exact this

theorem paSl_of_trod {ad : Option Addr} {n c : Nat} {d : DataW H} {ps : List MemPlace} (h : DataW.Trod enc Tryd.prog w 0 sp held 51 (.slice ad n c) d ps) : ∃ l : List Pa, n = l.length ∧ RowSl Pa.vals w l (.slice ad n c) := by
  obtain ⟨q, hq⟩ := h
  have hcs : (Value.slice ad n c).cells.toList = [.slice ad n c] := rfl
  rw [hcs] at hq
  rcases DataW.trod_slice Tryd.underlying51 hq with ⟨h1, -⟩ | ⟨a, len, cap, elems, rest, n2, -, h1, -, -, hlc, -, hle, hel, -, -⟩
  · simp only [List.cons.injEq, and_true, Value.slice.injEq] at h1
    obtain ⟨rfl, rfl, rfl⟩ := h1
    exact ⟨[], rfl, RowSl.nil _ _⟩
  · simp only [List.cons.injEq, and_true, Value.slice.injEq] at h1
    obtain ⟨rfl, rfl, rfl⟩ := h1
    subst hle
    simp only [cellsPa] at hel
    cases elems with
    | nil => exact ⟨[], rfl, ⟨_, _, rfl, (fun e => by cases e), Nat.zero_le _, .inl rfl⟩⟩
    | cons z r =>
      have hz := hel 0 (by simp)
      obtain ⟨cs0, hc0, ht0⟩ := Option.bind_eq_some_iff.1 hz
      obtain ⟨-, hlen0, hpl⟩ := World.cells?_some hc0
      obtain ⟨x, rfl, -⟩ := pa_one hlen0 (by simpa using ht0)
      have hpa := plain_addr (w := w) (a := a) (v := .int .i64 x.co) (by simpa [Addr.add, Pa.vals] using hpl 0 (by omega))
      obtain ⟨l, hl, hrow⟩ := pa_row (n := n2) a.block (z :: r) a.off (fun i hi => by
        have := hel i hi
        rw [hpa, add_plain'] at this
        exact this)
      exact ⟨l, hl.symm, ⟨some a, c, by rw [hl], (fun e => by cases e), by omega, .inr ⟨a.block, a.off, by rw [← hpa], hrow⟩⟩⟩

theorem cellsCo : Tryd.prog.cellsOf 83 = 2 := by kernel_rfl
/-- A coming that can be read. -/
theorem co_one {n : Nat} {cs : List Value} {y : DataW H × List MemPlace} (hl : cs.length = 2) (h : DataW.trod enc Tryd.prog w 0 sp held n 83 cs = some y) : ∃ x : Co, cs = x.vals ∧ y.1 = .agg [.lit (.int .i64 x.k), .lit (.int .i64 x.a)] := by
  match cs, hl with
  | [c0, c1], _ =>
    obtain ⟨xs, n1, rfl, hy, -, hlen, hf⟩ := DataW.trod_struct Tryd.underlying83 h
    match xs, hlen with
    | [y0, y1], _ =>
      have f0 : DataW.trod enc Tryd.prog w 0 sp held n1 3 ((([c0, c1] : List Value).drop 0).take (Tryd.prog.cellsOf 3)) = some y0 := hf 0 _ rfl
      have f1 : DataW.trod enc Tryd.prog w 0 sp held n1 3 ((([c0, c1] : List Value).drop 1).take (Tryd.prog.cellsOf 3)) = some y1 := hf 1 _ rfl
      rw [cellsI] at f0 f1
      obtain ⟨k0, e0, g0, -⟩ := DataW.trod_int Tryd.underlying3 (show DataW.trod enc Tryd.prog w 0 sp held n1 3 [c0] = some y0 from f0)
      obtain ⟨k1, e1, g1, -⟩ := DataW.trod_int Tryd.underlying3 (show DataW.trod enc Tryd.prog w 0 sp held n1 3 [c1] = some y1 from f1)
      simp only [List.cons.injEq, and_true] at e0 e1
      refine ⟨⟨k0, k1⟩, by rw [e0, e1]; rfl, ?_⟩
      rw [hy, g0, g1]
      rfl

theorem co_row {n : Nat} (g : Nat) : ∀ (elems : List (DataW H × List MemPlace)) (o : Nat),
    (∀ i, i < elems.length → (w.cells? 0 ⟨g, o + i * 2, none⟩ 2).bind (DataW.trod enc Tryd.prog w 0 sp held n 83) = elems[i]?) →
    ∃ l : List Co, l.length = elems.length ∧ ∀ q u, (l.flatMap Co.vals)[q]? = some u → w.cell? ⟨g, o + q, none⟩ = some u
  | [], o, _ => ⟨[], rfl, fun q u hq => by simp at hq⟩
  | y :: r, o, h => by
    have h0 := h 0 (by simp)
    simp only [Nat.zero_mul, Nat.add_zero, List.getElem?_cons_zero] at h0
    obtain ⟨cs, hc, ht⟩ := Option.bind_eq_some_iff.1 h0
    obtain ⟨hlen, hcell⟩ := cells_at hc
    obtain ⟨x, rfl, -⟩ := co_one hlen ht
    obtain ⟨l, hl, hrow⟩ := co_row g r (o + 2) (fun i hi => by
      have := h (i + 1) (by simp; omega)
      rw [show o + (i + 1) * 2 = o + 2 + i * 2 by omega] at this
      simpa using this)
    refine ⟨x :: l, by simp [hl], fun q u hq => ?_⟩
    · rw [List.flatMap_cons] at hq
      by_cases h7 : q < 2
      · rw [List.getElem?_append_left (by rw [Co.len]; exact h7)] at hq
        rw [hcell q h7]
        exact hq
      · rw [List.getElem?_append_right (by rw [Co.len]; omega), Co.len] at hq
        have := hrow (q - 2) u hq
        rw [show o + 2 + (q - 2) = o + q by omega] at this
        exact this

theorem coSl_of_trod {ad : Option Addr} {n c : Nat} {d : DataW H} {ps : List MemPlace} (h : DataW.Trod enc Tryd.prog w 0 sp held 84 (.slice ad n c) d ps) : ∃ l : List Co, n = l.length ∧ RowSl Co.vals w l (.slice ad n c) := by
  obtain ⟨q, hq⟩ := h
  have hcs : (Value.slice ad n c).cells.toList = [.slice ad n c] := rfl
  rw [hcs] at hq
  rcases DataW.trod_slice Tryd.underlying84 hq with ⟨h1, -⟩ | ⟨a, len, cap, elems, rest, n2, -, h1, -, -, hlc, -, hle, hel, -, -⟩
  · simp only [List.cons.injEq, and_true, Value.slice.injEq] at h1
    obtain ⟨rfl, rfl, rfl⟩ := h1
    exact ⟨[], rfl, RowSl.nil _ _⟩
  · simp only [List.cons.injEq, and_true, Value.slice.injEq] at h1
    obtain ⟨rfl, rfl, rfl⟩ := h1
    subst hle
    simp only [cellsCo] at hel
    cases elems with
    | nil => exact ⟨[], rfl, ⟨_, _, rfl, (fun e => by cases e), Nat.zero_le _, .inl rfl⟩⟩
    | cons z r =>
      have hz := hel 0 (by simp)
      obtain ⟨cs0, hc0, ht0⟩ := Option.bind_eq_some_iff.1 hz
      obtain ⟨-, hlen0, hpl⟩ := World.cells?_some hc0
      obtain ⟨x, rfl, -⟩ := co_one hlen0 (by simpa using ht0)
      have hpa := plain_addr (w := w) (a := a) (v := .int .i64 x.k) (by simpa [Addr.add, Co.vals] using hpl 0 (by omega))
      obtain ⟨l, hl, hrow⟩ := co_row (n := n2) a.block (z :: r) a.off (fun i hi => by
        have := hel i hi
        rw [hpa, add_plain'] at this
        exact this)
      exact ⟨l, hl.symm, ⟨some a, c, by rw [hl], (fun e => by cases e), by omega, .inr ⟨a.block, a.off, by rw [← hpa], hrow⟩⟩⟩

/-- A number that can be read. -/
theorem nuR_one {n : Nat} {cs : List Value} {y : DataW H × List MemPlace} (h : DataW.trod enc Tryd.prog w 0 sp held n 3 cs = some y) : ∃ x : Int, cs = nuV x := by
  obtain ⟨k0, e0, -, -⟩ := DataW.trod_int Tryd.underlying3 h
  exact ⟨k0, e0⟩

theorem nuR_row {n : Nat} (g : Nat) : ∀ (elems : List (DataW H × List MemPlace)) (o : Nat),
    (∀ i, i < elems.length → (w.cells? 0 ⟨g, o + i * 1, none⟩ 1).bind (DataW.trod enc Tryd.prog w 0 sp held n 3) = elems[i]?) →
    ∃ l : List Int, l.length = elems.length ∧ ∀ q u, (l.flatMap nuV)[q]? = some u → w.cell? ⟨g, o + q, none⟩ = some u
  | [], o, _ => ⟨[], rfl, fun q u hq => by simp at hq⟩
  | y :: r, o, h => by
    have h0 := h 0 (by simp)
    simp only [Nat.zero_mul, Nat.add_zero, List.getElem?_cons_zero] at h0
    obtain ⟨cs, hc, ht⟩ := Option.bind_eq_some_iff.1 h0
    obtain ⟨hlen, hcell⟩ := cells_at hc
    obtain ⟨x, rfl⟩ := nuR_one ht
    obtain ⟨l, hl, hrow⟩ := nuR_row g r (o + 1) (fun i hi => by
      have := h (i + 1) (by simp; omega)
      rw [show o + (i + 1) * 1 = o + 1 + i * 1 by omega] at this
      simpa using this)
    refine ⟨x :: l, by simp [hl], fun q u hq => ?_⟩
    · rw [List.flatMap_cons] at hq
      by_cases h7 : q < 1
      · rw [List.getElem?_append_left (by rw [nuV_len]; exact h7)] at hq
        rw [hcell q h7]
        exact hq
      · rw [List.getElem?_append_right (by rw [nuV_len]; omega), nuV_len] at hq
        have := hrow (q - 1) u hq
        rw [show o + 1 + (q - 1) = o + q by omega] at this
        exact this

/-- A slice of numbers that can be read. -/
theorem nuSl_of_trod {ad : Option Addr} {n c : Nat} {d : DataW H} {ps : List MemPlace} (h : DataW.Trod enc Tryd.prog w 0 sp held 36 (.slice ad n c) d ps) : ∃ l : List Int, n = l.length ∧ RowSl nuV w l (.slice ad n c) := by
  obtain ⟨q, hq⟩ := h
  have hcs : (Value.slice ad n c).cells.toList = [.slice ad n c] := rfl
  rw [hcs] at hq
  rcases DataW.trod_slice Tryd.underlying36 hq with ⟨h1, -⟩ | ⟨a, len, cap, elems, rest, n2, -, h1, -, -, hlc, -, hle, hel, -, -⟩
  · simp only [List.cons.injEq, and_true, Value.slice.injEq] at h1
    obtain ⟨rfl, rfl, rfl⟩ := h1
    exact ⟨[], rfl, RowSl.nil _ _⟩
  · simp only [List.cons.injEq, and_true, Value.slice.injEq] at h1
    obtain ⟨rfl, rfl, rfl⟩ := h1
    subst hle
    simp only [cellsI] at hel
    cases elems with
    | nil => exact ⟨[], rfl, ⟨_, _, rfl, (fun e => by cases e), Nat.zero_le _, .inl rfl⟩⟩
    | cons z r =>
      have hz := hel 0 (by simp)
      obtain ⟨cs0, hc0, ht0⟩ := Option.bind_eq_some_iff.1 hz
      obtain ⟨-, hlen0, hpl⟩ := World.cells?_some hc0
      obtain ⟨x, rfl⟩ := nuR_one (by simpa using ht0)
      have hpa := plain_addr (w := w) (a := a) (v := .int .i64 x) (by simpa [Addr.add, nuV] using hpl 0 (by omega))
      obtain ⟨l, hl, hrow⟩ := nuR_row (n := n2) a.block (z :: r) a.off (fun i hi => by
        have := hel i hi
        rw [hpa, add_plain'] at this
        exact this)
      exact ⟨l, hl.symm, ⟨some a, c, by rw [hl], (fun e => by cases e), by omega, .inr ⟨a.block, a.off, by rw [← hpa], hrow⟩⟩⟩
end

theorem pavals_of {x y : Pa} (h : (DataW.agg [.lit (.int .i64 x.co), .lit (.int .i64 x.fr), .lit (.int .i64 x.se), .lit (.int .i64 x.c), .lit (.int .i64 x.t), .lit (.int .i64 x.d), .lit (.int .i64 x.p)] : DataW Unit) = .agg [.lit (.int .i64 y.co), .lit (.int .i64 y.fr), .lit (.int .i64 y.se), .lit (.int .i64 y.c), .lit (.int .i64 y.t), .lit (.int .i64 y.d), .lit (.int .i64 y.p)]) : x = y := by
  obtain ⟨x0, x1, x2, x3, x4, x5, x6⟩ := x
  obtain ⟨y0, y1, y2, y3, y4, y5, y6⟩ := y
  simp only [DataW.agg.injEq, List.cons.injEq, DataW.lit.injEq, Lit.int.injEq, true_and, and_true] at h
  obtain ⟨rfl, rfl, rfl, rfl, rfl, rfl, rfl⟩ := h
  rfl
theorem covals_of {x y : Co} (h : (DataW.agg [.lit (.int .i64 x.k), .lit (.int .i64 x.a)] : DataW Unit) = .agg [.lit (.int .i64 y.k), .lit (.int .i64 y.a)]) : x = y := by
  obtain ⟨x0, x1⟩ := x
  obtain ⟨y0, y1⟩ := y
  simp only [DataW.agg.injEq, List.cons.injEq, DataW.lit.injEq, Lit.int.injEq, true_and, and_true] at h
  obtain ⟨rfl, rfl⟩ := h
  rfl
end Go.Proofs.YtccoobcggbbcialDoor
