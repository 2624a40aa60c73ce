import Derived.Test.YtdhnjemgnlklkajDoorNM
import Derived.Test.YtdhnjemgnlklkajDoorNQ
import Derived.Test.YtdhnjemgnlklkajDoorNS
namespace Go.Proofs.YtdhnjemgnlklkajDoor
open Go.ChangeShapes Go.WideShapes Go.ChangeAt Go.RowKit

def noF : Fr := ⟨-9, 0, 0, 0⟩
theorem TmA.len {l : List Fr} {ts : List Int} {e : Int × Int} (h : TmA l ts e) : ts.length ≤ 8 := by
  rcases h with ⟨-, rfl, -⟩ | ⟨h0, h | ⟨rfl, -⟩⟩
  · simp
  · have := (chkN_ok h0).2.1
    have := h.1.1
    omega
  · simp

/-- What the law holds: the lent messages, both answers. -/
structure NTL (w W : World) (l : List Fr) (o1 : Value) (ts : List Int) (t1 : Value) (G : Nat) (e1 e2 : Int) : Prop where
  bel : Below w.heap.size w W
  own : Lent Fr.vals W l noF o1
  t : RowSl nuV W ts t1
  f : W.heap[G]? = some (.cells #[.int .i64 e1, .int .i64 e2] 31 (0, 0))
theorem NTL.grow {w W W' : World} {l : List Fr} {o1 : Value} {ts : List Int} {t1 : Value} {G : Nat} {e1 e2 : Int} (h : NTL w W l o1 ts t1 G e1 e2) (hb : Below W.heap.size W W') : NTL w W' l o1 ts t1 G e1 e2 :=
  ⟨below_seq h.bel hb, h.own.below hb, h.t.below hb, (hb.block _ (ltH h.f)).trans h.f⟩

set_option maxRecDepth 20000 in
set_option maxHeartbeats 2000000 in
theorem times_walk (w : World) (l : List Fr) (v : Value) (hg : FrAt w 0 0 noF) (hv : RowSl Fr.vals w l v) :
    Calls Tryd.prog 3 #[v] w fun r w' => r = .returned (.bool true) ∧ Below w.heap.size w w' := by
  obtain ⟨ad, c, rfl⟩ := hv.len
  have HV : Hid (FrAt w 0 0 noF ∧ RowSl Fr.vals w l (.slice ad l.length c)) := ⟨hg, hv⟩
  clear hg hv
  have HL := LendF_any
  have HT := StillF_any
  unfold Fr.val at HL HT
  go_enter Tryd.func3, Tryd.ntmps3
  go_wp2_with (go_at_call 5; refine (bus_any w).mono ?_; rintro r w1 ⟨rfl, hb1⟩; have H1 : Hid (Below w.heap.size w w1) := hb1; clear hb1)
  by_cases hl1 : l.length ≤ 5000
  · have hl1' : decide ((l.length : Int) ≤ 5000) = true := by simp; omega
    obtain ⟨k0, k1, k2, k3⟩ := HV.out.1.below H1.out
    simp only [Nat.zero_add] at k1 k2 k3
    go_wp2_with (first | (go_at_call 6; refine (few_any _ _).mono ?_; rintro r w6 ⟨rfl, hw6⟩; have hw7 := hw6.symm; subst hw7; clear hw6; rw [hl1']) | (go_at_call 7; refine (HL _ l noF _ (by omega) (HV.out.2.below H1.out)).mono ?_; rintro r wa ⟨o1, rfl, hl9, hb9⟩; obtain ⟨b6, o6, c6, rfl, -⟩ := id hl9; have Ha : Hid (Below w.heap.size w wa ∧ Lent Fr.vals wa l noF (.slice (some ⟨b6, o6, none⟩) l.length c6)) := ⟨below_seq H1.out hb9, hl9⟩; clear hl9 hb9 k0 k1 k2 k3))
    have HTi := Times_any wa l _ Ha.out.2.plain
    go_upto_region 7 with (go_at_call 8; refine HTi.mono ?_; rintro r wb ⟨ts, ⟨e1, e2⟩, tv, hta, rfl, htr, hb⟩; obtain ⟨a1, c1, rfl⟩ := htr.len; dsimp only; have Hb : Hid (NTL w (wb.alloc (.cells #[.int .i64 e1, .int .i64 e2] 31)) l (.slice (some ⟨b6, o6, none⟩) l.length c6) ts (.slice a1 ts.length c1) wb.heap.size e1 e2 ∧ TmA l ts (e1, e2)) := ⟨⟨below_seq (below_seq Ha.out.1 hb) (below_new _ _), (Ha.out.2.below hb).below (below_new _ _), htr.below (below_new _ _), heap_alloc_new _ _⟩, hta⟩; clear hb hta htr HTi Ha)
    generalize wb.alloc (.cells #[.int .i64 e1, .int .i64 e2] 31) = wc at *
    generalize wb.heap.size = G1 at *
    have HBi := BusTimes_any wc l _ (HV.out.2.below Hb.out.1.bel)
    go_upto_region 8 with (go_at_call 9; refine HBi.mono ?_; rintro r wd ⟨ts', ⟨y1, y2⟩, tv, hta, rfl, htr, hb⟩; obtain ⟨q1, q2⟩ := Hb.out.2.one hta; cases q2; subst q1; obtain ⟨a2, c2, rfl⟩ := htr.len; dsimp only; have Hd : Hid (NTL w (wd.alloc (.cells #[.int .i64 e1, .int .i64 e2] 31)) l (.slice (some ⟨b6, o6, none⟩) l.length c6) ts (.slice a1 ts.length c1) G1 e1 e2 ∧ RowSl nuV (wd.alloc (.cells #[.int .i64 e1, .int .i64 e2] 31)) ts (.slice a2 ts.length c2) ∧ (wd.alloc (.cells #[.int .i64 e1, .int .i64 e2] 31)).heap[wd.heap.size]? = some (.cells #[.int .i64 e1, .int .i64 e2] 31 (0, 0)) ∧ ts.length ≤ 8) := ⟨(Hb.out.1.grow hb).grow (below_new _ _), htr.below (below_new _ _), heap_alloc_new _ _, hta.len⟩; clear hb hta htr HBi Hb)
    generalize wd.alloc (.cells #[.int .i64 e1, .int .i64 e2] 31) = we at *
    generalize wd.heap.size = G2 at *
    have HC1 := CheckN_any we l _ Hd.out.1.own.plain
    have HC2 := fun W (hb : Below we.heap.size we W) => CheckB_any W l _ ((HV.out.2.below Hd.out.1.bel).below hb)
    generalize (chkN l).1 = z1 at *
    generalize (chkN l).2 = z2 at *
    go_wp2_with (go_at_call 10; refine HC1.mono ?_; rintro r wf ⟨rfl, hbf⟩; have Hf : Hid (Below we.heap.size we wf) := hbf; clear hbf HC1)
    go_wp2_with (go_at_call 11; refine (HC2 _ Hf.out).mono ?_; rintro r wg ⟨rfl, hbg⟩; have Hg : Hid (Below we.heap.size we wg) := below_seq Hf.out hbg; obtain ⟨fs, -, fl⟩ := cells_of (l := [_, _]) ((Hg.out.block _ (ltH Hd.out.1.f)).trans Hd.out.1.f); have f0 := fs 0 _ rfl; have f1 := fs 1 _ rfl; obtain ⟨gs, -, gl⟩ := cells_of (l := [_, _]) ((Hg.out.block _ (ltH Hd.out.2.2.1)).trans Hd.out.2.2.1); have g0 := gs 0 _ rfl; have g1 := gs 1 _ rfl; clear fs gs hbg HC2 Hf)
    have HS := SameN_any wg ts _ _ (by have := Hd.out.2.2.2; omega) (Hd.out.1.t.below Hg.out) (Hd.out.2.1.below Hg.out)
    go_wp2_with (go_at_call 12; refine HS.mono ?_; rintro r wh ⟨rfl, hbh⟩; have Hh : Hid (Below we.heap.size we wh) := below_seq Hg.out hbh; obtain ⟨k0, k1, k2, k3⟩ := HV.out.1.below (below_seq Hd.out.1.bel Hh.out); simp only [Nat.zero_add] at k1 k2 k3; clear hbh HS f0 f1 g0 g1)
    go_wp2_with (go_at_call 13; refine (HT _ l noF _ _ (by omega) (Hd.out.1.own.below Hh.out) ((HV.out.2.below Hd.out.1.bel).below Hh.out)).mono ?_; rintro r wi ⟨rfl, hbi⟩; have Hi : Hid (Below w.heap.size w wi) := below_seq (below_seq Hd.out.1.bel Hh.out) hbi; clear hbi)
    go_ret
    exact ⟨rfl, Hi.out⟩
  · have hl1' : decide ((l.length : Int) ≤ 5000) = false := by simp; omega
    go_wp2_with (first | (go_at_call 6; refine (few_any _ _).mono ?_; rintro r w6 ⟨rfl, hw6⟩; have hw7 := hw6.symm; subst hw7; clear hw6; rw [hl1']))
    go_ret
    exact ⟨rfl, H1.out⟩
end Go.Proofs.YtdhnjemgnlklkajDoor
