import Derived.Test.YtccoobcggbbciahDoorDH0
import Derived.Test.YtccoobcggbbciahDoorDE0
import Derived.Test.YtccoobcggbbciahDoorDD0
import Derived.Test.YtccoobcggbbciahDoorMW
import Derived.LaidMore
import Derived.ChangeArms
import Derived.OpenShut
import Derived.Test.YtccoobcggbbciahDoorCards
import Derived.Test.YtccoobcggbbciahDoorTie
import Derived.WideKeyArgs
import Derived.Deep.DeepHandedRow
namespace Go.Proofs.YtccoobcggbbciahDoor
open Go.ChangeShapes Go.WideShapes Go.ChangeAt Go.RowKit

/-- A fault's block that stays. -/
def FL (W : World) (G : Nat) (z1 z2 : Int) : Prop := W.heap[G]? = some (.cells #[.int .i64 z1, .int .i64 z2] 31 (0, 0))
theorem FL.grow {W W' : World} {G : Nat} {z1 z2 : Int} (h : FL W G z1 z2) (hb : Below W.heap.size W W') : FL W' G z1 z2 := (hb.block G (Array.getElem?_eq_some_iff.1 h).1).trans h
theorem FL.new (W : World) (z1 z2 : Int) : FL (W.alloc (.cells #[.int .i64 z1, .int .i64 z2] 31)) W.heap.size z1 z2 := heap_alloc_new _ _
theorem FL.cells {W : World} {G : Nat} {z1 z2 : Int} (h : FL W G z1 z2) : W.cell? ⟨G, 0, none⟩ = some (.int .i64 z1) ∧ W.cell? ⟨G, 1, none⟩ = some (.int .i64 z2) ∧ G < W.heap.size := by
  obtain ⟨c1, f1, l1⟩ := cells_of (l := [_, _]) h
  exact ⟨c1 0 _ rfl, c1 1 _ rfl, l1⟩

def noC : Cr := ⟨-9, 0, 0, 0, false, 0⟩

theorem resp_one {l : List Cr} {a b a' b' : List Int} {z1 z2 y1 y2 : Int} (h : RespIs l a b z1 z2) (h' : RespIs l a' b' y1 y2) : a = a' ∧ b = b' ∧ z1 = y1 ∧ z2 = y2 := by
  rcases h with ⟨h0, rfl, rfl, h1⟩ | ⟨h0, ⟨h1, rfl, rfl, rfl, rfl⟩ | ⟨h1, rfl, rfl, rfl, rfl⟩⟩ <;> rcases h' with ⟨g0, rfl, rfl, g1⟩ | ⟨g0, ⟨g1, rfl, rfl, rfl, rfl⟩ | ⟨g1, rfl, rfl, rfl, rfl⟩⟩
  · rw [← h1] at g1
    exact ⟨rfl, rfl, (Prod.mk.inj g1).1.symm, (Prod.mk.inj g1).2.symm⟩
  · exact absurd g0 h0
  · exact absurd g0 h0
  · exact absurd h0 g0
  · exact ⟨rfl, rfl, rfl, rfl⟩
  · omega
  · exact absurd h0 g0
  · omega
  · exact ⟨rfl, rfl, rfl, rfl⟩

theorem resp_len {l : List Cr} {a b : List Int} {z1 z2 : Int} (h : RespIs l a b z1 z2) : a.length ≤ 8 ∧ b.length ≤ 8 := by
  rcases h with ⟨h0, rfl, rfl, h1⟩ | ⟨h0, ⟨h1, rfl, rfl, rfl, rfl⟩ | ⟨h1, rfl, rfl, rfl, rfl⟩⟩
  · simp
  · simp
  · have := (chkC_ok h0).2.1
    unfold wsF isF
    simp
    omega

theorem own_grow {w w' : World} {B n size : Nat} {e : TypeId} {v : Value} {xs : List Value} (h : w.ownsRow B e size v n xs) (hb : Below w.heap.size w w') : w'.ownsRow B e size v n xs := ownsRow_same h fun k _ hk => hb.block k hk

theorem own_at {w : World} {B n : Nat} {v : Value} {xs : List Value} (h : w.ownsRow B 3 1 v n xs) {q : Nat} (hq : v.ownBlock = some q) : B ≤ q ∧ q < w.heap.size := by
  obtain ⟨hl, ⟨rfl, -⟩ | ⟨g, cap, cur, rfl, hb, hg, -⟩⟩ := h
  · cases hq
  · obtain rfl : g = q := by simpa [Value.ownBlock] using hq
    exact ⟨hb, (Array.getElem?_eq_some_iff.1 hg).1⟩

/-- Two rows of one's own. -/
theorem Apart2 (W : World) (B : Nat) (a b : List Int) (av bv : Value) (t : TypeId) (hB : B ≤ W.heap.size) (h1 : W.ownsRow B 3 1 av a.length (a.flatMap nuV)) (h2 : W.ownsRow B 3 1 bv b.length (b.flatMap nuV)) (hd : ∀ q, av.ownBlock = some q → bv.ownBlock ≠ some q) (ha : a.length ≤ 8) (hb : b.length ≤ 8) :
    Calls Tryd.prog 12 #[.slice (some ⟨W.heap.size, 0, none⟩) 2 2] (W.alloc (.cells #[av, bv] t)) fun r w' => r = .returned (.bool true) ∧ Below B W w' := by
  have hn := below_new W (.cells #[av, bv] t)
  have hs : (W.alloc (.cells #[av, bv] t)).heap.size = W.heap.size + 1 := by simp
  have hc := (cells_of (l := [_, _]) (heap_alloc_new W (.cells #[av, bv] t))).1
  refine (Apart_any (W.alloc (.cells #[av, bv] t)) B W.heap.size 2 (fun i => if i = 0 then av else bv) (fun i => if i = 0 then a.length else b.length) ⟨by omega, by omega, ⟨hB, by omega⟩, ?_, ?_, ?_⟩ ?_ ?_).mono ?_
  · intro i hi q hq
    have : B ≤ q ∧ q < W.heap.size := by
      by_cases h : i = 0
      · rw [if_pos h] at hq; exact own_at h1 hq
      · rw [if_neg h] at hq; exact own_at h2 hq
    exact ⟨this.1, by omega, by omega⟩
  · intro i i' hi hi' hne q hq
    have e : (i = 0 ∧ i' = 1) ∨ (i = 1 ∧ i' = 0) := by omega
    rcases e with ⟨rfl, rfl⟩ | ⟨rfl, rfl⟩
    · exact hd q hq
    · exact fun h => hd q h hq
  · intro i hi
    split <;> omega
  · intro i hi
    have e : i = 0 ∨ i = 1 := by omega
    rcases e with rfl | rfl
    · exact hc 0 _ rfl
    · exact hc 1 _ rfl
  · intro i hi
    have e : i = 0 ∨ i = 1 := by omega
    rcases e with rfl | rfl
    · exact (RB.of (own_grow h1 hn)).mono fun _ _ _ _ => trivial
    · exact (RB.of (own_grow h2 hn)).mono fun _ _ _ _ => trivial
  · rintro r w' ⟨rfl, h⟩
    exact ⟨rfl, (hn.mono hB).trans h⟩

/-- What was answered, as it lies. -/
structure ALLW (w6 W : World) (l : List Cr) (acc bcc : List Int) (aa ba xa ya : Option Addr) (ac bc xc yc : Nat) : Prop where
  bel : Below w6.heap.size w6 W
  o1 : W.ownsRow (w6.heap.size + 1) 3 1 (.slice aa acc.length ac) acc.length (acc.flatMap nuV)
  o2 : W.ownsRow (w6.heap.size + 1) 3 1 (.slice ba bcc.length bc) bcc.length (bcc.flatMap nuV)
  ap : ∀ q, (Value.slice aa acc.length ac).ownBlock = some q → (Value.slice ba bcc.length bc).ownBlock ≠ some q
  r1 : RowSl nuV W acc (.slice xa acc.length xc)
  r2 : RowSl nuV W bcc (.slice ya bcc.length yc)
  ln : acc.length ≤ 8 ∧ bcc.length ≤ 8
  sz : w6.heap.size + 1 ≤ W.heap.size

theorem ALLW.grow {w6 W W' : World} {l : List Cr} {acc bcc : List Int} {aa ba xa ya : Option Addr} {ac bc xc yc : Nat} (h : ALLW w6 W l acc bcc aa ba xa ya ac bc xc yc) (hb : Below W.heap.size W W') : ALLW w6 W' l acc bcc aa ba xa ya ac bc xc yc :=
  ⟨below_seq h.bel hb, own_grow h.o1 hb, own_grow h.o2 hb, h.ap, h.r1.below hb, h.r2.below hb, h.ln, Nat.le_trans h.sz hb.size⟩

set_option maxRecDepth 20000 in
set_option maxHeartbeats 8000000 in
theorem law_walk (w : World) (l : List Cr) (v : Value) (hg : CrAt w 0 0 noC) (hv : RowSl Cr.vals w l v) :
    Calls Tryd.prog 3 #[v] w fun r w' => r = .returned (.bool true) ∧ Below w.heap.size w w' := by
  obtain ⟨ad, c, rfl⟩ := hv.len
  have HV : Hid (CrAt w 0 0 noC ∧ RowSl Cr.vals w l (.slice ad l.length c)) := ⟨hg, hv⟩
  clear hg hv
  have HL := LendM_any
  have HT := StillM_any
  unfold Cr.val at HL HT
  go_enter Tryd.func3, Tryd.ntmps3
  go_wp2_with (go_at_call 4; refine (turns_any _).mono ?_; rintro r w4 ⟨rfl, hb4⟩; have H4 : Hid (Below w.heap.size w w4) := hb4; clear hb4)
  by_cases hl : l.length ≤ 5000
  · have hl' : decide ((l.length : Int) ≤ 5000) = true := by simp; omega
    have A9 := fun W (hb : Below w.heap.size w W) => Two_any W l _ (HV.out.2.below hb)
    have A10 := fun W (hb : Below w.heap.size w W) => CheckCrit_any W l _ (HV.out.2.below hb)
    have A8 := fun W u (hu : RowSl Cr.vals W l u) => CheckM_any W l u hu
    generalize (chkC l).1 = p1 at *
    generalize (chkC l).2 = p2 at *
    go_wp2_with (go_at_call 5; refine (few_any _ _).mono ?_; rintro r w5 ⟨rfl, rfl⟩; rw [hl']; try (obtain ⟨e0, e1, e2, e3, e4, e5⟩ := HV.out.1.below H4.out))
    go_wp2_with (go_at_call 6; refine (HL _ l noC _ (by omega) (HV.out.2.below H4.out)).mono ?_; rintro r w6 ⟨u6, rfl, hlent, hb6⟩; obtain ⟨b6, o6, c6, rfl, -⟩ := id hlent; have H6 : Hid (Below w.heap.size w w6 ∧ Lent Cr.vals w6 l noC (.slice (some ⟨b6, o6, none⟩) l.length c6)) := ⟨below_seq H4.out hb6, hlent⟩; clear e0 e1 e2 e3 e4 e5 hlent hb6 H4 HL)
    go_wp2_with (go_at_call 7; refine (Responses_any _ l _ H6.out.2.plain).mono ?_; rintro r w8 ⟨acc, bcc, av, bv, z1, z2, his, rfl, ho1, ho2, hd, hb8⟩; obtain ⟨aa, ac, rfl⟩ := (rowM_own ho1).len; obtain ⟨ba, bc, rfl⟩ := (rowM_own ho2).len; have H8 : Hid (RespIs l acc bcc z1 z2 ∧ Below w6.heap.size w6 (w8.alloc (.cells #[.int .i64 z1, .int .i64 z2] 31)) ∧ (w8.alloc (.cells #[.int .i64 z1, .int .i64 z2] 31)).ownsRow (w6.heap.size + 1) 3 1 (.slice aa acc.length ac) acc.length (acc.flatMap nuV) ∧ (w8.alloc (.cells #[.int .i64 z1, .int .i64 z2] 31)).ownsRow (w6.heap.size + 1) 3 1 (.slice ba bcc.length bc) bcc.length (bcc.flatMap nuV) ∧ FL (w8.alloc (.cells #[.int .i64 z1, .int .i64 z2] 31)) w8.heap.size z1 z2) := ⟨his, below_seq hb8 (below_new _ _), own_grow ho1 (below_new _ _), own_grow ho2 (below_new _ _), FL.new _ _ _⟩; have HS8 : Hid (w6.heap.size ≤ w8.heap.size) := hb8.size; have HD : Hid (∀ q, (Value.slice aa acc.length ac).ownBlock = some q → (Value.slice ba bcc.length bc).ownBlock ≠ some q) := hd; clear his ho1 ho2 hd hb8)
    go_wp2_with (go_at_call 8; refine (A9 _ (below_seq H6.out.1 H8.out.2.1)).mono ?_; rintro r w9 ⟨acc', bcc', xv, yv, y1, y2, his, rfl, ho1, ho2, -, hb9⟩; obtain ⟨rfl, rfl, rfl, rfl⟩ := resp_one H8.out.1 his; obtain ⟨xa, xc, rfl⟩ := (rowM_own ho1).len; obtain ⟨ya, yc, rfl⟩ := (rowM_own ho2).len; have hb9' := below_seq (below_new _ _) hb9; have H9 : Hid (ALLW w6 (w9.alloc (.cells #[.int .i64 z1, .int .i64 z2] 31)) l acc bcc aa ba xa ya ac bc xc yc ∧ FL (w9.alloc (.cells #[.int .i64 z1, .int .i64 z2] 31)) w8.heap.size z1 z2 ∧ FL (w9.alloc (.cells #[.int .i64 z1, .int .i64 z2] 31)) w9.heap.size z1 z2) := ⟨⟨below_seq H8.out.2.1 (below_seq hb9' (below_new _ _)), own_grow H8.out.2.2.1 (below_seq hb9' (below_new _ _)), own_grow H8.out.2.2.2.1 (below_seq hb9' (below_new _ _)), HD.out, (rowM_own ho1).below (below_new _ _), (rowM_own ho2).below (below_new _ _), resp_len H8.out.1, Nat.le_trans (Nat.succ_le_of_lt (Nat.lt_of_le_of_lt HS8.out H8.out.2.2.2.2.cells.2.2)) (below_seq hb9' (below_new _ _)).size⟩, H8.out.2.2.2.2.grow (below_seq hb9' (below_new _ _)), FL.new _ _ _⟩; clear hb9 hb9' ho1 ho2 his H8 HD A9)
    go_wp2_with (first
      | (go_at_call 10; refine (A10 _ (below_seq H6.out.1 H10.out.1)).mono ?_; rintro r w11 ⟨rfl, hb11⟩; have H11 : Hid (ALLW w6 w11 l acc bcc aa ba xa ya ac bc xc yc) := H10.out.2.1.grow hb11; obtain ⟨f80, f81, f8l⟩ := (H10.out.2.2.1.grow hb11).cells; obtain ⟨f90, f91, f9l⟩ := (H10.out.2.2.2.grow hb11).cells; clear hb11 H10 A10)
      | (go_at_call 9; refine (A8 _ _ (H6.out.2.below H9.out.1.bel).plain).mono ?_; rintro r w10 ⟨rfl, hb10⟩; have H10 : Hid (Below w6.heap.size w6 w10 ∧ ALLW w6 w10 l acc bcc aa ba xa ya ac bc xc yc ∧ FL w10 w8.heap.size z1 z2 ∧ FL w10 w9.heap.size z1 z2) := ⟨(H9.out.1.grow hb10).bel, H9.out.1.grow hb10, H9.out.2.1.grow hb10, H9.out.2.2.grow hb10⟩; clear hb10 H9 A8))
    go_wp2_with (go_at_call 11; refine (SameM_any _ acc _ _ (by have := H11.out.ln; omega) (rowM_own H11.out.o1) H11.out.r1).mono ?_; rintro r w12 ⟨rfl, hb12⟩; have H12 : Hid (ALLW w6 w12 l acc bcc aa ba xa ya ac bc xc yc) := H11.out.grow hb12; clear hb12 H11 f80 f81 f8l f90 f91 f9l)
    go_wp2_with (go_at_call 11; refine (SameM_any _ bcc _ _ (by have := H12.out.ln; omega) (rowM_own H12.out.o2) H12.out.r2).mono ?_; rintro r w13 ⟨rfl, hb13⟩; have H13 : Hid (ALLW w6 w13 l acc bcc aa ba xa ya ac bc xc yc) := H12.out.grow hb13; clear hb13 H12)
    go_wp2_with (go_at_call 12; refine (Apart2 w13 (w6.heap.size + 1) acc bcc _ _ _ (by have := H13.out.sz; omega) H13.out.o1 H13.out.o2 H13.out.ap H13.out.ln.1 H13.out.ln.2).mono ?_; rintro r w14 ⟨rfl, hb14⟩; have H14 : Hid (Below w6.heap.size w6 w14) := H13.out.bel.trans (hb14.mono (Nat.le_succ _)); obtain ⟨e0, e1, e2, e3, e4, e5⟩ := HV.out.1.below (below_seq H6.out.1 H14.out); clear hb14 H13)
    go_wp2_with (go_at_call 13; refine (HT _ l noC _ _ (by omega) (H6.out.2.below H14.out) (HV.out.2.below (below_seq H6.out.1 H14.out))).mono ?_; rintro r w15 ⟨rfl, hb15⟩; have H15 : Hid (Below w.heap.size w w15) := below_seq (below_seq H6.out.1 H14.out) hb15; clear hb15 H14 e0 e1 e2 e3 e4 e5 HT)
    go_ret
    exact ⟨rfl, H15.out⟩
  · have hl' : decide ((l.length : Int) ≤ 5000) = false := by simp; omega
    go_wp2_with (go_at_call 5; refine (few_any _ _).mono ?_; rintro r w5 ⟨rfl, rfl⟩; rw [hl'])
    go_ret
    exact ⟨rfl, H4.out⟩
end Go.Proofs.YtccoobcggbbciahDoor
namespace Go.Proofs.YtccoobcggbbciahDoor
open Go.ChangeShapes Go.WideShapes Go.ChangeAt Go.RowKit

theorem cells3 : Tryd.prog.cellsOf 3 = 1 := by kernel_rfl
theorem cells4 : Tryd.prog.cellsOf 4 = 1 := by kernel_rfl
theorem cellsCr : Tryd.prog.cellsOf 27 = 6 := by kernel_rfl

section
variable {H : Type} {enc : TypeId × Value → H} {w : World} {sp : Nat → Bool} {held : Bool}

/-- A cell that is there lies at a plain address. -/
theorem plain_addr {w : World} {a : Addr} {v : Value} (h : w.cell? a = some v) : a = ⟨a.block, a.off, none⟩ := by
  obtain ⟨b, o, s⟩ := a
  cases s with
  | none => rfl
  | some x =>
    exfalso
    unfold World.cell? at h
    simp at h
    split at h <;> simp_all

theorem add_plain' (g o n : Nat) : (⟨g, o, none⟩ : Addr).add n = ⟨g, o + n, none⟩ := by
  unfold Addr.add
  by_cases h : n = 0
  · subst h; rfl
  · simp [h]

theorem cells_at {g o n : Nat} {cs : List Value} (h : w.cells? 0 ⟨g, o, none⟩ n = some cs) : cs.length = n ∧ ∀ i, i < n → w.cell? ⟨g, o + i, none⟩ = cs[i]? := by
  obtain ⟨-, h1, h2⟩ := World.cells?_some h
  refine ⟨h1, fun i hi => ?_⟩
  rw [← h2 i hi, add_plain']

/-- A task of two levels that can be read. -/
theorem cr_oneT {n : Nat} {cs : List Value} {y : DataW H × List MemPlace} (hl : cs.length = 6) (h : DataW.trod enc Tryd.prog w 0 sp held n 27 cs = some y) : ∃ x : Cr, cs = x.vals ∧ y.1 = .agg [.lit (.int .i64 x.c), .lit (.int .i64 x.h), .lit (.int .i64 x.t), .lit (.int .i64 x.d), .lit (.bool x.hi), .lit (.int .i64 x.p)] := by
  match cs, hl with
  | [c0, c1, c2, c3, c4, c5], _ =>
    obtain ⟨xs, n1, rfl, hy, -, hlen, hf⟩ := DataW.trod_struct Tryd.underlying27 h
    match xs, hlen with
    | [y0, y1, y2, y3, y4, y5], _ =>
      have f0 : DataW.trod enc Tryd.prog w 0 sp held n1 3 ((([c0, c1, c2, c3, c4, c5] : List Value).drop 0).take (Tryd.prog.cellsOf 3)) = some y0 := hf 0 _ rfl
      have f1 : DataW.trod enc Tryd.prog w 0 sp held n1 3 ((([c0, c1, c2, c3, c4, c5] : List Value).drop 1).take (Tryd.prog.cellsOf 3)) = some y1 := hf 1 _ rfl
      have f2 : DataW.trod enc Tryd.prog w 0 sp held n1 3 ((([c0, c1, c2, c3, c4, c5] : List Value).drop 2).take (Tryd.prog.cellsOf 3)) = some y2 := hf 2 _ rfl
      have f3 : DataW.trod enc Tryd.prog w 0 sp held n1 3 ((([c0, c1, c2, c3, c4, c5] : List Value).drop 3).take (Tryd.prog.cellsOf 3)) = some y3 := hf 3 _ rfl
      have f4 : DataW.trod enc Tryd.prog w 0 sp held n1 4 ((([c0, c1, c2, c3, c4, c5] : List Value).drop 4).take (Tryd.prog.cellsOf 4)) = some y4 := hf 4 _ rfl
      have f5 : DataW.trod enc Tryd.prog w 0 sp held n1 3 ((([c0, c1, c2, c3, c4, c5] : List Value).drop 5).take (Tryd.prog.cellsOf 3)) = some y5 := hf 5 _ rfl
      rw [cells3] at f0 f1 f2 f3 f5
      rw [cells4] at f4
      obtain ⟨k0, e0, g0, -⟩ := DataW.trod_int Tryd.underlying3 (show DataW.trod enc Tryd.prog w 0 sp held n1 3 [c0] = some y0 from f0)
      obtain ⟨k1, e1, g1, -⟩ := DataW.trod_int Tryd.underlying3 (show DataW.trod enc Tryd.prog w 0 sp held n1 3 [c1] = some y1 from f1)
      obtain ⟨k2, e2, g2, -⟩ := DataW.trod_int Tryd.underlying3 (show DataW.trod enc Tryd.prog w 0 sp held n1 3 [c2] = some y2 from f2)
      obtain ⟨k3, e3, g3, -⟩ := DataW.trod_int Tryd.underlying3 (show DataW.trod enc Tryd.prog w 0 sp held n1 3 [c3] = some y3 from f3)
      obtain ⟨k4, e4, g4⟩ := DataW.trod_bool Tryd.underlying4 (show DataW.trod enc Tryd.prog w 0 sp held n1 4 [c4] = some y4 from f4)
      obtain ⟨k5, e5, g5, -⟩ := DataW.trod_int Tryd.underlying3 (show DataW.trod enc Tryd.prog w 0 sp held n1 3 [c5] = some y5 from f5)
      simp only [List.cons.injEq, and_true] at e0 e1 e2 e3 e4 e5
      refine ⟨⟨k0, k1, k2, k3, k4, k5⟩, by rw [e0, e1, e2, e3, e4, e5]; rfl, ?_⟩
      rw [hy, g0, g1, g2, g3, g4, g5]
      rfl

theorem cr_rowT {n : Nat} (g : Nat) : ∀ (elems : List (DataW H × List MemPlace)) (o : Nat),
    (∀ i, i < elems.length → (w.cells? 0 ⟨g, o + i * 6, none⟩ 6).bind (DataW.trod enc Tryd.prog w 0 sp held n 27) = elems[i]?) →
    ∃ l : List Cr, l.length = elems.length ∧ ∀ q u, (l.flatMap Cr.vals)[q]? = some u → w.cell? ⟨g, o + q, none⟩ = some u
  | [], o, _ => ⟨[], rfl, fun q u hq => by simp at hq⟩
  | y :: r, o, h => by
    have h0 := h 0 (by simp)
    simp only [Nat.zero_mul, Nat.add_zero, List.getElem?_cons_zero] at h0
    obtain ⟨cs, hc, ht⟩ := Option.bind_eq_some_iff.1 h0
    obtain ⟨hlen, hcell⟩ := cells_at hc
    obtain ⟨x, rfl, -⟩ := cr_oneT hlen ht
    obtain ⟨l, hl, hrow⟩ := cr_rowT g r (o + 6) (fun i hi => by
      have := h (i + 1) (by simp; omega)
      rw [show o + (i + 1) * 6 = o + 6 + i * 6 by omega] at this
      simpa using this)
    refine ⟨x :: l, by simp [hl], fun q u hq => ?_⟩
    · rw [List.flatMap_cons] at hq
      by_cases h7 : q < 6
      · rw [List.getElem?_append_left (by rw [Cr.len]; exact h7)] at hq
        rw [hcell q h7]
        exact hq
      · rw [List.getElem?_append_right (by rw [Cr.len]; omega), Cr.len] at hq
        have := hrow (q - 6) u hq
        rw [show o + 6 + (q - 6) = o + q by omega] at this
        exact this

/-- A slice of them that can be read. -/
theorem crSl_of_trod {ad : Option Addr} {n c : Nat} {d : DataW H} {ps : List MemPlace} (h : DataW.Trod enc Tryd.prog w 0 sp held 22 (.slice ad n c) d ps) : ∃ l : List Cr, n = l.length ∧ RowSl Cr.vals w l (.slice ad n c) := by
  obtain ⟨q, hq⟩ := h
  have hcs : (Value.slice ad n c).cells.toList = [.slice ad n c] := rfl
  rw [hcs] at hq
  rcases DataW.trod_slice Tryd.underlying22 hq with ⟨h1, -⟩ | ⟨a, len, cap, elems, rest, n2, -, h1, -, -, hlc, -, hle, hel, -, -⟩
  · simp only [List.cons.injEq, and_true, Value.slice.injEq] at h1
    obtain ⟨rfl, rfl, rfl⟩ := h1
    exact ⟨[], rfl, RowSl.nil _ _⟩
  · simp only [List.cons.injEq, and_true, Value.slice.injEq] at h1
    obtain ⟨rfl, rfl, rfl⟩ := h1
    subst hle
    simp only [cellsCr] at hel
    cases elems with
    | nil => exact ⟨[], rfl, ⟨_, _, rfl, (fun e => by cases e), Nat.zero_le _, .inl rfl⟩⟩
    | cons z r =>
      have hz := hel 0 (by simp)
      obtain ⟨cs0, hc0, ht0⟩ := Option.bind_eq_some_iff.1 hz
      obtain ⟨-, hlen0, hpl⟩ := World.cells?_some hc0
      obtain ⟨x, rfl, -⟩ := cr_oneT hlen0 (by simpa using ht0)
      have hpa := plain_addr (w := w) (a := a) (v := .int .i64 x.c) (by simpa [Addr.add, Cr.vals] using hpl 0 (by omega))
      obtain ⟨l, hl, hrow⟩ := cr_rowT (n := n2) a.block (z :: r) a.off (fun i hi => by
        have := hel i hi
        rw [hpa, add_plain'] at this
        exact this)
      exact ⟨l, hl.symm, ⟨some a, c, by rw [hl], (fun e => by cases e), by omega, .inr ⟨a.block, a.off, by rw [← hpa], hrow⟩⟩⟩

end

theorem gNoC : Tryd.prog.globalNamed "punctual/punctuallaw.noCrit" = some 0 := by kernel_rfl
theorem tNoC : (Tryd.prog.globals[0]?).map (·.type) = some 27 := by kernel_rfl

theorem vals_of_valC {x y : Cr} (h : (DataW.agg [.lit (.int .i64 x.c), .lit (.int .i64 x.h), .lit (.int .i64 x.t), .lit (.int .i64 x.d), .lit (.bool x.hi), .lit (.int .i64 x.p)] : DataW Unit) = .agg [.lit (.int .i64 y.c), .lit (.int .i64 y.h), .lit (.int .i64 y.t), .lit (.int .i64 y.d), .lit (.bool y.hi), .lit (.int .i64 y.p)]) : x = y := by
  obtain ⟨x1, x2, x3, x4, x5, x6⟩ := x
  obtain ⟨y1, y2, y3, y4, y5, y6⟩ := y
  simp only [DataW.agg.injEq, List.cons.injEq, DataW.lit.injEq, Lit.int.injEq, Lit.bool.injEq, true_and, and_true] at h
  obtain ⟨rfl, rfl, rfl, rfl, rfl, rfl⟩ := h
  rfl

/-- What the listed variable holds. -/
theorem of_laid {W : World} (h : laidMetH Tryd.prog Rows.modesRespondsRow.laid W) : CrAt W 0 0 noC := by
  rw [MakeChecks.laidMetH_plain _ _ _ (by kernel_rfl)] at h
  obtain ⟨ps, ⟨g0, t0, cs0, f0, p0, q0, hg0, ht0, hv0, hd0, _, _⟩, _, _⟩ := h
  obtain rfl := Option.some.inj (gNoC.symm.trans hg0)
  obtain rfl := Option.some.inj (tNoC.symm.trans ht0)
  have c0 : ∀ j, W.cell? ⟨0, j, none⟩ = cs0[j]? := World.var?_cell hg0 hv0
  have hlen : cs0.toList.length = 6 := by
    obtain ⟨xs, n1, -, -, hl, -⟩ := DataW.trod_struct Tryd.underlying27 hd0
    rw [hl, cellsCr]
  obtain ⟨x, hx, hy⟩ := cr_oneT hlen hd0
  have hxe : x = noC := vals_of_valC (hy.symm.trans rfl)
  subst hxe
  have key : ∀ k u, noC.vals[k]? = some u → W.cell? ⟨0, k, none⟩ = some u := fun k u hu => by
    rw [c0, ← Array.getElem?_toList, hx]; exact hu
  exact ⟨key 0 _ rfl, key 1 _ rfl, key 2 _ rfl, key 3 _ rfl, key 4 _ rfl, key 5 _ rfl⟩
end Go.Proofs.YtccoobcggbbciahDoor
namespace Go.Proofs.YtccoobcggbbciahDoor
open Go.ChangeShapes Go.WideShapes Go.ChangeAt Go.RowKit

theorem own : ownKnob Tryd.prog.godebug = none := by kernel_rfl
theorem laidOut : laidOutB Tryd.prog = true := by kernel_rfl
theorem reads22 : Tryd.prog.readableRec 22 = true := by kernel_rfl
theorem lt22 : 22 < Tryd.prog.types.size := of_decide_eq_true (by kernel_rfl)

set_option maxRecDepth 20000 in
theorem contractR (H : Type) (enc : TypeId × Value → H) (W : World) (base : Nat) (args : Array Value) (ds gs : List (DataW H)) (before : List MemPlace)
    (hval : ∀ (j : Nat) t v, Tryd.f3.params[j]? = some t → args[j]? = some v → Value.okWide Tryd.prog W .any base t v)
    (hW : DataW.Whole enc Tryd.prog Tryd.f3.params.toList Rows.modesRespondsSpec.vars false W args.toList ds gs before) (hL : laidMetH Tryd.prog Rows.modesRespondsRow.laid W) :
    Calls Tryd.prog 3 args W fun e W' => ∃ v, e = .returned v ∧ Rows.modesRespondsSpec.post enc Tryd.prog Tryd.f3 false true false false W args v W' := by
  have hW' := hW
  obtain ⟨p, q, hA0, hV, rfl, hfz, hnd⟩ := hW
  have hA : DataW.TrodAll enc Tryd.prog W 0 (fun _ => true) true Tryd.f3.params.toList args.toList ds p := hA0
  rw [Tryd.params3] at hA hval
  obtain ⟨v0, vs0, d0, ds0, p0, q0, hargs0, rfl, rfl, h0, r0⟩ := trodAll_cons hA
  obtain ⟨rfl, rfl, rfl⟩ := trodAll_nil r0
  obtain rfl : args = #[v0] := Array.toList_inj.1 (by rw [hargs0])
  obtain ⟨rfl, rfl⟩ := trodVars_none hV
  obtain ⟨ad0, len0, cap0, rfl⟩ := okWide_slice Tryd.underlying22 (hval 0 22 v0 (by simp) (by simp))
  clear hA0 hargs0
  simp only [List.append_nil] at hW'
  obtain ⟨l, rfl, hsl⟩ := crSl_of_trod h0
  refine (law_walk W l _ (of_laid hL) hsl).mono fun e W' ⟨he, hbel⟩ => ?_
  subst he
  have hlt0 : ∀ x ∈ p0, x.block < W.heap.size := fun x hx => by
    obtain ⟨n, hn⟩ := h0
    exact DataW.trod_lt n _ _ _ hn x hx
  refine ⟨_, rfl, [d0], [], p0, [], p0, [], hW', trodAll_mk1 (shut_bool Tryd.underlying4 _), ?_, rfl, hbel.frame _, fun h => by cases h⟩
  have s0 := WideElems.Trod_stays (W' := W') (sp' := fun b => decide (b < W.heap.size)) laidOut reads22 lt22 h0 (fun x hx => hbel.same (hlt0 x hx)) (fun x hx => by simpa using hlt0 x hx)
  have e1 := trodAll_cons_mk s0 (trodAll_mk0 (enc := enc) (P := Tryd.prog) (w := W') (base := 0) (spare := fun b => decide (b < W.heap.size)) (held := true))
  rw [List.append_nil] at e1
  exact e1

/-- A world for the witness: the settled one, the variable holding what its initialiser lays. -/
def laidHeap (h : Array Obj) : Array Obj := h.modify 0 fun
  | .cells _ t frozen => .cells #[.int .i64 (-9), .int .i64 0, .int .i64 0, .int .i64 0, .bool false, .int .i64 0] t frozen
  | o => o
theorem laid_metR (os : Os) : laidMet Tryd.prog Rows.modesRespondsRow.laid (({ World.holding Tryd.prog os ⟨#[], #[], []⟩ with heap := laidHeap (World.holding Tryd.prog os ⟨#[], #[], []⟩).heap } : World).forCall (fun _ _ => 0) ⟨#[], #[.slice none 0 0], []⟩).memory :=
  laidMet_of_run' 8 (by kernel_rfl) (by kernel_rfl)
theorem readsR (os : Os) {H : Type} (enc : TypeId × Value → H) : ∃ places, DataW.whole enc Tryd.prog (({ World.holding Tryd.prog os ⟨#[], #[], []⟩ with heap := laidHeap (World.holding Tryd.prog os ⟨#[], #[], []⟩).heap } : World).forCall (fun _ _ => 0) ⟨#[], #[.slice none 0 0], []⟩).memory Tryd.f3.params.toList Rows.modesRespondsSpec.vars false #[Value.slice none 0 0].toList 8 = some ([.nil], [], places) :=
  ⟨[], by kernel_rfl⟩

set_option maxRecDepth 100000 in
theorem liftedR (os : Os) (started : os.Started) (H : Type) (enc : TypeId × Value → H) (F : Stop.Interp) :
    ReturnsInHanded {} Tryd.checked os 3 .any ((OpenSpec.ofChange Rows.modesRespondsSpec).preRow enc Tryd.prog Tryd.f3 Rows.modesRespondsRow.domain false Rows.modesRespondsRow.laid) (((OpenSpec.ofChange Rows.modesRespondsSpec).at F).post enc Tryd.prog Tryd.f3 false true false false) := by
  obtain ⟨places, hx⟩ := readsR os enc
  refine returnsInHanded_of_row (C := Tryd.checked) (s := OpenSpec.ofChange Rows.modesRespondsSpec) own started (by kernel_rfl) Tryd.func3
    (witness_row_at (enc := enc) (C := Tryd.checked) false ({ World.holding Tryd.prog os ⟨#[], #[], []⟩ with heap := laidHeap (World.holding Tryd.prog os ⟨#[], #[], []⟩).heap } : World) #[.slice none 0 0] rfl (by kernel_rfl) (by kernel_rfl) (by kernel_rfl)
      (OpenSpec.preRow_of_cond 8 hx (by kernel_rfl) (fun k hk => by cases hk) (by kernel_rfl) (laid_metR os))) ?_
  intro W base args ds gs before hval hW _ _ _ hL _ _
  exact contractR H enc W base args ds gs before hval hW hL

theorem saidR : Rows.ModesRespondsSaid :=
  OpenClaim.holds_of_cond 3 Tryd.f3 rfl rfl rfl rfl rfl rfl rfl ⟨rfl, rfl, rfl, rfl, rfl⟩ rfl rfl rfl rfl rfl (by kernel_rfl) Tryd.func3 (by kernel_rfl)
    (of_decide_eq_true (by kernel_rfl)) (by unfold Func.isWrapper; first | (rw [if_pos (by decide +kernel)]; kernel_rfl) | (rw [if_neg (by decide +kernel)]; exact ⟨rfl, rfl⟩))
    (fun os started H enc _ F => by rw [OpenClaim.pre_eq_preRow]; exact liftedR os started H enc F)

/-- No parameter wants a stand-in; the program's own looks. -/
theorem standlessR (f : FuncId) (fn : Func) (hf : Tryd.pinned.checked.prog.funcNamed "punctual/punctuallaw.ModesResponds" = some f) (hfn : Tryd.pinned.checked.prog.funcs[f]? = some fn) :
    false = Tryd.pinned.checked.prog.looks [] ∧ ∀ (j : Nat) t, fn.params[j]? = some t → Tryd.pinned.checked.prog.wantsStandIn t = false := by
  obtain rfl : f = 3 := Option.some.inj ((show Tryd.prog.funcNamed "punctual/punctuallaw.ModesResponds" = some 3 by kernel_rfl).symm.trans hf) |>.symm
  obtain rfl : fn = Tryd.f3 := (Option.some.inj (Tryd.func3.symm.trans hfn)).symm
  refine ⟨by kernel_rfl, fun j t ht => ?_⟩
  rw [Tryd.params3] at ht
  have h : t = 22 := by
    have := Array.mem_of_getElem? ht
    simp at this
    first | exact this | omega
  rcases h with rfl
  · exact (show Tryd.prog.wantsStandIn 22 = false by kernel_rfl)

theorem modesResponds_card : Rows.ModesRespondsCardSaid :=
  Claim7.holds_tied_plain_at .later [] _ _ _ _ saidR (fun _ h => by cases h) (by kernel_rfl) (fun _ h => by cases h) modesResponds_row_tie rfl ⟨rfl, rfl⟩ (by kernel_rfl) rfl standlessR (by kernel_rfl)
end Go.Proofs.YtccoobcggbbciahDoor
