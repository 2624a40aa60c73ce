import Derived.Test.YtgemadoieielcacDoorGCQ
import Derived.Test.YtgemadoieielcacDoorGCR
import Derived.Test.YtgemadoieielcacDoorGCS
import Derived.Test.YtgemadoieielcacDoorGCT
import Derived.Test.YtgemadoieielcacDoorGCI
import Derived.Test.YtgemadoieielcacDoorGCM
import Derived.Lib.SliceRun
namespace Go.Proofs.YtgemadoieielcacDoor.B
open Go.ChangeShapes Go.WideShapes Go.ChangeAt Go.RowKit

theorem piece_of_pieces (N : Nat) (hL : PcsC N) : PcC (N + 1) := by
  intro s w v loops hN hN2 hin hlay hlo
  rcases s with ⟨k, n, e, ck, ca, cb, y, l⟩
  obtain ⟨ek, en, ead, em, ec, ak, an, aad, am, ac, bk, bn, bad, bm, bc, yad, yc, lad, lc, rfl, i1, i2, i3, i4, i5⟩ := St.In.open hin
  clear hin
  rw [St.bulk] at hN hN2 hlo
  rw [St.Lay] at hlay
  have hk : k = 1 ∨ k = 2 ∨ k = 3 ∨ k = 4 ∨ k = 5 ∨ k = 6 ∨ k = 7 := by have := hlay.1; omega
  rcases hk with hk | hk | hk | hk | hk | hk | hk
  · subst hk
    rw [St.pc]
    simp only [if_true]
    exact piece1_any N w e ca cb y l n ek en ck ak an bk bn ead aad bad yad lad em ec am ac bm bc yc lc loops i1 (hlay.2.1 (.inl rfl)) hN hN2 hlo
  · subst hk
    rw [St.pc]
    simp only [show ¬ ((2 : Int) = 1) by decide, if_true, if_false]
    exact piece2_any N w e ca cb y l n ek en ck ak an bk bn ead aad bad yad lad em ec am ac bm bc yc lc loops i1 (hlay.2.1 (.inr rfl)) hN hN2 hlo
  · subst hk
    rw [St.pc]
    simp only [show ¬ ((3 : Int) = 1) by decide, show ¬ ((3 : Int) = 2) by decide, if_true, if_false]
    obtain ⟨hck, hla, hlb⟩ := hlay.2.2.1 (.inl rfl)
    exact piece3_any N hL w e ca cb y l n ek en ck ak an bk bn ead aad bad yad lad em ec am ac bm bc yc lc loops i2 i3 hla hlb i4 hlay.2.2.2.2.1 i5 hlay.2.2.2.2.2 hN hN2 hlo
  · subst hk
    rw [St.pc]
    simp only [show ¬ ((4 : Int) = 1) by decide, show ¬ ((4 : Int) = 2) by decide, show ¬ ((4 : Int) = 3) by decide, if_true, if_false]
    by_cases hn0 : n = 0
    · subst hn0
      rw [if_pos rfl]
      exact piece4_none w y l ek en ck ak an bk bn ead aad bad yad lad em ec am ac bm bc yc lc loops
    · rw [if_neg hn0]
      exact piece4_any N hL w e ca cb y l n ek en ck ak an bk bn ead aad bad yad lad em ec am ac bm bc yc lc loops i4 hlay.2.2.2.2.1 hn0 (hlay.2.2.2.1 (.inl rfl)) hN hN2 hlo
  · subst hk
    rw [St.pc]
    simp only [show ¬ ((5 : Int) = 1) by decide, show ¬ ((5 : Int) = 2) by decide, show ¬ ((5 : Int) = 3) by decide, show ¬ ((5 : Int) = 4) by decide, if_true, if_false]
    by_cases hn0 : n = 0
    · subst hn0
      rw [if_pos rfl]
      exact piece5_none w y l ek en ck ak an bk bn ead aad bad yad lad em ec am ac bm bc yc lc loops
    · rw [if_neg hn0]
      obtain ⟨hck, hla, hlb⟩ := hlay.2.2.1 (.inr rfl)
      exact piece5_any N hL w e ca cb y l n ek en ck ak an bk bn ead aad bad yad lad em ec am ac bm bc yc lc loops i2 i3 hla hlb i4 hlay.2.2.2.2.1 hn0 (hlay.2.2.2.1 (.inr rfl)) hN hN2 hlo
  · subst hk
    rw [St.pc]
    simp only [show ¬ ((6 : Int) = 1) by decide, show ¬ ((6 : Int) = 2) by decide, show ¬ ((6 : Int) = 3) by decide, show ¬ ((6 : Int) = 4) by decide, show ¬ ((6 : Int) = 5) by decide, if_true, if_false]
    exact piece6_any N hL w e ca cb y l n ek en ck ak an bk bn ead aad bad yad lad em ec am ac bm bc yc lc loops i4 hlay.2.2.2.2.1 hN hN2 hlo
  · subst hk
    rw [St.pc]
    simp only [show ¬ ((7 : Int) = 1) by decide, show ¬ ((7 : Int) = 2) by decide, show ¬ ((7 : Int) = 3) by decide, show ¬ ((7 : Int) = 4) by decide, show ¬ ((7 : Int) = 5) by decide, show ¬ ((7 : Int) = 6) by decide, if_false]
    exact piece7_any w y l n ek en ck ak an bk bn ead aad bad yad lad em ec am ac bm bc yc lc loops

theorem all_pieces : ∀ N, PcsC N
  | 0 => pieces_of_piece 0 (fun s w v loops hN => by cases s; rw [St.bulk] at hN; omega)
  | N + 1 => pieces_of_piece (N + 1) (piece_of_pieces N (all_pieces N))

end Go.Proofs.YtgemadoieielcacDoor.B
namespace Go.Proofs.YtgemadoieielcacDoor.B
open Go.ChangeShapes Go.WideShapes Go.ChangeAt Go.RowKit

theorem Cm_ends {w : World} {g : Nat} {v c k : Value} {a : Act} (h7 : w.heap[g]? = some (.cells #[c, k] 30 (0, 0))) (h2 : a.tmps[2]?.getD undef = v) (h3 : a.tmps[3]?.getD undef = .pointer (some ⟨g, 0, none⟩)) :
    (results Tryd.f34 a.tmps).run Tryd.prog w = .ok (.tuple #[v, .agg #[c, k]]) w := by
  obtain ⟨d1, e1, m1⟩ := cells_of (l := [_, _]) h7
  have d10 := d1 0 _ rfl
  have d11 := d1 1 _ rfl
  simp [results, Tryd.results34, go_sem, h2, h3, d10, d11]

set_option maxRecDepth 20000 in
set_option maxHeartbeats 400000 in
theorem Compile_bad (a : List St) (cx cy : Int) (w : World) (v : Value) (h : St.Sl w a v) (hN : St.bulkAll a ≤ 1048576) (hx : checkV a = .agg #[.int .i64 cx, .int .i64 cy]) (h0 : ¬ cx = 0) : Calls Tryd.prog 34 #[v] w (ImP (imF a cx cy) w) := by
  have hB := below_new w (.cells #[.int .i64 0, .int .i64 0] 30)
  have HC := CheckBody_a a cx cy (w.alloc (.cells #[.int .i64 0, .int .i64 0] 30)) v hN (h.below hB) hx
  have HB : Hid (Below w.heap.size w (w.alloc (.cells #[.int .i64 0, .int .i64 0] 30)) ∧ (w.alloc (.cells #[.int .i64 0, .int .i64 0] 30)).heap[w.heap.size]? = some (.cells #[.int .i64 0, .int .i64 0] 30 (0, 0))) := ⟨hB, heap_alloc_new _ _⟩
  have hcb : (cx != 0) = true := by simpa using h0
  obtain ⟨ad, c, hv, -⟩ := h
  subst hv
  unfold imF
  rw [if_neg h0]
  clear hB hx
  go_enter Tryd.func34, Tryd.ntmps34
  go_wp2_with (go_at_call 63; refine HC.mono ?_; rintro r w1 ⟨rfl, hb1⟩; have H1 : Hid (Below w.heap.size w w1 ∧ w1.heap[w.heap.size]? = some (.cells #[.int .i64 0, .int .i64 0] 30 (0, 0))) := ⟨below_seq HB.out.1 hb1, (hb1.block w.heap.size (by simp)).trans HB.out.2⟩; obtain ⟨d1, e1, m1⟩ := cells_of (l := [_, _]) H1.out.2; have d10 := d1 0 _ rfl; have d11 := d1 1 _ rfl; have e10 := e1 0; have e11 := e1 1; clear hb1 HC d1 e1)
  go_region
  all_goals go_wp2_with fail
  all_goals
    refine bodyPost_ret (Cm_ends (g := w.heap.size) (v := .slice none 0 0) (c := .int .i64 cx) (k := .int .i64 cy) (((below_new _ _).block w.heap.size (by simp; omega)).trans (set_two' H1.out.2)) rfl rfl) rfl ?_
    exact ⟨_, rfl, World.ownsRow_nil _ _ _ _, (((H1.out.1.setCell (Nat.le_refl _) _).setCell (Nat.le_refl _) _).alloc (by have := H1.out.1.size; simp; omega) _).drew⟩

set_option maxRecDepth 20000 in
set_option maxHeartbeats 400000 in
theorem Compile_good (a : List St) (cy : Int) (w : World) (v : Value) (h : St.Sl w a v) (hN : St.bulkAll a ≤ 1048576) (hx : checkV a = .agg #[.int .i64 0, .int .i64 cy]) : Calls Tryd.prog 34 #[v] w (ImP (imF a 0 cy) w) := by
  have hB := below_new w (.cells #[.int .i64 0, .int .i64 0] 30)
  have HC := CheckBody_a a 0 cy (w.alloc (.cells #[.int .i64 0, .int .i64 0] 30)) v hN (h.below hB) hx
  have HB : Hid (Below w.heap.size w (w.alloc (.cells #[.int .i64 0, .int .i64 0] 30)) ∧ (w.alloc (.cells #[.int .i64 0, .int .i64 0] 30)).heap[w.heap.size]? = some (.cells #[.int .i64 0, .int .i64 0] 30 (0, 0))) := ⟨hB, heap_alloc_new _ _⟩
  obtain ⟨-, hlay, hblk⟩ := checkV_lay hx
  have hsl := h
  obtain ⟨ad, c, hv, -⟩ := h
  subst hv
  have HI : Hid (St.Sl w a (.slice ad a.length c) ∧ St.LayAll a) := ⟨hsl, hlay⟩
  have hpl := St.pcAll_len a 0
  clear hB hx hsl hlay hN
  go_enter Tryd.func34, Tryd.ntmps34
  go_wp2_with (go_at_call 63; refine HC.mono ?_; rintro r w1 ⟨rfl, hb1⟩; have H1 : Hid (Below w.heap.size w w1 ∧ w1.heap[w.heap.size]? = some (.cells #[.int .i64 0, .int .i64 0] 30 (0, 0))) := ⟨below_seq HB.out.1 hb1, (hb1.block w.heap.size (by simp)).trans HB.out.2⟩; clear hb1 HC)
  have hb0 : Below w1.heap.size w1 (w1.alloc (.cells #[.int .i64 0, .int .i64 cy] 30)) := below_new _ _
  have HC2 := all_pieces (St.bulkAll a) a (w1.alloc (.cells #[.int .i64 0, .int .i64 cy] 30)) _ 0 (Nat.le_refl _) (by omega) (HI.out.1.below (below_seq H1.out.1 hb0)) HI.out.2 (by omega)
  have HB0 : Hid (Below w1.heap.size w1 (w1.alloc (.cells #[.int .i64 0, .int .i64 cy] 30))) := hb0
  clear hb0
  obtain ⟨I, hI⟩ : ∃ I, St.pcAll a 0 = I := ⟨_, rfl⟩
  rw [hI] at HC2 hpl
  have HII : Hid (St.pcAll a 0 = I) := hI
  clear hI
  have hIl : I.length ≤ 1000000 := by omega
  by_cases hbig : 2000 < I.length
  · have hbi : (2000 : Int) < (I.length : Int) := by omega
    go_wp2_with (first
      | (go_at_call 25; refine (F_any 2 0 _).mono ?_; rintro r w4 ⟨rfl, hb4⟩; have k4 : w4.heap[w.heap.size]? = some (.cells #[.int .i64 0, .int .i64 0] 30 (0, 0)) := (hb4.block w.heap.size (Array.getElem?_eq_some_iff.1 H3.out.2.2).1).trans H3.out.2.2; obtain ⟨d1, e1, m1⟩ := cells_of (l := [_, _]) k4; have d10 := d1 0 _ rfl; have d11 := d1 1 _ rfl; have e10 := e1 0; have e11 := e1 1; have H4 : Hid (Below w.heap.size w w4 ∧ w4.heap[w.heap.size]? = some (.cells #[.int .i64 0, .int .i64 0] 30 (0, 0))) := ⟨below_seq H3.out.2.1 hb4, k4⟩; clear hb4 k4 d1 e1)
      | (go_at_call 64; refine HC2.mono ?_; rintro r w3 ⟨iv3, rfl, hw3, hb3⟩; obtain ⟨ad3, c3, rfl⟩ := hw3.shape; have H3 : Hid (Ow w3 (w1.alloc (.cells #[.int .i64 0, .int .i64 cy] 30)).heap.size (.slice ad3 I.length c3) I ∧ Below w.heap.size w w3 ∧ w3.heap[w.heap.size]? = some (.cells #[.int .i64 0, .int .i64 0] 30 (0, 0))) := ⟨hw3, below_seq H1.out.1 (below_seq HB0.out hb3), ((below_seq HB0.out hb3).block w.heap.size (Array.getElem?_eq_some_iff.1 H1.out.2).1).trans H1.out.2⟩; clear hw3 hb3 HC2))
    refine bodyPost_ret (Cm_ends (g := w.heap.size) (v := .slice none 0 0) (c := .int .i64 2) (k := .int .i64 0) (set_two' H4.out.2) rfl rfl) rfl ?_
    have e : imF a 0 cy = ((2, 0), []) := by unfold imF; rw [if_pos rfl, HII.out, if_pos hbig]
    rw [e]
    exact ⟨_, rfl, World.ownsRow_nil _ _ _ _, (H4.out.1.setCell (Nat.le_refl _) _).setCell (Nat.le_refl _) _⟩
  · have hbi : ¬ (2000 : Int) < (I.length : Int) := by omega
    go_wp2_with (go_at_call 64; refine HC2.mono ?_; rintro r w3 ⟨iv3, rfl, hw3, hb3⟩; obtain ⟨ad3, c3, rfl⟩ := hw3.shape; have k3 : w3.heap[w.heap.size]? = some (.cells #[.int .i64 0, .int .i64 0] 30 (0, 0)) := ((below_seq HB0.out hb3).block w.heap.size (Array.getElem?_eq_some_iff.1 H1.out.2).1).trans H1.out.2; obtain ⟨d1, e1, m1⟩ := cells_of (l := [_, _]) k3; have d10 := d1 0 _ rfl; have d11 := d1 1 _ rfl; have e10 := e1 0; have e11 := e1 1; have lw : w.heap.size + 1 ≤ w1.heap.size := (Array.getElem?_eq_some_iff.1 H1.out.2).1; have H3 : Hid (Ow w3 (w1.alloc (.cells #[.int .i64 0, .int .i64 cy] 30)).heap.size (.slice ad3 I.length c3) I ∧ Below w.heap.size w w3 ∧ w3.heap[w.heap.size]? = some (.cells #[.int .i64 0, .int .i64 0] 30 (0, 0)) ∧ w.heap.size + 1 ≤ w1.heap.size) := ⟨hw3, below_seq H1.out.1 (below_seq HB0.out hb3), k3, lw⟩; clear hw3 hb3 k3 HC2 d1 e1 lw)
    refine bodyPost_ret (Cm_ends (g := w.heap.size) (v := .slice ad3 I.length c3) (c := .int .i64 0) (k := .int .i64 0) (set_two' H3.out.2.2.1) rfl rfl) rfl ?_
    have e : imF a 0 cy = ((0, 0), I) := by unfold imF; rw [if_pos rfl, HII.out, if_neg hbig]
    rw [e]
    have hs := H3.out.2.2.2
    have hsz : (w1.alloc (.cells #[.int .i64 0, .int .i64 cy] 30)).heap.size = w1.heap.size + 1 := World.size_alloc _ _
    refine ⟨_, rfl, ?_, (H3.out.2.1.setCell (Nat.le_refl _) _).setCell (Nat.le_refl _) _⟩
    have ho : ((w3.setCell ⟨w.heap.size, 0, none⟩ (.int .i64 0)).setCell ⟨w.heap.size, 1, none⟩ (.int .i64 0)).ownsRow (w1.alloc (.cells #[.int .i64 0, .int .i64 cy] 30)).heap.size 35 3 (.slice ad3 I.length c3) I.length (insVs I) := ownsRow_same (ownsRow_same H3.out.1 (fun k hk1 _ => Below.heap_setCell _ _ _ _ (by show k ≠ w.heap.size; omega))) (fun k hk1 _ => Below.heap_setCell _ _ _ _ (by show k ≠ w.heap.size; omega))
    exact owns_low ho (by omega)

/-- What Compile answers, of any body. -/
theorem Compile_any (a : List St) (cx cy : Int) (w : World) (v : Value) (h : St.Sl w a v) (hN : St.bulkAll a ≤ 1048576) (hx : checkV a = .agg #[.int .i64 cx, .int .i64 cy]) : Calls Tryd.prog 34 #[v] w (ImP (imF a cx cy) w) := by
  by_cases h0 : cx = 0
  · subst h0
    exact Compile_good a cy w v h hN hx
  · exact Compile_bad a cx cy w v h hN hx h0

end Go.Proofs.YtgemadoieielcacDoor.B
namespace Go.Proofs.YtgemadoieielcacDoor.B
open Go.ChangeShapes Go.WideShapes Go.ChangeAt Go.RowKit

theorem below_setCells {N b : Nat} (hb : N ≤ b) : ∀ (l : List Value) (o : Nat) (w : World), Below N w (w.setCells b o l)
  | [], _, _ => Below.refl _ _
  | v :: r, o, w => by
    refine Below.trans ?_ (below_setCells hb r (o + 1) _)
    exact (Below.refl _ w).setCell (p := ⟨b, o, none⟩) hb v

def imageL : List Io := [⟨13, 0, 2⟩, ⟨2, 0, 0⟩, ⟨9, 0, 0⟩, ⟨4, 0, 0⟩, ⟨3, 0, 0⟩, ⟨14, 0, 1⟩, ⟨2, 0, 0⟩, ⟨1, 2, 0⟩, ⟨6, 0, 0⟩, ⟨10, 1, 0⟩]

def cellVs : List Io → List Value
  | [] => []
  | x :: t => .int .i64 x.op :: .int .i64 x.a :: .int .i64 x.b :: cellVs t

theorem cellVs_at : ∀ (l : List Io) (j : Nat), j < l.length → (cellVs l)[j * 3]? = some (.int .i64 (l.getD j in0).op) ∧ (cellVs l)[j * 3 + 1]? = some (.int .i64 (l.getD j in0).a) ∧ (cellVs l)[j * 3 + 2]? = some (.int .i64 (l.getD j in0).b)
  | [], j, h => by simp at h
  | x :: t, 0, _ => ⟨rfl, rfl, rfl⟩
  | x :: t, j + 1, h => by
    have := cellVs_at t j (by simpa using h)
    rw [cellVs, show (j + 1) * 3 = j * 3 + 1 + 1 + 1 by omega, show j * 3 + 1 + 1 + 1 + 1 = (j * 3 + 1) + 1 + 1 + 1 by omega, show j * 3 + 1 + 1 + 1 + 2 = (j * 3 + 2) + 1 + 1 + 1 by omega]
    simpa using this

set_option maxRecDepth 20000 in
set_option maxHeartbeats 4000000 in
theorem image_any (w : World) : Calls Tryd.prog 20 #[] w fun r w' => ∃ b, r = .returned (.slice (some ⟨b, 0, none⟩) imageL.length 10) ∧ InSl w' imageL (.slice (some ⟨b, 0, none⟩) imageL.length 10) ∧ Below w.heap.size w w' := by
  go_enter Tryd.func20, Tryd.ntmps20
  go_wp2_with fail
  go_ret
  refine ⟨_, rfl, ?_, below_new _ _⟩
  refine ⟨_, _, rfl, .inr ⟨w.heap.size, 0, rfl, fun j hj => ?_⟩⟩
  have h := (cells_of (l := cellVs imageL) (heap_alloc_new w (.cells (cellVs imageL).toArray 35))).1
  obtain ⟨a0, a1, a2⟩ := cellVs_at imageL j hj
  rw [Nat.zero_add]
  exact ⟨h _ _ a0, h _ _ a1, h _ _ a2⟩

theorem InSl.at {w : World} {l : List Io} {ad : Option Addr} {n c j : Nat} (h : InSl w l (.slice ad n c)) (hj : j < l.length) : ∃ b o, ad = some ⟨b, o, none⟩ ∧ w.cell? ⟨b, o + j * 3, none⟩ = some (.int .i64 (l.getD j in0).op) ∧ w.cell? ⟨b, o + j * 3 + 1, none⟩ = some (.int .i64 (l.getD j in0).a) ∧ w.cell? ⟨b, o + j * 3 + 2, none⟩ = some (.int .i64 (l.getD j in0).b) := by
  obtain ⟨ad', c', e, h | ⟨b, o, h1, h2⟩⟩ := h
  · rw [h] at hj; simp at hj
  · simp only [Value.slice.injEq] at e
    exact ⟨b, o, e.1.trans h1, h2 j hj⟩

set_option maxRecDepth 20000 in
set_option maxHeartbeats 400000 in
/-- Same, of two lists of the same instructions. -/
theorem SameN_any (w : World) (l : List Io) (ad ad' : Option Addr) (c c' : Nat) (hl : l.length ≤ 100000) (h : InSl w l (.slice ad l.length c)) (h' : InSl w l (.slice ad' l.length c')) :
    Calls Tryd.prog 32 #[.slice ad l.length c, .slice ad' l.length c'] w fun r w' => r = .returned (.bool true) ∧ Below w.heap.size w w' := by
  have HR : Hid (InSl w l (.slice ad l.length c) ∧ InSl w l (.slice ad' l.length c')) := ⟨h, h'⟩
  clear h h'
  go_enter Tryd.func32, Tryd.ntmps32
  go_wp2_with fail
  go_loopw [13] (fun x wr => ∃ j : Nat, j ≤ l.length ∧ x = .int .i64 j ∧ Below w.heap.size w wr) (fun x _ => l.length - (intOf x).toNat)
  case atStart => exact ⟨0, Nat.zero_le _, rfl, Below.refl _ _⟩
  case round =>
    obtain ⟨j, hj, rfl, hb⟩ := hrel
    by_cases hlt : j < l.length
    · obtain ⟨b, o, had, hrow⟩ := InSl.at HR.out.1 hlt
      obtain ⟨b', o', had', hrow'⟩ := InSl.at HR.out.2 hlt
      subst had had'
      obtain ⟨q0, q1, q2⟩ := hrow
      obtain ⟨p0, p1, p2⟩ := hrow'
      have q0 := below_cell hb q0
      have q1 := below_cell hb q1
      have q2 := below_cell hb q2
      have p0 := below_cell hb p0
      have p1 := below_cell hb p1
      have p2 := below_cell hb p2
      generalize l.getD j in0 = z at *
      have HB : Hid (Below w.heap.size w wr) := hb
      clear hb
      go_wp2_with fail
      go_region
      go_wp2_with fail
      go_roundw
      case rel => exact ⟨j + 1, by omega, by go_num, HB.out.drew⟩
      case measure => simp [intOf]; omega
    · have hje : j = l.length := by omega
      subst hje
      go_wp2_with fail
      go_ret
      exact ⟨rfl, hb⟩

theorem zero_cells3 (z : Value) (n : Nat) : ∀ u ∈ (Builtin.zeroCells #[z, z, z] n).toList, u = z := by
  intro u hu
  simp only [Builtin.zeroCells, Array.toList_map, List.mem_map] at hu
  obtain ⟨i, -, rfl⟩ := hu
  have : i % (#[z, z, z] : Array Value).size = 0 ∨ i % (#[z, z, z] : Array Value).size = 1 ∨ i % (#[z, z, z] : Array Value).size = 2 := by
    have : i % 3 < 3 := Nat.mod_lt _ (by decide)
    show i % 3 = 0 ∨ i % 3 = 1 ∨ i % 3 = 2
    omega
  rcases this with e | e | e <;> rw [e] <;> rfl

theorem clear_three (w : World) (t e ty : TypeId) (z : Value) (ht : Tryd.prog.underlying t = some (.slice e)) (hv : ∀ w, (zeroValue e).run Tryd.prog w = .ok (.agg #[z, z, z]) w) (h1 : z.oneCell' = true) (b n c : Nat) (hn : 0 < n)
    (hc : ∀ j, j < n * 3 → (w.cell? ⟨b, 0 + j, none⟩).isSome = true) (hf : ∀ j, j < n * 3 → w.frozen? ⟨b, 0 + j, none⟩ = false) :
    ∃ l, (Builtin.clear_ #[t] ty #[.slice (some ⟨b, 0, none⟩) n c]).run Tryd.prog w = .ok (.tuple #[]) (w.setCells b 0 l) := by
  have hcell : (Value.agg #[z, z, z]).cells = #[z, z, z] := by
    simp [Value.cells]
  have hlen : (Builtin.zeroCells #[z, z, z] n).toList.length = n * 3 := by simp [Builtin.zeroCells]
  have hst := run_storeCells_cells (P := Tryd.prog) b 0 (Builtin.zeroCells #[z, z, z] n).toList 0 w (by rw [hlen]; simpa using hc) (by rw [hlen]; simpa using hf) (by intro v hv'; rw [zero_cells3 z n v hv']; exact h1)
  refine ⟨(Builtin.zeroCells #[z, z, z] n).toList, ?_⟩
  obtain ⟨m, rfl⟩ : ∃ m, n = m + 1 := ⟨n - 1, by omega⟩
  simp only [Nat.add_zero] at hst
  simp [Builtin.clear_, run_underlying ht, hv, hcell, hst]

set_option maxRecDepth 20000 in
set_option maxHeartbeats 400000 in
/-- Spoil, of instructions. -/
theorem SpoilN_any (w : World) (B : Nat) (v : Value) (n : Nat) (xs : List Value) (h : w.ownsRow B 35 3 v n xs) :
    Calls Tryd.prog 26 #[v] w fun r w' => r = .returned (.tuple #[]) ∧ Below B w w' := by
  obtain ⟨i0, hi0, hz0, hz1, hz2⟩ := info_parts infoN
  obtain ⟨-, ⟨rfl, rfl⟩ | ⟨g, cap, cur, rfl, hB, hg, hn, hm, hs, -⟩⟩ := h
  · have hcl : ∀ ty, (Builtin.clear_ #[22] ty #[.slice none 0 0]).run Tryd.prog w = .ok (.tuple #[]) w := fun ty => by
      simp [Builtin.clear_, run_underlying Tryd.underlying22]
    go_enter Tryd.func26, Tryd.ntmps26
    go_wp2
    go_end0
    exact ⟨rfl, Below.refl _ _⟩
  · have hz : ∀ w, (zeroValue 35).run Tryd.prog w = .ok (.agg #[.int .i64 0, .int .i64 0, .int .i64 0]) w := fun w => by simp [zeroValue, typeInfo, hi0, hz0]
    have hcl' : ∃ w1, (∀ ty, (Builtin.clear_ #[22] ty #[.slice (some ⟨g, 0, none⟩) cap cap]).run Tryd.prog w = .ok (.tuple #[]) w1) ∧ Below B w w1 := by
      by_cases hc : cap = 0
      · subst hc
        exact ⟨w, fun ty => by simp [Builtin.clear_, run_underlying Tryd.underlying22], Below.refl _ _⟩
      · obtain ⟨l, hl⟩ := clear_three w 22 35 22 (.int .i64 0) Tryd.underlying22 hz rfl g cap cap (by omega) (fun j hj => by unfold World.cell?; rw [hg]; simp; omega) (fun j hj => by unfold World.frozen?; rw [hg]; simp)
        exact ⟨_, fun ty => hl, below_setCells hB l 0 w⟩
    obtain ⟨w1, hcl, hb1⟩ := hcl'
    have HB : Hid (Below B w w1) := hb1
    unfold maxLen at hm
    clear hg hz hb1 hs
    go_enter Tryd.func26, Tryd.ntmps26
    go_wp2
    go_end0
    exact ⟨rfl, HB.out⟩

end Go.Proofs.YtgemadoieielcacDoor.B
