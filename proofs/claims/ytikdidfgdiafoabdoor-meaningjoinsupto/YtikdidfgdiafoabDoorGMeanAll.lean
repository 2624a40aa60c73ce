import Derived.Test.YtikdidfgdiafoabDoorGRunS
import Derived.Deep.DeepCutAuto
import Derived.Deep.CutRange
import Derived.Test.YtikdidfgdiafoabDoorGVal2
namespace Go.Proofs.YtikdidfgdiafoabDoor
open Go.ChangeShapes Go.WideShapes Go.ChangeAt Go.RowKit

/-- The number of the statement with a step too many, as the document's side tells it. -/
def badOf : Option Nat → Int
  | none => -1
  | some z => z

/- A statement that can be done. -/
mutual
def St.Ok : St → Prop
  | .mk k n e ck ca cb b l => (1 ≤ k ∧ k ≤ 7) ∧ (k = 1 → 0 ≤ n ∧ n ≤ 7 ∧ e.Ok) ∧ (k = 2 → e.Ok) ∧ (k = 3 ∨ k = 5 → (1 ≤ ck ∧ ck ≤ 4) ∧ ca.Ok ∧ cb.Ok) ∧ (k = 4 ∨ k = 5 → 0 ≤ n ∧ n ≤ 1000) ∧ (k ≠ 3 → l = []) ∧ St.OkAll b ∧ St.OkAll l
def St.OkAll : List St → Prop
  | [] => True
  | x :: r => x.Ok ∧ St.OkAll r
end

/-- The document's side does a list. -/
def AllOk (w0 : World) (is : List Int) (iv : Value) (N : Nat) : Prop := ∀ (a : List St) (w : World) (rb vb B vc : Nat) (pv lv : Value) (s : Ms) (at_ : Nat), St.bulkAll a ≤ N → St.OkAll a → w0.heap.size ≤ rb → w0.heap.size ≤ vb → Below w0.heap.size w0 w → St.Sl w0 a lv →
  Rn w rb vb B vc 53 iv (.int .i64 (-1)) pv s → s.steps ≤ 20000 → s.puts.length ≤ s.steps → at_ + St.bulkAll a ≤ 2097152 →
  Calls Tryd.prog 23 #[.pointer (some ⟨rb, 0, none⟩), lv, .int .i64 at_] w fun r w' => r = .returned (.tuple #[]) ∧ ∃ pv', Rn w' rb vb B vc 53 iv (.int .i64 (badOf (St.runAll is a at_ s).2)) pv' (St.runAll is a at_ s).1 ∧ RR rb vb w w' pv pv'

/-- .. and a statement. -/
def OneOk (w0 : World) (is : List Int) (iv : Value) (N : Nat) : Prop := ∀ (x : St) (w : World) (rb vb B vc : Nat) (pv sv : Value) (s : Ms) (at_ : Nat), x.bulk ≤ N → x.Ok → w0.heap.size ≤ rb → w0.heap.size ≤ vb → Below w0.heap.size w0 w → x.In w0 sv →
  Rn w rb vb B vc 53 iv (.int .i64 (-1)) pv s → s.steps ≤ 20000 → s.puts.length ≤ s.steps → at_ + x.bulk ≤ 2097152 →
  Calls Tryd.prog 33 #[.pointer (some ⟨rb, 0, none⟩), sv, .int .i64 at_] w fun r w' => r = .returned (.tuple #[]) ∧ ∃ pv', Rn w' rb vb B vc 53 iv (.int .i64 (badOf (St.run is x at_ s).2)) pv' (St.run is x at_ s).1 ∧ RR rb vb w w' pv pv'

/-- A step more, and the statement's copy. -/
theorem Rn.entered {w : World} {rb vb B vc : Nat} {T : TypeId} {iv x4 pv : Value} {s : Ms} (h : Rn w rb vb B vc T iv x4 pv s) (n : Nat) (o : Obj) : Rn ((w.setCell ⟨rb, 2, none⟩ (.int .i64 n)).alloc o) rb vb B vc T iv x4 pv { s with steps := n } ∧ RR rb vb w ((w.setCell ⟨rb, 2, none⟩ (.int .i64 n)).alloc o) pv pv :=
  have hb : Below (w.setCell ⟨rb, 2, none⟩ (.int .i64 n)).heap.size (w.setCell ⟨rb, 2, none⟩ (.int .i64 n)) ((w.setCell ⟨rb, 2, none⟩ (.int .i64 n)).alloc o) := (Below.refl _ _).alloc (Nat.le_refl _) o
  ⟨(h.stepped n).1.below hb, (h.stepped n).2.trans (RR.of_below hb)⟩

set_option maxRecDepth 20000 in
set_option maxHeartbeats 4000000 in
/-- A step too many. -/
theorem one_bad (w : World) (rb vb B vc : Nat) (iv pv : Value) (s : Ms) (at_ : Nat) (hst : s.steps = 20000) (h : Rn w rb vb B vc 53 iv (.int .i64 (-1)) pv s)
    (k : Int) (n ek en ck ak an bk bn : Int) (ead aad bad yad lad : Option Addr) (em ec am ac bm bc yc lc : Nat) (b l : List St) :
    Calls Tryd.prog 33 #[.pointer (some ⟨rb, 0, none⟩), .agg #[.int .i64 k, .int .i64 n, .int .i64 ek, .int .i64 en, .slice ead em ec, .int .i64 ck, .int .i64 ak, .int .i64 an, .slice aad am ac, .int .i64 bk, .int .i64 bn, .slice bad bm bc, .slice yad b.length yc, .slice lad l.length lc], .int .i64 at_] w
      fun r w' => r = .returned (.tuple #[]) ∧ ∃ pv', Rn w' rb vb B vc 53 iv (.int .i64 at_) pv' s ∧ RR rb vb w w' pv pv' := by
  obtain ⟨c0, c1, c2, c3, c4, cf, cl⟩ := h.cells
  have hd : decide ((20000 : Int) ≤ (s.steps : Int)) = true := decide_eq_true (by omega)
  have HH : Hid _ := h
  clear h hst
  go_enter Tryd.func33, Tryd.ntmps33
  go_wp2_with fail
  refine bodyPost_ret (results_none rfl _ _ _) rfl ⟨rfl, pv, ?_⟩
  have t := HH.out.told (.int .i64 at_)
  have hb : ∀ o : Obj, Below (w.setCell ⟨rb, 4, none⟩ (.int .i64 at_)).heap.size (w.setCell ⟨rb, 4, none⟩ (.int .i64 at_)) ((w.setCell ⟨rb, 4, none⟩ (.int .i64 at_)).alloc o) := fun o => (Below.refl _ _).alloc (Nat.le_refl _) o
  exact ⟨t.1.below (hb _), t.2.trans (RR.of_below (hb _))⟩

set_option maxRecDepth 20000 in
set_option maxHeartbeats 4000000 in
theorem one_7 (w0 w : World) (rb vb B vc : Nat) (iv pv : Value) (s : Ms) (at_ : Nat) (hst : s.steps < 20000) (h : Rn w rb vb B vc 53 iv (.int .i64 (-1)) pv s) (hrb : w0.heap.size ≤ rb) (hvb : w0.heap.size ≤ vb) (hB0 : Below w0.heap.size w0 w)
    (n ek en ck ak an bk bn : Int) (ead aad bad yad lad : Option Addr) (em ec am ac bm bc yc lc : Nat) (b l : List St) (hy : St.Sl w0 b (.slice yad b.length yc)) (hN : St.bulkAll b ≤ 1048576) (hat : at_ + 1 + St.bulkAll b + St.bulkAll l ≤ 2097152)  :
    Calls Tryd.prog 33 #[.pointer (some ⟨rb, 0, none⟩), .agg #[.int .i64 7, .int .i64 n, .int .i64 ek, .int .i64 en, .slice ead em ec, .int .i64 ck, .int .i64 ak, .int .i64 an, .slice aad am ac, .int .i64 bk, .int .i64 bn, .slice bad bm bc, .slice yad b.length yc, .slice lad l.length lc], .int .i64 at_] w
      fun r w' => r = .returned (.tuple #[]) ∧ ∃ pv', Rn w' rb vb B vc 53 iv (.int .i64 (-1)) pv' { s with steps := s.steps + 1 } ∧ RR rb vb w w' pv pv' := by
  obtain ⟨c0, c1, c2, c3, c4, cf, cl⟩ := h.cells
  have hd : decide ((20000 : Int) ≤ (s.steps : Int)) = false := decide_eq_false (by omega)
  have HE : Hid (_ ∧ _) := h.entered (s.steps + 1) (.cells #[.int .i64 7, .int .i64 n, .int .i64 ek, .int .i64 en, .slice ead em ec, .int .i64 ck, .int .i64 ak, .int .i64 an, .slice aad am ac, .int .i64 bk, .int .i64 bn, .slice bad bm bc, .slice yad b.length yc, .slice lad l.length lc] 61)
  have HL : Hid (Below w0.heap.size w0 _) := HE.out.2.low h hrb hvb hB0
  have HQ : Hid (copyIs ((w.setCell ⟨rb, 2, none⟩ (.int .i64 (s.steps + 1 : Nat))).alloc (.cells #[.int .i64 7, .int .i64 n, .int .i64 ek, .int .i64 en, .slice ead em ec, .int .i64 ck, .int .i64 ak, .int .i64 an, .slice aad am ac, .int .i64 bk, .int .i64 bn, .slice bad bm bc, .slice yad b.length yc, .slice lad l.length lc] 61)) w.heap.size (.int .i64 7) (.int .i64 n) (.int .i64 ek) (.int .i64 en) (.slice ead em ec) (.int .i64 ck) (.int .i64 ak) (.int .i64 an) (.slice aad am ac) (.int .i64 bk) (.int .i64 bn) (.slice bad bm bc) (.slice yad b.length yc) (.slice lad l.length lc)) := by
    have := heap_alloc_new (w.setCell ⟨rb, 2, none⟩ (.int .i64 (s.steps + 1 : Nat))) (.cells #[.int .i64 7, .int .i64 n, .int .i64 ek, .int .i64 en, .slice ead em ec, .int .i64 ck, .int .i64 ak, .int .i64 an, .slice aad am ac, .int .i64 bk, .int .i64 bn, .slice bad bm bc, .slice yad b.length yc, .slice lad l.length lc] 61)
    rw [set_size] at this
    exact this
  have hcnt := St.countAll_le b
  have HY : Hid (St.Sl w0 b (.slice yad b.length yc) ∧ True) := ⟨hy, trivial⟩
  clear h hrb hvb hB0 hy
  go_enter Tryd.func33, Tryd.ntmps33
  go_wp2_with (go_at_call 16; refine (Size_any 1048577 b _ _ (by omega) (by omega) (HY.out.1.below (HL.out))).mono ?_; rintro r w4 ⟨rfl, hb4⟩; have HB4 : Hid _ := hb4; obtain ⟨d0, d1, d2, d3, d4, d5, d6, d7, d8, d9, d10, d11, d12, d13, -⟩ := copyIs.cell ((hb4.block _ HQ.out.lt).trans HQ.out); have hql := World.block_lt_of_cell? _ _ d0; have HC4 : Hid (_ ∧ Below w0.heap.size w0 w4) := ⟨HE.out.1.below hb4, HL.out.trans (hb4.mono HL.out.size)⟩; clear hb4)
  go_end0
  exact ⟨rfl, pv, HC4.out.1, HE.out.2.trans (RR.of_below HB4.out)⟩

set_option maxRecDepth 20000 in
set_option maxHeartbeats 4000000 in
theorem one_6 (w0 w : World) (rb vb B vc : Nat) (iv pv : Value) (s : Ms) (at_ : Nat) (hst : s.steps < 20000) (h : Rn w rb vb B vc 53 iv (.int .i64 (-1)) pv s) (hrb : w0.heap.size ≤ rb) (hvb : w0.heap.size ≤ vb) (hB0 : Below w0.heap.size w0 w)
    (n ek en ck ak an bk bn : Int) (ead aad bad yad lad : Option Addr) (em ec am ac bm bc yc lc : Nat) (b l : List St) (hy : St.Sl w0 b (.slice yad b.length yc)) (hN : St.bulkAll b ≤ 1048576) (hat : at_ + 1 + St.bulkAll b + St.bulkAll l ≤ 2097152) (is : List Int) (N : Nat) (hA : AllOk w0 is iv N) (hbN : St.bulkAll b ≤ N) (hok : St.OkAll b) (hp : s.puts.length ≤ s.steps) :
    Calls Tryd.prog 33 #[.pointer (some ⟨rb, 0, none⟩), .agg #[.int .i64 6, .int .i64 n, .int .i64 ek, .int .i64 en, .slice ead em ec, .int .i64 ck, .int .i64 ak, .int .i64 an, .slice aad am ac, .int .i64 bk, .int .i64 bn, .slice bad bm bc, .slice yad b.length yc, .slice lad l.length lc], .int .i64 at_] w
      fun r w' => r = .returned (.tuple #[]) ∧ ∃ pv', Rn w' rb vb B vc 53 iv (.int .i64 (badOf (St.runAll is b (at_ + 1) { s with steps := s.steps + 1 }).2)) pv' (St.runAll is b (at_ + 1) { s with steps := s.steps + 1 }).1 ∧ RR rb vb w w' pv pv' := by
  obtain ⟨c0, c1, c2, c3, c4, cf, cl⟩ := h.cells
  have hd : decide ((20000 : Int) ≤ (s.steps : Int)) = false := decide_eq_false (by omega)
  have HE : Hid (_ ∧ _) := h.entered (s.steps + 1) (.cells #[.int .i64 6, .int .i64 n, .int .i64 ek, .int .i64 en, .slice ead em ec, .int .i64 ck, .int .i64 ak, .int .i64 an, .slice aad am ac, .int .i64 bk, .int .i64 bn, .slice bad bm bc, .slice yad b.length yc, .slice lad l.length lc] 61)
  have HL : Hid (Below w0.heap.size w0 _) := HE.out.2.low h hrb hvb hB0
  have HQ : Hid (copyIs ((w.setCell ⟨rb, 2, none⟩ (.int .i64 (s.steps + 1 : Nat))).alloc (.cells #[.int .i64 6, .int .i64 n, .int .i64 ek, .int .i64 en, .slice ead em ec, .int .i64 ck, .int .i64 ak, .int .i64 an, .slice aad am ac, .int .i64 bk, .int .i64 bn, .slice bad bm bc, .slice yad b.length yc, .slice lad l.length lc] 61)) w.heap.size (.int .i64 6) (.int .i64 n) (.int .i64 ek) (.int .i64 en) (.slice ead em ec) (.int .i64 ck) (.int .i64 ak) (.int .i64 an) (.slice aad am ac) (.int .i64 bk) (.int .i64 bn) (.slice bad bm bc) (.slice yad b.length yc) (.slice lad l.length lc)) := by
    have := heap_alloc_new (w.setCell ⟨rb, 2, none⟩ (.int .i64 (s.steps + 1 : Nat))) (.cells #[.int .i64 6, .int .i64 n, .int .i64 ek, .int .i64 en, .slice ead em ec, .int .i64 ck, .int .i64 ak, .int .i64 an, .slice aad am ac, .int .i64 bk, .int .i64 bn, .slice bad bm bc, .slice yad b.length yc, .slice lad l.length lc] 61)
    rw [set_size] at this
    exact this
  have hcnt := St.countAll_le b
  have HY : Hid (St.Sl w0 b (.slice yad b.length yc) ∧ St.OkAll b) := ⟨hy, hok⟩
  have HA : Hid (AllOk w0 is iv N) := hA
  clear h hB0 hy hok hA
  go_enter Tryd.func33, Tryd.ntmps33
  go_wp2_with (first | (go_at_call 16; refine (Size_any 1048577 b _ _ (by omega) (by omega) (HY.out.1.below (HL.out))).mono ?_; rintro r w4 ⟨rfl, hb4⟩; have HB4 : Hid _ := hb4; obtain ⟨d0, d1, d2, d3, d4, d5, d6, d7, d8, d9, d10, d11, d12, d13, -⟩ := copyIs.cell ((hb4.block _ HQ.out.lt).trans HQ.out); have hql := World.block_lt_of_cell? _ _ d0; have HC4 : Hid (_ ∧ Below w0.heap.size w0 w4) := ⟨HE.out.1.below hb4, HL.out.trans (hb4.mono HL.out.size)⟩; clear hb4) | (go_at_call 23; refine (HA.out b _ rb vb B vc pv _ { s with steps := s.steps + 1 } (at_ + 1) hbN HY.out.2 hrb hvb HC4.out.2 HY.out.1 HC4.out.1 (by simp; omega) (by simp; omega) (by omega)).mono ?_; rintro r w5 ⟨rfl, pv5, hk5, hr5⟩; have H5 : Hid (_ ∧ _) := ⟨hk5, hr5⟩; clear hk5 hr5))
  go_end0
  exact ⟨rfl, pv5, H5.out.1, HE.out.2.trans ((RR.of_below HB4.out).trans H5.out.2)⟩

set_option maxRecDepth 20000 in
set_option maxHeartbeats 4000000 in
theorem one_3 (w0 w : World) (rb vb B vc : Nat) (iv pv : Value) (s : Ms) (at_ : Nat) (hst : s.steps < 20000) (h : Rn w rb vb B vc 53 iv (.int .i64 (-1)) pv s) (hrb : w0.heap.size ≤ rb) (hvb : w0.heap.size ≤ vb) (hB0 : Below w0.heap.size w0 w)
    (n ek en ck ak an bk bn : Int) (ead aad bad yad lad : Option Addr) (em ec am ac bm bc yc lc : Nat) (b l : List St) (hy : St.Sl w0 b (.slice yad b.length yc)) (hN : St.bulkAll b ≤ 1048576) (hat : at_ + 1 + St.bulkAll b + St.bulkAll l ≤ 2097152) (is : List Int) (N : Nat) (hA : AllOk w0 is iv N) (hbN : St.bulkAll b ≤ N) (hlN : St.bulkAll l ≤ N) (hok : St.OkAll b) (hokl : St.OkAll l) (hl : St.Sl w0 l (.slice lad l.length lc)) (hp : s.puts.length ≤ s.steps) (ca cb : Ex) (hck : 1 ≤ ck ∧ ck ≤ 4) (hna : ca.nodes ≤ 1048576) (hnb : cb.nodes ≤ 1048576) (hoka : ca.Ok) (hokb : cb.Ok) (hi : InsIs w0 iv is) (hca : ca.In w0 (.agg #[.int .i64 ak, .int .i64 an, .slice aad am ac])) (hcb : cb.In w0 (.agg #[.int .i64 bk, .int .i64 bn, .slice bad bm bc])) :
    Calls Tryd.prog 33 #[.pointer (some ⟨rb, 0, none⟩), .agg #[.int .i64 3, .int .i64 n, .int .i64 ek, .int .i64 en, .slice ead em ec, .int .i64 ck, .int .i64 ak, .int .i64 an, .slice aad am ac, .int .i64 bk, .int .i64 bn, .slice bad bm bc, .slice yad b.length yc, .slice lad l.length lc], .int .i64 at_] w
      fun r w' => r = .returned (.tuple #[]) ∧ ∃ pv', Rn w' rb vb B vc 53 iv (.int .i64 (badOf (if condOf is ck ca cb s then St.runAll is b (at_ + 1) { s with steps := s.steps + 1 } else St.runAll is l (at_ + 1 + St.countAll b) { s with steps := s.steps + 1 }).2)) pv' (if condOf is ck ca cb s then St.runAll is b (at_ + 1) { s with steps := s.steps + 1 } else St.runAll is l (at_ + 1 + St.countAll b) { s with steps := s.steps + 1 }).1 ∧ RR rb vb w w' pv pv' := by
  obtain ⟨c0, c1, c2, c3, c4, cf, cl⟩ := h.cells
  have hd : decide ((20000 : Int) ≤ (s.steps : Int)) = false := decide_eq_false (by omega)
  have HE : Hid (_ ∧ _) := h.entered (s.steps + 1) (.cells #[.int .i64 3, .int .i64 n, .int .i64 ek, .int .i64 en, .slice ead em ec, .int .i64 ck, .int .i64 ak, .int .i64 an, .slice aad am ac, .int .i64 bk, .int .i64 bn, .slice bad bm bc, .slice yad b.length yc, .slice lad l.length lc] 61)
  have HL : Hid (Below w0.heap.size w0 _) := HE.out.2.low h hrb hvb hB0
  have HQ : Hid (copyIs ((w.setCell ⟨rb, 2, none⟩ (.int .i64 (s.steps + 1 : Nat))).alloc (.cells #[.int .i64 3, .int .i64 n, .int .i64 ek, .int .i64 en, .slice ead em ec, .int .i64 ck, .int .i64 ak, .int .i64 an, .slice aad am ac, .int .i64 bk, .int .i64 bn, .slice bad bm bc, .slice yad b.length yc, .slice lad l.length lc] 61)) w.heap.size (.int .i64 3) (.int .i64 n) (.int .i64 ek) (.int .i64 en) (.slice ead em ec) (.int .i64 ck) (.int .i64 ak) (.int .i64 an) (.slice aad am ac) (.int .i64 bk) (.int .i64 bn) (.slice bad bm bc) (.slice yad b.length yc) (.slice lad l.length lc)) := by
    have := heap_alloc_new (w.setCell ⟨rb, 2, none⟩ (.int .i64 (s.steps + 1 : Nat))) (.cells #[.int .i64 3, .int .i64 n, .int .i64 ek, .int .i64 en, .slice ead em ec, .int .i64 ck, .int .i64 ak, .int .i64 an, .slice aad am ac, .int .i64 bk, .int .i64 bn, .slice bad bm bc, .slice yad b.length yc, .slice lad l.length lc] 61)
    rw [set_size] at this
    exact this
  have hcnt := St.countAll_le b
  have HY : Hid (St.Sl w0 b (.slice yad b.length yc) ∧ St.OkAll b ∧ St.Sl w0 l (.slice lad l.length lc) ∧ St.OkAll l ∧ ca.Ok ∧ cb.Ok ∧ InsIs w0 iv is ∧ ca.In w0 (.agg #[.int .i64 ak, .int .i64 an, .slice aad am ac]) ∧ cb.In w0 (.agg #[.int .i64 bk, .int .i64 bn, .slice bad bm bc])) := ⟨hy, hok, hl, hokl, hoka, hokb, hi, hca, hcb⟩
  have HA : Hid (AllOk w0 is iv N) := hA
  clear h hB0 hy hok hA hl hokl hoka hokb hi hca
  cases hcv : condVal ck (ca.val s.vars is) (cb.val s.vars is)
  · have HCV : Hid (condVal ck (ca.val s.vars is) (cb.val s.vars is) = false) := hcv
    have hif : condOf is ck ca cb s = false := hcv
    rw [hif]
    clear hcv hif
    go_enter Tryd.func33, Tryd.ntmps33
    go_wp2_with (first | (go_at_call 16; refine (Size_any 1048577 b _ _ (by omega) (by omega) (HY.out.1.below (HL.out))).mono ?_; rintro r w4 ⟨rfl, hb4⟩; have HB4 : Hid _ := hb4; obtain ⟨d0, d1, d2, d3, d4, d5, d6, d7, d8, d9, d10, d11, d12, d13, -⟩ := copyIs.cell ((hb4.block _ HQ.out.lt).trans HQ.out); have hql := World.block_lt_of_cell? _ _ d0; have HC4 : Hid (_ ∧ Below w0.heap.size w0 w4) := ⟨HE.out.1.below hb4, HL.out.trans (hb4.mono HL.out.size)⟩; clear hb4) | (go_at_call 41; refine (true_any rb s.vars is ck ak an bk bn hck ca cb aad bad am ac bm bc _ hna hnb HY.out.2.2.2.2.1 HY.out.2.2.2.2.2.1 (HC4.out.1.val HY.out.2.2.2.2.2.2.1 HC4.out.2) (HY.out.2.2.2.2.2.2.2.1.below HC4.out.2) (HY.out.2.2.2.2.2.2.2.2.below HC4.out.2)).mono ?_; rintro r w6 ⟨rfl, hb6⟩; rw [HCV.out]; have d12b := below_cell hb6 d12; have d13b := below_cell hb6 d13; have d0b := below_cell hb6 d0; have d1b := below_cell hb6 d1; have HC6 : Hid ((_ ∧ Below w0.heap.size w0 w6) ∧ Below w4.heap.size w4 w6) := ⟨⟨HC4.out.1.below hb6, HC4.out.2.trans (hb6.mono HC4.out.2.size)⟩, hb6⟩; clear hb6) | (go_at_call 23; refine (HA.out l _ rb vb B vc pv _ { s with steps := s.steps + 1 } (at_ + 1 + St.countAll b) hlN HY.out.2.2.2.1 hrb hvb HC6.out.1.2 HY.out.2.2.1 HC6.out.1.1 (by simp; omega) (by simp; omega) (by omega)).mono ?_; rintro r w5 ⟨rfl, pv5, hk5, hr5⟩; have H5 : Hid (_ ∧ _) := ⟨hk5, hr5⟩; clear hk5 hr5))
    go_end0
    exact ⟨rfl, pv5, H5.out.1, HE.out.2.trans ((RR.of_below HB4.out).trans ((RR.of_below HC6.out.2).trans H5.out.2))⟩
  · have HCV : Hid (condVal ck (ca.val s.vars is) (cb.val s.vars is) = true) := hcv
    have hif : condOf is ck ca cb s = true := hcv
    rw [hif]
    clear hcv hif
    go_enter Tryd.func33, Tryd.ntmps33
    go_wp2_with (first | (go_at_call 16; refine (Size_any 1048577 b _ _ (by omega) (by omega) (HY.out.1.below (HL.out))).mono ?_; rintro r w4 ⟨rfl, hb4⟩; have HB4 : Hid _ := hb4; obtain ⟨d0, d1, d2, d3, d4, d5, d6, d7, d8, d9, d10, d11, d12, d13, -⟩ := copyIs.cell ((hb4.block _ HQ.out.lt).trans HQ.out); have hql := World.block_lt_of_cell? _ _ d0; have HC4 : Hid (_ ∧ Below w0.heap.size w0 w4) := ⟨HE.out.1.below hb4, HL.out.trans (hb4.mono HL.out.size)⟩; clear hb4) | (go_at_call 41; refine (true_any rb s.vars is ck ak an bk bn hck ca cb aad bad am ac bm bc _ hna hnb HY.out.2.2.2.2.1 HY.out.2.2.2.2.2.1 (HC4.out.1.val HY.out.2.2.2.2.2.2.1 HC4.out.2) (HY.out.2.2.2.2.2.2.2.1.below HC4.out.2) (HY.out.2.2.2.2.2.2.2.2.below HC4.out.2)).mono ?_; rintro r w6 ⟨rfl, hb6⟩; rw [HCV.out]; have d12b := below_cell hb6 d12; have d13b := below_cell hb6 d13; have d0b := below_cell hb6 d0; have d1b := below_cell hb6 d1; have HC6 : Hid ((_ ∧ Below w0.heap.size w0 w6) ∧ Below w4.heap.size w4 w6) := ⟨⟨HC4.out.1.below hb6, HC4.out.2.trans (hb6.mono HC4.out.2.size)⟩, hb6⟩; clear hb6) | (go_at_call 23; refine (HA.out b _ rb vb B vc pv _ { s with steps := s.steps + 1 } (at_ + 1) hbN HY.out.2.1 hrb hvb HC6.out.1.2 HY.out.1 HC6.out.1.1 (by simp; omega) (by simp; omega) (by omega)).mono ?_; rintro r w5 ⟨rfl, pv5, hk5, hr5⟩; have H5 : Hid (_ ∧ _) := ⟨hk5, hr5⟩; clear hk5 hr5))
    go_end0
    exact ⟨rfl, pv5, H5.out.1, HE.out.2.trans ((RR.of_below HB4.out).trans ((RR.of_below HC6.out.2).trans H5.out.2))⟩
end Go.Proofs.YtikdidfgdiafoabDoor
namespace Go.Proofs.YtikdidfgdiafoabDoor
open Go.ChangeShapes Go.WideShapes Go.ChangeAt Go.RowKit

/-- What is left of a list. -/
def listRest (is : List Int) (l : List St) (at_ : Nat) : Ms × Option Nat → Ms × Option Nat
  | (s, none) => St.runAll is l at_ s
  | (s, some z) => (s, some z)

theorem listRest_step {is : List Int} {a : List St} {j at_ : Nat} {s : Ms} (h : j < a.length) : listRest is (a.drop j) at_ (s, none) = listRest is (a.drop (j + 1)) (at_ + (a[j]).count) (St.run is a[j] at_ s) := by
  show St.runAll is (a.drop j) at_ s = _
  rw [List.drop_eq_getElem_cons h, St.runAll]
  rcases St.run is a[j] at_ s with ⟨s', _ | z⟩ <;> rfl

theorem countAll_take : ∀ (a : List St) (j : Nat) (h : j < a.length), St.countAll (a.take (j + 1)) = St.countAll (a.take j) + (a[j]).count
  | [], j, h => by simp at h
  | x :: r, 0, h => by simp [St.countAll]
  | x :: r, j + 1, h => by
    have := countAll_take r j (by simpa using h)
    simp only [List.take_succ_cons, St.countAll, List.getElem_cons_succ]
    omega

theorem countAll_take_le : ∀ (a : List St) (j : Nat), St.countAll (a.take j) ≤ St.countAll a
  | [], j => by simp
  | x :: r, 0 => by simp [St.countAll]
  | x :: r, j + 1 => by
    have := countAll_take_le r j
    simp only [List.take_succ_cons, St.countAll]
    omega

theorem take_bulk : ∀ (a : List St) (j : Nat) (h : j < a.length), St.countAll (a.take j) + (a[j]).bulk ≤ St.bulkAll a
  | [], j, h => by simp at h
  | x :: r, 0, h => by simp [St.countAll, St.bulkAll]
  | x :: r, j + 1, h => by
    have := take_bulk r j (by simpa using h)
    have := St.count_le x
    simp only [List.take_succ_cons, St.countAll, St.bulkAll, List.getElem_cons_succ]
    omega

theorem StOkAll_at : ∀ (a : List St) (j : Nat) (h : j < a.length), St.OkAll a → (a[j]).Ok
  | [], j, h, _ => by simp at h
  | x :: r, 0, h, ha => by unfold St.OkAll at ha; exact ha.1
  | x :: r, j + 1, h, ha => by unfold St.OkAll at ha; exact StOkAll_at r j (by simpa using h) ha.2

/-- A slice of one statement. -/
theorem one_slice {w : World} {x : St} {c0 c1 c2 c3 c4 c5 c6 c7 c8 c9 c10 c11 c12 c13 : Value} (hin : x.In w (.agg #[c0, c1, c2, c3, c4, c5, c6, c7, c8, c9, c10, c11, c12, c13])) :
    St.Sl (w.alloc (.cells #[c0, c1, c2, c3, c4, c5, c6, c7, c8, c9, c10, c11, c12, c13] 61)) [x] (.slice (some ⟨w.heap.size, 0, none⟩) 1 1) := by
  refine ⟨_, 1, rfl, .inr ⟨w.heap.size, 0, rfl, ?_⟩⟩
  unfold St.Row
  refine ⟨⟨fun j => ([c0, c1, c2, c3, c4, c5, c6, c7, c8, c9, c10, c11, c12, c13] : List Value).getD j undef, fun j hj => ?_, hin.below ((Below.refl _ _).alloc (Nat.le_refl _) _)⟩, by unfold St.Row; trivial⟩
  rw [Nat.zero_add, World.cell?_alloc_at _ _ _ _ rfl]
  match j, hj with
  | 0, _ | 1, _ | 2, _ | 3, _ | 4, _ | 5, _ | 6, _ | 7, _ | 8, _ | 9, _ | 10, _ | 11, _ | 12, _ | 13, _ => rfl

set_option maxRecDepth 20000 in
set_option maxHeartbeats 4000000 in
theorem all_of_one (w0 : World) (is : List Int) (iv : Value) (N : Nat) (hN : N ≤ 1048576) (hone : OneOk w0 is iv N) : AllOk w0 is iv N := by
  intro a w rb vb B vc pv lv s at_ hb hok hrb hvb hB0 hsl hrn hst hp hat
  have hlen := length_le_bulkAll a
  have hcl := St.countAll_le a
  obtain ⟨ad, c, rfl, hrow⟩ := hsl
  have HR : Hid ((a = [] ∨ ∃ b o, ad = some ⟨b, o, none⟩ ∧ St.Row w0 a b o) ∧ St.OkAll a ∧ Below w0.heap.size w0 w ∧ Rn w rb vb B vc 53 iv (.int .i64 (-1)) pv s ∧ OneOk w0 is iv N) := ⟨hrow, hok, hB0, hrn, hone⟩
  clear hrow hok hB0 hrn hone
  go_enter Tryd.func23, Tryd.ntmps23
  go_wp2_with fail
  go_loopw [2, 7, 10] (fun t _ x wr => ∃ (j : Nat) (pv' : Value) (r : Ms × Option Nat), j ≤ a.length ∧ x = .int .i64 j ∧ t = .int .i64 ((at_ + St.countAll (a.take j) : Nat) : Int) ∧ Rn wr rb vb B vc 53 iv (.int .i64 (badOf r.2)) pv' r.1 ∧ RR rb vb w wr pv pv' ∧ r.1.steps ≤ 20000 ∧ r.1.puts.length ≤ r.1.steps ∧ listRest is (a.drop j) (at_ + St.countAll (a.take j)) r = St.runAll is a at_ s) (fun _ _ x _ => a.length - (intOf x).toNat)
  case atStart => exact ⟨0, pv, (s, none), Nat.zero_le _, rfl, by simp [St.countAll], HR.out.2.2.2.1, RR.refl _ _ _ _, hst, hp, by simp [St.countAll, listRest]⟩
  case round =>
    obtain ⟨j, pv', ⟨s', z⟩, hj, rfl, rfl, hk, hrr, hst', hp', hrest⟩ := hrel
    simp only at hk hst' hp'
    have kb := hk.cells.2.2.2.2.1
    have krl := hk.cells.2.2.2.2.2.2
    have hlow := hrr.low HR.out.2.2.2.1 hrb hvb HR.out.2.2.1
    have htk := countAll_take_le a j
    have HI : Hid (Rn wr rb vb B vc 53 iv (.int .i64 (badOf z)) pv' s' ∧ RR rb vb w wr pv pv' ∧ Below w0.heap.size w0 wr ∧ listRest is (a.drop j) (at_ + St.countAll (a.take j)) (s', z) = St.runAll is a at_ s) := ⟨hk, hrr, hlow, hrest⟩
    have HN : Hid (∀ k, wr.heap.size ≤ k → k ≠ rb ∧ k ≠ vb ∧ some k ≠ pv'.ownBlock) := fun k hk' => ⟨by omega, by have := hk.vcells.2.2; omega, fun e => by have := (hk.own_lt _ e.symm).2; omega⟩
    clear hk hrr hlow hrest
    have fin : ∀ w9, Below wr.heap.size wr w9 → listRest is (a.drop j) (at_ + St.countAll (a.take j)) (s', z) = (s', z) → ∃ pv'', Rn w9 rb vb B vc 53 iv (.int .i64 (badOf (St.runAll is a at_ s).2)) pv'' (St.runAll is a at_ s).1 ∧ RR rb vb w w9 pv pv'' := by
      intro w9 hb9 hE
      rw [← HI.out.2.2.2, hE]
      exact ⟨pv', HI.out.1.below hb9, HI.out.2.1.trans (RR.of_below hb9)⟩
    have FIN : Hid _ := fin
    clear fin
    by_cases hlt : j < a.length
    · have hdj : decide ((j : Int) < (a.length : Int)) = true := decide_eq_true (by omega)
      rcases HR.out.1 with h | ⟨b, o, had, hrow⟩
      · subst h; simp at hlt
      subst had
      have hbk := bulkAll_at a j a[j] (by simp [hlt])
      have hta := countAll_take a j hlt
      have hcj := St.count_le a[j]
      have htb := take_bulk a j hlt
      obtain ⟨sk, sn, se, sck, sca, scb, sy, sl, hs, ek, en, ead, em, ec, ak, an, aad, am, ac, bk, bn, bad, bm, bc, yad, yc, lad, lc, c0, c1, c2, c3, c4, c5, c6, c7, c8, c9, c10, c11, c12, c13, i1, i2, i3, i4, i5⟩ := hrow.shape hlt
      have hin : (a[j]).In w0 (.agg #[.int .i64 sk, .int .i64 sn, .int .i64 ek, .int .i64 en, .slice ead em ec, .int .i64 sck, .int .i64 ak, .int .i64 an, .slice aad am ac, .int .i64 bk, .int .i64 bn, .slice bad bm bc, .slice yad sy.length yc, .slice lad sl.length lc]) := by
        rw [hs]
        unfold St.In
        exact ⟨_, _, _, _, _, _, _, _, _, _, _, rfl, i1, i2, i3, i4, i5⟩
      have hlow := HI.out.2.2.1
      replace c0 := below_cell hlow c0
      replace c1 := below_cell hlow c1
      replace c2 := below_cell hlow c2
      replace c3 := below_cell hlow c3
      replace c4 := below_cell hlow c4
      replace c5 := below_cell hlow c5
      replace c6 := below_cell hlow c6
      replace c7 := below_cell hlow c7
      replace c8 := below_cell hlow c8
      replace c9 := below_cell hlow c9
      replace c10 := below_cell hlow c10
      replace c11 := below_cell hlow c11
      replace c12 := below_cell hlow c12
      replace c13 := below_cell hlow c13
      have hokj := StOkAll_at a j hlt HR.out.2.1
      have HX : Hid ((a[j]).In w0 (.agg #[.int .i64 sk, .int .i64 sn, .int .i64 ek, .int .i64 en, .slice ead em ec, .int .i64 sck, .int .i64 ak, .int .i64 an, .slice aad am ac, .int .i64 bk, .int .i64 bn, .slice bad bm bc, .slice yad sy.length yc, .slice lad sl.length lc]) ∧ (a[j]).Ok ∧ listRest is (a.drop j) (at_ + St.countAll (a.take j)) (s', none) = listRest is (a.drop (j + 1)) (at_ + St.countAll (a.take j) + (a[j]).count) (St.run is a[j] (at_ + St.countAll (a.take j)) s')) := ⟨hin, hokj, listRest_step hlt⟩
      clear hin hs hrow i1 i2 i3 i4 i5 hokj hlow
      cases z with
      | some zz =>
        have hdz : decide ((0 : Int) ≤ (zz : Int)) = true := decide_eq_true (by omega)
        have kb' : wr.cell? ⟨rb, 4, none⟩ = some (.int .i64 (zz : Int)) := kb
        clear kb
        go_wp2_with fail
        first | go_end0 | refine bodyPost_ret (results_none rfl _ _ _) rfl ?_
        exact ⟨rfl, FIN.out _ ((Below.refl _ _).alloc (Nat.le_refl _) _) rfl⟩
      | none =>
        have kb' : wr.cell? ⟨rb, 4, none⟩ = some (.int .i64 (-1)) := kb
        clear kb
        have HQ : Hid (copyIs (wr.alloc (.cells #[.int .i64 sk, .int .i64 sn, .int .i64 ek, .int .i64 en, .slice ead em ec, .int .i64 sck, .int .i64 ak, .int .i64 an, .slice aad am ac, .int .i64 bk, .int .i64 bn, .slice bad bm bc, .slice yad sy.length yc, .slice lad sl.length lc] 61)) wr.heap.size (.int .i64 sk) (.int .i64 sn) (.int .i64 ek) (.int .i64 en) (.slice ead em ec) (.int .i64 sck) (.int .i64 ak) (.int .i64 an) (.slice aad am ac) (.int .i64 bk) (.int .i64 bn) (.slice bad bm bc) (.slice yad sy.length yc) (.slice lad sl.length lc)) := heap_alloc_new wr _
        have hA : Below wr.heap.size wr (wr.alloc (.cells #[.int .i64 sk, .int .i64 sn, .int .i64 ek, .int .i64 en, .slice ead em ec, .int .i64 sck, .int .i64 ak, .int .i64 an, .slice aad am ac, .int .i64 bk, .int .i64 bn, .slice bad bm bc, .slice yad sy.length yc, .slice lad sl.length lc] 61)) := (Below.refl _ _).alloc (Nat.le_refl _) _
        have HA : Hid _ := hA
        clear hA
        go_wp2_with (first
          | (go_at_call 33; refine (HR.out.2.2.2.2 a[j] _ rb vb B vc pv' _ s' (at_ + St.countAll (a.take j)) (by omega) HX.out.2.1 hrb hvb (HI.out.2.2.1.trans (HA.out.mono HI.out.2.2.1.size)) HX.out.1 (HI.out.1.below HA.out) hst' hp' (by omega)).mono ?_; rintro r w3 ⟨rfl, pv3, hk3, hr3⟩; obtain ⟨d0, d1, d2, d3, d4, d5, d6, d7, d8, d9, d10, d11, d12, d13, -⟩ := copyIs.cell ((hr3.block wr.heap.size (by simp) (HN.out _ (Nat.le_refl _)).1 (HN.out _ (Nat.le_refl _)).2.1 (HN.out _ (Nat.le_refl _)).2.2).trans HQ.out); have hl3 := hr3.low (HI.out.1.below HA.out) hrb hvb (HI.out.2.2.1.trans (HA.out.mono HI.out.2.2.1.size)); have H3 : Hid (_ ∧ _ ∧ Below w0.heap.size w0 w3) := ⟨hk3, hr3, hl3⟩; clear hk3 hr3 hl3)
          | (go_at_call 16; refine (Size_any 1048577 [a[j]] _ _ (by simp only [St.bulkAll]; omega) (by omega) (one_slice (HX.out.1.below H3.out.2.2))).mono ?_; rintro r w4 ⟨rfl, hb4⟩; have HB4 : Hid _ := hb4; clear hb4; simp only [St.countAll, Nat.add_zero]))
        go_roundw
        case rel =>
          have hkp := St.run_keep is a[j] (at_ + St.countAll (a.take j)) s' HI.out.1.vars.1
          have hb5 := below_seq ((Below.refl _ w3).alloc (Nat.le_refl _) _) HB4.out
          refine ⟨j + 1, pv3, St.run is a[j] (at_ + St.countAll (a.take j)) s', by omega, by go_num, by rw [hta]; go_num, H3.out.1.below hb5, HI.out.2.1.trans ((RR.of_below HA.out).trans (H3.out.2.1.trans (RR.of_below hb5))), hkp.2.1 hst', St.run_puts is a[j] _ _ hp', ?_⟩
          rw [← HI.out.2.2.2, HX.out.2.2, hta, Nat.add_assoc]
        case measure => simp [intOf]; omega
    · have hje : j = a.length := by omega
      subst hje
      clear kb
      go_wp2_with fail
      first | go_end0 | refine bodyPost_ret (results_none rfl _ _ _) rfl ?_
      exact ⟨rfl, FIN.out _ (Below.refl _ _) (by rw [List.drop_length]; rcases z with _ | z <;> simp [listRest, St.runAll])⟩
end Go.Proofs.YtikdidfgdiafoabDoor
