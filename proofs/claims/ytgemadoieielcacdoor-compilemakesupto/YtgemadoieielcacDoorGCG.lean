import Derived.Test.YtgemadoieielcacDoorGCD
namespace Go.Proofs.YtgemadoieielcacDoor.B
open Go.ChangeShapes Go.WideShapes Go.ChangeAt Go.RowKit

mutual
/-- A statement that can be laid down. -/
def St.Lay : St → Prop
  | .mk k n e ck ca cb y l => (1 ≤ k ∧ k ≤ 7) ∧ ((k = 1 ∨ k = 2) → e.Lay) ∧ ((k = 3 ∨ k = 5) → (1 ≤ ck ∧ ck ≤ 4) ∧ ca.Lay ∧ cb.Lay) ∧ ((k = 4 ∨ k = 5) → 0 ≤ n ∧ n ≤ 1000) ∧ St.LayAll y ∧ St.LayAll l
def St.LayAll : List St → Prop
  | [] => True
  | s :: r => s.Lay ∧ St.LayAll r
end

theorem St.LayAll.at {a : List St} (h : St.LayAll a) : ∀ j (hj : j < a.length), (a[j]).Lay := by
  induction a with
  | nil => intro j hj; simp at hj
  | cons e r ih =>
    intro j hj
    cases j with
    | zero => exact h.1
    | succ j => exact ih h.2 j (by simpa using hj)

mutual
theorem St.pc_len : ∀ (s : St) (i : Int), (s.pc i).length ≤ 8 * s.bulk
  | .mk k n e ck ca cb y l, i => by
    have h1 := Ex.pc_len e
    have h2 := cdP_len ck ca cb
    have h3 := St.pcAll_len y i
    have h4 := St.pcAll_len l i
    have h5 := St.pcAll_len y (i + 1)
    have h6 := Ex.nodes_pos ca
    have h7 := Ex.nodes_pos cb
    have h8 := Ex.nodes_pos e
    rw [St.pc, St.bulk]
    split
    · simp; omega
    split
    · simp; omega
    split
    · split
      · simp only [ifP, jn_len, List.length_append, List.length_cons, List.length_nil]; omega
      · simp only [elP, jn_len, List.length_append, List.length_cons, List.length_nil]; omega
    split
    · split
      · simp
      · simp only [lpP, jn_len, List.length_append, List.length_cons, List.length_nil]; omega
    split
    · split
      · simp
      · simp only [lpP, whP, jn_len, List.length_append, List.length_cons, List.length_nil]; omega
    split
    · simp only [jn_len, List.length_append, List.length_cons, List.length_nil]; omega
    · simp; omega
theorem St.pcAll_len : ∀ (a : List St) (i : Int), (St.pcAll a i).length ≤ 8 * St.bulkAll a
  | [], _ => Nat.zero_le _
  | s :: r, i => by
    have := St.pc_len s i
    have := St.pcAll_len r i
    rw [St.pcAll, St.bulkAll, jn_len]
    omega
end

theorem St.pcAll_take {a : List St} (i : Int) : ∀ j (hj : j < a.length), jn (St.pcAll (a.take j) i) ((a[j]).pc i) = St.pcAll (a.take (j + 1)) i := by
  induction a with
  | nil => intro j hj; simp at hj
  | cons e r ih =>
    intro j hj
    cases j with
    | zero => simp [St.pcAll, nil_jn, jn_nil]
    | succ j =>
      have := ih j (by simpa using hj)
      simp only [List.take_succ_cons, St.pcAll, List.getElem_cons_succ] at this ⊢
      rw [jn_jn, this]

theorem St.bulkAll_take {a : List St} : ∀ j (hj : j < a.length), St.bulkAll (a.take j) + (a[j]).bulk ≤ St.bulkAll a := by
  induction a with
  | nil => intro j hj; simp at hj
  | cons e r ih =>
    intro j hj
    cases j with
    | zero => simp [St.bulkAll]
    | succ j =>
      have := ih j (by simpa using hj)
      simp only [List.take_succ_cons, St.bulkAll, List.getElem_cons_succ] at this ⊢
      omega

/-- What stands behind an image. -/
theorem put_jn (img : List Io) (a b : List Io) : img ++ mv img.length a ++ mv ((img ++ mv img.length a).length) b = img ++ mv img.length (jn a b) := by
  rw [mv_jn, List.append_assoc, List.length_append, mv_len]
  push_cast
  rfl

/-- The builder lays a statement down, as all of a list. -/
def StmtC (w0 : World) (bb N : Nat) : Prop := ∀ (s : St) (w : World) (v : Value) (img : List Io) (loops : Int) (iv : Value), s.bulk ≤ N → s.In w0 v → s.Lay → BW w0 w bb img loops iv → img.length + 8 * s.bulk ≤ 600000 → 0 ≤ loops ∧ loops + s.bulk ≤ 1000000 →
  Calls Tryd.prog 95 #[.pointer (some ⟨bb, 0, none⟩), v] w fun r w' => r = .returned (.tuple #[]) ∧ ∃ iv', BW w0 w' bb (img ++ mv img.length (s.pc loops)) loops iv' ∧ BG bb w w' iv iv'
def ListC (w0 : World) (bb N : Nat) : Prop := ∀ (a : List St) (w : World) (v : Value) (img : List Io) (loops : Int) (iv : Value), St.bulkAll a ≤ N → St.Sl w0 a v → St.LayAll a → BW w0 w bb img loops iv → img.length + 8 * St.bulkAll a ≤ 600000 → 0 ≤ loops ∧ loops + St.bulkAll a ≤ 1000000 →
  Calls Tryd.prog 60 #[.pointer (some ⟨bb, 0, none⟩), v] w fun r w' => r = .returned (.tuple #[]) ∧ ∃ iv', BW w0 w' bb (img ++ mv img.length (St.pcAll a loops)) loops iv' ∧ BG bb w w' iv iv'

theorem in_shape {w : World} {e ca cb : Ex} {y l : List St} {k n ek en ck ak an bk bn : Int} {ead aad bad yad lad : Option Addr} {em ec am ac bm bc yc lc : Nat}
    (h1 : e.In w (.agg #[.int .i64 ek, .int .i64 en, .slice ead em ec])) (h2 : ca.In w (.agg #[.int .i64 ak, .int .i64 an, .slice aad am ac])) (h3 : cb.In w (.agg #[.int .i64 bk, .int .i64 bn, .slice bad bm bc])) (h4 : St.Sl w y (.slice yad y.length yc)) (h5 : St.Sl w l (.slice lad l.length lc)) :
    (St.mk k n e ck ca cb y l).In w (.agg #[.int .i64 k, .int .i64 n, .int .i64 ek, .int .i64 en, .slice ead em ec, .int .i64 ck, .int .i64 ak, .int .i64 an, .slice aad am ac, .int .i64 bk, .int .i64 bn, .slice bad bm bc, .slice yad y.length yc, .slice lad l.length lc]) := by
  unfold St.In
  exact ⟨_, _, _, _, _, _, _, _, _, _, _, rfl, h1, h2, h3, h4, h5⟩

set_option maxRecDepth 20000 in
set_option maxHeartbeats 400000 in
theorem list_of_stmtC (w0 : World) (bb N : Nat) (hS : StmtC w0 bb N) : ListC w0 bb N := by
  intro a w v img loops iv hN hin hlay hw hlen hlo
  obtain ⟨ad, c, rfl, hrow⟩ := hin
  have hal := length_le_bulkAll a
  have HR : Hid ((a = [] ∨ ∃ g o, ad = some ⟨g, o, none⟩ ∧ St.Row w0 a g o) ∧ St.LayAll a) := ⟨hrow, hlay⟩
  have HW : Hid (BW w0 w bb img loops iv) := hw
  have HS : Hid _ := hS
  clear hrow hlay hw hS
  go_enter Tryd.func60, Tryd.ntmps60
  go_wp2_with fail
  go_loopw [8] (fun i wr => ∃ (j : Nat) (iv' : Value), j ≤ a.length ∧ i = .int .i64 j ∧ BW w0 wr bb (img ++ mv img.length (St.pcAll (a.take j) loops)) loops iv' ∧ BG bb w wr iv iv') (fun i _ => a.length - (intOf i).toNat)
  case atStart => exact ⟨0, iv, Nat.zero_le _, rfl, by simpa [St.pcAll, mv] using HW.out, BG.refl _ _ _⟩
  case round =>
    obtain ⟨j, iv1, hj, rfl, hw1, hg1⟩ := hrel
    have H1 : Hid (BW w0 wr bb (img ++ mv img.length (St.pcAll (a.take j) loops)) loops iv1 ∧ BG bb w wr iv iv1) := ⟨hw1, hg1⟩
    by_cases hjl : j < a.length
    · have hji : (j : Int) < (a.length : Int) := by omega
      rcases HR.out.1 with h | ⟨b, o, rfl, hrow⟩
      · rw [h] at hjl; simp at hjl
      obtain ⟨k, n, e, ck, ca, cb, y, l, hst, ek, en, ead, em, ec, ak, an, aad, am, ac, bk, bn, bad, bm, bc, yad, yc, lad, lc, s0, s1, s2, s3, s4, s5, s6, s7, s8, s9, s10, s11, s12, s13, i1, i2, i3, i4, i5⟩ := hrow.shape hjl
      have hbel := hw1.bel
      replace s0 := below_cell hbel s0
      replace s1 := below_cell hbel s1
      replace s2 := below_cell hbel s2
      replace s3 := below_cell hbel s3
      replace s4 := below_cell hbel s4
      replace s5 := below_cell hbel s5
      replace s6 := below_cell hbel s6
      replace s7 := below_cell hbel s7
      replace s8 := below_cell hbel s8
      replace s9 := below_cell hbel s9
      replace s10 := below_cell hbel s10
      replace s11 := below_cell hbel s11
      replace s12 := below_cell hbel s12
      replace s13 := below_cell hbel s13
      have lb : b < wr.heap.size := World.block_lt_of_cell? _ _ s0
      have hbt := St.bulkAll_take j hjl
      have hpt := St.pcAll_len (a.take j) loops
      have hly := HR.out.2.at j hjl
      have hpn := St.pcAll_take loops j hjl
      rw [hst] at hbt hly hpn
      have HC := HS.out (.mk k n e ck ca cb y l) (wr.alloc (.cells #[.int .i64 k, .int .i64 n, .int .i64 ek, .int .i64 en, .slice ead em ec, .int .i64 ck, .int .i64 ak, .int .i64 an, .slice aad am ac, .int .i64 bk, .int .i64 bn, .slice bad bm bc, .slice yad y.length yc, .slice lad l.length lc] 123)) _ (img ++ mv img.length (St.pcAll (a.take j) loops)) loops iv1 (by omega) (in_shape i1 i2 i3 i4 i5) hly (hw1.below (below_new _ _)) (by rw [List.length_append, mv_len]; omega) (by omega)
      have HPN : Hid (jn (St.pcAll (a.take j) loops) ((St.mk k n e ck ca cb y l).pc loops) = St.pcAll (a.take (j + 1)) loops) := hpn
      clear i1 i2 i3 i4 i5 hrow hw1 hg1 hbel hly hpn hst
      go_wp2_with (go_at_call 95; refine HC.mono ?_; rintro r w2 ⟨rfl, iv2, hw2, hg2⟩; have H2 : Hid (_ ∧ BG bb w w2 iv iv2) := ⟨hw2, (H1.out.2.trans (BG.of_below (below_new _ _))).trans hg2⟩; clear hw2 hg2 HC)
      have hq := H2.out.1
      rw [put_jn, HPN.out] at hq
      exact ⟨⟨j + 1, iv2, by omega, by simp, hq, H2.out.2⟩, by simp [intOf]; omega⟩
    · have hje : j = a.length := by omega
      subst hje
      clear hw1 hg1
      rw [List.take_length] at H1
      go_wp2_with fail
      go_end0
      exact ⟨rfl, iv1, H1.out.1, H1.out.2⟩

end Go.Proofs.YtgemadoieielcacDoor.B
namespace Go.Proofs.YtgemadoieielcacDoor.B
open Go.ChangeShapes Go.WideShapes Go.ChangeAt Go.RowKit

/-- A jump is told that it lands behind the last one. -/
def landI (img : List Io) (at_ : Nat) : List Io := img.set at_ ⟨(img.getD at_ ⟨0, 0, 0⟩).op, img.length, (img.getD at_ ⟨0, 0, 0⟩).b⟩

theorem landI_at (x : List Io) (op a b : Int) (y : List Io) : landI (x ++ [(⟨op, a, b⟩ : Io)] ++ y) x.length = x ++ [(⟨op, (x.length : Int) + 1 + y.length, b⟩ : Io)] ++ y := by
  have e : (x ++ [(⟨op, a, b⟩ : Io)] ++ y).getD x.length ⟨0, 0, 0⟩ = ⟨op, a, b⟩ := by simp [List.getD]
  unfold landI
  rw [e]
  simp
  omega

theorem mvI_id {d : Int} {x : Io} (h : x.op ≠ 11 ∧ x.op ≠ 12 ∧ x.op ≠ 14) : mvI d x = x := by
  unfold mvI
  rw [if_neg (by omega), if_neg h.2.2]

mutual
theorem Ex.pc_mv (d : Int) : ∀ e : Ex, e.Lay → mv d e.pc = e.pc
  | .mk k n a, h => by
    rw [Ex.Lay] at h
    have ih := Ex.pcAll_mv d a h.2
    rw [Ex.pc]
    split
    · rw [mv_one, mvI_id (by show k ≠ 11 ∧ k ≠ 12 ∧ k ≠ 14; omega)]
    split
    · rw [mv_one, mvI_id (by show (9 : Int) ≠ 11 ∧ (9 : Int) ≠ 12 ∧ (9 : Int) ≠ 14; omega)]
    split
    · rw [mv_append, ih]; rfl
    · rw [mv_append, ih, mv_one, mvI_id (by show k - 1 ≠ 11 ∧ k - 1 ≠ 12 ∧ k - 1 ≠ 14; omega)]
theorem Ex.pcAll_mv (d : Int) : ∀ a : List Ex, Ex.LayAll a → mv d (Ex.pcAll a) = Ex.pcAll a
  | [], _ => rfl
  | e :: r, h => by rw [Ex.pcAll, mv_append, Ex.pc_mv d e h.1, Ex.pcAll_mv d r h.2]
end

theorem cdP_mv (d : Int) (ck : Int) (ca cb : Ex) (ha : ca.Lay) (hb : cb.Lay) : mv d (cdP ck ca cb) = cdP ck ca cb := by
  unfold cdP
  rw [mv_append, mv_append, mv_append, Ex.pc_mv d ca ha, Ex.pc_mv d cb hb]
  congr 1
  · rw [mv_one, mvI_id (by show (if ck = 2 ∨ ck = 3 then (8 : Int) else 7) ≠ 11 ∧ (if ck = 2 ∨ ck = 3 then (8 : Int) else 7) ≠ 12 ∧ (if ck = 2 ∨ ck = 3 then (8 : Int) else 7) ≠ 14; split <;> omega)]
  · split <;> rfl

theorem if_img (img c A : List Io) (hc : mv img.length c = c) : landI (img ++ c ++ [(⟨12, 0, 0⟩ : Io)] ++ mv ((img ++ c ++ [(⟨12, 0, 0⟩ : Io)]).length) A) (img ++ c).length = img ++ mv img.length (ifP c A) := by
  rw [landI_at, ifP, mv_jn, mv_append, hc, mv_one]
  simp [mvI, mv_len]
  omega

theorem el_img (img c A B : List Io) (hc : mv img.length c = c) (s2 s4 : List Io) (h2 : s2 = img ++ c ++ [(⟨12, 0, 0⟩ : Io)] ++ mv ((img ++ c ++ [(⟨12, 0, 0⟩ : Io)]).length) A) (h4 : s4 = landI (s2 ++ [(⟨11, 0, 0⟩ : Io)]) (img ++ c).length) : landI (s4 ++ mv s4.length B) s2.length = img ++ mv img.length (elP c A B) := by
  have e4 : s4 = (img ++ c ++ [(⟨12, ((img ++ c).length : Int) + 1 + (A.length + 1), 0⟩ : Io)] ++ mv ((img ++ c ++ [(⟨12, 0, 0⟩ : Io)]).length) A) ++ [(⟨11, 0, 0⟩ : Io)] := by
    rw [h4, h2, List.append_assoc _ (mv _ _), landI_at]
    simp [mv_len]
  have l2 : s2.length = (img ++ c ++ [(⟨12, ((img ++ c).length : Int) + 1 + (A.length + 1), 0⟩ : Io)] ++ mv ((img ++ c ++ [(⟨12, 0, 0⟩ : Io)]).length) A).length := by rw [h2]; simp [mv_len]
  have l4 : (s4.length : Int) = img.length + c.length + 1 + A.length + 1 := by rw [e4]; simp [mv_len]; omega
  rw [l4, e4, l2, landI_at, elP, mv_jn, mv_append, mv_jn, mv_append, hc, mv_one, mv_one]
  simp [mvI, mv_len, jn_len]
  exact ⟨by omega, by omega, by congr 1; omega⟩

theorem wh_img (img c A : List Io) (i : Int) (hc : mv img.length c = c) (s2 s4 : List Io) (h2 : s2 = img ++ c ++ [(⟨12, 0, 0⟩ : Io)] ++ mv ((img ++ c ++ [(⟨12, 0, 0⟩ : Io)]).length) A) (h4 : s4 = landI (s2 ++ [(⟨11, 0, 0⟩ : Io)]) (img ++ c).length) : landI (s4 ++ [(⟨15, i, 0⟩ : Io)]) s2.length = img ++ mv img.length (whP c A i) := by
  have e4 : s4 = (img ++ c ++ [(⟨12, ((img ++ c).length : Int) + 1 + (A.length + 1), 0⟩ : Io)] ++ mv ((img ++ c ++ [(⟨12, 0, 0⟩ : Io)]).length) A) ++ [(⟨11, 0, 0⟩ : Io)] := by
    rw [h4, h2, List.append_assoc _ (mv _ _), landI_at]
    simp [mv_len]
  have l2 : s2.length = (img ++ c ++ [(⟨12, ((img ++ c).length : Int) + 1 + (A.length + 1), 0⟩ : Io)] ++ mv ((img ++ c ++ [(⟨12, 0, 0⟩ : Io)]).length) A).length := by rw [h2]; simp [mv_len]
  rw [e4, l2, landI_at, whP, mv_append, mv_jn, mv_append, hc, mv_one]
  simp [mvI, mv, jn_len]
  omega

theorem lp_img (img I : List Io) (i n : Int) : img ++ [(⟨13, i, n - 1⟩ : Io)] ++ mv ((img ++ [(⟨13, i, n - 1⟩ : Io)]).length) I ++ [⟨14, i, ((img ++ [(⟨13, i, n - 1⟩ : Io)]).length : Int)⟩] = img ++ mv img.length (lpP i n I) := by
  rw [lpP, mv_append, mv_jn, mv_one]
  simp [mvI, mv]
  omega

/-- A block that the builder leaves as it is. -/
structure Kp (w : World) (bb : Nat) (iv : Value) (p : Nat) (o : Obj) : Prop where
  blk : w.heap[p]? = some o
  n0 : p ≠ bb
  n1 : iv.ownBlock ≠ some p

theorem Kp.go {bb : Nat} {w w' : World} {v v' : Value} {p : Nat} {o : Obj} (h : Kp w bb v p o) (hg : BG bb w w' v v') : Kp w' bb v' p o :=
  ⟨(hg.oth p (Array.getElem?_eq_some_iff.1 h.blk).1 h.n0 h.n1).trans h.blk, h.n0, hg.apart (Array.getElem?_eq_some_iff.1 h.blk).1 h.n1⟩

theorem Kp.new {w0 w : World} {bb : Nat} {img : List Io} {loops : Int} {iv : Value} (h : BW w0 w bb img loops iv) (o : Obj) : Kp (w.alloc o) bb iv w.heap.size o :=
  ⟨heap_alloc_new _ _, by have := h.cells.2.2.2; omega, fun e => by have := (h.own.lt _ e).2; omega⟩

end Go.Proofs.YtgemadoieielcacDoor.B
namespace Go.Proofs.YtgemadoieielcacDoor.B
open Go.ChangeShapes Go.WideShapes Go.ChangeAt Go.RowKit

set_option maxRecDepth 20000 in
set_option maxHeartbeats 400000 in
theorem choice_any (w0 : World) (bb N : Nat) (hE : EndsIn w0) (hK : CompsIn w0) (hL : ListC w0 bb N) (ca cb : Ex) (y l : List St) (k n ek en ck ak an bk bn : Int) (ead aad bad yad lad : Option Addr) (em ec am ac bm bc yc lc : Nat) (i2 : ca.In w0 (.agg #[.int .i64 ak, .int .i64 an, .slice aad am ac])) (i3 : cb.In w0 (.agg #[.int .i64 bk, .int .i64 bn, .slice bad bm bc])) (i4 : St.Sl w0 y (.slice yad y.length yc)) (i5 : St.Sl w0 l (.slice lad l.length lc)) (hck : 1 ≤ ck ∧ ck ≤ 4) (hla : ca.Lay) (hlb : cb.Lay) (hly : St.LayAll y) (hll : St.LayAll l) (hN : St.bulkAll y + St.bulkAll l ≤ N) (w : World) (img : List Io) (loops : Int) (iv : Value) (hw : BW w0 w bb img loops iv) (hlen : img.length + 8 * (1 + ca.nodes + cb.nodes + St.bulkAll y + St.bulkAll l) ≤ 600000) (hlo : 0 ≤ loops ∧ loops + (1 + ca.nodes + cb.nodes + St.bulkAll y + St.bulkAll l : Nat) ≤ 1000000) :
    Calls Tryd.prog 123 #[.pointer (some ⟨bb, 0, none⟩), .agg #[.int .i64 k, .int .i64 n, .int .i64 ek, .int .i64 en, .slice ead em ec, .int .i64 ck, .int .i64 ak, .int .i64 an, .slice aad am ac, .int .i64 bk, .int .i64 bn, .slice bad bm bc, .slice yad y.length yc, .slice lad l.length lc]] w fun r w' => r = .returned (.tuple #[]) ∧ ∃ iv', BW w0 w' bb (img ++ mv img.length (if l.length = 0 then ifP (cdP ck ca cb) (St.pcAll y loops) else elP (cdP ck ca cb) (St.pcAll y loops) (St.pcAll l loops))) loops iv' ∧ BG bb w w' iv iv' := by
  have hcl := cdP_len ck ca cb
  have hyl := St.pcAll_len y loops
  have hll' := St.pcAll_len l loops
  have hcm := cdP_mv img.length ck ca cb hla hlb
  have p6 := Ex.nodes_pos ca
  have p7 := Ex.nodes_pos cb
  have hW1 := hw.below (below_new w (.cells #[.int .i64 k, .int .i64 n, .int .i64 ek, .int .i64 en, .slice ead em ec, .int .i64 ck, .int .i64 ak, .int .i64 an, .slice aad am ac, .int .i64 bk, .int .i64 bn, .slice bad bm bc, .slice yad y.length yc, .slice lad l.length lc] 123))
  have hK1 := Kp.new hw (.cells #[.int .i64 k, .int .i64 n, .int .i64 ek, .int .i64 en, .slice ead em ec, .int .i64 ck, .int .i64 ak, .int .i64 an, .slice aad am ac, .int .i64 bk, .int .i64 bn, .slice bad bm bc, .slice yad y.length yc, .slice lad l.length lc] 123)
  have HC1 := bcond_any w0 _ bb img loops iv ck ca cb ak an bk bn aad bad am ac bm bc hE hK hck i2 i3 hla hlb (by omega) (by omega) hW1 (by omega)
  have HK1 : Hid (Kp (w.alloc (.cells #[.int .i64 k, .int .i64 n, .int .i64 ek, .int .i64 en, .slice ead em ec, .int .i64 ck, .int .i64 ak, .int .i64 an, .slice aad am ac, .int .i64 bk, .int .i64 bn, .slice bad bm bc, .slice yad y.length yc, .slice lad l.length lc] 123)) bb iv w.heap.size (.cells #[.int .i64 k, .int .i64 n, .int .i64 ek, .int .i64 en, .slice ead em ec, .int .i64 ck, .int .i64 ak, .int .i64 an, .slice aad am ac, .int .i64 bk, .int .i64 bn, .slice bad bm bc, .slice yad y.length yc, .slice lad l.length lc] 123 (0, 0)) ∧ BG bb w (w.alloc (.cells #[.int .i64 k, .int .i64 n, .int .i64 ek, .int .i64 en, .slice ead em ec, .int .i64 ck, .int .i64 ak, .int .i64 an, .slice aad am ac, .int .i64 bk, .int .i64 bn, .slice bad bm bc, .slice yad y.length yc, .slice lad l.length lc] 123)) iv iv) := ⟨hK1, BG.of_below (below_new _ _)⟩
  have HI : Hid (St.Sl w0 y (.slice yad y.length yc) ∧ St.Sl w0 l (.slice lad l.length lc) ∧ St.LayAll y ∧ St.LayAll l ∧ ListC w0 bb N ∧ mv img.length (cdP ck ca cb) = cdP ck ca cb) := ⟨i4, i5, hly, hll, hL, hcm⟩
  have hlt := hw.cells.2.2.2
  clear hw hW1 hK1 i2 i3 i4 i5 hly hll hL hcm hE hK
  generalize cdP ck ca cb = C at *
  have hcl3 : C.length ≤ 4 * (ca.nodes + cb.nodes) + 3 := hcl
  go_enter Tryd.func123, Tryd.ntmps123
  go_wp2_with (go_at_call 145; refine HC1.mono ?_; rintro r w2 ⟨q, p, iv2, rfl, hp2, hw2, hg2⟩; have hk2 := HK1.out.1.go hg2; obtain ⟨d1, e1, lk2⟩ := cells_of (l := [_, _, _, _, _, _, _, _, _, _, _, _, _, _]) hk2.blk; have x2_12 := d1 12 _ rfl; have x2_13 := d1 13 _ rfl; clear d1 e1; have HC2 := HI.out.2.2.2.2.1 y w2 _ (img ++ C ++ [⟨12, 0, 0⟩]) loops iv2 (by omega) HI.out.1 HI.out.2.2.1 hw2 (by simp; omega) (by omega); have H2 : Hid (LpAt w2 bb iv2 q p (img ++ C).length ∧ Kp w2 bb iv2 w.heap.size (.cells #[.int .i64 k, .int .i64 n, .int .i64 ek, .int .i64 en, .slice ead em ec, .int .i64 ck, .int .i64 ak, .int .i64 an, .slice aad am ac, .int .i64 bk, .int .i64 bn, .slice bad bm bc, .slice yad y.length yc, .slice lad l.length lc] 123 (0, 0)) ∧ BG bb w w2 iv iv2) := ⟨hp2, hk2, HK1.out.2.trans hg2⟩; clear hp2 hw2 hg2 hk2 HC1)
  by_cases hl0 : l.length = 0
  · have hl0i : ((l.length : Int) == 0) = true := by rw [beq_iff_eq]; omega
    have hl0j : (l.length : Int) = 0 := by omega
    go_wp2_with (go_at_call 60; refine HC2.mono ?_; rintro r w3 ⟨rfl, iv3, hw3, hg3⟩; have hk3 := H2.out.2.1.go hg3; obtain ⟨d1, e1, lk3⟩ := cells_of (l := [_, _, _, _, _, _, _, _, _, _, _, _, _, _]) hk3.blk; have x3_13 := d1 13 _ rfl; clear d1 e1; have H3 : Hid (BW w0 w3 bb (img ++ C ++ [⟨12, 0, 0⟩] ++ mv ((img ++ C ++ [(⟨12, 0, 0⟩ : Io)]).length) (St.pcAll y loops)) loops iv3 ∧ LpAt w3 bb iv3 q p (img ++ C).length ∧ Kp w3 bb iv3 w.heap.size (.cells #[.int .i64 k, .int .i64 n, .int .i64 ek, .int .i64 en, .slice ead em ec, .int .i64 ck, .int .i64 ak, .int .i64 an, .slice aad am ac, .int .i64 bk, .int .i64 bn, .slice bad bm bc, .slice yad y.length yc, .slice lad l.length lc] 123 (0, 0)) ∧ BG bb w w3 iv iv3) := ⟨hw3, H2.out.1.go hg3, hk3, H2.out.2.2.trans hg3⟩; clear hw3 hg3 hk3 HC2)
    have HC3 := land_any w0 w3 bb _ loops iv3 q p _ H3.out.1 H3.out.2.1 (by simp only [List.length_append, List.length_cons, List.length_nil]; omega)
    go_wp2_with (go_at_call 158; refine HC3.mono ?_; rintro r w4 ⟨rfl, hw4, hg4⟩; have H4 : Hid (_ ∧ BG bb w w4 iv iv3) := ⟨hw4, H3.out.2.2.2.trans hg4⟩; clear hw4 hg4 HC3)
    refine bodyPost_ret (results_none rfl _ _ _) rfl ?_
    refine ⟨rfl, iv3, ?_, H4.out.2⟩
    try rw [if_pos hl0]
    have hq := H4.out.1
    have e := if_img img C (St.pcAll y loops) HI.out.2.2.2.2.2
    unfold landI at e
    rw [e] at hq
    exact hq
  · have hl0i : ((l.length : Int) == 0) = false := by rw [beq_eq_false_iff_ne]; omega
    have hl0j : ¬ (l.length : Int) = 0 := by omega
    go_wp2_with (go_at_call 60; refine HC2.mono ?_; rintro r w3 ⟨rfl, iv3, hw3, hg3⟩; have hk3 := H2.out.2.1.go hg3; obtain ⟨d1, e1, lk3⟩ := cells_of (l := [_, _, _, _, _, _, _, _, _, _, _, _, _, _]) hk3.blk; have x3_13 := d1 13 _ rfl; clear d1 e1; have H3 : Hid (BW w0 w3 bb (img ++ C ++ [⟨12, 0, 0⟩] ++ mv ((img ++ C ++ [(⟨12, 0, 0⟩ : Io)]).length) (St.pcAll y loops)) loops iv3 ∧ LpAt w3 bb iv3 q p (img ++ C).length ∧ Kp w3 bb iv3 w.heap.size (.cells #[.int .i64 k, .int .i64 n, .int .i64 ek, .int .i64 en, .slice ead em ec, .int .i64 ck, .int .i64 ak, .int .i64 an, .slice aad am ac, .int .i64 bk, .int .i64 bn, .slice bad bm bc, .slice yad y.length yc, .slice lad l.length lc] 123 (0, 0)) ∧ BG bb w w3 iv iv3) := ⟨hw3, H2.out.1.go hg3, hk3, H2.out.2.2.trans hg3⟩; clear hw3 hg3 hk3 HC2)
    obtain ⟨s2, hs2⟩ : ∃ s2 : List Io, s2 = img ++ C ++ [⟨12, 0, 0⟩] ++ mv ((img ++ C ++ [(⟨12, 0, 0⟩ : Io)]).length) (St.pcAll y loops) := ⟨_, rfl⟩
    have ls2 : s2.length = img.length + C.length + 1 + (St.pcAll y loops).length := by rw [hs2]; simp [mv_len]; omega
    rw [← hs2] at H3
    have HC3 := leap_any w0 w3 bb s2 loops iv3 11 H3.out.1 (by omega)
    go_wp2_with (go_at_call 146; refine HC3.mono ?_; rintro r w4 ⟨q2, p2, iv4, rfl, hp4, hw4, hg4⟩; have H4 : Hid (LpAt w4 bb iv4 q2 p2 s2.length ∧ LpAt w4 bb iv4 q p (img ++ C).length ∧ Kp w4 bb iv4 w.heap.size (.cells #[.int .i64 k, .int .i64 n, .int .i64 ek, .int .i64 en, .slice ead em ec, .int .i64 ck, .int .i64 ak, .int .i64 an, .slice aad am ac, .int .i64 bk, .int .i64 bn, .slice bad bm bc, .slice yad y.length yc, .slice lad l.length lc] 123 (0, 0)) ∧ BG bb w w4 iv iv4) := ⟨hp4, H3.out.2.1.go hg4, H3.out.2.2.1.go hg4, H3.out.2.2.2.trans hg4⟩; have HC4 := land_any w0 w4 bb (s2 ++ [⟨11, 0, 0⟩]) loops iv4 q p _ hw4 H4.out.2.1 (by simp only [List.length_append, ls2, List.length_cons, List.length_nil]; omega); clear hp4 hw4 hg4 HC3)
    obtain ⟨s4, hs4⟩ : ∃ s4 : List Io, s4 = landI (s2 ++ [⟨11, 0, 0⟩]) (img ++ C).length := ⟨_, rfl⟩
    have ls4 : s4.length = s2.length + 1 := by rw [hs4]; simp [landI]
    go_wp2_with (go_at_call 158; refine HC4.mono ?_; rintro r w5 ⟨rfl, hw5, hg5⟩; have hw5' : BW w0 w5 bb s4 loops iv4 := (by rw [hs4]; exact hw5); have hk5 := H4.out.2.2.1.go hg5; obtain ⟨d1, e1, lk5⟩ := cells_of (l := [_, _, _, _, _, _, _, _, _, _, _, _, _, _]) hk5.blk; have x5_13 := d1 13 _ rfl; clear d1 e1; have HC5 := HI.out.2.2.2.2.1 l w5 _ s4 loops iv4 (by omega) HI.out.2.1 HI.out.2.2.2.1 hw5' (by omega) (by omega); have H5 : Hid (LpAt w5 bb iv4 q2 p2 s2.length ∧ BG bb w w5 iv iv4) := ⟨H4.out.1.go hg5, H4.out.2.2.2.trans hg5⟩; clear hw5 hw5' hg5 hk5 HC4)
    go_wp2_with (go_at_call 60; refine HC5.mono ?_; rintro r w6 ⟨rfl, iv6, hw6, hg6⟩; have HC6 := land_any w0 w6 bb _ loops iv6 q2 p2 _ hw6 (H5.out.1.go hg6) (by rw [List.length_append, ls4]; omega); have H6 : Hid (BG bb w w6 iv iv6) := H5.out.2.trans hg6; clear hw6 hg6 HC5)
    go_wp2_with (go_at_call 158; refine HC6.mono ?_; rintro r w7 ⟨rfl, hw7, hg7⟩; have H7 : Hid (_ ∧ BG bb w w7 iv iv6) := ⟨hw7, H6.out.trans hg7⟩; clear hw7 hg7 HC6)
    go_end0
    refine ⟨rfl, iv6, ?_, H7.out.2⟩
    try rw [if_neg hl0]
    have hq := H7.out.1
    have e := el_img img C (St.pcAll y loops) (St.pcAll l loops) HI.out.2.2.2.2.2 s2 s4 hs2 hs4
    unfold landI at e
    rw [e] at hq
    exact hq

end Go.Proofs.YtgemadoieielcacDoor.B
