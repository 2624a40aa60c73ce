import Derived.Test.YtccoobcggbbciahDoorTK
namespace Go.Proofs.YtccoobcggbbciahDoor
open Go.ChangeShapes Go.WideShapes Go.ChangeAt Go.RowKit

/-- A task of two levels. -/
structure Cr where
  c : Int
  h : Int
  t : Int
  d : Int
  hi : Bool
  p : Int

def Cr.vals (x : Cr) : List Value := [.int .i64 x.c, .int .i64 x.h, .int .i64 x.t, .int .i64 x.d, .bool x.hi, .int .i64 x.p]
def Cr.val (x : Cr) : Value := .agg #[.int .i64 x.c, .int .i64 x.h, .int .i64 x.t, .int .i64 x.d, .bool x.hi, .int .i64 x.p]
theorem Cr.len (x : Cr) : x.vals.length = 6 := rfl
theorem Cr.one {x : Cr} {u : Value} (h : u ∈ x.vals) : u.oneCell' = true := by
  simp only [Cr.vals, List.mem_cons, List.not_mem_nil, or_false] at h
  rcases h with rfl | rfl | rfl | rfl | rfl | rfl <;> rfl

/-- The six cells of such a task. -/
def CrAt (w : World) (b o : Nat) (x : Cr) : Prop := w.cell? ⟨b, o, none⟩ = some (.int .i64 x.c) ∧ w.cell? ⟨b, o + 1, none⟩ = some (.int .i64 x.h) ∧ w.cell? ⟨b, o + 2, none⟩ = some (.int .i64 x.t) ∧ w.cell? ⟨b, o + 3, none⟩ = some (.int .i64 x.d) ∧ w.cell? ⟨b, o + 4, none⟩ = some (.bool x.hi) ∧ w.cell? ⟨b, o + 5, none⟩ = some (.int .i64 x.p)

theorem cr_at {w : World} {l : List Cr} {b o j : Nat} {x : Cr} (h : ∀ q u, (l.flatMap Cr.vals)[q]? = some u → w.cell? ⟨b, o + q, none⟩ = some u) (hj : l[j]? = some x) : CrAt w b (o + j * 6) x := by
  have key : ∀ k u, k < 6 → x.vals[k]? = some u → w.cell? ⟨b, o + j * 6 + k, none⟩ = some u := fun k u hk hu => by
    rw [Nat.add_assoc]
    exact h _ _ ((flat_at Cr.vals 6 Cr.len l j k x hj hk).trans hu)
  exact ⟨key 0 _ (by omega) rfl, key 1 _ (by omega) rfl, key 2 _ (by omega) rfl, key 3 _ (by omega) rfl, key 4 _ (by omega) rfl, key 5 _ (by omega) rfl⟩

theorem CrAt.below {w w' : World} {b o : Nat} {x : Cr} (h : CrAt w b o x) (hb : Below w.heap.size w w') : CrAt w' b o x :=
  ⟨below_cell hb h.1, below_cell hb h.2.1, below_cell hb h.2.2.1, below_cell hb h.2.2.2.1, below_cell hb h.2.2.2.2.1, below_cell hb h.2.2.2.2.2⟩

/- What is wrong with such a task. -/
def rangeC (x : Cr) : Bool := decide (x.c < 1) || decide (x.h < x.c) || !(within x.t 1 10000) || decide (x.d < x.c) || !(within x.p 0 1000)
def orderC (x : Cr) : Bool := decide (x.t < x.d) || decide (x.d < x.h) || (!x.hi && x.h != x.c)
def wrongC (x : Cr) (ahead : List Cr) : Int := if rangeC x = true then 3 else if orderC x = true then 12 else if ahead.any (fun y => y.p == x.p) = true then 5 else 0
def chkCFrom (l : List Cr) : List Cr → Nat → Int × Int
  | [], _ => (0, 0)
  | x :: r, k => if wrongC x (l.take k) = 0 then chkCFrom l r (k + 1) else (wrongC x (l.take k), (k : Int))
/-- chapter 13's Check. -/
def chkC (l : List Cr) : Int × Int := if l.length = 0 ∨ 8 < l.length then (2, 0) else chkCFrom l l 0

theorem chkCFrom_at {l r : List Cr} {k : Nat} {x : Cr} (h : r = x :: l.drop (k + 1)) : chkCFrom l r k = if wrongC x (l.take k) = 0 then chkCFrom l (l.drop (k + 1)) (k + 1) else (wrongC x (l.take k), (k : Int)) := by
  subst h; rfl

/-- The first that has that priority. -/
def findP (s : Int) : List Cr → Nat → Int
  | [], _ => -1
  | y :: r, k => if (y.p == s) = true then (k : Int) else findP s r (k + 1)

theorem findP_any (s : Int) : ∀ (l : List Cr) (k : Nat), decide (0 ≤ findP s l k) = l.any (fun y => y.p == s)
  | [], k => by simp [findP]
  | y :: r, k => by
    by_cases h : (y.p == s) = true
    · simp [findP, h]
    · simp [findP, h, ← findP_any s r (k + 1)]

theorem withinM_any (w : World) (n a b : Int) : Calls Tryd.prog 22 #[.int .i64 n, .int .i64 a, .int .i64 b] w fun r w' => r = .returned (.bool (within n a b)) ∧ w' = w := by
  unfold within
  go_enter Tryd.func22, Tryd.ntmps22
  rcases Bool.eq_false_or_eq_true (decide (a ≤ n)) with h1 | h1 <;> rcases Bool.eq_false_or_eq_true (decide (n ≤ b)) with h2 | h2 <;> rw [h1, h2] <;> (go_wp2_with fail; go_ret; exact ⟨rfl, rfl⟩)

theorem samePr_any (w : World) (y : Cr) (s : Int) (g : Nat) (hx : w.cell? ⟨g, 5, none⟩ = some (.int .i64 s)) : Calls Tryd.prog 34 #[y.val, .pointer (some ⟨g, 0, none⟩)] w fun r w' => r = .returned (.bool (y.p == s)) ∧ Below w.heap.size w w' := by
  obtain ⟨c, h, t, d, hi, p⟩ := y
  unfold Cr.val
  dsimp only
  have hlt : g < w.heap.size := World.block_lt_of_cell? _ _ hx
  go_enter Tryd.func34, Tryd.ntmps34
  go_wp2_with fail
  go_ret
  exact ⟨rfl, below_new _ _⟩

set_option maxRecDepth 20000 in
set_option maxHeartbeats 4000000 in
theorem indexC_any (w : World) (l : List Cr) (v : Value) (s : Int) (g : Nat) (hl : l.length ≤ 1000000) (hv : RowSl Cr.vals w l v) (hx : w.cell? ⟨g, 5, none⟩ = some (.int .i64 s)) : Calls Tryd.prog 43 #[v, .func (Fn.func 34) #[] #[.pointer (some ⟨g, 0, none⟩)]] w fun r w' => r = .returned (.int .i64 (findP s l 0)) ∧ Below w.heap.size w w' := by
  obtain ⟨ad, c, rfl, -, hcap, hrow⟩ := hv
  go_enter Tryd.func43, Tryd.ntmps43
  go_wp2_with fail
  have HR : Hid (_ ∧ _) := ⟨hrow, hx⟩
  clear hrow hx
  go_loopw [8] (fun i wr => ∃ j : Nat, j ≤ l.length ∧ i = .int .i64 j ∧ Below w.heap.size w wr ∧ findP s (l.drop j) j = findP s l 0) (fun i _ => l.length - (intOf i).toNat)
  case atStart => exact ⟨0, Nat.zero_le _, rfl, Below.refl _ _, rfl⟩
  case round =>
    obtain ⟨j, hj, rfl, hb, hf⟩ := hrel
    by_cases hlt : j < l.length
    · obtain ⟨y, hy, hd⟩ := drop_at hlt
      rw [hd, findP] at hf
      rcases HR.out.1 with h | ⟨b, o, rfl, hrow⟩
      · rw [h] at hlt; simp at hlt
      have ha := cr_at (fun q u hq => below_cell hb (hrow q u hq)) hy
      have hx := below_cell hb HR.out.2
      obtain ⟨c0, c1, c2, c3, c4, c5⟩ := ha
      have HY := samePr_any wr y s g hx
      unfold Cr.val at HY
      have HB : Hid (Below w.heap.size w wr) := hb
      have HF : Hid (_ = _) := hf
      clear hrow hb hf
      obtain ⟨yc, yh, yt, yd, yi, yp⟩ := y
      dsimp only at *
      generalize hq : (yp == s) = z at *
      go_wp2_with (go_at_call 34; refine HY.mono ?_; rintro r w1 ⟨rfl, hb1⟩)
      · have e := HF.out
        rw [if_pos ‹_›] at e
        go_ret
        exact ⟨by rw [← e]; rfl, below_seq HB.out hb1⟩
      · have e := HF.out
        rw [if_neg (by simp [*])] at e
        exact ⟨⟨j + 1, by omega, by simp, below_seq HB.out hb1, e⟩, by simp [intOf]; omega⟩
    · have hje : j = l.length := by omega
      subst hje
      rw [List.drop_length, findP] at hf
      go_wp2_with fail
      go_ret
      exact ⟨by rw [← hf]; rfl, hb⟩

set_option maxRecDepth 20000 in
theorem containsC_any (w : World) (l : List Cr) (v : Value) (s : Int) (g : Nat) (hl : l.length ≤ 1000000) (hv : RowSl Cr.vals w l v) (hx : w.cell? ⟨g, 5, none⟩ = some (.int .i64 s)) : Calls Tryd.prog 33 #[v, .func (Fn.func 34) #[] #[.pointer (some ⟨g, 0, none⟩)]] w fun r w' => r = .returned (.bool (l.any fun y => y.p == s)) ∧ Below w.heap.size w w' := by
  rw [← findP_any s l 0]
  have HI := indexC_any w l v s g hl hv hx
  obtain ⟨ad, c, rfl, -⟩ := hv
  go_enter Tryd.func33, Tryd.ntmps33
  go_wp2_with (go_at_call 43; refine HI.mono ?_; rintro r w1 ⟨rfl, hb1⟩)
  go_ret
  exact ⟨rfl, hb1⟩
end Go.Proofs.YtccoobcggbbciahDoor
namespace Go.Proofs.YtccoobcggbbciahDoor
open Go.ChangeShapes Go.WideShapes Go.ChangeAt Go.RowKit

set_option maxRecDepth 20000 in
set_option maxHeartbeats 2000000 in
theorem ct1 (w : World) (c h t d : Int) (hi : Bool) (p : Int) (l : List Cr) (v : Value) (hv : RowSl Cr.vals w l v) (q1 : decide (c < 1) = true) : Calls Tryd.prog 23 #[(Cr.mk c h t d hi p).val, v] w fun r w' => r = .returned (.int .i64 (wrongC (Cr.mk c h t d hi p) l)) ∧ Below w.heap.size w w' := by
  have hW : wrongC (Cr.mk c h t d hi p) l = 3 := by
    unfold wrongC rangeC orderC
    dsimp only
    first | (simp only [q1]; rfl) | (simp [q1]; done)
  rw [hW]
  clear hW
  unfold Cr.val
  dsimp only
  have H0 := below_new w (.cells #[.int .i64 c, .int .i64 h, .int .i64 t, .int .i64 d, .bool hi, .int .i64 p] 27)
  obtain ⟨ad, cc, rfl, -⟩ := hv
  go_enter Tryd.func23, Tryd.ntmps23
  go_wp2_with fail
  go_ret
  exact ⟨rfl, H0⟩

set_option maxRecDepth 20000 in
set_option maxHeartbeats 2000000 in
theorem ct2 (w : World) (c h t d : Int) (hi : Bool) (p : Int) (l : List Cr) (v : Value) (hv : RowSl Cr.vals w l v) (q1 : decide (c < 1) = false) (q2 : decide (h < c) = true) : Calls Tryd.prog 23 #[(Cr.mk c h t d hi p).val, v] w fun r w' => r = .returned (.int .i64 (wrongC (Cr.mk c h t d hi p) l)) ∧ Below w.heap.size w w' := by
  have hW : wrongC (Cr.mk c h t d hi p) l = 3 := by
    unfold wrongC rangeC orderC
    dsimp only
    first | (simp only [q1, q2]; rfl) | (simp [q1, q2]; done)
  rw [hW]
  clear hW
  unfold Cr.val
  dsimp only
  have H0 := below_new w (.cells #[.int .i64 c, .int .i64 h, .int .i64 t, .int .i64 d, .bool hi, .int .i64 p] 27)
  obtain ⟨ad, cc, rfl, -⟩ := hv
  go_enter Tryd.func23, Tryd.ntmps23
  go_wp2_with fail
  go_ret
  exact ⟨rfl, H0⟩

set_option maxRecDepth 20000 in
set_option maxHeartbeats 2000000 in
theorem ct3 (w : World) (c h t d : Int) (hi : Bool) (p : Int) (l : List Cr) (v : Value) (hv : RowSl Cr.vals w l v) (q1 : decide (c < 1) = false) (q2 : decide (h < c) = false) (q3 : within t 1 10000 = false) : Calls Tryd.prog 23 #[(Cr.mk c h t d hi p).val, v] w fun r w' => r = .returned (.int .i64 (wrongC (Cr.mk c h t d hi p) l)) ∧ Below w.heap.size w w' := by
  have hW : wrongC (Cr.mk c h t d hi p) l = 3 := by
    unfold wrongC rangeC orderC
    dsimp only
    first | (simp only [q1, q2, q3]; rfl) | (simp [q1, q2, q3]; done)
  rw [hW]
  clear hW
  unfold Cr.val
  dsimp only
  have H0 := below_new w (.cells #[.int .i64 c, .int .i64 h, .int .i64 t, .int .i64 d, .bool hi, .int .i64 p] 27)
  obtain ⟨ad, cc, rfl, -⟩ := hv
  go_enter Tryd.func23, Tryd.ntmps23
  go_wp2_with (go_at_call 22; refine (withinM_any _ _ _ _).mono ?_; rintro r w6 ⟨rfl, hw6⟩; have hw7 := hw6.symm; subst hw7; clear hw6; first | rw [q3])
  go_ret
  exact ⟨rfl, H0⟩

set_option maxRecDepth 20000 in
set_option maxHeartbeats 2000000 in
theorem ct4 (w : World) (c h t d : Int) (hi : Bool) (p : Int) (l : List Cr) (v : Value) (hv : RowSl Cr.vals w l v) (q1 : decide (c < 1) = false) (q2 : decide (h < c) = false) (q3 : within t 1 10000 = true) (q4 : decide (d < c) = true) : Calls Tryd.prog 23 #[(Cr.mk c h t d hi p).val, v] w fun r w' => r = .returned (.int .i64 (wrongC (Cr.mk c h t d hi p) l)) ∧ Below w.heap.size w w' := by
  have hW : wrongC (Cr.mk c h t d hi p) l = 3 := by
    unfold wrongC rangeC orderC
    dsimp only
    first | (simp only [q1, q2, q3, q4]; rfl) | (simp [q1, q2, q3, q4]; done)
  rw [hW]
  clear hW
  unfold Cr.val
  dsimp only
  have H0 := below_new w (.cells #[.int .i64 c, .int .i64 h, .int .i64 t, .int .i64 d, .bool hi, .int .i64 p] 27)
  obtain ⟨ad, cc, rfl, -⟩ := hv
  go_enter Tryd.func23, Tryd.ntmps23
  go_wp2_with (go_at_call 22; refine (withinM_any _ _ _ _).mono ?_; rintro r w6 ⟨rfl, hw6⟩; have hw7 := hw6.symm; subst hw7; clear hw6; first | rw [q3])
  go_ret
  exact ⟨rfl, H0⟩

set_option maxRecDepth 20000 in
set_option maxHeartbeats 2000000 in
theorem ct5 (w : World) (c h t d : Int) (hi : Bool) (p : Int) (l : List Cr) (v : Value) (hv : RowSl Cr.vals w l v) (q1 : decide (c < 1) = false) (q2 : decide (h < c) = false) (q3 : within t 1 10000 = true) (q4 : decide (d < c) = false) (q5 : within p 0 1000 = false) : Calls Tryd.prog 23 #[(Cr.mk c h t d hi p).val, v] w fun r w' => r = .returned (.int .i64 (wrongC (Cr.mk c h t d hi p) l)) ∧ Below w.heap.size w w' := by
  have hW : wrongC (Cr.mk c h t d hi p) l = 3 := by
    unfold wrongC rangeC orderC
    dsimp only
    first | (simp only [q1, q2, q3, q4, q5]; rfl) | (simp [q1, q2, q3, q4, q5]; done)
  rw [hW]
  clear hW
  unfold Cr.val
  dsimp only
  have H0 := below_new w (.cells #[.int .i64 c, .int .i64 h, .int .i64 t, .int .i64 d, .bool hi, .int .i64 p] 27)
  obtain ⟨ad, cc, rfl, -⟩ := hv
  go_enter Tryd.func23, Tryd.ntmps23
  go_wp2_with (go_at_call 22; refine (withinM_any _ _ _ _).mono ?_; rintro r w6 ⟨rfl, hw6⟩; have hw7 := hw6.symm; subst hw7; clear hw6; first | rw [q3] | rw [q5])
  go_ret
  exact ⟨rfl, H0⟩

set_option maxRecDepth 20000 in
set_option maxHeartbeats 2000000 in
theorem ct6 (w : World) (c h t d : Int) (hi : Bool) (p : Int) (l : List Cr) (v : Value) (hv : RowSl Cr.vals w l v) (q1 : decide (c < 1) = false) (q2 : decide (h < c) = false) (q3 : within t 1 10000 = true) (q4 : decide (d < c) = false) (q5 : within p 0 1000 = true) (q6 : decide (t < d) = true) : Calls Tryd.prog 23 #[(Cr.mk c h t d hi p).val, v] w fun r w' => r = .returned (.int .i64 (wrongC (Cr.mk c h t d hi p) l)) ∧ Below w.heap.size w w' := by
  have hW : wrongC (Cr.mk c h t d hi p) l = 12 := by
    unfold wrongC rangeC orderC
    dsimp only
    first | (simp only [q1, q2, q3, q4, q5, q6]; rfl) | (simp [q1, q2, q3, q4, q5, q6]; done)
  rw [hW]
  clear hW
  unfold Cr.val
  dsimp only
  have H0 := below_new w (.cells #[.int .i64 c, .int .i64 h, .int .i64 t, .int .i64 d, .bool hi, .int .i64 p] 27)
  obtain ⟨ad, cc, rfl, -⟩ := hv
  go_enter Tryd.func23, Tryd.ntmps23
  go_wp2_with (go_at_call 22; refine (withinM_any _ _ _ _).mono ?_; rintro r w6 ⟨rfl, hw6⟩; have hw7 := hw6.symm; subst hw7; clear hw6; first | rw [q3] | rw [q5])
  go_ret
  exact ⟨rfl, H0⟩

set_option maxRecDepth 20000 in
set_option maxHeartbeats 2000000 in
theorem ct7 (w : World) (c h t d : Int) (hi : Bool) (p : Int) (l : List Cr) (v : Value) (hv : RowSl Cr.vals w l v) (q1 : decide (c < 1) = false) (q2 : decide (h < c) = false) (q3 : within t 1 10000 = true) (q4 : decide (d < c) = false) (q5 : within p 0 1000 = true) (q6 : decide (t < d) = false) (q7 : decide (d < h) = true) : Calls Tryd.prog 23 #[(Cr.mk c h t d hi p).val, v] w fun r w' => r = .returned (.int .i64 (wrongC (Cr.mk c h t d hi p) l)) ∧ Below w.heap.size w w' := by
  have hW : wrongC (Cr.mk c h t d hi p) l = 12 := by
    unfold wrongC rangeC orderC
    dsimp only
    first | (simp only [q1, q2, q3, q4, q5, q6, q7]; rfl) | (simp [q1, q2, q3, q4, q5, q6, q7]; done)
  rw [hW]
  clear hW
  unfold Cr.val
  dsimp only
  have H0 := below_new w (.cells #[.int .i64 c, .int .i64 h, .int .i64 t, .int .i64 d, .bool hi, .int .i64 p] 27)
  obtain ⟨ad, cc, rfl, -⟩ := hv
  go_enter Tryd.func23, Tryd.ntmps23
  go_wp2_with (go_at_call 22; refine (withinM_any _ _ _ _).mono ?_; rintro r w6 ⟨rfl, hw6⟩; have hw7 := hw6.symm; subst hw7; clear hw6; first | rw [q3] | rw [q5])
  go_ret
  exact ⟨rfl, H0⟩

set_option maxRecDepth 20000 in
set_option maxHeartbeats 2000000 in
theorem ct8 (w : World) (c h t d : Int) (hi : Bool) (p : Int) (l : List Cr) (v : Value) (hv : RowSl Cr.vals w l v) (q1 : decide (c < 1) = false) (q2 : decide (h < c) = false) (q3 : within t 1 10000 = true) (q4 : decide (d < c) = false) (q5 : within p 0 1000 = true) (q6 : decide (t < d) = false) (q7 : decide (d < h) = false) (q9 : (h != c) = true) (q8 : hi = false) : Calls Tryd.prog 23 #[(Cr.mk c h t d hi p).val, v] w fun r w' => r = .returned (.int .i64 (wrongC (Cr.mk c h t d hi p) l)) ∧ Below w.heap.size w w' := by
  have hW : wrongC (Cr.mk c h t d hi p) l = 12 := by
    unfold wrongC rangeC orderC
    dsimp only
    first | (simp only [q1, q2, q3, q4, q5, q6, q7, q8, q9]; rfl) | (simp [q1, q2, q3, q4, q5, q6, q7, q8, q9]; done)
  rw [hW]
  clear hW
  unfold Cr.val
  dsimp only
  have H0 := below_new w (.cells #[.int .i64 c, .int .i64 h, .int .i64 t, .int .i64 d, .bool hi, .int .i64 p] 27)
  obtain ⟨ad, cc, rfl, -⟩ := hv
  subst q8
  go_enter Tryd.func23, Tryd.ntmps23
  go_wp2_with (go_at_call 22; refine (withinM_any _ _ _ _).mono ?_; rintro r w6 ⟨rfl, hw6⟩; have hw7 := hw6.symm; subst hw7; clear hw6; first | rw [q3] | rw [q5])
  go_ret
  exact ⟨rfl, H0⟩

set_option maxRecDepth 20000 in
set_option maxHeartbeats 2000000 in
theorem ct9 (w : World) (c h t d : Int) (hi : Bool) (p : Int) (l : List Cr) (v : Value) (hl : l.length ≤ 1000000) (hv : RowSl Cr.vals w l v) (q1 : decide (c < 1) = false) (q2 : decide (h < c) = false) (q3 : within t 1 10000 = true) (q4 : decide (d < c) = false) (q5 : within p 0 1000 = true) (q6 : decide (t < d) = false) (q7 : decide (d < h) = false) (qa : (l.any fun y => y.p == p) = true) (q8 : hi = true) : Calls Tryd.prog 23 #[(Cr.mk c h t d hi p).val, v] w fun r w' => r = .returned (.int .i64 (wrongC (Cr.mk c h t d hi p) l)) ∧ Below w.heap.size w w' := by
  have hW : wrongC (Cr.mk c h t d hi p) l = 5 := by
    unfold wrongC rangeC orderC
    dsimp only
    first | (simp only [q1, q2, q3, q4, q5, q6, q7, q8, qa]; rfl) | (simp [q1, q2, q3, q4, q5, q6, q7, q8, qa]; done)
  rw [hW]
  clear hW
  unfold Cr.val
  dsimp only
  have HV : Hid (RowSl Cr.vals (w.alloc (.cells #[.int .i64 c, .int .i64 h, .int .i64 t, .int .i64 d, .bool hi, .int .i64 p] 27)) l v) := hv.below (below_new _ _)
  have H0 := below_new w (.cells #[.int .i64 c, .int .i64 h, .int .i64 t, .int .i64 d, .bool hi, .int .i64 p] 27)
  obtain ⟨ad, cc, rfl, -⟩ := hv
  have HC := containsC_any (w.alloc (.cells #[.int .i64 c, .int .i64 h, .int .i64 t, .int .i64 d, .bool hi, .int .i64 p] 27)) l (.slice ad l.length cc) p w.heap.size hl HV.out (by go_simp)
  rw [qa] at HC
  subst q8
  go_enter Tryd.func23, Tryd.ntmps23
  go_wp2_with (first | (go_at_call 22; refine (withinM_any _ _ _ _).mono ?_; rintro r w6 ⟨rfl, hw6⟩; have hw7 := hw6.symm; subst hw7; clear hw6; first | rw [q3] | rw [q5]) | (go_at_call 33; refine HC.mono ?_; rintro r w2 ⟨rfl, hb2⟩; have H2 : Hid (Below w.heap.size w w2) := below_seq H0 hb2; clear hb2 HC))
  go_ret
  exact ⟨rfl, H2.out⟩

set_option maxRecDepth 20000 in
set_option maxHeartbeats 2000000 in
theorem cta (w : World) (c h t d : Int) (hi : Bool) (p : Int) (l : List Cr) (v : Value) (hl : l.length ≤ 1000000) (hv : RowSl Cr.vals w l v) (q1 : decide (c < 1) = false) (q2 : decide (h < c) = false) (q3 : within t 1 10000 = true) (q4 : decide (d < c) = false) (q5 : within p 0 1000 = true) (q6 : decide (t < d) = false) (q7 : decide (d < h) = false) (qa : (l.any fun y => y.p == p) = false) (q8 : hi = true) : Calls Tryd.prog 23 #[(Cr.mk c h t d hi p).val, v] w fun r w' => r = .returned (.int .i64 (wrongC (Cr.mk c h t d hi p) l)) ∧ Below w.heap.size w w' := by
  have hW : wrongC (Cr.mk c h t d hi p) l = 0 := by
    unfold wrongC rangeC orderC
    dsimp only
    first | (simp only [q1, q2, q3, q4, q5, q6, q7, q8, qa]; rfl) | (simp [q1, q2, q3, q4, q5, q6, q7, q8, qa]; done)
  rw [hW]
  clear hW
  unfold Cr.val
  dsimp only
  have HV : Hid (RowSl Cr.vals (w.alloc (.cells #[.int .i64 c, .int .i64 h, .int .i64 t, .int .i64 d, .bool hi, .int .i64 p] 27)) l v) := hv.below (below_new _ _)
  have H0 := below_new w (.cells #[.int .i64 c, .int .i64 h, .int .i64 t, .int .i64 d, .bool hi, .int .i64 p] 27)
  obtain ⟨ad, cc, rfl, -⟩ := hv
  have HC := containsC_any (w.alloc (.cells #[.int .i64 c, .int .i64 h, .int .i64 t, .int .i64 d, .bool hi, .int .i64 p] 27)) l (.slice ad l.length cc) p w.heap.size hl HV.out (by go_simp)
  rw [qa] at HC
  subst q8
  go_enter Tryd.func23, Tryd.ntmps23
  go_wp2_with (first | (go_at_call 22; refine (withinM_any _ _ _ _).mono ?_; rintro r w6 ⟨rfl, hw6⟩; have hw7 := hw6.symm; subst hw7; clear hw6; first | rw [q3] | rw [q5]) | (go_at_call 33; refine HC.mono ?_; rintro r w2 ⟨rfl, hb2⟩; have H2 : Hid (Below w.heap.size w w2) := below_seq H0 hb2; clear hb2 HC))
  go_ret
  exact ⟨rfl, H2.out⟩

set_option maxRecDepth 20000 in
set_option maxHeartbeats 2000000 in
theorem ctb (w : World) (c h t d : Int) (hi : Bool) (p : Int) (l : List Cr) (v : Value) (hl : l.length ≤ 1000000) (hv : RowSl Cr.vals w l v) (q1 : decide (c < 1) = false) (q2 : decide (h < c) = false) (q3 : within t 1 10000 = true) (q4 : decide (d < c) = false) (q5 : within p 0 1000 = true) (q6 : decide (t < d) = false) (q7 : decide (d < h) = false) (q9 : (h != c) = false) (qa : (l.any fun y => y.p == p) = true) (q8 : hi = false) : Calls Tryd.prog 23 #[(Cr.mk c h t d hi p).val, v] w fun r w' => r = .returned (.int .i64 (wrongC (Cr.mk c h t d hi p) l)) ∧ Below w.heap.size w w' := by
  have hW : wrongC (Cr.mk c h t d hi p) l = 5 := by
    unfold wrongC rangeC orderC
    dsimp only
    first | (simp only [q1, q2, q3, q4, q5, q6, q7, q8, q9, qa]; rfl) | (simp [q1, q2, q3, q4, q5, q6, q7, q8, q9, qa]; done)
  rw [hW]
  clear hW
  unfold Cr.val
  dsimp only
  have HV : Hid (RowSl Cr.vals (w.alloc (.cells #[.int .i64 c, .int .i64 h, .int .i64 t, .int .i64 d, .bool hi, .int .i64 p] 27)) l v) := hv.below (below_new _ _)
  have H0 := below_new w (.cells #[.int .i64 c, .int .i64 h, .int .i64 t, .int .i64 d, .bool hi, .int .i64 p] 27)
  obtain ⟨ad, cc, rfl, -⟩ := hv
  have HC := containsC_any (w.alloc (.cells #[.int .i64 c, .int .i64 h, .int .i64 t, .int .i64 d, .bool hi, .int .i64 p] 27)) l (.slice ad l.length cc) p w.heap.size hl HV.out (by go_simp)
  rw [qa] at HC
  subst q8
  go_enter Tryd.func23, Tryd.ntmps23
  go_wp2_with (first | (go_at_call 22; refine (withinM_any _ _ _ _).mono ?_; rintro r w6 ⟨rfl, hw6⟩; have hw7 := hw6.symm; subst hw7; clear hw6; first | rw [q3] | rw [q5]) | (go_at_call 33; refine HC.mono ?_; rintro r w2 ⟨rfl, hb2⟩; have H2 : Hid (Below w.heap.size w w2) := below_seq H0 hb2; clear hb2 HC))
  go_ret
  exact ⟨rfl, H2.out⟩

set_option maxRecDepth 20000 in
set_option maxHeartbeats 2000000 in
theorem ctc (w : World) (c h t d : Int) (hi : Bool) (p : Int) (l : List Cr) (v : Value) (hl : l.length ≤ 1000000) (hv : RowSl Cr.vals w l v) (q1 : decide (c < 1) = false) (q2 : decide (h < c) = false) (q3 : within t 1 10000 = true) (q4 : decide (d < c) = false) (q5 : within p 0 1000 = true) (q6 : decide (t < d) = false) (q7 : decide (d < h) = false) (q9 : (h != c) = false) (qa : (l.any fun y => y.p == p) = false) (q8 : hi = false) : Calls Tryd.prog 23 #[(Cr.mk c h t d hi p).val, v] w fun r w' => r = .returned (.int .i64 (wrongC (Cr.mk c h t d hi p) l)) ∧ Below w.heap.size w w' := by
  have hW : wrongC (Cr.mk c h t d hi p) l = 0 := by
    unfold wrongC rangeC orderC
    dsimp only
    first | (simp only [q1, q2, q3, q4, q5, q6, q7, q8, q9, qa]; rfl) | (simp [q1, q2, q3, q4, q5, q6, q7, q8, q9, qa]; done)
  rw [hW]
  clear hW
  unfold Cr.val
  dsimp only
  have HV : Hid (RowSl Cr.vals (w.alloc (.cells #[.int .i64 c, .int .i64 h, .int .i64 t, .int .i64 d, .bool hi, .int .i64 p] 27)) l v) := hv.below (below_new _ _)
  have H0 := below_new w (.cells #[.int .i64 c, .int .i64 h, .int .i64 t, .int .i64 d, .bool hi, .int .i64 p] 27)
  obtain ⟨ad, cc, rfl, -⟩ := hv
  have HC := containsC_any (w.alloc (.cells #[.int .i64 c, .int .i64 h, .int .i64 t, .int .i64 d, .bool hi, .int .i64 p] 27)) l (.slice ad l.length cc) p w.heap.size hl HV.out (by go_simp)
  rw [qa] at HC
  subst q8
  go_enter Tryd.func23, Tryd.ntmps23
  go_wp2_with (first | (go_at_call 22; refine (withinM_any _ _ _ _).mono ?_; rintro r w6 ⟨rfl, hw6⟩; have hw7 := hw6.symm; subst hw7; clear hw6; first | rw [q3] | rw [q5]) | (go_at_call 33; refine HC.mono ?_; rintro r w2 ⟨rfl, hb2⟩; have H2 : Hid (Below w.heap.size w w2) := below_seq H0 hb2; clear hb2 HC))
  go_ret
  exact ⟨rfl, H2.out⟩

theorem checkTask_any (w : World) (x : Cr) (l : List Cr) (v : Value) (hl : l.length ≤ 1000000) (hv : RowSl Cr.vals w l v) : Calls Tryd.prog 23 #[x.val, v] w fun r w' => r = .returned (.int .i64 (wrongC x l)) ∧ Below w.heap.size w w' := by
  obtain ⟨c, h, t, d, hi, p⟩ := x
  rcases Bool.eq_false_or_eq_true (decide (c < 1)) with q1 | q1
  · exact ct1 w c h t d hi p l v hv q1
  rcases Bool.eq_false_or_eq_true (decide (h < c)) with q2 | q2
  · exact ct2 w c h t d hi p l v hv q1 q2
  rcases (Bool.eq_false_or_eq_true (within t 1 10000)).symm with q3 | q3
  · exact ct3 w c h t d hi p l v hv q1 q2 q3
  rcases Bool.eq_false_or_eq_true (decide (d < c)) with q4 | q4
  · exact ct4 w c h t d hi p l v hv q1 q2 q3 q4
  rcases (Bool.eq_false_or_eq_true (within p 0 1000)).symm with q5 | q5
  · exact ct5 w c h t d hi p l v hv q1 q2 q3 q4 q5
  rcases Bool.eq_false_or_eq_true (decide (t < d)) with q6 | q6
  · exact ct6 w c h t d hi p l v hv q1 q2 q3 q4 q5 q6
  rcases Bool.eq_false_or_eq_true (decide (d < h)) with q7 | q7
  · exact ct7 w c h t d hi p l v hv q1 q2 q3 q4 q5 q6 q7
  rcases Bool.eq_false_or_eq_true hi with q8 | q8
  · rcases Bool.eq_false_or_eq_true (l.any fun y => y.p == p) with qa | qa
    · exact ct9 w c h t d hi p l v hl hv q1 q2 q3 q4 q5 q6 q7 qa q8
    · exact cta w c h t d hi p l v hl hv q1 q2 q3 q4 q5 q6 q7 qa q8
  · rcases Bool.eq_false_or_eq_true (h != c) with q9 | q9
    · exact ct8 w c h t d hi p l v hv q1 q2 q3 q4 q5 q6 q7 q9 q8
    · rcases Bool.eq_false_or_eq_true (l.any fun y => y.p == p) with qa | qa
      · exact ctb w c h t d hi p l v hl hv q1 q2 q3 q4 q5 q6 q7 q9 qa q8
      · exact ctc w c h t d hi p l v hl hv q1 q2 q3 q4 q5 q6 q7 q9 qa q8
end Go.Proofs.YtccoobcggbbciahDoor
namespace Go.Proofs.YtccoobcggbbciahDoor
open Go.ChangeShapes Go.WideShapes Go.ChangeAt Go.RowKit

theorem CheckM_ends {w : World} {g : Nat} {c k : Value} {a : Act} (h : w.heap[g]? = some (.cells #[c, k] 31 (0, 0))) (h3 : a.tmps[2]?.getD undef = .pointer (some ⟨g, 0, none⟩)) :
    (results Tryd.f9 a.tmps).run Tryd.prog w = .ok (.agg #[c, k]) w := by
  obtain ⟨c1, f1, l1⟩ := cells_of (l := [_, _]) h
  have c10 := c1 0 _ rfl
  have c11 := c1 1 _ rfl
  simp [results, Tryd.results9, go_sem, h3, c10, c11]

set_option maxRecDepth 20000 in
theorem CheckM_many (w : World) (n c : Nat) (ad : Option Addr) (h : n = 0 ∨ 8 < n) : Calls Tryd.prog 9 #[.slice ad n c] w fun r w' => r = .returned (.agg #[.int .i64 2, .int .i64 0]) ∧ Below w.heap.size w w' := by
  have hw : within (n : Int) 1 8 = false := by unfold within; simp; omega
  go_enter Tryd.func9, Tryd.ntmps9
  go_wp2_with (go_at_call 22; refine (withinM_any _ _ _ _).mono ?_; rintro r w1 ⟨rfl, rfl⟩; rw [hw])
  refine bodyPost_ret (CheckM_ends (heap_alloc_new _ _) rfl) rfl ?_
  exact ⟨rfl, below_new _ _⟩

set_option maxRecDepth 20000 in
set_option maxHeartbeats 4000000 in
theorem CheckM_few (w : World) (l : List Cr) (ad : Option Addr) (c : Nat) (h1 : l.length ≠ 0) (h8 : l.length ≤ 8) (hv : RowSl Cr.vals w l (.slice ad l.length c)) : Calls Tryd.prog 9 #[.slice ad l.length c] w fun r w' => r = .returned (.agg #[.int .i64 (chkCFrom l l 0).1, .int .i64 (chkCFrom l l 0).2]) ∧ Below w.heap.size w w' := by
  have hw : within (l.length : Int) 1 8 = true := by unfold within; simp; omega
  have HV : Hid (RowSl Cr.vals w l (.slice ad l.length c)) := hv
  obtain ⟨_, _, e, -, hcap, hrow⟩ := hv
  cases e
  rcases hrow with h | ⟨b, o, rfl, hrow⟩
  · rw [h] at h1; simp at h1
  have HR : Hid (∀ q u, (l.flatMap Cr.vals)[q]? = some u → w.cell? ⟨b, o + q, none⟩ = some u) := hrow
  clear hrow
  go_enter Tryd.func9, Tryd.ntmps9
  go_wp2_with (go_at_call 22; refine (withinM_any _ _ _ _).mono ?_; rintro r w1 ⟨rfl, rfl⟩; rw [hw])
  go_loopw [13] (fun i wr => ∃ j : Nat, j ≤ l.length ∧ i = .int .i64 j ∧ FB w wr w.heap.size ∧ chkCFrom l (l.drop j) j = chkCFrom l l 0) (fun i _ => l.length - (intOf i).toNat)
  case atStart => exact ⟨0, Nat.zero_le _, rfl, FB.start _, rfl⟩
  case round =>
    obtain ⟨j, hj, rfl, hb, hf⟩ := hrel
    by_cases hlt : j < l.length
    · obtain ⟨x, hx, hd⟩ := drop_at hlt
      rw [chkCFrom_at hd] at hf
      have ha := cr_at (fun q u hq => below_cell hb.bel (HR.out q u hq)) hx
      have hsl := (HV.out.below hb.bel).take j hj
      obtain ⟨c0, c1, c2, c3, c4, c5⟩ := ha
      have lb : b < wr.heap.size := World.block_lt_of_cell? _ _ c0
      have hj' : (j : Int) ≤ (l.length : Int) := by omega
      have hjc : (j : Int) ≤ (c : Int) := by omega
      have HW := checkTask_any ((wr.alloc (.cells #[.int .i64 x.c, .int .i64 x.h, .int .i64 x.t, .int .i64 x.d, .bool x.hi, .int .i64 x.p] 27)).drew) x (l.take j) (.slice (some ⟨b, o, none⟩) j c) (by simp; omega) ((hsl.below (below_new _ _)).below (Below.refl _ _).drew)
      unfold Cr.val at HW
      have HB : Hid (FB w (wr.alloc (.cells #[.int .i64 x.c, .int .i64 x.h, .int .i64 x.t, .int .i64 x.d, .bool x.hi, .int .i64 x.p] 27)).drew w.heap.size) := (hb.grow (below_new _ _)).grow (Below.refl _ _).drew
      have HF : Hid ((if wrongC x (List.take j l) = 0 then chkCFrom l (List.drop (j + 1) l) (j + 1) else (wrongC x (List.take j l), (j : Int))) = chkCFrom l l 0) := hf
      generalize wrongC x (l.take j) = z at *
      clear hsl hb hf
      go_wp2_with fail
      refine wp_region_noPanic ?_
      refine wp_region_held_drew (S := fun w' => w'.cell? ⟨wr.heap.size, 0, none⟩ = some (.int .i64 x.c) ∧ w'.cell? ⟨wr.heap.size, 1, none⟩ = some (.int .i64 x.h) ∧ w'.cell? ⟨wr.heap.size, 2, none⟩ = some (.int .i64 x.t) ∧ w'.cell? ⟨wr.heap.size, 3, none⟩ = some (.int .i64 x.d) ∧ w'.cell? ⟨wr.heap.size, 4, none⟩ = some (.bool x.hi) ∧ w'.cell? ⟨wr.heap.size, 5, none⟩ = some (.int .i64 x.p)) (by kernel_rfl) (by refine ⟨?_, ?_, ?_, ?_, ?_, ?_⟩ <;> go_simp) (fun hHeld => ?_)
      refine take_at (i := 0) (n := 18) (v := ?_) rfl rfl (by kernel_rfl) (by kernel_rfl) (by kernel_rfl) (fun _ _ _ h => h) (Or.inl ⟨by rfl, ?_⟩) (by assumption) ?_
      rotate_left 1
      · intro wz hSw
        obtain ⟨k0, k1, k2, k3, k4, k5⟩ := hSw
        first | (go_simp; done) | (go_simp; with_reducible rfl)
      simp only [List.set_cons_zero, List.set_cons_succ]
      refine take_at (i := 1) (n := 19) (v := ?_) rfl rfl (by kernel_rfl) (by kernel_rfl) (by kernel_rfl) (fun _ _ _ h => h) (Or.inl ⟨by rfl, ?_⟩) (by assumption) ?_
      rotate_left 1
      · intro wz hSw
        first | (go_simp; done) | (go_simp; with_reducible rfl)
      simp only [List.set_cons_zero, List.set_cons_succ]
      refine take_at (i := 2) (n := 20) (v := ?_) rfl rfl (by kernel_rfl) (by kernel_rfl) (by kernel_rfl) (fun _ _ _ h => h) (Or.inl ⟨by rfl, ?_⟩) (by assumption) ?_
      rotate_left 1
      · intro wz hSw
        first | (go_simp; done) | (go_simp; with_reducible rfl)
      simp only [List.set_cons_zero, List.set_cons_succ]
      refine take_at (i := 3) (n := 21) (v := ?_) rfl rfl (by kernel_rfl) (by kernel_rfl) (by kernel_rfl) (fun _ _ _ h => h) (Or.inl ⟨by rfl, ?_⟩) (by assumption) ?_
      rotate_left 1
      · intro wz hSw
        first | (go_simp; done) | (go_simp; with_reducible rfl)
      simp only [List.set_cons_zero, List.set_cons_succ]
      refine wpAnyH_ready (rs := [4]) (by kernel_rfl) (by simp) ?_
      refine AllReadyH.cons rfl (fun K hK => ?_) AllReadyH.nil
      go_wp2_with (go_at_call 23; refine HW.mono ?_; rintro r w1 ⟨rfl, hb1⟩)
      have H1 : Hid (FB w w1 w.heap.size) := HB.out.grow hb1
      refine hK.out _ _ (by refine ⟨?_, ?_, ?_, ?_, ?_, ?_⟩ <;> exact below_cell hb1 (by go_simp)) (fun hHeld => ?_)
      clear hK K HW
      refine take_at (i := 5) (n := 5) (v := ?_) rfl rfl (by kernel_rfl) (by kernel_rfl) (by kernel_rfl) (fun _ _ _ h => h) (Or.inl ⟨by rfl, ?_⟩) (by assumption) ?_
      rotate_left 1
      · intro wz hSw
        first | (go_simp; done) | (go_simp; with_reducible rfl)
      simp only [List.set_cons_zero, List.set_cons_succ]
      refine wpAnyH_done (by kernel_rfl) ?_ _
      refine NoPanic.normal ?_
      obtain ⟨rs1, rf1, rl1⟩ := cells_of (l := [_, _]) H1.out.res
      have r10 := rs1 0 _ rfl
      have r11 := rs1 1 _ rfl
      have f10 := rf1 0
      have f11 := rf1 1
      clear rs1 rf1 hb1 hHeld
      by_cases hz : z = 0
      · subst hz
        have e := HF.out
        rw [if_pos rfl] at e
        go_wp2_with fail
        go_roundw
        case rel => exact ⟨j + 1, by omega, by go_num, H1.out, e⟩
        case measure => simp [intOf]; omega
      · have e := HF.out
        rw [if_neg hz] at e
        have hzb : (z != 0) = true := by simpa using hz
        go_wp2_with fail
        refine bodyPost_ret (CheckM_ends (set_two H1.out.res) rfl) rfl ?_
        exact ⟨by rw [← e], H1.out.set _ _⟩
    · have hje : j = l.length := by omega
      subst hje
      rw [List.drop_length, chkCFrom] at hf
      have H1 : Hid (FB w wr w.heap.size) := hb
      obtain ⟨rs1, rf1, rl1⟩ := cells_of (l := [_, _]) hb.res
      have r10 := rs1 0 _ rfl
      have r11 := rs1 1 _ rfl
      have f10 := rf1 0
      have f11 := rf1 1
      clear rs1 rf1 hb
      have HF : Hid ((0, 0) = chkCFrom l l 0) := hf
      clear hf
      go_wp2_with fail
      refine bodyPost_ret (CheckM_ends (set_two H1.out.res) rfl) rfl ?_
      exact ⟨by rw [← HF.out], H1.out.set _ _⟩

/-- tasks.Check. -/
theorem CheckM_any (w : World) (l : List Cr) (v : Value) (hv : RowSl Cr.vals w l v) : Calls Tryd.prog 9 #[v] w fun r w' => r = .returned (.agg #[.int .i64 (chkC l).1, .int .i64 (chkC l).2]) ∧ Below w.heap.size w w' := by
  obtain ⟨ad, c, rfl⟩ := hv.len
  unfold chkC
  by_cases h : l.length = 0 ∨ 8 < l.length
  · rw [if_pos h]
    exact CheckM_many w l.length c ad h
  · rw [if_neg h]
    exact CheckM_few w l ad c (by omega) (by omega) hv
end Go.Proofs.YtccoobcggbbciahDoor
