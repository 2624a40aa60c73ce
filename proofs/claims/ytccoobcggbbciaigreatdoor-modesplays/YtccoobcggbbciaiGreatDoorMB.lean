import Derived.Test.YtccoobcggbbciaiGreatDoorTK
namespace Go.Proofs.YtccoobcggbbciaiGreatDoor
open Go.ChangeShapes Go.WideShapes Go.ChangeAt Go.RowKit

/-- A task of two levels. -/
structure Cr where
  c : Int
  h : Int
  t : Int
  d : Int
  hi : Bool
  p : Int

def Cr.vals (x : Cr) : List Value := [.int .i64 x.c, .int .i64 x.h, .int .i64 x.t, .int .i64 x.d, .bool x.hi, .int .i64 x.p]
def Cr.val (x : Cr) : Value := .agg #[.int .i64 x.c, .int .i64 x.h, .int .i64 x.t, .int .i64 x.d, .bool x.hi, .int .i64 x.p]
theorem Cr.len (x : Cr) : x.vals.length = 6 := rfl
theorem Cr.one {x : Cr} {u : Value} (h : u ∈ x.vals) : u.oneCell' = true := by
  simp only [Cr.vals, List.mem_cons, List.not_mem_nil, or_false] at h
  rcases h with rfl | rfl | rfl | rfl | rfl | rfl <;> rfl

/-- The six cells of such a task. -/
def CrAt (w : World) (b o : Nat) (x : Cr) : Prop := w.cell? ⟨b, o, none⟩ = some (.int .i64 x.c) ∧ w.cell? ⟨b, o + 1, none⟩ = some (.int .i64 x.h) ∧ w.cell? ⟨b, o + 2, none⟩ = some (.int .i64 x.t) ∧ w.cell? ⟨b, o + 3, none⟩ = some (.int .i64 x.d) ∧ w.cell? ⟨b, o + 4, none⟩ = some (.bool x.hi) ∧ w.cell? ⟨b, o + 5, none⟩ = some (.int .i64 x.p)

theorem cr_at {w : World} {l : List Cr} {b o j : Nat} {x : Cr} (h : ∀ q u, (l.flatMap Cr.vals)[q]? = some u → w.cell? ⟨b, o + q, none⟩ = some u) (hj : l[j]? = some x) : CrAt w b (o + j * 6) x := by
  have key : ∀ k u, k < 6 → x.vals[k]? = some u → w.cell? ⟨b, o + j * 6 + k, none⟩ = some u := fun k u hk hu => by
    rw [Nat.add_assoc]
    exact h _ _ ((flat_at Cr.vals 6 Cr.len l j k x hj hk).trans hu)
  exact ⟨key 0 _ (by omega) rfl, key 1 _ (by omega) rfl, key 2 _ (by omega) rfl, key 3 _ (by omega) rfl, key 4 _ (by omega) rfl, key 5 _ (by omega) rfl⟩

theorem CrAt.below {w w' : World} {b o : Nat} {x : Cr} (h : CrAt w b o x) (hb : Below w.heap.size w w') : CrAt w' b o x :=
  ⟨below_cell hb h.1, below_cell hb h.2.1, below_cell hb h.2.2.1, below_cell hb h.2.2.2.1, below_cell hb h.2.2.2.2.1, below_cell hb h.2.2.2.2.2⟩

/- What is wrong with such a task. -/
def rangeC (x : Cr) : Bool := decide (x.c < 1) || decide (x.h < x.c) || !(within x.t 1 10000) || decide (x.d < x.c) || !(within x.p 0 1000)
def orderC (x : Cr) : Bool := decide (x.t < x.d) || decide (x.d < x.h) || (!x.hi && x.h != x.c)
def wrongC (x : Cr) (ahead : List Cr) : Int := if rangeC x = true then 3 else if orderC x = true then 12 else if ahead.any (fun y => y.p == x.p) = true then 5 else 0
def chkCFrom (l : List Cr) : List Cr → Nat → Int × Int
  | [], _ => (0, 0)
  | x :: r, k => if wrongC x (l.take k) = 0 then chkCFrom l r (k + 1) else (wrongC x (l.take k), (k : Int))
/-- chapter 13's Check. -/
def chkC (l : List Cr) : Int × Int := if l.length = 0 ∨ 8 < l.length then (2, 0) else chkCFrom l l 0

theorem chkCFrom_at {l r : List Cr} {k : Nat} {x : Cr} (h : r = x :: l.drop (k + 1)) : chkCFrom l r k = if wrongC x (l.take k) = 0 then chkCFrom l (l.drop (k + 1)) (k + 1) else (wrongC x (l.take k), (k : Int)) := by
  subst h; rfl

/-- The first that has that priority. -/
def findP (s : Int) : List Cr → Nat → Int
  | [], _ => -1
  | y :: r, k => if (y.p == s) = true then (k : Int) else findP s r (k + 1)

theorem findP_any (s : Int) : ∀ (l : List Cr) (k : Nat), decide (0 ≤ findP s l k) = l.any (fun y => y.p == s)
  | [], k => by simp [findP]
  | y :: r, k => by
    by_cases h : (y.p == s) = true
    · simp [findP, h]
    · simp [findP, h, ← findP_any s r (k + 1)]

theorem withinM_any (w : World) (n a b : Int) : Calls Tryz.prog 55 #[.int .i64 n, .int .i64 a, .int .i64 b] w fun r w' => r = .returned (.bool (within n a b)) ∧ w' = w := by
  unfold within
  go_enter Tryz.func55, Tryz.ntmps55
  rcases Bool.eq_false_or_eq_true (decide (a ≤ n)) with h1 | h1 <;> rcases Bool.eq_false_or_eq_true (decide (n ≤ b)) with h2 | h2 <;> rw [h1, h2] <;> (go_wp2_with fail; go_ret; exact ⟨rfl, rfl⟩)

theorem samePr_any (w : World) (y : Cr) (s : Int) (g : Nat) (hx : w.cell? ⟨g, 5, none⟩ = some (.int .i64 s)) : Calls Tryz.prog 134 #[y.val, .pointer (some ⟨g, 0, none⟩)] w fun r w' => r = .returned (.bool (y.p == s)) ∧ Below w.heap.size w w' := by
  obtain ⟨c, h, t, d, hi, p⟩ := y
  unfold Cr.val
  dsimp only
  have hlt : g < w.heap.size := World.block_lt_of_cell? _ _ hx
  go_enter Tryz.func134, Tryz.ntmps134
  go_wp2_with fail
  go_ret
  exact ⟨rfl, below_new _ _⟩

set_option maxRecDepth 20000 in
set_option maxHeartbeats 4000000 in
theorem indexC_any (w : World) (l : List Cr) (v : Value) (s : Int) (g : Nat) (hl : l.length ≤ 1000000) (hv : RowSl Cr.vals w l v) (hx : w.cell? ⟨g, 5, none⟩ = some (.int .i64 s)) : Calls Tryz.prog 156 #[v, .func (Fn.func 134) #[] #[.pointer (some ⟨g, 0, none⟩)]] w fun r w' => r = .returned (.int .i64 (findP s l 0)) ∧ Below w.heap.size w w' := by
  obtain ⟨ad, c, rfl, -, hcap, hrow⟩ := hv
  go_enter Tryz.func156, Tryz.ntmps156
  go_wp2_with fail
  have HR : Hid (_ ∧ _) := ⟨hrow, hx⟩
  clear hrow hx
  go_loopw [8] (fun i wr => ∃ j : Nat, j ≤ l.length ∧ i = .int .i64 j ∧ Below w.heap.size w wr ∧ findP s (l.drop j) j = findP s l 0) (fun i _ => l.length - (intOf i).toNat)
  case atStart => exact ⟨0, Nat.zero_le _, rfl, Below.refl _ _, rfl⟩
  case round =>
    obtain ⟨j, hj, rfl, hb, hf⟩ := hrel
    by_cases hlt : j < l.length
    · obtain ⟨y, hy, hd⟩ := drop_at hlt
      rw [hd, findP] at hf
      rcases HR.out.1 with h | ⟨b, o, rfl, hrow⟩
      · rw [h] at hlt; simp at hlt
      have ha := cr_at (fun q u hq => below_cell hb (hrow q u hq)) hy
      have hx := below_cell hb HR.out.2
      obtain ⟨c0, c1, c2, c3, c4, c5⟩ := ha
      have HY := samePr_any wr y s g hx
      unfold Cr.val at HY
      have HB : Hid (Below w.heap.size w wr) := hb
      have HF : Hid (_ = _) := hf
      clear hrow hb hf
      obtain ⟨yc, yh, yt, yd, yi, yp⟩ := y
      dsimp only at *
      generalize hq : (yp == s) = z at *
      go_wp2_with (go_at_call 134; refine HY.mono ?_; rintro r w1 ⟨rfl, hb1⟩)
      · have e := HF.out
        rw [if_pos ‹_›] at e
        go_ret
        exact ⟨by rw [← e]; rfl, below_seq HB.out hb1⟩
      · have e := HF.out
        rw [if_neg (by simp [*])] at e
        exact ⟨⟨j + 1, by omega, by simp, below_seq HB.out hb1, e⟩, by simp [intOf]; omega⟩
    · have hje : j = l.length := by omega
      subst hje
      rw [List.drop_length, findP] at hf
      go_wp2_with fail
      go_ret
      exact ⟨by rw [← hf]; rfl, hb⟩

set_option maxRecDepth 20000 in
theorem containsC_any (w : World) (l : List Cr) (v : Value) (s : Int) (g : Nat) (hl : l.length ≤ 1000000) (hv : RowSl Cr.vals w l v) (hx : w.cell? ⟨g, 5, none⟩ = some (.int .i64 s)) : Calls Tryz.prog 133 #[v, .func (Fn.func 134) #[] #[.pointer (some ⟨g, 0, none⟩)]] w fun r w' => r = .returned (.bool (l.any fun y => y.p == s)) ∧ Below w.heap.size w w' := by
  rw [← findP_any s l 0]
  have HI := indexC_any w l v s g hl hv hx
  obtain ⟨ad, c, rfl, -⟩ := hv
  go_enter Tryz.func133, Tryz.ntmps133
  go_wp2_with (go_at_call 156; refine HI.mono ?_; rintro r w1 ⟨rfl, hb1⟩)
  go_ret
  exact ⟨rfl, hb1⟩
end Go.Proofs.YtccoobcggbbciaiGreatDoor
namespace Go.Proofs.YtccoobcggbbciaiGreatDoor
open Go.ChangeShapes Go.WideShapes Go.ChangeAt Go.RowKit

set_option maxRecDepth 20000 in
set_option maxHeartbeats 2000000 in
theorem ct1 (w : World) (c h t d : Int) (hi : Bool) (p : Int) (l : List Cr) (v : Value) (hv : RowSl Cr.vals w l v) (q1 : decide (c < 1) = true) : Calls Tryz.prog 95 #[(Cr.mk c h t d hi p).val, v] w fun r w' => r = .returned (.int .i64 (wrongC (Cr.mk c h t d hi p) l)) ∧ Below w.heap.size w w' := by
  have hW : wrongC (Cr.mk c h t d hi p) l = 3 := by
    unfold wrongC rangeC orderC
    dsimp only
    first | (simp only [q1]; rfl) | (simp [q1]; done)
  rw [hW]
  clear hW
  unfold Cr.val
  dsimp only
  have H0 := below_new w (.cells #[.int .i64 c, .int .i64 h, .int .i64 t, .int .i64 d, .bool hi, .int .i64 p] 35)
  obtain ⟨ad, cc, rfl, -⟩ := hv
  go_enter Tryz.func95, Tryz.ntmps95
  go_wp2_with fail
  go_ret
  exact ⟨rfl, H0⟩

set_option maxRecDepth 20000 in
set_option maxHeartbeats 2000000 in
theorem ct2 (w : World) (c h t d : Int) (hi : Bool) (p : Int) (l : List Cr) (v : Value) (hv : RowSl Cr.vals w l v) (q1 : decide (c < 1) = false) (q2 : decide (h < c) = true) : Calls Tryz.prog 95 #[(Cr.mk c h t d hi p).val, v] w fun r w' => r = .returned (.int .i64 (wrongC (Cr.mk c h t d hi p) l)) ∧ Below w.heap.size w w' := by
  have hW : wrongC (Cr.mk c h t d hi p) l = 3 := by
    unfold wrongC rangeC orderC
    dsimp only
    first | (simp only [q1, q2]; rfl) | (simp [q1, q2]; done)
  rw [hW]
  clear hW
  unfold Cr.val
  dsimp only
  have H0 := below_new w (.cells #[.int .i64 c, .int .i64 h, .int .i64 t, .int .i64 d, .bool hi, .int .i64 p] 35)
  obtain ⟨ad, cc, rfl, -⟩ := hv
  go_enter Tryz.func95, Tryz.ntmps95
  go_wp2_with fail
  go_ret
  exact ⟨rfl, H0⟩

set_option maxRecDepth 20000 in
set_option maxHeartbeats 2000000 in
theorem ct3 (w : World) (c h t d : Int) (hi : Bool) (p : Int) (l : List Cr) (v : Value) (hv : RowSl Cr.vals w l v) (q1 : decide (c < 1) = false) (q2 : decide (h < c) = false) (q3 : within t 1 10000 = false) : Calls Tryz.prog 95 #[(Cr.mk c h t d hi p).val, v] w fun r w' => r = .returned (.int .i64 (wrongC (Cr.mk c h t d hi p) l)) ∧ Below w.heap.size w w' := by
  have hW : wrongC (Cr.mk c h t d hi p) l = 3 := by
    unfold wrongC rangeC orderC
    dsimp only
    first | (simp only [q1, q2, q3]; rfl) | (simp [q1, q2, q3]; done)
  rw [hW]
  clear hW
  unfold Cr.val
  dsimp only
  have H0 := below_new w (.cells #[.int .i64 c, .int .i64 h, .int .i64 t, .int .i64 d, .bool hi, .int .i64 p] 35)
  obtain ⟨ad, cc, rfl, -⟩ := hv
  go_enter Tryz.func95, Tryz.ntmps95
  go_wp2_with (go_at_call 55; refine (withinM_any _ _ _ _).mono ?_; rintro r w6 ⟨rfl, hw6⟩; have hw7 := hw6.symm; subst hw7; clear hw6; first | rw [q3])
  go_ret
  exact ⟨rfl, H0⟩

set_option maxRecDepth 20000 in
set_option maxHeartbeats 2000000 in
theorem ct4 (w : World) (c h t d : Int) (hi : Bool) (p : Int) (l : List Cr) (v : Value) (hv : RowSl Cr.vals w l v) (q1 : decide (c < 1) = false) (q2 : decide (h < c) = false) (q3 : within t 1 10000 = true) (q4 : decide (d < c) = true) : Calls Tryz.prog 95 #[(Cr.mk c h t d hi p).val, v] w fun r w' => r = .returned (.int .i64 (wrongC (Cr.mk c h t d hi p) l)) ∧ Below w.heap.size w w' := by
  have hW : wrongC (Cr.mk c h t d hi p) l = 3 := by
    unfold wrongC rangeC orderC
    dsimp only
    first | (simp only [q1, q2, q3, q4]; rfl) | (simp [q1, q2, q3, q4]; done)
  rw [hW]
  clear hW
  unfold Cr.val
  dsimp only
  have H0 := below_new w (.cells #[.int .i64 c, .int .i64 h, .int .i64 t, .int .i64 d, .bool hi, .int .i64 p] 35)
  obtain ⟨ad, cc, rfl, -⟩ := hv
  go_enter Tryz.func95, Tryz.ntmps95
  go_wp2_with (go_at_call 55; refine (withinM_any _ _ _ _).mono ?_; rintro r w6 ⟨rfl, hw6⟩; have hw7 := hw6.symm; subst hw7; clear hw6; first | rw [q3])
  go_ret
  exact ⟨rfl, H0⟩

set_option maxRecDepth 20000 in
set_option maxHeartbeats 2000000 in
theorem ct5 (w : World) (c h t d : Int) (hi : Bool) (p : Int) (l : List Cr) (v : Value) (hv : RowSl Cr.vals w l v) (q1 : decide (c < 1) = false) (q2 : decide (h < c) = false) (q3 : within t 1 10000 = true) (q4 : decide (d < c) = false) (q5 : within p 0 1000 = false) : Calls Tryz.prog 95 #[(Cr.mk c h t d hi p).val, v] w fun r w' => r = .returned (.int .i64 (wrongC (Cr.mk c h t d hi p) l)) ∧ Below w.heap.size w w' := by
  have hW : wrongC (Cr.mk c h t d hi p) l = 3 := by
    unfold wrongC rangeC orderC
    dsimp only
    first | (simp only [q1, q2, q3, q4, q5]; rfl) | (simp [q1, q2, q3, q4, q5]; done)
  rw [hW]
  clear hW
  unfold Cr.val
  dsimp only
  have H0 := below_new w (.cells #[.int .i64 c, .int .i64 h, .int .i64 t, .int .i64 d, .bool hi, .int .i64 p] 35)
  obtain ⟨ad, cc, rfl, -⟩ := hv
  go_enter Tryz.func95, Tryz.ntmps95
  go_wp2_with (go_at_call 55; refine (withinM_any _ _ _ _).mono ?_; rintro r w6 ⟨rfl, hw6⟩; have hw7 := hw6.symm; subst hw7; clear hw6; first | rw [q3] | rw [q5])
  go_ret
  exact ⟨rfl, H0⟩

set_option maxRecDepth 20000 in
set_option maxHeartbeats 2000000 in
theorem ct6 (w : World) (c h t d : Int) (hi : Bool) (p : Int) (l : List Cr) (v : Value) (hv : RowSl Cr.vals w l v) (q1 : decide (c < 1) = false) (q2 : decide (h < c) = false) (q3 : within t 1 10000 = true) (q4 : decide (d < c) = false) (q5 : within p 0 1000 = true) (q6 : decide (t < d) = true) : Calls Tryz.prog 95 #[(Cr.mk c h t d hi p).val, v] w fun r w' => r = .returned (.int .i64 (wrongC (Cr.mk c h t d hi p) l)) ∧ Below w.heap.size w w' := by
  have hW : wrongC (Cr.mk c h t d hi p) l = 12 := by
    unfold wrongC rangeC orderC
    dsimp only
    first | (simp only [q1, q2, q3, q4, q5, q6]; rfl) | (simp [q1, q2, q3, q4, q5, q6]; done)
  rw [hW]
  clear hW
  unfold Cr.val
  dsimp only
  have H0 := below_new w (.cells #[.int .i64 c, .int .i64 h, .int .i64 t, .int .i64 d, .bool hi, .int .i64 p] 35)
  obtain ⟨ad, cc, rfl, -⟩ := hv
  go_enter Tryz.func95, Tryz.ntmps95
  go_wp2_with (go_at_call 55; refine (withinM_any _ _ _ _).mono ?_; rintro r w6 ⟨rfl, hw6⟩; have hw7 := hw6.symm; subst hw7; clear hw6; first | rw [q3] | rw [q5])
  go_ret
  exact ⟨rfl, H0⟩

set_option maxRecDepth 20000 in
set_option maxHeartbeats 2000000 in
theorem ct7 (w : World) (c h t d : Int) (hi : Bool) (p : Int) (l : List Cr) (v : Value) (hv : RowSl Cr.vals w l v) (q1 : decide (c < 1) = false) (q2 : decide (h < c) = false) (q3 : within t 1 10000 = true) (q4 : decide (d < c) = false) (q5 : within p 0 1000 = true) (q6 : decide (t < d) = false) (q7 : decide (d < h) = true) : Calls Tryz.prog 95 #[(Cr.mk c h t d hi p).val, v] w fun r w' => r = .returned (.int .i64 (wrongC (Cr.mk c h t d hi p) l)) ∧ Below w.heap.size w w' := by
  have hW : wrongC (Cr.mk c h t d hi p) l = 12 := by
    unfold wrongC rangeC orderC
    dsimp only
    first | (simp only [q1, q2, q3, q4, q5, q6, q7]; rfl) | (simp [q1, q2, q3, q4, q5, q6, q7]; done)
  rw [hW]
  clear hW
  unfold Cr.val
  dsimp only
  have H0 := below_new w (.cells #[.int .i64 c, .int .i64 h, .int .i64 t, .int .i64 d, .bool hi, .int .i64 p] 35)
  obtain ⟨ad, cc, rfl, -⟩ := hv
  go_enter Tryz.func95, Tryz.ntmps95
  go_wp2_with (go_at_call 55; refine (withinM_any _ _ _ _).mono ?_; rintro r w6 ⟨rfl, hw6⟩; have hw7 := hw6.symm; subst hw7; clear hw6; first | rw [q3] | rw [q5])
  go_ret
  exact ⟨rfl, H0⟩

set_option maxRecDepth 20000 in
set_option maxHeartbeats 2000000 in
theorem ct8 (w : World) (c h t d : Int) (hi : Bool) (p : Int) (l : List Cr) (v : Value) (hv : RowSl Cr.vals w l v) (q1 : decide (c < 1) = false) (q2 : decide (h < c) = false) (q3 : within t 1 10000 = true) (q4 : decide (d < c) = false) (q5 : within p 0 1000 = true) (q6 : decide (t < d) = false) (q7 : decide (d < h) = false) (q9 : (h != c) = true) (q8 : hi = false) : Calls Tryz.prog 95 #[(Cr.mk c h t d hi p).val, v] w fun r w' => r = .returned (.int .i64 (wrongC (Cr.mk c h t d hi p) l)) ∧ Below w.heap.size w w' := by
  have hW : wrongC (Cr.mk c h t d hi p) l = 12 := by
    unfold wrongC rangeC orderC
    dsimp only
    first | (simp only [q1, q2, q3, q4, q5, q6, q7, q8, q9]; rfl) | (simp [q1, q2, q3, q4, q5, q6, q7, q8, q9]; done)
  rw [hW]
  clear hW
  unfold Cr.val
  dsimp only
  have H0 := below_new w (.cells #[.int .i64 c, .int .i64 h, .int .i64 t, .int .i64 d, .bool hi, .int .i64 p] 35)
  obtain ⟨ad, cc, rfl, -⟩ := hv
  subst q8
  go_enter Tryz.func95, Tryz.ntmps95
  go_wp2_with (go_at_call 55; refine (withinM_any _ _ _ _).mono ?_; rintro r w6 ⟨rfl, hw6⟩; have hw7 := hw6.symm; subst hw7; clear hw6; first | rw [q3] | rw [q5])
  go_ret
  exact ⟨rfl, H0⟩

set_option maxRecDepth 20000 in
set_option maxHeartbeats 2000000 in
theorem ct9 (w : World) (c h t d : Int) (hi : Bool) (p : Int) (l : List Cr) (v : Value) (hl : l.length ≤ 1000000) (hv : RowSl Cr.vals w l v) (q1 : decide (c < 1) = false) (q2 : decide (h < c) = false) (q3 : within t 1 10000 = true) (q4 : decide (d < c) = false) (q5 : within p 0 1000 = true) (q6 : decide (t < d) = false) (q7 : decide (d < h) = false) (qa : (l.any fun y => y.p == p) = true) (q8 : hi = true) : Calls Tryz.prog 95 #[(Cr.mk c h t d hi p).val, v] w fun r w' => r = .returned (.int .i64 (wrongC (Cr.mk c h t d hi p) l)) ∧ Below w.heap.size w w' := by
  have hW : wrongC (Cr.mk c h t d hi p) l = 5 := by
    unfold wrongC rangeC orderC
    dsimp only
    first | (simp only [q1, q2, q3, q4, q5, q6, q7, q8, qa]; rfl) | (simp [q1, q2, q3, q4, q5, q6, q7, q8, qa]; done)
  rw [hW]
  clear hW
  unfold Cr.val
  dsimp only
  have HV : Hid (RowSl Cr.vals (w.alloc (.cells #[.int .i64 c, .int .i64 h, .int .i64 t, .int .i64 d, .bool hi, .int .i64 p] 35)) l v) := hv.below (below_new _ _)
  have H0 := below_new w (.cells #[.int .i64 c, .int .i64 h, .int .i64 t, .int .i64 d, .bool hi, .int .i64 p] 35)
  obtain ⟨ad, cc, rfl, -⟩ := hv
  have HC := containsC_any (w.alloc (.cells #[.int .i64 c, .int .i64 h, .int .i64 t, .int .i64 d, .bool hi, .int .i64 p] 35)) l (.slice ad l.length cc) p w.heap.size hl HV.out (by go_simp)
  rw [qa] at HC
  subst q8
  go_enter Tryz.func95, Tryz.ntmps95
  go_wp2_with (first | (go_at_call 55; refine (withinM_any _ _ _ _).mono ?_; rintro r w6 ⟨rfl, hw6⟩; have hw7 := hw6.symm; subst hw7; clear hw6; first | rw [q3] | rw [q5]) | (go_at_call 133; refine HC.mono ?_; rintro r w2 ⟨rfl, hb2⟩; have H2 : Hid (Below w.heap.size w w2) := below_seq H0 hb2; clear hb2 HC))
  go_ret
  exact ⟨rfl, H2.out⟩

set_option maxRecDepth 20000 in
set_option maxHeartbeats 2000000 in
theorem cta (w : World) (c h t d : Int) (hi : Bool) (p : Int) (l : List Cr) (v : Value) (hl : l.length ≤ 1000000) (hv : RowSl Cr.vals w l v) (q1 : decide (c < 1) = false) (q2 : decide (h < c) = false) (q3 : within t 1 10000 = true) (q4 : decide (d < c) = false) (q5 : within p 0 1000 = true) (q6 : decide (t < d) = false) (q7 : decide (d < h) = false) (qa : (l.any fun y => y.p == p) = false) (q8 : hi = true) : Calls Tryz.prog 95 #[(Cr.mk c h t d hi p).val, v] w fun r w' => r = .returned (.int .i64 (wrongC (Cr.mk c h t d hi p) l)) ∧ Below w.heap.size w w' := by
  have hW : wrongC (Cr.mk c h t d hi p) l = 0 := by
    unfold wrongC rangeC orderC
    dsimp only
    first | (simp only [q1, q2, q3, q4, q5, q6, q7, q8, qa]; rfl) | (simp [q1, q2, q3, q4, q5, q6, q7, q8, qa]; done)
  rw [hW]
  clear hW
  unfold Cr.val
  dsimp only
  have HV : Hid (RowSl Cr.vals (w.alloc (.cells #[.int .i64 c, .int .i64 h, .int .i64 t, .int .i64 d, .bool hi, .int .i64 p] 35)) l v) := hv.below (below_new _ _)
  have H0 := below_new w (.cells #[.int .i64 c, .int .i64 h, .int .i64 t, .int .i64 d, .bool hi, .int .i64 p] 35)
  obtain ⟨ad, cc, rfl, -⟩ := hv
  have HC := containsC_any (w.alloc (.cells #[.int .i64 c, .int .i64 h, .int .i64 t, .int .i64 d, .bool hi, .int .i64 p] 35)) l (.slice ad l.length cc) p w.heap.size hl HV.out (by go_simp)
  rw [qa] at HC
  subst q8
  go_enter Tryz.func95, Tryz.ntmps95
  go_wp2_with (first | (go_at_call 55; refine (withinM_any _ _ _ _).mono ?_; rintro r w6 ⟨rfl, hw6⟩; have hw7 := hw6.symm; subst hw7; clear hw6; first | rw [q3] | rw [q5]) | (go_at_call 133; refine HC.mono ?_; rintro r w2 ⟨rfl, hb2⟩; have H2 : Hid (Below w.heap.size w w2) := below_seq H0 hb2; clear hb2 HC))
  go_ret
  exact ⟨rfl, H2.out⟩

set_option maxRecDepth 20000 in
set_option maxHeartbeats 2000000 in
theorem ctb (w : World) (c h t d : Int) (hi : Bool) (p : Int) (l : List Cr) (v : Value) (hl : l.length ≤ 1000000) (hv : RowSl Cr.vals w l v) (q1 : decide (c < 1) = false) (q2 : decide (h < c) = false) (q3 : within t 1 10000 = true) (q4 : decide (d < c) = false) (q5 : within p 0 1000 = true) (q6 : decide (t < d) = false) (q7 : decide (d < h) = false) (q9 : (h != c) = false) (qa : (l.any fun y => y.p == p) = true) (q8 : hi = false) : Calls Tryz.prog 95 #[(Cr.mk c h t d hi p).val, v] w fun r w' => r = .returned (.int .i64 (wrongC (Cr.mk c h t d hi p) l)) ∧ Below w.heap.size w w' := by
  have hW : wrongC (Cr.mk c h t d hi p) l = 5 := by
    unfold wrongC rangeC orderC
    dsimp only
    first | (simp only [q1, q2, q3, q4, q5, q6, q7, q8, q9, qa]; rfl) | (simp [q1, q2, q3, q4, q5, q6, q7, q8, q9, qa]; done)
  rw [hW]
  clear hW
  unfold Cr.val
  dsimp only
  have HV : Hid (RowSl Cr.vals (w.alloc (.cells #[.int .i64 c, .int .i64 h, .int .i64 t, .int .i64 d, .bool hi, .int .i64 p] 35)) l v) := hv.below (below_new _ _)
  have H0 := below_new w (.cells #[.int .i64 c, .int .i64 h, .int .i64 t, .int .i64 d, .bool hi, .int .i64 p] 35)
  obtain ⟨ad, cc, rfl, -⟩ := hv
  have HC := containsC_any (w.alloc (.cells #[.int .i64 c, .int .i64 h, .int .i64 t, .int .i64 d, .bool hi, .int .i64 p] 35)) l (.slice ad l.length cc) p w.heap.size hl HV.out (by go_simp)
  rw [qa] at HC
  subst q8
  go_enter Tryz.func95, Tryz.ntmps95
  go_wp2_with (first | (go_at_call 55; refine (withinM_any _ _ _ _).mono ?_; rintro r w6 ⟨rfl, hw6⟩; have hw7 := hw6.symm; subst hw7; clear hw6; first | rw [q3] | rw [q5]) | (go_at_call 133; refine HC.mono ?_; rintro r w2 ⟨rfl, hb2⟩; have H2 : Hid (Below w.heap.size w w2) := below_seq H0 hb2; clear hb2 HC))
  go_ret
  exact ⟨rfl, H2.out⟩

set_option maxRecDepth 20000 in
set_option maxHeartbeats 2000000 in
theorem ctc (w : World) (c h t d : Int) (hi : Bool) (p : Int) (l : List Cr) (v : Value) (hl : l.length ≤ 1000000) (hv : RowSl Cr.vals w l v) (q1 : decide (c < 1) = false) (q2 : decide (h < c) = false) (q3 : within t 1 10000 = true) (q4 : decide (d < c) = false) (q5 : within p 0 1000 = true) (q6 : decide (t < d) = false) (q7 : decide (d < h) = false) (q9 : (h != c) = false) (qa : (l.any fun y => y.p == p) = false) (q8 : hi = false) : Calls Tryz.prog 95 #[(Cr.mk c h t d hi p).val, v] w fun r w' => r = .returned (.int .i64 (wrongC (Cr.mk c h t d hi p) l)) ∧ Below w.heap.size w w' := by
  have hW : wrongC (Cr.mk c h t d hi p) l = 0 := by
    unfold wrongC rangeC orderC
    dsimp only
    first | (simp only [q1, q2, q3, q4, q5, q6, q7, q8, q9, qa]; rfl) | (simp [q1, q2, q3, q4, q5, q6, q7, q8, q9, qa]; done)
  rw [hW]
  clear hW
  unfold Cr.val
  dsimp only
  have HV : Hid (RowSl Cr.vals (w.alloc (.cells #[.int .i64 c, .int .i64 h, .int .i64 t, .int .i64 d, .bool hi, .int .i64 p] 35)) l v) := hv.below (below_new _ _)
  have H0 := below_new w (.cells #[.int .i64 c, .int .i64 h, .int .i64 t, .int .i64 d, .bool hi, .int .i64 p] 35)
  obtain ⟨ad, cc, rfl, -⟩ := hv
  have HC := containsC_any (w.alloc (.cells #[.int .i64 c, .int .i64 h, .int .i64 t, .int .i64 d, .bool hi, .int .i64 p] 35)) l (.slice ad l.length cc) p w.heap.size hl HV.out (by go_simp)
  rw [qa] at HC
  subst q8
  go_enter Tryz.func95, Tryz.ntmps95
  go_wp2_with (first | (go_at_call 55; refine (withinM_any _ _ _ _).mono ?_; rintro r w6 ⟨rfl, hw6⟩; have hw7 := hw6.symm; subst hw7; clear hw6; first | rw [q3] | rw [q5]) | (go_at_call 133; refine HC.mono ?_; rintro r w2 ⟨rfl, hb2⟩; have H2 : Hid (Below w.heap.size w w2) := below_seq H0 hb2; clear hb2 HC))
  go_ret
  exact ⟨rfl, H2.out⟩

theorem checkTask_any (w : World) (x : Cr) (l : List Cr) (v : Value) (hl : l.length ≤ 1000000) (hv : RowSl Cr.vals w l v) : Calls Tryz.prog 95 #[x.val, v] w fun r w' => r = .returned (.int .i64 (wrongC x l)) ∧ Below w.heap.size w w' := by
  obtain ⟨c, h, t, d, hi, p⟩ := x
  rcases Bool.eq_false_or_eq_true (decide (c < 1)) with q1 | q1
  · exact ct1 w c h t d hi p l v hv q1
  rcases Bool.eq_false_or_eq_true (decide (h < c)) with q2 | q2
  · exact ct2 w c h t d hi p l v hv q1 q2
  rcases (Bool.eq_false_or_eq_true (within t 1 10000)).symm with q3 | q3
  · exact ct3 w c h t d hi p l v hv q1 q2 q3
  rcases Bool.eq_false_or_eq_true (decide (d < c)) with q4 | q4
  · exact ct4 w c h t d hi p l v hv q1 q2 q3 q4
  rcases (Bool.eq_false_or_eq_true (within p 0 1000)).symm with q5 | q5
  · exact ct5 w c h t d hi p l v hv q1 q2 q3 q4 q5
  rcases Bool.eq_false_or_eq_true (decide (t < d)) with q6 | q6
  · exact ct6 w c h t d hi p l v hv q1 q2 q3 q4 q5 q6
  rcases Bool.eq_false_or_eq_true (decide (d < h)) with q7 | q7
  · exact ct7 w c h t d hi p l v hv q1 q2 q3 q4 q5 q6 q7
  rcases Bool.eq_false_or_eq_true hi with q8 | q8
  · rcases Bool.eq_false_or_eq_true (l.any fun y => y.p == p) with qa | qa
    · exact ct9 w c h t d hi p l v hl hv q1 q2 q3 q4 q5 q6 q7 qa q8
    · exact cta w c h t d hi p l v hl hv q1 q2 q3 q4 q5 q6 q7 qa q8
  · rcases Bool.eq_false_or_eq_true (h != c) with q9 | q9
    · exact ct8 w c h t d hi p l v hv q1 q2 q3 q4 q5 q6 q7 q9 q8
    · rcases Bool.eq_false_or_eq_true (l.any fun y => y.p == p) with qa | qa
      · exact ctb w c h t d hi p l v hl hv q1 q2 q3 q4 q5 q6 q7 q9 qa q8
      · exact ctc w c h t d hi p l v hl hv q1 q2 q3 q4 q5 q6 q7 q9 qa q8
end Go.Proofs.YtccoobcggbbciaiGreatDoor
