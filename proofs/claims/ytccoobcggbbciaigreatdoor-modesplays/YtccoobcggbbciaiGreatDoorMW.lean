import Derived.Test.YtccoobcggbbciaiGreatDoorMV
namespace Go.Proofs.YtccoobcggbbciaiGreatDoor
open Go.ChangeShapes Go.WideShapes Go.ChangeAt Go.RowKit

theorem rowM_new {α : Type} {f : α → List Value} (w : World) (l : List α) (n : Nat) (cs : Array Value) (t : TypeId) (hn : n = l.length) (hc : cs = (l.flatMap f).toArray) : RowSl f (w.alloc (.cells cs t)) l (.slice (some ⟨w.heap.size, 0, none⟩) n n) := by
  subst hn hc
  refine ⟨_, _, rfl, (fun e => by cases e), Nat.le_refl _, .inr ⟨w.heap.size, 0, rfl, fun q u hq => ?_⟩⟩
  rw [Nat.zero_add]
  exact (cells_of (heap_alloc_new _ _)).1 q u hq

theorem flat_nums : ∀ l : List Int, l.flatMap nuV = l.map (Value.int .i64)
  | [] => rfl
  | x :: r => by rw [List.flatMap_cons, List.map_cons, flat_nums r]; rfl

theorem rowM_of {W : World} {g n : Nat} {l : List Int} (h : W.heap[g]? = some (.cells (l.map (Value.int .i64)).toArray 3 (0, 0))) (hn : n = l.length) : RowSl nuV W l (.slice (some ⟨g, 0, none⟩) n n) := by
  subst hn
  refine ⟨_, _, rfl, (fun e => by cases e), Nat.le_refl _, .inr ⟨g, 0, rfl, fun q u hq => ?_⟩⟩
  rw [Nat.zero_add]
  rw [flat_nums] at hq
  exact (cells_of h).1 q u hq

/-- A row of one's own is one that can be read. -/
theorem rowM_own {W : World} {B : Nat} {v : Value} {l : List Int} (h : W.ownsRow B 3 1 v l.length (l.flatMap nuV)) : RowSl nuV W l v := by
  obtain ⟨hl, ⟨h1, h2⟩ | ⟨g, cap, cur, h1, h2, h3, h4, h5, h6, h7⟩⟩ := h
  · have e : l = [] := List.eq_nil_of_length_eq_zero h2
    subst e
    exact ⟨none, 0, h1, fun _ => ⟨rfl, rfl⟩, Nat.le_refl _, .inl rfl⟩
  · refine ⟨some ⟨g, 0, none⟩, cap, h1, (fun e => by cases e), by omega, .inr ⟨g, 0, rfl, fun q u hq => ?_⟩⟩
    rw [Nat.zero_add]
    have hc := (cells_of (l := cur.toList) (by rw [Array.toArray_toList]; exact h3)).1 q u
    refine hc ?_
    rw [← h7, List.getElem?_take] at hq
    split at hq
    · exact hq
    · cases hq

set_option maxRecDepth 20000 in
set_option maxHeartbeats 4000000 in
theorem SameM_any (w : World) (l : List Int) (v v' : Value) (hl : l.length ≤ 4194304) (h : RowSl nuV w l v) (h' : RowSl nuV w l v') :
    Calls Tryz.prog 13 #[v, v'] w fun r w' => r = .returned (.bool true) ∧ Below w.heap.size w w' := by
  obtain ⟨ad, c, rfl, -, -, hc⟩ := h
  obtain ⟨ad', c', rfl, -, -, hc'⟩ := h'
  have HR : Hid (_ ∧ _) := ⟨hc, hc'⟩
  clear hc hc'
  go_enter Tryz.func13, Tryz.ntmps13
  go_wp2_with fail
  go_loopw [13] (fun x wr => ∃ j : Nat, j ≤ l.length ∧ x = .int .i64 j ∧ Below w.heap.size w wr) (fun x _ => l.length - (intOf x).toNat)
  case atStart => exact ⟨0, Nat.zero_le _, rfl, Below.refl _ _⟩
  case round =>
    obtain ⟨j, hj, rfl, hb⟩ := hrel
    have HB : Hid (Below w.heap.size w wr) := hb
    by_cases hlt : j < l.length
    · obtain ⟨x, hx, -⟩ := drop_at hlt
      rcases HR.out.1 with h | ⟨b1, o1, rfl, hrow1⟩
      · rw [h] at hlt; simp at hlt
      rcases HR.out.2 with h | ⟨b2, o2, rfl, hrow2⟩
      · rw [h] at hlt; simp at hlt
      have c0 := nu_at (fun q u hq => below_cell hb (hrow1 q u hq)) hx
      have d0 := nu_at (fun q u hq => below_cell hb (hrow2 q u hq)) hx
      clear hrow1 hrow2 hb hx
      go_wp2_with fail
      go_quiet (fail)
      go_wp2_with fail
      go_roundw
      case rel => exact ⟨j + 1, by omega, by go_num, below_seq HB.out (below_drewN' (n := nq))⟩
      case measure => simp [intOf]; omega
    · have hje : j = l.length := by omega
      subst hje
      go_wp2_with fail
      go_ret
      exact ⟨rfl, hb⟩

/- The law's own set, comings and times. -/
def twoL : List Cr := [⟨1, 2, 5, 5, true, 2⟩, ⟨2, 2, 6, 6, false, 3⟩]
def twoC : List Co := [⟨0, 0⟩, ⟨1, 0⟩, ⟨1, 6⟩]
def twoT : List Int := [2, 2, 2]

set_option maxRecDepth 20000 in
theorem two_any (w : World) : Calls Tryz.prog 31 #[] w fun r w' => r = .returned (.slice (some ⟨w.heap.size, 0, none⟩) 2 2) ∧ w' = w.alloc (.cells #[.int .i64 1, .int .i64 2, .int .i64 5, .int .i64 5, .bool true, .int .i64 2, .int .i64 2, .int .i64 2, .int .i64 6, .int .i64 6, .bool false, .int .i64 3] 35) := by
  go_enter Tryz.func31, Tryz.ntmps31
  go_wp2_with fail
  go_ret
  exact ⟨rfl, rfl⟩

/- Who goes first, of a list. -/
def bestB (l : List Jb) (left : List Int) (t : Int) (b : Int) : Bool :=
  if b = -1 then (List.range l.length).all fun i => !(decide ((S8.J l i).a ≤ t) && decide (0 < S8.L left i))
  else decide (0 ≤ b) && decide (b.toNat < l.length) && decide ((S8.J l b.toNat).a ≤ t) && decide (0 < S8.L left b.toNat) && (List.range l.length).all fun j => !(decide ((S8.J l j).a ≤ t) && decide (0 < S8.L left j) && decide (j ≠ b.toNat)) || (decide (-(S8.J l b.toNat).p < -(S8.J l j).p) || (decide (-(S8.J l b.toNat).p = -(S8.J l j).p) && (decide ((S8.J l b.toNat).a < (S8.J l j).a) || (decide ((S8.J l b.toNat).a = (S8.J l j).a) && decide (b.toNat < j)))))

theorem bestB_is {l : List Jb} {left : List Int} {t b : Int} (h : bestB l left t b = true) : S8.IsBest l 1 left t b := by
  unfold bestB at h
  by_cases hb : b = -1
  · rw [if_pos hb] at h
    refine .inl ⟨hb, fun i hi ⟨h1, h2⟩ => ?_⟩
    have := List.all_eq_true.1 h i (List.mem_range.2 hi)
    simp [h1, h2] at this
  · rw [if_neg hb] at h
    simp only [Bool.and_eq_true, decide_eq_true_eq] at h
    obtain ⟨⟨⟨⟨a1, a2⟩, a3⟩, a4⟩, a5⟩ := h
    refine .inr ⟨b.toNat, by omega, a2, a3, a4, fun j hj h1 h2 h3 => ?_⟩
    have := List.all_eq_true.1 a5 j (List.mem_range.2 hj)
    simp only [h1, h2, h3, decide_true, Bool.and_self, Bool.not_true, Bool.false_or, Bool.or_eq_true, Bool.and_eq_true, decide_eq_true_eq, ne_eq, not_false_eq_true] at this
    unfold S8.lexJ S8.lex S8.key
    simp only [if_true]
    omega

/-- A run that was guessed. -/
def tryT (l : List Jb) (hi : Nat → Bool) (cl : Nat → Int) : List Int → Nat → S8.St → Int → Option (S8.St × Int)
  | [], _, s, T => some (s, T)
  | b :: r, t, s, T => if bestB l (vis hi T s.left) (t : Int) b = true then tryT l hi cl r (t + 1) (s.after t b) (turnT l cl T s t b) else none

theorem tryT_plays {l : List Jb} {hi : Nat → Bool} {cl : Nat → Int} : ∀ (bs : List Int) (t : Nat) (s : S8.St) (T : Int) (s' : S8.St) (T' : Int), PlaysT l hi cl t s T → tryT l hi cl bs t s T = some (s', T') → PlaysT l hi cl (t + bs.length) s' T'
  | [], t, s, T, s', T', h, e => by
    simp [tryT] at e
    rw [← e.1, ← e.2]; exact h
  | b :: r, t, s, T, s', T', h, e => by
    rw [tryT] at e
    split at e
    · rename_i hb
      have := tryT_plays r (t + 1) _ _ s' T' ⟨s, T, b, h, bestB_is hb, rfl, rfl⟩ e
      rw [List.length_cons, show t + (r.length + 1) = t + 1 + r.length by omega]
      exact this
    · cases e

def twoJ : List Jb := jsF twoL twoC twoT
def twoH : Nat → Bool := hiOf twoL twoC
def twoK : Nat → Int := fun j => (crOf twoL twoC j).c

theorem two_try : ((tryT twoJ twoH twoK [1, 1, 0, 0, -1, -1, -1, -1] 0 (S8.St.init twoJ) (-1)).map fun p => (p.1.runs, p.1.ends, p.2)) = some ([1, 1, 0, 0, -1, -1, -1, -1], [4, 2, -1], 3) := by kernel_rfl

theorem two_run {s : S8.St} {T : Int} (h : PlaysT twoJ twoH twoK 8 s T) : s.runs = [1, 1, 0, 0, -1, -1, -1, -1] ∧ s.ends = [4, 2, -1] ∧ T = 3 := by
  have e := two_try
  cases hq : tryT twoJ twoH twoK [1, 1, 0, 0, -1, -1, -1, -1] 0 (S8.St.init twoJ) (-1) with
  | none => rw [hq] at e; cases e
  | some p =>
    obtain ⟨s', T'⟩ := p
    rw [hq] at e
    simp at e
    have hp : PlaysT twoJ twoH twoK 8 s' T' := tryT_plays [1, 1, 0, 0, -1, -1, -1, -1] 0 (S8.St.init twoJ) (-1) s' T' ⟨rfl, rfl⟩ hq
    obtain ⟨e1, e2⟩ := playsT_unique 8 s s' T T' h hp
    rw [e1, e2]
    exact e

theorem two_chk : (chkM twoL twoC twoT ((8 : Nat) : Int)).1 = 0 := by kernel_rfl
theorem two_resp : (chkC twoL).1 = 0 ∧ failC twoL twoL 0 = -1 ∧ wsF twoL twoL = [3, 2] ∧ isF twoL twoL = [4, 0] := ⟨by kernel_rfl, by kernel_rfl, by kernel_rfl, by kernel_rfl⟩

theorem two_is {acc bcc : List Int} {z1 z2 : Int} (h : RespIs twoL acc bcc z1 z2) : acc = [3, 2] ∧ bcc = [4, 0] ∧ z1 = 0 ∧ z2 = 0 := by
  obtain ⟨h1, h2, h3, h4⟩ := two_resp
  rcases h with ⟨g, -⟩ | ⟨-, ⟨g, -⟩ | ⟨-, g1, g2, g3, g4⟩⟩
  · exact absurd h1 g
  · omega
  · exact ⟨g3.trans h3, g4.trans h4, g1, g2⟩

set_option maxRecDepth 20000 in
set_option maxHeartbeats 4000000 in
theorem turns_any (w : World) : Calls Tryz.prog 5 #[] w fun r w' => r = .returned (.bool true) ∧ Below w.heap.size w w' := by
  have T1 := two_any w
  have R1 := Responses_any (w.alloc (.cells #[.int .i64 1, .int .i64 2, .int .i64 5, .int .i64 5, .bool true, .int .i64 2, .int .i64 2, .int .i64 2, .int .i64 6, .int .i64 6, .bool false, .int .i64 3] 35)) twoL _ (rowM_new (f := Cr.vals) w twoL 2 #[.int .i64 1, .int .i64 2, .int .i64 5, .int .i64 5, .bool true, .int .i64 2, .int .i64 2, .int .i64 2, .int .i64 6, .int .i64 6, .bool false, .int .i64 3] 35 rfl rfl)
  go_enter Tryz.func5, Tryz.ntmps5
  go_upto_region 2 with (first | (go_at_call 30; refine R1.mono ?_; rintro r w1 ⟨acc, bcc, av, bv, z1, z2, his, rfl, ho1, ho2, -, hb1⟩; obtain ⟨rfl, rfl, rfl, rfl⟩ := two_is his; have H1 : Hid (RowSl nuV (w1.alloc (.cells #[.int .i64 0, .int .i64 0] 30)) [3, 2] av ∧ RowSl nuV (w1.alloc (.cells #[.int .i64 0, .int .i64 0] 30)) [4, 0] bv ∧ Below w.heap.size w (w1.alloc (.cells #[.int .i64 0, .int .i64 0] 30))) := ⟨(rowM_own ho1).below (below_new _ _), (rowM_own ho2).below (below_new _ _), below_seq (below_seq (below_new _ _) hb1) (below_new _ _)⟩; clear his ho1 ho2 hb1 R1) | (go_at_call 31; refine T1.mono ?_; rintro r w0 ⟨rfl, rfl⟩; clear T1))
  have f0 := (cells_of (l := [_, _]) (heap_alloc_new w1 (.cells #[.int .i64 0, .int .i64 0] 30))).1 0 _ rfl
  generalize w1.alloc (.cells #[.int .i64 0, .int .i64 0] 30) = w2 at *
  generalize w1.heap.size = g1 at *
  have T2 := two_any w2
  have P2 := PlayM_good (((w2.alloc (.cells #[.int .i64 1, .int .i64 2, .int .i64 5, .int .i64 5, .bool true, .int .i64 2, .int .i64 2, .int .i64 2, .int .i64 6, .int .i64 6, .bool false, .int .i64 3] 35)).alloc (.cells #[.int .i64 0, .int .i64 0, .int .i64 1, .int .i64 0, .int .i64 1, .int .i64 6] 38)).alloc (.cells #[.int .i64 2, .int .i64 2, .int .i64 2] 3)) twoL twoC twoT 8 (.slice (some ⟨w2.heap.size, 0, none⟩) 2 2) (.slice (some ⟨w2.heap.size + 1, 0, none⟩) 3 3) (.slice (some ⟨w2.heap.size + 1 + 1, 0, none⟩) 3 3) ((rowM_new (f := Cr.vals) w2 twoL 2 #[.int .i64 1, .int .i64 2, .int .i64 5, .int .i64 5, .bool true, .int .i64 2, .int .i64 2, .int .i64 2, .int .i64 6, .int .i64 6, .bool false, .int .i64 3] 35 rfl rfl).below (below_seq (below_new _ _) (below_new _ _))) (by
    have := (rowM_new (f := Co.vals) (w2.alloc (.cells #[.int .i64 1, .int .i64 2, .int .i64 5, .int .i64 5, .bool true, .int .i64 2, .int .i64 2, .int .i64 2, .int .i64 6, .int .i64 6, .bool false, .int .i64 3] 35)) twoC 3 #[.int .i64 0, .int .i64 0, .int .i64 1, .int .i64 0, .int .i64 1, .int .i64 6] 38 rfl rfl).below (below_new _ (.cells #[.int .i64 2, .int .i64 2, .int .i64 2] 3))
    simpa using this) (by
    have := rowM_new (f := nuV) ((w2.alloc (.cells #[.int .i64 1, .int .i64 2, .int .i64 5, .int .i64 5, .bool true, .int .i64 2, .int .i64 2, .int .i64 2, .int .i64 6, .int .i64 6, .bool false, .int .i64 3] 35)).alloc (.cells #[.int .i64 0, .int .i64 0, .int .i64 1, .int .i64 0, .int .i64 1, .int .i64 6] 38)) twoT 3 #[.int .i64 2, .int .i64 2, .int .i64 2] 3 rfl rfl
    simpa using this) two_chk
  rw [show twoC.length = 3 from rfl] at P2
  go_upto_region 3 with (first | (go_at_call 12; refine P2.mono ?_; rintro r w4 ⟨s, TT, rb, eb, hpl, rfl, hrb, heb, -, -, -, hb4⟩; obtain ⟨e1, e2, e3⟩ := two_run hpl; rw [e1] at hrb; rw [e2] at heb; subst e3; have H4 : Hid (RowSl nuV ((w4.alloc (.cells #[.slice (some ⟨rb, 0, none⟩) 8 8, .slice (some ⟨eb, 0, none⟩) 3 3, .int .i64 3] 43)).alloc (.cells #[.int .i64 0, .int .i64 0] 30)) [1, 1, 0, 0, -1, -1, -1, -1] (.slice (some ⟨rb, 0, none⟩) 8 8) ∧ RowSl nuV ((w4.alloc (.cells #[.slice (some ⟨rb, 0, none⟩) 8 8, .slice (some ⟨eb, 0, none⟩) 3 3, .int .i64 3] 43)).alloc (.cells #[.int .i64 0, .int .i64 0] 30)) [4, 2, -1] (.slice (some ⟨eb, 0, none⟩) 3 3) ∧ Below w2.heap.size w2 ((w4.alloc (.cells #[.slice (some ⟨rb, 0, none⟩) 8 8, .slice (some ⟨eb, 0, none⟩) 3 3, .int .i64 3] 43)).alloc (.cells #[.int .i64 0, .int .i64 0] 30))) := ⟨(rowM_of hrb rfl).below (below_seq (below_new _ _) (below_new _ _)), (rowM_of heb rfl).below (below_seq (below_new _ _) (below_new _ _)), below_seq (below_seq (below_seq (below_seq (below_new _ _) (below_new _ _)) (below_new _ _)) hb4) (below_seq (below_new _ _) (below_new _ _))⟩; clear hpl hrb heb hb4 e1 e2 P2) | (go_at_call 31; refine T2.mono ?_; rintro r w0 ⟨rfl, rfl⟩; clear T2))
  have c4 := cells_of (l := [_, _, _]) ((Below.heap_alloc (w4.alloc (.cells #[.slice (some ⟨rb, 0, none⟩) 8 8, .slice (some ⟨eb, 0, none⟩) 3 3, .int .i64 3] 43)) (.cells #[.int .i64 0, .int .i64 0] 30) w4.heap.size (by simp)).trans (heap_alloc_new w4 (.cells #[.slice (some ⟨rb, 0, none⟩) 8 8, .slice (some ⟨eb, 0, none⟩) 3 3, .int .i64 3] 43)))
  have m0 := c4.1 0 _ rfl
  have m1 := c4.1 1 _ rfl
  have m2 := c4.1 2 _ rfl
  have ml := c4.2.2
  have d4 := cells_of (l := [_, _]) (heap_alloc_new (w4.alloc (.cells #[.slice (some ⟨rb, 0, none⟩) 8 8, .slice (some ⟨eb, 0, none⟩) 3 3, .int .i64 3] 43)) (.cells #[.int .i64 0, .int .i64 0] 30))
  have hs4 : (w4.alloc (.cells #[.slice (some ⟨rb, 0, none⟩) 8 8, .slice (some ⟨eb, 0, none⟩) 3 3, .int .i64 3] 43)).heap.size = w4.heap.size + 1 := by simp
  rw [hs4] at d4
  have k0 := d4.1 0 _ rfl
  have kl := d4.2.2
  have f1 := below_cell H4.out.2.2 f0
  have fl := World.block_lt_of_cell? _ _ f1
  have HA : Hid (RowSl nuV ((w4.alloc (.cells #[.slice (some ⟨rb, 0, none⟩) 8 8, .slice (some ⟨eb, 0, none⟩) 3 3, .int .i64 3] 43)).alloc (.cells #[.int .i64 0, .int .i64 0] 30)) [3, 2] av ∧ RowSl nuV ((w4.alloc (.cells #[.slice (some ⟨rb, 0, none⟩) 8 8, .slice (some ⟨eb, 0, none⟩) 3 3, .int .i64 3] 43)).alloc (.cells #[.int .i64 0, .int .i64 0] 30)) [4, 0] bv ∧ Below w.heap.size w ((w4.alloc (.cells #[.slice (some ⟨rb, 0, none⟩) 8 8, .slice (some ⟨eb, 0, none⟩) 3 3, .int .i64 3] 43)).alloc (.cells #[.int .i64 0, .int .i64 0] 30))) := ⟨H1.out.1.below H4.out.2.2, H1.out.2.1.below H4.out.2.2, below_seq H1.out.2.2 H4.out.2.2⟩
  clear c4 d4 hs4 f0
  obtain ⟨aa, ac, rfl⟩ := H1.out.1.len
  obtain ⟨ba, bc, rfl⟩ := H1.out.2.1.len
  generalize ((w4.alloc (.cells #[.slice (some ⟨rb, 0, none⟩) 8 8, .slice (some ⟨eb, 0, none⟩) 3 3, .int .i64 3] 43)).alloc (.cells #[.int .i64 0, .int .i64 0] 30)) = w6 at *
  generalize w4.heap.size = g4 at *
  have S1 := SameM_any (w6.alloc (.cells #[.int .i64 3, .int .i64 2] 3)) [3, 2] _ _ (by decide) (HA.out.1.below (below_new _ _)) (rowM_new (f := nuV) w6 [3, 2] 2 #[.int .i64 3, .int .i64 2] 3 rfl rfl)
  have SS : Hid (∀ W, Below w6.heap.size w6 W → ∀ (l : List Int) (v : Value) (n : Nat) (cs : Array Value), RowSl nuV w6 l v → l.length ≤ 4194304 → n = l.length → cs = (l.flatMap nuV).toArray → Calls Tryz.prog 13 #[v, .slice (some ⟨W.heap.size, 0, none⟩) n n] (W.alloc (.cells cs 3)) fun r w' => r = .returned (.bool true) ∧ Below (W.alloc (.cells cs 3)).heap.size (W.alloc (.cells cs 3)) w') := fun W hb l v n cs hr hl hn hc => SameM_any _ l _ _ hl (hr.below (below_seq hb (below_new _ _))) (rowM_new (f := nuV) W l n cs 3 hn hc)
  go_wp2_with (first
    | (go_at_call 13; refine (SS.out w9 H9.out [4, 2, -1] _ 3 #[.int .i64 4, .int .i64 2, .int .i64 (-1)] H4.out.2.1 (by decide) rfl rfl).mono ?_; rintro r w10 ⟨rfl, hb10⟩; have H10 : Hid (Below w6.heap.size w6 w10) := below_seq H9.out (below_seq (below_new _ _) hb10); have z2 := below_cell H10.out m2; have zl : g4 < w10.heap.size := Nat.lt_of_lt_of_le ml H10.out.size; clear hb10)
    | (go_at_call 13; refine (SS.out w8 H8.out [1, 1, 0, 0, -1, -1, -1, -1] _ 8 #[.int .i64 1, .int .i64 1, .int .i64 0, .int .i64 0, .int .i64 (-1), .int .i64 (-1), .int .i64 (-1), .int .i64 (-1)] H4.out.1 (by decide) rfl rfl).mono ?_; rintro r w9 ⟨rfl, hb9⟩; have H9 : Hid (Below w6.heap.size w6 w9) := below_seq H8.out (below_seq (below_new _ _) hb9); have y1 := below_cell H9.out m1; have yl : g4 < w9.heap.size := Nat.lt_of_lt_of_le ml H9.out.size; clear hb9)
    | (go_at_call 13; refine (SS.out w7 H7.out [4, 0] _ 2 #[.int .i64 4, .int .i64 0] HA.out.2.1 (by decide) rfl rfl).mono ?_; rintro r w8 ⟨rfl, hb8⟩; have H8 : Hid (Below w6.heap.size w6 w8) := below_seq H7.out (below_seq (below_new _ _) hb8); have x0 := below_cell H8.out m0; have xl : g4 < w8.heap.size := Nat.lt_of_lt_of_le ml H8.out.size; clear hb8)
    | (go_at_call 13; refine S1.mono ?_; rintro r w7 ⟨rfl, hb7⟩; have H7 : Hid (Below w6.heap.size w6 w7) := below_seq (below_new _ _) hb7; clear hb7 S1))
  go_ret
  exact ⟨rfl, below_seq HA.out.2.2 H10.out⟩
end Go.Proofs.YtccoobcggbbciaiGreatDoor
