import Derived.Test.YtccoobcggbbciamHX2
namespace Go.Proofs.Ytccoobcggbbciam
open Go.ChangeShapes Go.WideShapes Go.ChangeAt Go.RowKit

theorem negC_any (W : World) (z : Int) : Calls Try.prog 30 #[.int .i64 z] W fun r w' => r = .returned (.bool (decide (z < 0))) ∧ w' = W := by
  go_enter Try.func30, Try.ntmps30
  go_wp2_with fail
  go_ret
  exact ⟨rfl, rfl⟩
def firstNeg : List Int → Nat → Int
  | [], _ => -1
  | z :: r, k => if z < 0 then k else firstNeg r (k + 1)
theorem firstNeg_ge : ∀ (tk : List Int) (k : Nat), (0 ≤ firstNeg tk k ↔ ∃ z ∈ tk, z < 0)
  | [], k => by simp [firstNeg]
  | z :: r, k => by
    unfold firstNeg
    by_cases h : z < 0
    · rw [if_pos h]
      exact ⟨fun _ => ⟨z, List.mem_cons_self, h⟩, fun _ => by omega⟩
    · rw [if_neg h, firstNeg_ge r (k + 1)]
      constructor
      · rintro ⟨y, h1, h2⟩; exact ⟨y, List.mem_cons_of_mem _ h1, h2⟩
      · rintro ⟨y, h1, h2⟩
        rcases List.mem_cons.1 h1 with rfl | h1
        · exact absurd h2 h
        · exact ⟨y, h1, h2⟩

set_option maxRecDepth 20000 in
set_option maxHeartbeats 4000000 in
theorem indexNeg_any (W : World) (tk : List Int) (v : Value) (h : RowSl nuV W tk v) (hl : tk.length ≤ 9223372036854775807) : Calls Try.prog 46 #[v, .func (Fn.func 30) #[] #[]] W fun r w' => r = .returned (.int .i64 (firstNeg tk 0)) ∧ w' = W := by
  obtain ⟨ad, c, rfl, -, hcap, hrow⟩ := h
  have HR : Hid (_) := hrow
  obtain ⟨z, hz⟩ : ∃ z, firstNeg tk 0 = z := ⟨_, rfl⟩
  have HZ : Hid (firstNeg tk 0 = z) := hz
  rw [hz]
  clear hrow hz
  go_enter Try.func46, Try.ntmps46
  go_wp2_with fail
  go_loopw [8] (fun iv wr => ∃ k : Nat, k ≤ tk.length ∧ iv = .int .i64 (k : Int) ∧ wr = W ∧ Hid (firstNeg (tk.drop k) k = z)) (fun iv _ => tk.length - (intOf iv).toNat)
  case atStart => exact ⟨0, Nat.zero_le _, rfl, rfl, HZ⟩
  case round =>
    obtain ⟨k, hk, rfl, rfl, HK⟩ := hrel
    by_cases hkl : k < tk.length
    · obtain ⟨x, hx, hd⟩ := drop_at hkl
      rcases HR.out with h9 | ⟨b, o, rfl, hrow⟩
      · rw [h9] at hkl; simp at hkl
      have c0 := nu_at hrow hx
      have hki : (k : Int) < (tk.length : Int) := by omega
      have hkz := HK.out
      rw [hd] at hkz
      unfold firstNeg at hkz
      have HKZ : Hid ((if x < 0 then ((k : Nat) : Int) else firstNeg (tk.drop (k + 1)) (k + 1)) = z) := hkz
      have HC := negC_any wr x
      clear hx hd hkz HK hrow
      by_cases h0 : x < 0
      · have HN : Hid (((k : Nat) : Int) = z) := by
          have h9 := HKZ.out
          rw [if_pos h0] at h9
          exact h9
        rw [decide_eq_true h0] at HC
        clear HKZ h0
        go_wp2_with (go_at_call 30; refine HC.mono ?_; rintro r w5 ⟨rfl, hw5⟩; have hw6 := hw5.symm; subst hw6)
        go_ret
        exact ⟨by rw [← HN.out]; rfl, rfl⟩
      · have HN : Hid (firstNeg (tk.drop (k + 1)) (k + 1) = z) := by
          have h9 := HKZ.out
          rw [if_neg h0] at h9
          exact h9
        rw [decide_eq_false h0] at HC
        clear HKZ h0
        go_wp2_with (go_at_call 30; refine HC.mono ?_; rintro r w5 ⟨rfl, hw5⟩; have hw6 := hw5.symm; subst hw6)
        exact ⟨⟨k + 1, by omega, by simp, by trivial, HN⟩, by simp [intOf]; omega⟩
    · have hke : k = tk.length := by omega
      subst hke
      have hki : ¬ ((tk.length : Nat) : Int) < (tk.length : Int) := by omega
      have HN : Hid (z = -1) := by
        have h9 := HK.out
        rw [List.drop_of_length_le (Nat.le_refl _)] at h9
        exact h9.symm
      go_wp2_with fail
      go_ret
      exact ⟨by rw [HN.out]; rfl, rfl⟩

theorem anyNeg_any (W : World) (tk : List Int) (v : Value) (h : RowSl nuV W tk v) (hl : tk.length ≤ 9223372036854775807) : Calls Try.prog 29 #[v, .func (Fn.func 30) #[] #[]] W fun r w' => r = .returned (.bool (decide (0 ≤ firstNeg tk 0))) ∧ w' = W := by
  have HC := indexNeg_any W tk v h hl
  generalize firstNeg tk 0 = z at *
  clear h
  go_enter Try.func29, Try.ntmps29
  go_wp2_with (go_at_call 46; refine HC.mono ?_; rintro r w5 ⟨rfl, hw5⟩; have hw6 := hw5.symm; subst hw6)
  go_ret
  exact ⟨rfl, rfl⟩

/-- What is wrong with comings. -/
def chkC (l : List Pa) : List Co → Nat → Int × Int
  | [], _ => (0, 0)
  | c :: r, i => if within c.k 0 ((l.length : Int) - 1) = false ∨ (l.getD c.k.toNat paZ).fr ≠ -1 then (4, i) else if within c.a 0 20000 = false then (3, i) else chkC l r (i + 1)
def chkPl (l : List Pa) (cs : List Co) (tk : List Int) (n : Int) : Int × Int :=
  if (chkP l).1 ≠ 0 then chkP l else if 4000 < cs.length then (2, 0) else if within n 0 20000 = false ∨ 0 ≤ firstNeg tk 0 then (3, 0) else chkC l cs 0

theorem checkPlay_ends {w : World} {g : Nat} {c k : Value} {a : Act} (h : w.heap[g]? = some (.cells #[c, k] 29 (0, 0))) (h3 : a.tmps[8]?.getD undef = .pointer (some ⟨g, 0, none⟩)) :
    (results Try.f16 a.tmps).run Try.prog w = .ok (.agg #[c, k]) w := by
  obtain ⟨c1, f1, l1⟩ := cells_of (l := [_, _]) h
  have c10 := c1 0 _ rfl
  have c11 := c1 1 _ rfl
  simp [results, Try.results16, go_sem, h3, c10, c11]

set_option maxRecDepth 20000 in
set_option maxHeartbeats 8000000 in
theorem checkPlay_any (w : World) (l : List Pa) (cs : List Co) (tk : List Int) (n : Int) (pv cv tv : Value) (hp : RowSl Pa.vals w l pv) (hc : RowSl Co.vals w cs cv) (ht : RowSl nuV w tk tv) (hcl : cs.length ≤ 1000000) (htl : tk.length ≤ 9223372036854775807) : Calls Try.prog 16 #[pv, cv, tv, .int .i64 n] w fun r w' => r = .returned (.agg #[.int .i64 (chkPl l cs tk n).1, .int .i64 (chkPl l cs tk n).2]) ∧ Below w.heap.size w w' := by
  have HC := CheckC_any (w.alloc (.cells #[.int .i64 0, .int .i64 0] 29)) l pv (hp.below (below_new _ _))
  obtain ⟨z1, z2, hz⟩ : ∃ z1 z2, chkP l = (z1, z2) := ⟨_, _, rfl⟩
  have HZ : Hid (chkP l = (z1, z2)) := hz
  rw [hz] at HC
  dsimp only at HC
  obtain ⟨a, ha⟩ : ∃ a, chkPl l cs tk n = a := ⟨_, rfl⟩
  have HA : Hid (chkPl l cs tk n = a) := ha
  rw [ha]
  have HT : Hid (∀ W, Below w.heap.size w W → Calls Try.prog 29 #[tv, .func (Fn.func 30) #[] #[]] W fun r w' => r = .returned (.bool (decide (0 ≤ firstNeg tk 0))) ∧ w' = W) := fun W hb => anyNeg_any W tk tv (ht.below hb) htl
  have HV : Hid (RowSl Pa.vals w l pv) := hp
  obtain ⟨ad, c, rfl, -, hcap, hrow⟩ := hc
  have HCR : Hid (cs = [] ∨ ∃ b o, ad = some ⟨b, o, none⟩ ∧ ∀ q u, (cs.flatMap Co.vals)[q]? = some u → w.cell? ⟨b, o + q, none⟩ = some u) := hrow
  obtain ⟨pad, pc, rfl⟩ := hp.len
  obtain ⟨tad, tc, rfl⟩ := ht.len
  have hF : Hid (FB w (w.alloc (.cells #[.int .i64 0, .int .i64 0] 29)) w.heap.size) := FB.start w
  clear hp ht hz ha hrow
  go_enter Try.func16, Try.ntmps16
  go_upto_region 2 with (go_at_call 11; refine HC.mono ?_; rintro r w1 ⟨rfl, hb1⟩; have H1 : Hid (FB w (w1.alloc (.cells #[.int .i64 z1, .int .i64 z2] 29)) w.heap.size) := (hF.out.grow hb1).grow (below_new _ _); have hl1 : w.heap.size < w1.heap.size := (hF.out.grow hb1).lt; clear hb1 HC)
  obtain ⟨fs, -, fl⟩ := cells_of (l := [_, _]) (heap_alloc_new w1 (.cells #[.int .i64 z1, .int .i64 z2] 29))
  have g0 := fs 0 _ rfl
  have g1 := fs 1 _ rfl
  clear fs hF
  generalize w1.alloc (.cells #[.int .i64 z1, .int .i64 z2] 29) = w2 at *
  generalize w1.heap.size = gf at *
  obtain ⟨q0, q1, qf0, qf1, ql⟩ := H1.out.res2
  by_cases h0 : z1 = 0
  rotate_left 1
  · have hz1 : (z1 != 0) = true := by simpa using h0
    have HN : Hid (a = (z1, z2)) := (by rw [← HA.out]; unfold chkPl; rw [if_pos (by rw [HZ.out]; exact h0), HZ.out] : a = (z1, z2))
    clear h0
    go_wp2_with fail
    refine bodyPost_ret (checkPlay_ends (g := w.heap.size) (c := .int .i64 z1) (k := .int .i64 z2) (set_two H1.out.res) rfl) rfl ?_
    rw [HN.out]
    exact ⟨rfl, H1.out.set _ _⟩
  subst h0
  have HZ0 : Hid (¬ (chkP l).1 ≠ 0) := (by rw [HZ.out]; simp : ¬ (chkP l).1 ≠ 0)
  by_cases h4 : 4000 < cs.length
  · have HN : Hid (a = (2, 0)) := (by rw [← HA.out]; unfold chkPl; rw [if_neg HZ0.out, if_pos h4] : a = (2, 0))
    have h4i : (4000 : Int) < (cs.length : Int) := by omega
    go_wp2_with fail
    refine bodyPost_ret (checkPlay_ends (g := w.heap.size) (c := .int .i64 2) (k := .int .i64 0) (set_two H1.out.res) rfl) rfl ?_
    rw [HN.out]
    exact ⟨rfl, H1.out.set _ _⟩
  have h4i : ¬ (4000 : Int) < (cs.length : Int) := by omega
  rcases hw : within n 0 20000 with _ | _
  · have HN : Hid (a = (3, 0)) := (by rw [← HA.out]; unfold chkPl; rw [if_neg HZ0.out, if_neg h4, if_pos (.inl hw)] : a = (3, 0))
    go_wp2_with (go_at_call 22; refine (withinC_any _ _ _ _).mono ?_; rintro r w3 ⟨rfl, hw3⟩; have hw4 := hw3.symm; subst hw4; rw [hw])
    refine bodyPost_ret (checkPlay_ends (g := w.heap.size) (c := .int .i64 3) (k := .int .i64 0) (set_two H1.out.res) rfl) rfl ?_
    rw [HN.out]
    exact ⟨rfl, H1.out.set _ _⟩
  by_cases hn : 0 ≤ firstNeg tk 0
  · have HN : Hid (a = (3, 0)) := (by rw [← HA.out]; unfold chkPl; rw [if_neg HZ0.out, if_neg h4, if_pos (.inr hn)] : a = (3, 0))
    have HT2 := HT.out w2 H1.out.bel
    rw [decide_eq_true hn] at HT2
    go_wp2_with (first
      | (go_at_call 29; refine HT2.mono ?_; rintro r w3 ⟨rfl, hw3⟩; have hw4 := hw3.symm; subst hw4; clear HT2)
      | (go_at_call 22; refine (withinC_any _ _ _ _).mono ?_; rintro r w3 ⟨rfl, hw3⟩; have hw4 := hw3.symm; subst hw4; rw [hw]))
    refine bodyPost_ret (checkPlay_ends (g := w.heap.size) (c := .int .i64 3) (k := .int .i64 0) (set_two H1.out.res) rfl) rfl ?_
    rw [HN.out]
    exact ⟨rfl, H1.out.set _ _⟩
  have HT2 := HT.out w2 H1.out.bel
  rw [decide_eq_false hn] at HT2
  have HA2 : Hid (chkC l cs 0 = a) := by
    have h9 := HA.out
    unfold chkPl at h9
    rw [if_neg HZ0.out, if_neg h4, if_neg (by rw [hw]; simpa using hn)] at h9
    exact h9
  have hok := chkP_ok (l := l) (by rw [HZ.out])
  have h1 := hok.one
  have h8 := hok.most
  clear HA HZ hok hn
  go_upto_region 9 with (first
    | (go_at_call 29; refine HT2.mono ?_; rintro r w3 ⟨rfl, hw3⟩; have hw4 := hw3.symm; subst hw4; clear HT2)
    | (go_at_call 22; refine (withinC_any _ _ _ _).mono ?_; rintro r w3 ⟨rfl, hw3⟩; have hw4 := hw3.symm; subst hw4; rw [hw]))
  have HX0 : Hid (FB w w2 w.heap.size ∧ chkC l (cs.drop 0) 0 = a) := ⟨H1.out, HA2.out⟩
  clear g0 g1 q0 q1 qf0 qf1 ql fl hl1 HT H1 HA2
  go_wp2_with fail
  go_loopw [35] (fun iv wr => ∃ i : Nat, i ≤ cs.length ∧ iv = .int .i64 (i : Int) ∧ Hid (FB w wr w.heap.size ∧ chkC l (cs.drop i) i = a)) (fun iv _ => cs.length - (intOf iv).toNat)
  case atStart => exact ⟨0, Nat.zero_le _, rfl, HX0⟩
  case round =>
    obtain ⟨i, hi, rfl, HX⟩ := hrel
    clear HX0
    by_cases hil : i < cs.length
    rotate_left 1
    · have hie : i = cs.length := by omega
      subst hie
      have hii : ¬ ((cs.length : Nat) : Int) < (cs.length : Int) := by omega
      have HN : Hid (a = (0, 0)) := by
        have h9 := HX.out.2
        rw [List.drop_of_length_le (Nat.le_refl _)] at h9
        exact h9.symm
      have H1 : Hid (FB w wr w.heap.size) := HX.out.1
      obtain ⟨q0, q1, qf0, qf1, ql⟩ := HX.out.1.res2
      go_wp2_with fail
      refine bodyPost_ret (checkPlay_ends (g := w.heap.size) (c := .int .i64 0) (k := .int .i64 0) (set_two H1.out.res) rfl) rfl ?_
      rw [HN.out]
      exact ⟨rfl, H1.out.set _ _⟩
    obtain ⟨x, hx, hd⟩ := drop_at hil
    rcases HCR.out with h9 | ⟨b, o, rfl, hrow⟩
    · rw [h9] at hil; simp at hil
    have hco := co_at (fun q u hq => below_cell HX.out.1.bel (hrow q u hq)) hx
    have lb : b < wr.heap.size := World.block_lt_of_cell? _ _ hco.1
    have hii : (i : Int) < (cs.length : Int) := by omega
    have hch := HX.out.2
    rw [hd] at hch
    unfold chkC at hch
    obtain ⟨ck, ca⟩ := x
    obtain ⟨y0, y1⟩ := hco
    dsimp only at y0 y1 hch
    have HCH : Hid ((if within ck 0 ((l.length : Int) - 1) = false ∨ (l.getD ck.toNat paZ).fr ≠ -1 then (4, (i : Int)) else if within ca 0 20000 = false then (3, (i : Int)) else chkC l (cs.drop (i + 1)) (i + 1)) = a) := hch
    have HW : Hid (FB w wr w.heap.size) := HX.out.1
    have HF : Hid (FB w (wr.alloc (.cells #[.int .i64 ck, .int .i64 ca] 33)) w.heap.size) := HX.out.1.grow (below_new _ _)
    have hw1 : IntKind.i64.wrap ((l.length : Int) - 1) = (l.length : Int) - 1 := by rw [IntKind.wrap_i64]; omega
    have gne : ¬ w.heap.size = wr.heap.size := by have := HX.out.1.lt; omega
    obtain ⟨q0, q1, qf0, qf1, ql⟩ := HX.out.1.res2
    clear hx hd hch hrow HX
    rcases hw2 : within ck 0 ((l.length : Int) - 1) with _ | _
    · have HN : Hid (a = (4, (i : Int))) := by
        have h9 := HCH.out
        rw [if_pos (.inl hw2)] at h9
        exact h9.symm
      go_wp2_with (go_at_call 22; refine (withinC_any _ _ _ _).mono ?_; rintro r w3 ⟨rfl, hw3⟩; have hw4 := hw3.symm; subst hw4; rw [hw2])
      have hE := HW.out.endA (.int .i64 4) (.int .i64 (i : Int)) (.cells #[.int .i64 ck, .int .i64 ca] 33)
      refine bodyPost_ret (checkPlay_ends (g := w.heap.size) (c := .int .i64 4) (k := .int .i64 (i : Int)) hE.1 rfl) rfl ?_
      rw [HN.out]
      exact ⟨rfl, hE.2⟩
    have hck : 0 ≤ ck ∧ ck ≤ (l.length : Int) - 1 := by
      unfold within at hw2
      simpa using hw2
    obtain ⟨kn, rfl⟩ : ∃ kn : Nat, ck = (kn : Int) := ⟨ck.toNat, by omega⟩
    have hkn : kn < l.length := by omega
    obtain ⟨x, hx⟩ : ∃ x, l[kn]? = some x := ⟨_, List.getElem?_eq_getElem hkn⟩
    obtain ⟨pad', pc', he, -, hpc, hprow⟩ := HV.out
    cases he
    rcases hprow with h9 | ⟨pb, po, rfl, hprow⟩
    · rw [h9] at h1; simp at h1
    obtain ⟨p0, p1, p2, p3, p4, p5, p6⟩ := pa7_at (fun q u hq => below_cell HF.out.bel (hprow q u hq)) hx
    have lpb := World.block_lt_of_cell? _ _ p0
    obtain ⟨p0', -, -, -, -, -, -⟩ := pa7_at (fun q u hq => hprow q u hq) hx
    have lpb2 : pb < wr.heap.size := Nat.lt_of_lt_of_le (World.block_lt_of_cell? _ _ p0') (Nat.le_of_lt_succ (by have := HF.out.lt; have := HF.out.bel.size; omega))
    have hkni : (kn : Int) < (l.length : Int) := by omega
    have HB := begins_any (wr.alloc (.cells #[.int .i64 (kn : Int), .int .i64 ca] 33)) x
    have hxd : l.getD kn paZ = x := getD_some hx
    have HCH2 : Hid ((if x.fr ≠ -1 then (4, (i : Int)) else if within ca 0 20000 = false then (3, (i : Int)) else chkC l (cs.drop (i + 1)) (i + 1)) = a) := by
      have h9 := HCH.out
      rw [Int.toNat_natCast, hxd, hw2] at h9
      show _ = _
      rw [← h9]
      by_cases e : x.fr = -1
      · rw [if_neg (show ¬ x.fr ≠ -1 by simpa using e), if_neg (show ¬ (true = false ∨ x.fr ≠ -1) by simp [e])]
      · rw [if_pos e, if_pos (.inr e)]
    clear hx hxd hprow HCH p0'
    obtain ⟨xco, xfr, xse, xc, xt, xd, xp⟩ := x
    unfold Pa.val at HB
    dsimp only at *
    by_cases hf : xfr = -1
    rotate_left 1
    · have hfb : (xfr == -1) = false := by simpa using hf
      rw [hfb] at HB
      have HN : Hid (a = (4, (i : Int))) := by
        have h9 := HCH2.out
        rw [if_pos hf] at h9
        exact h9.symm
      clear hf HCH2
      go_wp2_with (first
        | (go_at_call 25; refine HB.mono ?_; rintro r w5 ⟨rfl, hb5⟩; have H5 : Hid (FB w w5 w.heap.size) := HF.out.grow hb5; obtain ⟨e0, e1, ef0, ef1, el⟩ := H5.out.res2; clear hb5 HB)
        | (go_at_call 22; refine (withinC_any _ _ _ _).mono ?_; rintro r w3 ⟨rfl, hw3⟩; have hw4 := hw3.symm; subst hw4; rw [hw2]))
      refine bodyPost_ret (checkPlay_ends (g := w.heap.size) (c := .int .i64 4) (k := .int .i64 (i : Int)) (set_two H5.out.res) rfl) rfl ?_
      rw [HN.out]
      exact ⟨rfl, H5.out.set _ _⟩
    have hfb : (xfr == -1) = true := by simpa using hf
    rw [hfb] at HB
    have HCH3 : Hid ((if within ca 0 20000 = false then (3, (i : Int)) else chkC l (cs.drop (i + 1)) (i + 1)) = a) := by
      have h9 := HCH2.out
      rw [if_neg (by simpa using hf)] at h9
      exact h9
    clear HCH2 hf
    have yc1 : (wr.alloc (.cells #[.int .i64 (kn : Int), .int .i64 ca] 33)).cell? ⟨wr.heap.size, 1, none⟩ = some (.int .i64 ca) := (cells_of (l := [_, _]) (heap_alloc_new wr (.cells #[.int .i64 (kn : Int), .int .i64 ca] 33))).1 1 _ rfl
    go_upto_region 13 with (first
      | (go_at_call 25; refine HB.mono ?_; rintro r w5 ⟨rfl, hb5⟩; have H5 : Hid (FB w w5 w.heap.size) := HF.out.grow hb5; obtain ⟨e0, e1, ef0, ef1, el⟩ := H5.out.res2; have yc5 := below_cell hb5 yc1; clear hb5 HB)
      | (go_at_call 22; refine (withinC_any _ _ _ _).mono ?_; rintro r w3 ⟨rfl, hw3⟩; have hw4 := hw3.symm; subst hw4; rw [hw2]))
    rcases hw5 : within ca 0 20000 with _ | _
    · have HN : Hid (a = (3, (i : Int))) := by
        have h9 := HCH3.out
        rw [if_pos hw5] at h9
        exact h9.symm
      clear HCH3
      go_wp2_with (go_at_call 22; refine (withinC_any _ ca 0 20000).mono ?_; rintro r w6 ⟨rfl, hw6⟩; have hw7 := hw6.symm; subst hw7; rw [hw5])
      refine bodyPost_ret (checkPlay_ends (g := w.heap.size) (c := .int .i64 3) (k := .int .i64 (i : Int)) (set_two H5.out.res) rfl) rfl ?_
      rw [HN.out]
      exact ⟨rfl, H5.out.set _ _⟩
    · have HN : Hid (chkC l (cs.drop (i + 1)) (i + 1) = a) := by
        have h9 := HCH3.out
        rw [if_neg (by rw [hw5]; simp)] at h9
        exact h9
      clear HCH3
      go_wp2_with (go_at_call 22; refine (withinC_any _ ca 0 20000).mono ?_; rintro r w6 ⟨rfl, hw6⟩; have hw7 := hw6.symm; subst hw7; rw [hw5])
      exact ⟨⟨i + 1, by omega, by simp, ⟨H5.out, HN.out⟩⟩, by simp [intOf]; omega⟩
end Go.Proofs.Ytccoobcggbbciam
