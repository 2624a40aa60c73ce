import Derived.Test.YtkafihaajpifoakCB
import Derived.Test.YtkafihaajpifoakCT
namespace Go.Proofs.Ytkafihaajpifoak
open Go.ChangeShapes Go.WideShapes Go.ChangeAt Go.RowKit Go.Sort

/-- What is wrong with what was heard, and where. -/
def rndE (n : Nat) (f : Int) : List (List Int) → List Int → Nat → Int × Int
  | x :: r, d :: ds, i => if x.length ≠ n ∨ nearB d = false then (3, (i : Int)) else if (midF x f).2 ≠ 0 then ((midF x f).2, (i : Int)) else rndE n f r ds (i + 1)
  | _, _, _ => (0, 0)

/-- What each clock says at the next time. -/
def rndL (f : Int) (h : List (List Int)) (d : List Int) : List Int := List.zipWith (fun x y => IntKind.i64.wrap ((midF x f).1 + y)) h d

def rndF (h : List (List Int)) (f : Int) (d : List Int) : List Int × Int × Int :=
  if h.length = 0 ∨ 10 < h.length ∨ d.length ≠ h.length then ([], 2, 0)
  else if (rndE h.length f h d 0).1 = 0 then (rndL f h d, 0, 0) else ([], rndE h.length f h d 0)

theorem rndE_at {n : Nat} {f : Int} {h : List (List Int)} {d : List Int} {j : Nat} {x : List Int} {y : Int} (h1 : h.drop j = x :: h.drop (j + 1)) (h2 : d.drop j = y :: d.drop (j + 1)) : rndE n f (h.drop j) (d.drop j) j = if x.length ≠ n ∨ nearB y = false then (3, (j : Int)) else if (midF x f).2 ≠ 0 then ((midF x f).2, (j : Int)) else rndE n f (h.drop (j + 1)) (d.drop (j + 1)) (j + 1) := by
  rw [h1, h2, rndE]

theorem rndE_nil (n : Nat) (f : Int) (d : List Int) (i : Nat) : rndE n f [] d i = (0, 0) := by cases d <;> simp [rndE]

theorem rndL_take {f : Int} {h : List (List Int)} {d : List Int} {j : Nat} {x : List Int} {y : Int} (h1 : h[j]? = some x) (h2 : d[j]? = some y) : (rndL f h d).take (j + 1) = (rndL f h d).take j ++ [IntKind.i64.wrap ((midF x f).1 + y)] := by
  rw [List.take_add_one]
  congr 1
  unfold rndL
  rw [List.getElem?_zipWith, h1, h2]
  rfl

theorem rndL_len {f : Int} {h : List (List Int)} {d : List Int} (e : d.length = h.length) : (rndL f h d).length = h.length := by
  unfold rndL
  rw [List.length_zipWith]
  omega

def RndPost (w : World) (h : List (List Int)) (f : Int) (d : List Int) (r : Ending) (w' : World) : Prop := ∃ tv, r = .returned (.tuple #[tv, .agg #[.int .i64 (rndF h f d).2.1, .int .i64 (rndF h f d).2.2]]) ∧ RowSl nuV w' (rndF h f d).1 tv ∧ Below w.heap.size w w'

theorem RndPost.bad {w w' : World} {h : List (List Int)} {f : Int} {d : List Int} {a b : Int} (e : rndF h f d = ([], a, b)) (hb : Below w.heap.size w w') : RndPost w h f d (.returned (.tuple #[.slice none 0 0, .agg #[.int .i64 a, .int .i64 b]])) w' := ⟨_, by rw [e], by rw [e]; exact RowSl.nil _ _, hb⟩

theorem Round_ends {w : World} {g : Nat} {c k v : Value} {a : Act} (h : w.heap[g]? = some (.cells #[c, k] 30 (0, 0))) (h2 : a.tmps[6]?.getD undef = v) (h3 : a.tmps[7]?.getD undef = .pointer (some ⟨g, 0, none⟩)) :
    (results Try.f8 a.tmps).run Try.prog w = .ok (.tuple #[v, .agg #[c, k]]) w := by
  obtain ⟨c1, f1, l1⟩ := cells_of (l := [_, _]) h
  have c10 := c1 0 _ rfl
  have c11 := c1 1 _ rfl
  simp [results, Try.results8, go_sem, h2, h3, c10, c11]

set_option maxRecDepth 20000 in
set_option maxHeartbeats 4000000 in
theorem Round_any (w : World) (l : List Ro) (f : Int) (d : List Int) (v vd : Value) (hv : TabSl w l v) (hd : RowSl nuV w d vd) : Calls Try.prog 8 #[v, .int .i64 f, vd] w (RndPost w (l.map Ro.xs) f d) := by
  obtain ⟨ad, c, rfl⟩ := hv.1.len
  obtain ⟨ad2, c2, rfl⟩ := hd.len
  by_cases h1 : l.length = 0 ∨ 10 < l.length
  · have e : rndF (l.map Ro.xs) f d = ([], 2, 0) := by rw [rndF, if_pos (by rw [List.length_map]; omega)]
    have e1 : within (l.length : Int) 1 10 = false := by simp [within]; omega
    clear hv hd
    go_enter Try.func8, Try.ntmps8
    go_wp2_with (go_at_call 10; refine (isClocks_any _ _).mono ?_; rintro r w1 ⟨rfl, hw1⟩; have hw2 := hw1.symm; subst hw2; clear hw1; rw [e1])
    refine bodyPost_ret (Round_ends (g := w.heap.size) (c := .int .i64 2) (k := .int .i64 0) (v := .slice none 0 0) (heap_alloc_new _ _) rfl rfl) rfl ?_
    exact RndPost.bad e (below_new _ _)
  have e1 : within (l.length : Int) 1 10 = true := by simp [within]; omega
  by_cases h2 : d.length = l.length
  rotate_left 1
  · have e : rndF (l.map Ro.xs) f d = ([], 2, 0) := by rw [rndF, if_pos (by rw [List.length_map]; omega)]
    have f1 : ((d.length : Int) != (l.length : Int)) = true := by simp; omega
    have f2 : ((d.length : Int) == (l.length : Int)) = false := beq_eq_false_iff_ne.2 (by omega)
    have f3 : decide ((d.length : Int) = (l.length : Int)) = false := decide_eq_false (by omega)
    clear hv hd
    go_enter Try.func8, Try.ntmps8
    go_wp2_with (go_at_call 10; refine (isClocks_any _ _).mono ?_; rintro r w1 ⟨rfl, hw1⟩; have hw2 := hw1.symm; subst hw2; clear hw1; rw [e1])
    refine bodyPost_ret (Round_ends (g := w.heap.size) (c := .int .i64 2) (k := .int .i64 0) (v := .slice none 0 0) (heap_alloc_new _ _) rfl rfl) rfl ?_
    exact RndPost.bad e (below_new _ _)
  rw [h2] at hd ⊢
  have HV : Hid (TabSl w l (.slice ad l.length c) ∧ RowSl nuV w d (.slice ad2 l.length c2) ∧ d.length = l.length ∧ ¬ (l.length = 0 ∨ 10 < l.length)) := ⟨hv, hd, h2, h1⟩
  have hl10 : l.length ≤ 10 := by omega
  clear hv hd h1 h2
  have H1 : Hid (FB w (w.alloc (.cells #[.int .i64 0, .int .i64 0] 30)) w.heap.size) := FB.start w
  go_enter Try.func8, Try.ntmps8
  go_upto_region 4 with (go_at_call 10; refine (isClocks_any _ _).mono ?_; rintro r w1 ⟨rfl, hw1⟩; have hw2 := hw1.symm; subst hw2; clear hw1; rw [e1])
  generalize w.alloc (.cells #[.int .i64 0, .int .i64 0] 30) = w2 at *
  obtain ⟨w3, hmk, hb3, hh3⟩ := make_ints w2 l.length (by omega)
  have H3 : Hid (TW w w3 l.length w2.heap.size []) := ⟨H1.out.grow hb3, hh3, H1.out.lt⟩
  generalize w2.heap.size = G at *
  clear H1 hb3 hh3
  go_wp2_with fail
  go_loopw [30] (fun i wr => ∃ j : Nat, j ≤ l.length ∧ i = .int .i64 (j : Int) ∧ TW w wr l.length G ((rndL f (l.map Ro.xs) d).take j) ∧ Hid (rndE l.length f ((l.map Ro.xs).drop j) (d.drop j) j = rndE l.length f (l.map Ro.xs) d 0)) (fun i _ => l.length - (intOf i).toNat)
  case atStart => exact ⟨0, Nat.zero_le _, rfl, by rw [List.take_zero]; exact H3.out, rfl⟩
  case round =>
    obtain ⟨j, hj, rfl, htw, HQ⟩ := hrel
    have HT : Hid (TW w wr l.length G ((rndL f (l.map Ro.xs) d).take j)) := htw
    obtain ⟨qs, qf, ql⟩ := cells_of (l := [_, _]) htw.fb.res
    have q0 := qs 0 _ rfl
    have q1 := qs 1 _ rfl
    have qf0 := qf 0
    have qf1 := qf 1
    clear qs qf
    by_cases hjl : j < l.length
    · obtain ⟨x, hx, -⟩ := drop_at hjl
      have hjd : j < d.length := by have := HV.out.2.2.1; omega
      obtain ⟨y, hy, hdy⟩ := drop_at hjd
      have hjm : j < (l.map Ro.xs).length := by rw [List.length_map]; exact hjl
      obtain ⟨x', hx', hdx⟩ := drop_at hjm
      have hxx : x' = x.xs := by rw [List.getElem?_map, hx] at hx'; exact (Option.some.inj hx').symm
      subst hxx
      obtain ⟨ad', c', he, -, hcap, hrow⟩ := HV.out.1.1.below htw.fb.bel
      cases he
      rcases hrow with h | ⟨b, o, rfl, hrow⟩
      · rw [h] at hjl; simp at hjl
      obtain ⟨ad2', c2', he2, -, hcap2, hrow2⟩ := HV.out.2.1.below htw.fb.bel
      rw [HV.out.2.2.1] at he2
      cases he2
      rcases hrow2 with h | ⟨b2, o2, rfl, hrow2⟩
      · rw [h] at hjd; simp at hjd
      have c0 := ro_at hrow hx
      have y0 := nu_at hrow2 hy
      have rx := (HV.out.1.2 x (List.mem_of_getElem? hx)).below htw.fb.bel
      have HM := Middle_any wr x.xs f x.v rx
      obtain ⟨xa, xc, hxe⟩ := rx.len
      rw [hxe] at c0 HM
      have lb : b < wr.heap.size := World.block_lt_of_cell? _ _ c0
      have lb2 : b2 < wr.heap.size := World.block_lt_of_cell? _ _ y0
      have hji : (j : Int) < (l.length : Int) := by omega
      have hE := HQ.out
      rw [rndE_at hdx hdy] at hE
      have HX : Hid ((l.map Ro.xs)[j]? = some x.xs ∧ d[j]? = some y) := ⟨hx', hy⟩
      clear hrow hrow2 hx hy hx' hdx hdy htw HQ hxe rx
      by_cases n1 : x.xs.length = l.length
      rotate_left 1
      · rw [if_pos (.inl n1)] at hE
        have HE : Hid (rndF (l.map Ro.xs) f d = ([], 3, (j : Int))) := by show _ = _; rw [rndF, if_neg (by rw [List.length_map]; have h8 := HV.out.2.2; omega), List.length_map, ← hE, if_neg (show ¬ ((3 : Int) = 0) by decide)]
        have f1 : ((x.xs.length : Int) != (l.length : Int)) = true := by simp; omega
        have f2 : ((x.xs.length : Int) == (l.length : Int)) = false := beq_eq_false_iff_ne.2 (by omega)
        have f3 : decide ((x.xs.length : Int) = (l.length : Int)) = false := decide_eq_false (by omega)
        clear hE HM
        go_wp2_with fail
        refine bodyPost_ret (Round_ends (g := w.heap.size) (c := .int .i64 3) (k := .int .i64 (j : Int)) (v := .slice none 0 0) (set_two HT.out.fb.res) rfl rfl) rfl ?_
        exact RndPost.bad HE.out (HT.out.fb.set _ _)
      by_cases n2 : nearB y = false
      · rw [if_pos (.inr n2)] at hE
        have HE : Hid (rndF (l.map Ro.xs) f d = ([], 3, (j : Int))) := by show _ = _; rw [rndF, if_neg (by rw [List.length_map]; have h8 := HV.out.2.2; omega), List.length_map, ← hE, if_neg (show ¬ ((3 : Int) = 0) by decide)]
        have e2 := n2
        rw [n1] at c0
        clear hE HM n2
        go_wp2_with (go_at_call 11; refine (isNear_any _ _).mono ?_; rintro r w1 ⟨rfl, hw1⟩; have hw2 := hw1.symm; subst hw2; clear hw1; rw [e2])
        refine bodyPost_ret (Round_ends (g := w.heap.size) (c := .int .i64 3) (k := .int .i64 (j : Int)) (v := .slice none 0 0) (set_two HT.out.fb.res) rfl rfl) rfl ?_
        exact RndPost.bad HE.out (HT.out.fb.set _ _)
      rw [if_neg (by simp [n1, n2])] at hE
      have e2 : nearB y = true := by simpa using n2
      by_cases n3 : (midF x.xs f).2 = 0
      rotate_left 1
      · rw [if_pos n3] at hE
        have HE : Hid (rndF (l.map Ro.xs) f d = ([], (midF x.xs f).2, (j : Int))) := by show _ = _; rw [rndF, if_neg (by rw [List.length_map]; have h8 := HV.out.2.2; omega), List.length_map, ← hE, if_neg n3]
        obtain ⟨m1, hm1⟩ : ∃ m1, (midF x.xs f).1 = m1 := ⟨_, rfl⟩
        obtain ⟨m2, hm2⟩ : ∃ m2, (midF x.xs f).2 = m2 := ⟨_, rfl⟩
        rw [hm1, hm2] at HM
        rw [hm2] at HE n3
        have f1 : (m2 != 0) = true := by simpa using n3
        have f2 : (m2 == 0) = false := by simpa using n3
        have f3 : decide (m2 = 0) = false := by simpa using n3
        rw [n1] at c0 HM
        clear hE n2 n3 hm1 hm2
        go_wp2_with (first | (go_at_call 11; refine (isNear_any _ _).mono ?_; rintro r w1 ⟨rfl, hw1⟩; have hw2 := hw1.symm; subst hw2; clear hw1; rw [e2]) | (go_at_call 9; refine HM.mono ?_; rintro r w5 ⟨rfl, hb5⟩; have H5 : Hid (TW w w5 l.length G ((rndL f (l.map Ro.xs) d).take j)) := HT.out.grow hb5; have lg5 : w.heap.size < w5.heap.size := H5.out.fb.lt; have y5 := below_cell hb5 y0; obtain ⟨qs, qf, ql⟩ := cells_of (l := [_, _]) H5.out.fb.res; have q0 := qs 0 _ rfl; have q1 := qs 1 _ rfl; have qf0 := qf 0; have qf1 := qf 1; clear qs qf hb5 HM))
        refine bodyPost_ret (Round_ends (g := w.heap.size) (c := .int .i64 m2) (k := .int .i64 (j : Int)) (v := .slice none 0 0) (set_two H5.out.fb.res) rfl rfl) rfl ?_
        exact RndPost.bad HE.out (H5.out.fb.set _ _)
      rw [if_neg (by simpa using n3)] at hE
      have HE : Hid (rndE l.length f ((l.map Ro.xs).drop (j + 1)) (d.drop (j + 1)) (j + 1) = rndE l.length f (l.map Ro.xs) d 0) := hE
      have hL := rndL_take (f := f) HX.out.1 HX.out.2
      have hLl : ((rndL f (l.map Ro.xs) d).take j).length = j := by rw [List.length_take, rndL_len (by rw [List.length_map]; exact HV.out.2.2.1), List.length_map]; omega
      obtain ⟨m1, hm1⟩ : ∃ m1, (midF x.xs f).1 = m1 := ⟨_, rfl⟩
      rw [hm1, n3] at HM
      rw [hm1] at hL
      rw [n1] at c0 HM
      obtain ⟨sm, hsm⟩ : ∃ sm, IntKind.i64.wrap (m1 + y) = sm := ⟨_, rfl⟩
      rw [hsm] at hL
      have HLL : Hid ((rndL f (l.map Ro.xs) d).take (j + 1) = (rndL f (l.map Ro.xs) d).take j ++ [sm] ∧ ((rndL f (l.map Ro.xs) d).take j).length = j) := ⟨hL, hLl⟩
      have hlj : j < (runCells l.length ((rndL f (l.map Ro.xs) d).take j)).length := by rw [runCells_len (by rw [hLl]; omega)]; exact hjl
      obtain ⟨rold, hro⟩ : ∃ r, (runCells l.length ((rndL f (l.map Ro.xs) d).take j))[j]? = some r := ⟨_, List.getElem?_eq_getElem hlj⟩
      have HRO : Hid ((runCells l.length ((rndL f (l.map Ro.xs) d).take j))[j]? = some rold) := hro
      clear hE n2 n3 hm1 hL hLl hlj hro
      go_wp2_with (first | (go_at_call 11; refine (isNear_any _ _).mono ?_; rintro r w1 ⟨rfl, hw1⟩; have hw2 := hw1.symm; subst hw2; clear hw1; rw [e2]) | (go_at_call 9; refine HM.mono ?_; rintro r w5 ⟨rfl, hb5⟩; have H5 : Hid (TW w w5 l.length G ((rndL f (l.map Ro.xs) d).take j)) := HT.out.grow hb5; have lg5 : w.heap.size < w5.heap.size := H5.out.fb.lt; have y5 := below_cell hb5 y0; obtain ⟨rc, rf, rl⟩ := cells_of (l := runCells l.length ((rndL f (l.map Ro.xs) d).take j)) H5.out.row; have r0 := rc j _ HRO.out; have rf0 := rf j; clear rc rf hb5 HM))
      have hp := H5.out.put (v := sm) (by rw [HLL.out.2]; exact hjl)
      rw [HLL.out.2, ← HLL.out.1] at hp
      exact ⟨⟨j + 1, by omega, by simp, hp, HE⟩, by simp [intOf]; omega⟩
    · have hje : j = l.length := by omega
      subst hje
      have hE := HQ.out
      rw [List.drop_eq_nil_of_le (by rw [List.length_map]; exact Nat.le_refl _), rndE_nil] at hE
      have HE : Hid (rndF (l.map Ro.xs) f d = (rndL f (l.map Ro.xs) d, 0, 0)) := by show _ = _; rw [rndF, if_neg (by rw [List.length_map]; have h8 := HV.out.2.2; omega), List.length_map, ← hE, if_pos rfl]
      clear hE HQ htw
      go_wp2_with fail
      refine bodyPost_ret (Round_ends (g := w.heap.size) (c := .int .i64 0) (k := .int .i64 0) (v := .slice (some ⟨G, 0, none⟩) l.length l.length) (set_two HT.out.fb.res) rfl rfl) rfl ?_
      refine ⟨_, by rw [HE.out], ?_, HT.out.fb.set _ _⟩
      rw [HE.out]
      have hLl : (rndL f (l.map Ro.xs) d).length = l.length := by rw [rndL_len (by rw [List.length_map]; exact HV.out.2.2.1), List.length_map]
      have htk : (rndL f (l.map Ro.xs) d).take l.length = rndL f (l.map Ro.xs) d := List.take_of_length_le (by omega)
      have hrow2 : (((wr.setCell ⟨w.heap.size, 0, none⟩ (.int .i64 0)).setCell ⟨w.heap.size, 1, none⟩ (.int .i64 0))).heap[G]? = some (.cells ((rndL f (l.map Ro.xs) d).map (Value.int .i64)).toArray 3 (0, 0)) := by
        have hlo := HT.out.low
        rw [Below.heap_setCell _ _ _ _ (show G ≠ w.heap.size by omega), Below.heap_setCell _ _ _ _ (show G ≠ w.heap.size by omega), HT.out.row, htk]
        rw [show runCells l.length (rndL f (l.map Ro.xs) d) = runCells (rndL f (l.map Ro.xs) d).length (rndL f (l.map Ro.xs) d) by rw [hLl], runCells_full]
      have hr := row_ints hrow2
      rw [hLl] at hr
      exact hr
end Go.Proofs.Ytkafihaajpifoak
