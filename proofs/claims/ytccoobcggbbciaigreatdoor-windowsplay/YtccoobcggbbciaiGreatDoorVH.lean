import Derived.Test.YtccoobcggbbciaiGreatDoorVF
namespace Go.Proofs.YtccoobcggbbciaiGreatDoor
open Go.ChangeShapes Go.WideShapes Go.ChangeAt Go.RowKit

def intV (z : Int) : List Value := [.int .i64 z]
theorem intV_len (z : Int) : (intV z).length = 1 := rfl

theorem int_at' {w : World} {l : List Int} {b o j : Nat} {x : Int} (h : ∀ q u, (l.flatMap intV)[q]? = some u → w.cell? ⟨b, o + q, none⟩ = some u) (hj : l[j]? = some x) : w.cell? ⟨b, o + j, none⟩ = some (.int .i64 x) := by
  have := h (j * 1 + 0) (.int .i64 x) ((flat_at intV 1 intV_len l j 0 x hj (by omega)).trans rfl)
  simpa using this

def outT (t : Int) : Bool := !(wthin t 0 20000)

set_option maxRecDepth 20000 in
theorem outT_any (w : World) (t : Int) : Calls Tryz.prog 116 #[.int .i64 t] w fun r w' => r = .returned (.bool (outT t)) ∧ w' = w := by
  unfold outT
  go_enter Tryz.func116, Tryz.ntmps116
  go_wp2_with (go_at_call 55; refine (wthin_any _ _ _ _).mono ?_; rintro r w1 ⟨rfl, rfl⟩)
  go_ret
  exact ⟨rfl, rfl⟩

set_option maxRecDepth 20000 in
set_option maxHeartbeats 4000000 in
theorem indexT_any (w : World) (l : List Int) (v : Value) (h20 : l.length ≤ 20) (hv : RowSl intV w l v) : Calls Tryz.prog 136 #[v, .func (Fn.func 116) #[] #[]] w fun r w' => r = .returned (.int .i64 (findP outT l 0)) ∧ Below w.heap.size w w' := by
  obtain ⟨ad, c, rfl, -, hcap, hrow⟩ := hv
  go_enter Tryz.func136, Tryz.ntmps136
  go_wp2_with fail
  have HR : Hid (l = [] ∨ ∃ b o, ad = some ⟨b, o, none⟩ ∧ ∀ q u, (l.flatMap intV)[q]? = some u → w.cell? ⟨b, o + q, none⟩ = some u) := hrow
  clear hrow
  go_loopw [8] (fun i wr => ∃ j : Nat, j ≤ l.length ∧ i = .int .i64 j ∧ Below w.heap.size w wr ∧ findP outT (l.drop j) j = findP outT l 0) (fun i _ => l.length - (intOf i).toNat)
  case atStart => exact ⟨0, Nat.zero_le _, rfl, Below.refl _ _, rfl⟩
  case round =>
    obtain ⟨j, hj, rfl, hb, hf⟩ := hrel
    by_cases hlt : j < l.length
    · obtain ⟨y, hy, hd⟩ := drop_at hlt
      rw [hd, findP] at hf
      rcases HR.out with h | ⟨b, o, rfl, hrow⟩
      · rw [h] at hlt; simp at hlt
      have c0 := int_at' (fun q u hq => below_cell hb (hrow q u hq)) hy
      have HY := outT_any wr y
      have HB : Hid (Below w.heap.size w wr) := hb
      have HF : Hid ((if outT y = true then (j : Int) else findP outT (l.drop (j + 1)) (j + 1)) = findP outT l 0) := hf
      clear hrow hb hf
      generalize hz : outT y = z at *
      cases z
      · go_wp2_with (go_at_call 116; refine HY.mono ?_; rintro r w1 ⟨rfl, rfl⟩)
        have e := HF.out
        rw [if_neg (by simp)] at e
        exact ⟨⟨j + 1, by omega, by simp, HB.out, e⟩, by simp [intOf]; omega⟩
      · go_wp2_with (go_at_call 116; refine HY.mono ?_; rintro r w1 ⟨rfl, rfl⟩)
        have e := HF.out
        rw [if_pos (by trivial)] at e
        go_ret
        exact ⟨by rw [← e]; rfl, HB.out⟩
    · have hje : j = l.length := by omega
      subst hje
      rw [List.drop_length, findP] at hf
      go_wp2_with fail
      go_ret
      exact ⟨by rw [← hf]; rfl, hb⟩

set_option maxRecDepth 20000 in
theorem containsT_any (w : World) (l : List Int) (v : Value) (h20 : l.length ≤ 20) (hv : RowSl intV w l v) : Calls Tryz.prog 115 #[v, .func (Fn.func 116) #[] #[]] w fun r w' => r = .returned (.bool (l.any outT)) ∧ Below w.heap.size w w' := by
  rw [← findP_any outT l 0]
  have HI := indexT_any w l v h20 hv
  obtain ⟨ad, c, rfl, -⟩ := hv
  go_enter Tryz.func115, Tryz.ntmps115
  go_wp2_with (go_at_call 136; refine HI.mono ?_; rintro r w1 ⟨rfl, hb1⟩)
  go_ret
  exact ⟨rfl, hb1⟩

/-- What is wrong with a frame, and then with times. -/
def timesF (n : Int) (l : List Wi) (ts : List Int) : Int × Int := if (frmF n l).1 ≠ 0 then frmF n l else if ts.any outT = true then (3, 0) else (0, 0)

theorem checkTimes_ends {w : World} {g : Nat} {c k : Value} {a : Act} (h : w.heap[g]? = some (.cells #[c, k] 30 (0, 0))) (h3 : a.tmps[6]?.getD undef = .pointer (some ⟨g, 0, none⟩)) :
    (results Tryz.f72 a.tmps).run Tryz.prog w = .ok (.agg #[c, k]) w := by
  obtain ⟨c1, f1, l1⟩ := cells_of (l := [_, _]) h
  have c10 := c1 0 _ rfl
  have c11 := c1 1 _ rfl
  simp [results, Tryz.results72, go_sem, h3, c10, c11]

set_option maxRecDepth 20000 in
set_option maxHeartbeats 4000000 in
theorem checkTimes_any (w : World) (n : Int) (l : List Wi) (ts : List Int) (v u : Value) (hv : RowSl Wi.vals w l v) (hu : RowSl intV w ts u) (h20 : ts.length ≤ 20) : Calls Tryz.prog 72 #[.int .i64 n, v, u] w fun r w' => r = .returned (.agg #[.int .i64 (timesF n l ts).1, .int .i64 (timesF n l ts).2]) ∧ Below w.heap.size w w' := by
  have H0 : Hid (FB w (w.alloc (.cells #[.int .i64 0, .int .i64 0] 30)) w.heap.size) := FB.start w
  have HF := Frame_any (w.alloc (.cells #[.int .i64 0, .int .i64 0] 30)) n l v (hv.below (below_new _ _))
  obtain ⟨ad, c, rfl⟩ := hv.len
  obtain ⟨ud, uc, rfl⟩ := hu.len
  have HU : Hid (RowSl intV w ts (.slice ud ts.length uc)) := hu
  unfold timesF
  rcases hz : frmF n l with ⟨z, y⟩
  rw [hz] at HF
  dsimp only at HF ⊢
  clear hv hu hz
  by_cases h0 : z = 0
  · rw [if_neg (by simpa using h0)]
    subst h0
    have HT : Hid (∀ W, Below w.heap.size w W → Calls Tryz.prog 115 #[.slice ud ts.length uc, .func (Fn.func 116) #[] #[]] W fun r w' => r = .returned (.bool (ts.any outT)) ∧ Below W.heap.size W w') := fun W hW => containsT_any W ts _ h20 (HU.out.below hW)
    cases hb : ts.any outT
    · rw [hb] at HT
      rw [if_neg (by simp)]
      go_enter Tryz.func72, Tryz.ntmps72
      go_wp2_with (first
        | (go_at_call 115; refine (HT.out _ H1.out.bel).mono ?_; rintro r w2 ⟨rfl, hb2⟩; have H2 : Hid (FB w w2 w.heap.size) := H1.out.grow hb2; obtain ⟨r10, r11, f10, f11, rl⟩ := H2.out.res2; clear hb2)
        | (go_at_call 42; refine HF.mono ?_; rintro r w1 ⟨rfl, hb1⟩; have H1 : Hid (FB w (w1.alloc (.cells #[.int .i64 0, .int .i64 y] 30)) w.heap.size) := (H0.out.grow hb1).grow (below_new _ _); clear hb1))
      refine bodyPost_ret (checkTimes_ends (set_two H2.out.res) rfl) rfl ?_
      exact ⟨rfl, H2.out.set _ _⟩
    · rw [hb] at HT
      rw [if_pos rfl]
      go_enter Tryz.func72, Tryz.ntmps72
      go_wp2_with (first
        | (go_at_call 115; refine (HT.out _ H1.out.bel).mono ?_; rintro r w2 ⟨rfl, hb2⟩; have H2 : Hid (FB w w2 w.heap.size) := H1.out.grow hb2; obtain ⟨r10, r11, f10, f11, rl⟩ := H2.out.res2; clear hb2)
        | (go_at_call 42; refine HF.mono ?_; rintro r w1 ⟨rfl, hb1⟩; have H1 : Hid (FB w (w1.alloc (.cells #[.int .i64 0, .int .i64 y] 30)) w.heap.size) := (H0.out.grow hb1).grow (below_new _ _); clear hb1))
      refine bodyPost_ret (checkTimes_ends (set_two H2.out.res) rfl) rfl ?_
      exact ⟨rfl, H2.out.set _ _⟩
  · rw [if_pos (by simpa using h0)]
    go_enter Tryz.func72, Tryz.ntmps72
    go_wp2_with (go_at_call 42; refine HF.mono ?_; rintro r w1 ⟨rfl, hb1⟩; have H1 : Hid (FB w w1 w.heap.size) := H0.out.grow hb1; obtain ⟨r10, r11, f10, f11, rl⟩ := H1.out.res2; clear hb1)
    refine bodyPost_ret (checkTimes_ends (H1.out.setA _ _ _).1 rfl) rfl ?_
    exact ⟨rfl, (H1.out.setA _ _ _).2⟩

end Go.Proofs.YtccoobcggbbciaiGreatDoor
namespace Go.Proofs.YtccoobcggbbciaiGreatDoor
open Go.ChangeShapes Go.WideShapes Go.ChangeAt Go.RowKit

theorem timesF_good {n y : Int} {l : List Wi} {ts : List Int} (h : timesF n l ts = (0, y)) : (0, (frmF n l).2) = frmF n l ∧ ts.any outT = false ∧ y = 0 := by
  unfold timesF at h
  split at h
  · rename_i h0
    rw [h] at h0
    simp at h0
  · rename_i h0
    split at h
    · cases h
    · rename_i h1
      cases h
      exact ⟨by rw [← show (frmF n l).1 = 0 by simpa using h0], by simpa using h1, rfl⟩

theorem Supply_ends {w : World} {g : Nat} {c k p : Value} {a : Act} (h : w.heap[g]? = some (.cells #[c, k] 30 (0, 0))) (h2 : a.tmps[8]?.getD undef = p) (h3 : a.tmps[9]?.getD undef = .pointer (some ⟨g, 0, none⟩)) :
    (results Tryz.f38 a.tmps).run Tryz.prog w = .ok (.tuple #[p, .agg #[c, k]]) w := by
  obtain ⟨c1, f1, l1⟩ := cells_of (l := [_, _]) h
  have c10 := c1 0 _ rfl
  have c11 := c1 1 _ rfl
  simp [results, Tryz.results38, go_sem, h2, h3, c10, c11]

/-- What Supply answers. -/
def SupplyF (n : Int) (l : List Wi) (s k : Int) : Int × Int × Int := if (timesF n l [s, k]).1 ≠ 0 then (0, timesF n l [s, k]) else (sup n l s.toNat k.toNat, 0, 0)

set_option maxRecDepth 20000 in
set_option maxHeartbeats 4000000 in
theorem Supply_any (w : World) (n s k : Int) (l : List Wi) (v : Value) (hv : RowSl Wi.vals w l v) : Calls Tryz.prog 38 #[.int .i64 n, v, .int .i64 s, .int .i64 k] w fun r w' => r = .returned (.tuple #[.int .i64 (SupplyF n l s k).1, .agg #[.int .i64 (SupplyF n l s k).2.1, .int .i64 (SupplyF n l s k).2.2]]) ∧ Below w.heap.size w w' := by
  have H0 : Hid (FB w ((w.alloc (.cells #[.int .i64 0, .int .i64 0] 30)).alloc (.cells #[.int .i64 s, .int .i64 k] 3)) w.heap.size) := (FB.start w).grow (below_new _ _)
  have hrow : RowSl intV ((w.alloc (.cells #[.int .i64 0, .int .i64 0] 30)).alloc (.cells #[.int .i64 s, .int .i64 k] 3)) [s, k] (.slice (some ⟨w.heap.size + 1, 0, none⟩) 2 2) := by
    refine ⟨_, _, rfl, (fun e => by cases e), Nat.le_refl _, .inr ⟨w.heap.size + 1, 0, rfl, fun q u hq => ?_⟩⟩
    have hh := (cells_of (l := [.int .i64 s, .int .i64 k]) (heap_alloc_new (w.alloc (.cells #[.int .i64 0, .int .i64 0] 30)) (.cells #[.int .i64 s, .int .i64 k] 3))).1 q u hq
    rw [Nat.zero_add]
    simpa using hh
  have HC := checkTimes_any ((w.alloc (.cells #[.int .i64 0, .int .i64 0] 30)).alloc (.cells #[.int .i64 s, .int .i64 k] 3)) n l [s, k] v _ (hv.below H0.out.bel) hrow (by simp)
  obtain ⟨ad, c, rfl⟩ := hv.len
  have HV : Hid (RowSl Wi.vals w l (.slice ad l.length c)) := hv
  unfold SupplyF
  rcases hz : timesF n l [s, k] with ⟨z, y⟩
  rw [hz] at HC
  dsimp only at HC ⊢
  clear hv hrow
  by_cases h0 : z = 0
  · rw [if_neg (by simpa using h0)]
    subst h0
    obtain ⟨hg, hok, rfl⟩ := timesF_good hz
    obtain ⟨hn, h20, hs, -⟩ := frmF_good (z := (frmF n l).2) (by rw [← hg])
    have hok : (0 ≤ s ∧ s ≤ 20000) ∧ (0 ≤ k ∧ k ≤ 20000) := by simpa [outT, wthin] using hok
    obtain ⟨n', rfl⟩ : ∃ n' : Nat, n = (n' : Int) := ⟨n.toNat, by omega⟩
    obtain ⟨sn, rfl⟩ : ∃ m : Nat, s = (m : Int) := ⟨s.toNat, by omega⟩
    obtain ⟨kn, rfl⟩ : ∃ m : Nat, k = (m : Int) := ⟨k.toNat, by omega⟩
    have HS : Hid (∀ W, Below w.heap.size w W → Calls Tryz.prog 73 #[.agg #[.int .i64 (n' : Int), .slice ad l.length c], .int .i64 (sn : Int), .int .i64 (kn : Int)] W fun r w' => r = .returned (.int .i64 (sup n' l sn kn)) ∧ Below W.heap.size W w') := fun W hW => supply_any W n' sn kn l ad c (by omega) h20 hs (by omega) (HV.out.below hW)
    clear hz hg
    simp only [Int.toNat_natCast]
    generalize sup n' l sn kn = q at *
    go_enter Tryz.func38, Tryz.ntmps38
    go_wp2_with (first
      | (go_at_call 73; refine (HS.out _ H1.out.bel).mono ?_; rintro r w2 ⟨rfl, hb2⟩; have H2 : Hid (FB w w2 w.heap.size) := H1.out.grow hb2; obtain ⟨r10, r11, f10, f11, rl⟩ := H2.out.res2; clear hb2)
      | (go_at_call 72; refine HC.mono ?_; rintro r w1 ⟨rfl, hb1⟩; have H1 : Hid (FB w (w1.alloc (.cells #[.int .i64 0, .int .i64 0] 30)) w.heap.size) := (H0.out.grow hb1).grow (below_new _ _); clear hb1))
    first
      | (refine bodyPost_ret (Supply_ends (set_two H2.out.res) rfl rfl) rfl ?_; exact ⟨rfl, H2.out.set _ _⟩)
      | (go_region
         all_goals go_wp2_with fail
         all_goals
           refine bodyPost_ret (Supply_ends (set_two H2.out.res) rfl rfl) rfl ?_
           first | exact ⟨rfl, H2.out.set _ _⟩ | exact ⟨rfl, (H2.out.set _ _).drew⟩)
  · rw [if_pos (by simpa using h0)]
    go_enter Tryz.func38, Tryz.ntmps38
    go_wp2_with (go_at_call 72; refine HC.mono ?_; rintro r w1 ⟨rfl, hb1⟩; have H1 : Hid (FB w w1 w.heap.size) := H0.out.grow hb1; obtain ⟨r10, r11, f10, f11, rl⟩ := H1.out.res2; clear hb1)
    go_region
    all_goals go_wp2_with fail
    all_goals
      refine bodyPost_ret (Supply_ends (H1.out.setA (.int .i64 z) (.int .i64 y) _).1 rfl rfl) rfl ?_
      first | exact ⟨rfl, (H1.out.setA (.int .i64 z) (.int .i64 y) _).2.drew⟩ | exact ⟨rfl, (H1.out.setA (.int .i64 z) (.int .i64 y) _).2⟩

theorem Least_ends {w : World} {g : Nat} {c k p : Value} {a : Act} (h : w.heap[g]? = some (.cells #[c, k] 30 (0, 0))) (h2 : a.tmps[6]?.getD undef = p) (h3 : a.tmps[7]?.getD undef = .pointer (some ⟨g, 0, none⟩)) :
    (results Tryz.f39 a.tmps).run Tryz.prog w = .ok (.tuple #[p, .agg #[c, k]]) w := by
  obtain ⟨c1, f1, l1⟩ := cells_of (l := [_, _]) h
  have c10 := c1 0 _ rfl
  have c11 := c1 1 _ rfl
  simp [results, Tryz.results39, go_sem, h2, h3, c10, c11]

/-- What Least answers. -/
def LeastF (n : Int) (l : List Wi) (k : Int) : Int × Int × Int := if (timesF n l [k]).1 ≠ 0 then (0, timesF n l [k]) else (leastF n l k.toNat, 0, 0)

set_option maxRecDepth 20000 in
set_option maxHeartbeats 4000000 in
theorem Least_any (w : World) (n k : Int) (l : List Wi) (v : Value) (hv : RowSl Wi.vals w l v) : Calls Tryz.prog 39 #[.int .i64 n, v, .int .i64 k] w fun r w' => r = .returned (.tuple #[.int .i64 (LeastF n l k).1, .agg #[.int .i64 (LeastF n l k).2.1, .int .i64 (LeastF n l k).2.2]]) ∧ Below w.heap.size w w' := by
  have H0 : Hid (FB w ((w.alloc (.cells #[.int .i64 0, .int .i64 0] 30)).alloc (.cells #[.int .i64 k] 3)) w.heap.size) := (FB.start w).grow (below_new _ _)
  have hrow : RowSl intV ((w.alloc (.cells #[.int .i64 0, .int .i64 0] 30)).alloc (.cells #[.int .i64 k] 3)) [k] (.slice (some ⟨w.heap.size + 1, 0, none⟩) 1 1) := by
    refine ⟨_, _, rfl, (fun e => by cases e), Nat.le_refl _, .inr ⟨w.heap.size + 1, 0, rfl, fun q u hq => ?_⟩⟩
    have hh := (cells_of (l := [.int .i64 k]) (heap_alloc_new (w.alloc (.cells #[.int .i64 0, .int .i64 0] 30)) (.cells #[.int .i64 k] 3))).1 q u hq
    rw [Nat.zero_add]
    simpa using hh
  have HC := checkTimes_any ((w.alloc (.cells #[.int .i64 0, .int .i64 0] 30)).alloc (.cells #[.int .i64 k] 3)) n l [k] v _ (hv.below H0.out.bel) hrow (by simp)
  obtain ⟨ad, c, rfl⟩ := hv.len
  have HV : Hid (RowSl Wi.vals w l (.slice ad l.length c)) := hv
  unfold LeastF
  rcases hz : timesF n l [k] with ⟨z, y⟩
  rw [hz] at HC
  dsimp only at HC ⊢
  clear hv hrow
  by_cases h0 : z = 0
  · rw [if_neg (by simpa using h0)]
    subst h0
    obtain ⟨hg, hok, rfl⟩ := timesF_good hz
    obtain ⟨hn, h20, hs, -⟩ := frmF_good (z := (frmF n l).2) (by rw [← hg])
    have hok : (0 ≤ k ∧ k ≤ 20000) := by simpa [outT, wthin] using hok
    obtain ⟨n', rfl⟩ : ∃ n' : Nat, n = (n' : Int) := ⟨n.toNat, by omega⟩
    obtain ⟨kn, rfl⟩ : ∃ m : Nat, k = (m : Int) := ⟨k.toNat, by omega⟩
    have HS : Hid (∀ W, Below w.heap.size w W → Calls Tryz.prog 44 #[.agg #[.int .i64 (n' : Int), .slice ad l.length c], .int .i64 (kn : Int)] W fun r w' => r = .returned (.int .i64 (leastF n' l kn)) ∧ Below W.heap.size W w') := fun W hW => least_any W n' kn l ad c (by omega) h20 hs (by omega) (HV.out.below hW)
    clear hz hg
    simp only [Int.toNat_natCast]
    generalize leastF n' l kn = q at *
    go_enter Tryz.func39, Tryz.ntmps39
    go_wp2_with (first
      | (go_at_call 44; refine (HS.out _ H1.out.bel).mono ?_; rintro r w2 ⟨rfl, hb2⟩; have H2 : Hid (FB w w2 w.heap.size) := H1.out.grow hb2; obtain ⟨r10, r11, f10, f11, rl⟩ := H2.out.res2; clear hb2)
      | (go_at_call 72; refine HC.mono ?_; rintro r w1 ⟨rfl, hb1⟩; have H1 : Hid (FB w (w1.alloc (.cells #[.int .i64 0, .int .i64 0] 30)) w.heap.size) := (H0.out.grow hb1).grow (below_new _ _); clear hb1))
    first
      | (refine bodyPost_ret (Least_ends (set_two H2.out.res) rfl rfl) rfl ?_; exact ⟨rfl, H2.out.set _ _⟩)
      | (go_region
         all_goals go_wp2_with fail
         all_goals
           refine bodyPost_ret (Least_ends (set_two H2.out.res) rfl rfl) rfl ?_
           first | exact ⟨rfl, H2.out.set _ _⟩ | exact ⟨rfl, (H2.out.set _ _).drew⟩)
  · rw [if_pos (by simpa using h0)]
    go_enter Tryz.func39, Tryz.ntmps39
    go_wp2_with (go_at_call 72; refine HC.mono ?_; rintro r w1 ⟨rfl, hb1⟩; have H1 : Hid (FB w w1 w.heap.size) := H0.out.grow hb1; obtain ⟨r10, r11, f10, f11, rl⟩ := H1.out.res2; clear hb1)
    go_region
    all_goals go_wp2_with fail
    all_goals
      refine bodyPost_ret (Least_ends (H1.out.setA (.int .i64 z) (.int .i64 y) _).1 rfl rfl) rfl ?_
      first | exact ⟨rfl, (H1.out.setA (.int .i64 z) (.int .i64 y) _).2.drew⟩ | exact ⟨rfl, (H1.out.setA (.int .i64 z) (.int .i64 y) _).2⟩

end Go.Proofs.YtccoobcggbbciaiGreatDoor
