import Derived.Test.YtnkgbkkakokciaiDoorVF
namespace Go.Proofs.YtnkgbkkakokciaiDoor
open Go.ChangeShapes Go.WideShapes Go.ChangeAt Go.RowKit

def intV (z : Int) : List Value := [.int .i64 z]
theorem intV_len (z : Int) : (intV z).length = 1 := rfl

theorem int_at' {w : World} {l : List Int} {b o j : Nat} {x : Int} (h : ∀ q u, (l.flatMap intV)[q]? = some u → w.cell? ⟨b, o + q, none⟩ = some u) (hj : l[j]? = some x) : w.cell? ⟨b, o + j, none⟩ = some (.int .i64 x) := by
  have := h (j * 1 + 0) (.int .i64 x) ((flat_at intV 1 intV_len l j 0 x hj (by omega)).trans rfl)
  simpa using this

def outT (t : Int) : Bool := !(wthin t 0 20000)

set_option maxRecDepth 20000 in
theorem outT_any (w : World) (t : Int) : Calls Tryd.prog 28 #[.int .i64 t] w fun r w' => r = .returned (.bool (outT t)) ∧ w' = w := by
  unfold outT
  go_enter Tryd.func28, Tryd.ntmps28
  go_wp2_with (go_at_call 18; refine (wthin_any _ _ _ _).mono ?_; rintro r w1 ⟨rfl, rfl⟩)
  go_ret
  exact ⟨rfl, rfl⟩

set_option maxRecDepth 20000 in
set_option maxHeartbeats 4000000 in
theorem indexT_any (w : World) (l : List Int) (v : Value) (h20 : l.length ≤ 20) (hv : RowSl intV w l v) : Calls Tryd.prog 35 #[v, .func (Fn.func 28) #[] #[]] w fun r w' => r = .returned (.int .i64 (findP outT l 0)) ∧ Below w.heap.size w w' := by
  obtain ⟨ad, c, rfl, -, hcap, hrow⟩ := hv
  go_enter Tryd.func35, Tryd.ntmps35
  go_wp2_with fail
  have HR : Hid (l = [] ∨ ∃ b o, ad = some ⟨b, o, none⟩ ∧ ∀ q u, (l.flatMap intV)[q]? = some u → w.cell? ⟨b, o + q, none⟩ = some u) := hrow
  clear hrow
  go_loopw [8] (fun i wr => ∃ j : Nat, j ≤ l.length ∧ i = .int .i64 j ∧ Below w.heap.size w wr ∧ findP outT (l.drop j) j = findP outT l 0) (fun i _ => l.length - (intOf i).toNat)
  case atStart => exact ⟨0, Nat.zero_le _, rfl, Below.refl _ _, rfl⟩
  case round =>
    obtain ⟨j, hj, rfl, hb, hf⟩ := hrel
    by_cases hlt : j < l.length
    · obtain ⟨y, hy, hd⟩ := drop_at hlt
      rw [hd, findP] at hf
      rcases HR.out with h | ⟨b, o, rfl, hrow⟩
      · rw [h] at hlt; simp at hlt
      have c0 := int_at' (fun q u hq => below_cell hb (hrow q u hq)) hy
      have HY := outT_any wr y
      have HB : Hid (Below w.heap.size w wr) := hb
      have HF : Hid ((if outT y = true then (j : Int) else findP outT (l.drop (j + 1)) (j + 1)) = findP outT l 0) := hf
      clear hrow hb hf
      generalize hz : outT y = z at *
      cases z
      · go_wp2_with (go_at_call 28; refine HY.mono ?_; rintro r w1 ⟨rfl, rfl⟩)
        have e := HF.out
        rw [if_neg (by simp)] at e
        exact ⟨⟨j + 1, by omega, by simp, HB.out, e⟩, by simp [intOf]; omega⟩
      · go_wp2_with (go_at_call 28; refine HY.mono ?_; rintro r w1 ⟨rfl, rfl⟩)
        have e := HF.out
        rw [if_pos (by trivial)] at e
        go_ret
        exact ⟨by rw [← e]; rfl, HB.out⟩
    · have hje : j = l.length := by omega
      subst hje
      rw [List.drop_length, findP] at hf
      go_wp2_with fail
      go_ret
      exact ⟨by rw [← hf]; rfl, hb⟩

set_option maxRecDepth 20000 in
theorem containsT_any (w : World) (l : List Int) (v : Value) (h20 : l.length ≤ 20) (hv : RowSl intV w l v) : Calls Tryd.prog 27 #[v, .func (Fn.func 28) #[] #[]] w fun r w' => r = .returned (.bool (l.any outT)) ∧ Below w.heap.size w w' := by
  rw [← findP_any outT l 0]
  have HI := indexT_any w l v h20 hv
  obtain ⟨ad, c, rfl, -⟩ := hv
  go_enter Tryd.func27, Tryd.ntmps27
  go_wp2_with (go_at_call 35; refine HI.mono ?_; rintro r w1 ⟨rfl, hb1⟩)
  go_ret
  exact ⟨rfl, hb1⟩

/-- What is wrong with a frame, and then with times. -/
def timesF (n : Int) (l : List Wi) (ts : List Int) : Int × Int := if (frmF n l).1 ≠ 0 then frmF n l else if ts.any outT = true then (3, 0) else (0, 0)

theorem checkTimes_ends {w : World} {g : Nat} {c k : Value} {a : Act} (h : w.heap[g]? = some (.cells #[c, k] 30 (0, 0))) (h3 : a.tmps[6]?.getD undef = .pointer (some ⟨g, 0, none⟩)) :
    (results Tryd.f20 a.tmps).run Tryd.prog w = .ok (.agg #[c, k]) w := by
  obtain ⟨c1, f1, l1⟩ := cells_of (l := [_, _]) h
  have c10 := c1 0 _ rfl
  have c11 := c1 1 _ rfl
  simp [results, Tryd.results20, go_sem, h3, c10, c11]

set_option maxRecDepth 20000 in
set_option maxHeartbeats 4000000 in
theorem checkTimes_any (w : World) (n : Int) (l : List Wi) (ts : List Int) (v u : Value) (hv : RowSl Wi.vals w l v) (hu : RowSl intV w ts u) (h20 : ts.length ≤ 20) : Calls Tryd.prog 20 #[.int .i64 n, v, u] w fun r w' => r = .returned (.agg #[.int .i64 (timesF n l ts).1, .int .i64 (timesF n l ts).2]) ∧ Below w.heap.size w w' := by
  have H0 : Hid (FB w (w.alloc (.cells #[.int .i64 0, .int .i64 0] 30)) w.heap.size) := FB.start w
  have HF := Frame_any (w.alloc (.cells #[.int .i64 0, .int .i64 0] 30)) n l v (hv.below (below_new _ _))
  obtain ⟨ad, c, rfl⟩ := hv.len
  obtain ⟨ud, uc, rfl⟩ := hu.len
  have HU : Hid (RowSl intV w ts (.slice ud ts.length uc)) := hu
  unfold timesF
  rcases hz : frmF n l with ⟨z, y⟩
  rw [hz] at HF
  dsimp only at HF ⊢
  clear hv hu hz
  by_cases h0 : z = 0
  · rw [if_neg (by simpa using h0)]
    subst h0
    have HT : Hid (∀ W, Below w.heap.size w W → Calls Tryd.prog 27 #[.slice ud ts.length uc, .func (Fn.func 28) #[] #[]] W fun r w' => r = .returned (.bool (ts.any outT)) ∧ Below W.heap.size W w') := fun W hW => containsT_any W ts _ h20 (HU.out.below hW)
    cases hb : ts.any outT
    · rw [hb] at HT
      rw [if_neg (by simp)]
      go_enter Tryd.func20, Tryd.ntmps20
      go_wp2_with (first
        | (go_at_call 27; refine (HT.out _ H1.out.bel).mono ?_; rintro r w2 ⟨rfl, hb2⟩; have H2 : Hid (FB w w2 w.heap.size) := H1.out.grow hb2; obtain ⟨r10, r11, f10, f11, rl⟩ := H2.out.res2; clear hb2)
        | (go_at_call 8; refine HF.mono ?_; rintro r w1 ⟨rfl, hb1⟩; have H1 : Hid (FB w (w1.alloc (.cells #[.int .i64 0, .int .i64 y] 30)) w.heap.size) := (H0.out.grow hb1).grow (below_new _ _); clear hb1))
      refine bodyPost_ret (checkTimes_ends (set_two H2.out.res) rfl) rfl ?_
      exact ⟨rfl, H2.out.set _ _⟩
    · rw [hb] at HT
      rw [if_pos rfl]
      go_enter Tryd.func20, Tryd.ntmps20
      go_wp2_with (first
        | (go_at_call 27; refine (HT.out _ H1.out.bel).mono ?_; rintro r w2 ⟨rfl, hb2⟩; have H2 : Hid (FB w w2 w.heap.size) := H1.out.grow hb2; obtain ⟨r10, r11, f10, f11, rl⟩ := H2.out.res2; clear hb2)
        | (go_at_call 8; refine HF.mono ?_; rintro r w1 ⟨rfl, hb1⟩; have H1 : Hid (FB w (w1.alloc (.cells #[.int .i64 0, .int .i64 y] 30)) w.heap.size) := (H0.out.grow hb1).grow (below_new _ _); clear hb1))
      refine bodyPost_ret (checkTimes_ends (set_two H2.out.res) rfl) rfl ?_
      exact ⟨rfl, H2.out.set _ _⟩
  · rw [if_pos (by simpa using h0)]
    go_enter Tryd.func20, Tryd.ntmps20
    go_wp2_with (go_at_call 8; refine HF.mono ?_; rintro r w1 ⟨rfl, hb1⟩; have H1 : Hid (FB w w1 w.heap.size) := H0.out.grow hb1; obtain ⟨r10, r11, f10, f11, rl⟩ := H1.out.res2; clear hb1)
    refine bodyPost_ret (checkTimes_ends (H1.out.setA _ _ _).1 rfl) rfl ?_
    exact ⟨rfl, (H1.out.setA _ _ _).2⟩

end Go.Proofs.YtnkgbkkakokciaiDoor
