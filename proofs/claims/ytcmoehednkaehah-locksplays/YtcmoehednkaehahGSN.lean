import Derived.Test.YtcmoehednkaehahGLI
import Derived.Test.YtcmoehednkaehahGSL
namespace Go.Proofs.Ytcmoehednkaehah
open Go.ChangeShapes Go.WideShapes Go.ChangeAt Go.RowKit

theorem CheckLocked_ends {w : World} {g : Nat} {c k : Value} {a : Act} (h : w.heap[g]? = some (.cells #[c, k] 31 (0, 0))) (h3 : a.tmps[2]?.getD undef = .pointer (some ⟨g, 0, none⟩)) :
    (results Try.f13 a.tmps).run Try.prog w = .ok (.agg #[c, k]) w := by
  obtain ⟨c1, f1, l1⟩ := cells_of (l := [_, _]) h
  have c10 := c1 0 _ rfl
  have c11 := c1 1 _ rfl
  simp [results, Try.results13, go_sem, h3, c10, c11]

set_option maxRecDepth 20000 in
theorem CheckLocked_many (w : World) (n c : Nat) (ad : Option Addr) (h : 100 < n) : Calls Try.prog 13 #[.slice ad n c] w fun r w' => r = .returned (.agg #[.int .i64 2, .int .i64 0]) ∧ Below w.heap.size w w' := by
  have hw : (100 : Int) < (n : Int) := by omega
  have H0 : Hid (FB w (w.alloc (.cells #[.int .i64 0, .int .i64 0] 31)) w.heap.size) := FB.start w
  go_enter Try.func13, Try.ntmps13
  go_wp2_with (go_at_call 16; refine (F_any _ _ _).mono ?_; rintro r w1 ⟨rfl, hb1⟩; have H1 : Hid (FB w w1 w.heap.size) := H0.out.grow hb1; obtain ⟨r10, r11, f10, f11, rl⟩ := H1.out.res2; clear hb1)
  refine bodyPost_ret (CheckLocked_ends (set_two H1.out.res) rfl) rfl ?_
  exact ⟨rfl, H1.out.set _ _⟩

set_option maxRecDepth 20000 in
set_option maxHeartbeats 4000000 in
theorem CheckLocked_few (w : World) (l : List Lj) (ad : Option Addr) (c : Nat) (h8 : l.length ≤ 100) (hv : LkSl w l (.slice ad l.length c)) : Calls Try.prog 13 #[.slice ad l.length c] w fun r w' => r = .returned (.agg #[.int .i64 (chkL l 0).1, .int .i64 (chkL l 0).2]) ∧ Below w.heap.size w w' := by
  have hw : ¬ ((100 : Int) < (l.length : Int)) := by omega
  obtain ⟨⟨_, _, e, -, hcap, hrow⟩, hacts⟩ := hv
  cases e
  have HR : Hid ((l = [] ∨ ∃ b o, ad = some ⟨b, o, none⟩ ∧ ∀ q u, (l.flatMap Lj.vals)[q]? = some u → w.cell? ⟨b, o + q, none⟩ = some u) ∧ ∀ x ∈ l, RowSl Ac.vals w x.acts x.v) := ⟨hrow, hacts⟩
  clear hrow hacts
  go_enter Try.func13, Try.ntmps13
  go_wp2_with fail
  go_loopw [12] (fun i wr => ∃ j : Nat, j ≤ l.length ∧ i = .int .i64 j ∧ FB w wr w.heap.size ∧ chkL (l.drop j) j = chkL l 0) (fun i _ => l.length - (intOf i).toNat)
  case atStart => exact ⟨0, Nat.zero_le _, rfl, FB.start w, rfl⟩
  case round =>
    obtain ⟨j, hj, rfl, hb, hf⟩ := hrel
    by_cases hlt : j < l.length
    · obtain ⟨x, hx, hd⟩ := drop_at hlt
      rw [hd, chkL] at hf
      rcases HR.out.1 with h | ⟨b, o, rfl, hrow⟩
      · rw [h] at hlt; simp at hlt
      have ha := lj_at (fun q u hq => below_cell hb.bel (hrow q u hq)) hx
      have hac := (HR.out.2 x (List.mem_of_getElem? hx)).below hb.bel
      obtain ⟨xa, xp, xacts, xv⟩ := x
      dsimp only at hac
      obtain ⟨aad, ac, rfl⟩ := hac.len
      obtain ⟨c0, c1, c2⟩ := ha
      dsimp only at c0 c1 c2
      have lb : b < wr.heap.size := World.block_lt_of_cell? _ _ c0
      have hb1 := hb.grow (below_new wr (.cells #[.int .i64 xa, .int .i64 xp, .slice aad xacts.length ac] 47))
      have HB : Hid (FB w (wr.alloc (.cells #[.int .i64 xa, .int .i64 xp, .slice aad xacts.length ac] 47)) w.heap.size ∧ RowSl Ac.vals (wr.alloc (.cells #[.int .i64 xa, .int .i64 xp, .slice aad xacts.length ac] 47)) xacts (.slice aad xacts.length ac)) := ⟨hb1, hac.below (below_new _ _)⟩
      have hji : (j : Int) < (l.length : Int) := by omega
      clear hb hrow hb1 hac hx hd
      by_cases hgo : (within xa 0 20000 && within xp 0 1000) = true
      · have hgo' : 0 ≤ xa ∧ xa ≤ 20000 ∧ 0 ≤ xp ∧ xp ≤ 1000 := by simp [within] at hgo; omega
        have e9 : lkOne ⟨xa, xp, xacts, .slice aad xacts.length ac⟩ = (chkActs xacts).1 := by
          unfold lkOne
          rw [if_pos hgo]
        rw [e9] at hf
        have HF : Hid ((if (chkActs xacts).1 = 0 then chkL (l.drop (j + 1)) (j + 1) else ((chkActs xacts).1, (j : Int))) = chkL l 0) := hf
        have y1 : ¬ (xa < 0) := by omega
        have y2 : ¬ (20000 < xa) := by omega
        have y3 : ¬ (xp < 0) := by omega
        have y4 : ¬ (1000 < xp) := by omega
        clear hf e9 hgo hgo'
        have HC := CheckActs_any _ xacts _ HB.out.2
        generalize chkActs xacts = z at *
        obtain ⟨z1, z2⟩ := z
        dsimp only at HC
        go_wp2_with (go_at_call 25; refine HC.mono ?_; rintro r w2 ⟨rfl, hb2⟩; have H2 : Hid (FB w w2 w.heap.size) := HB.out.1.grow hb2; clear hb2 HC)
        · go_wp2_with (go_at_call 16; refine (F_any _ _ _).mono ?_; rintro r w3 ⟨rfl, hb3⟩; have H3 : Hid (FB w w3 w.heap.size) := H2.out.grow (below_seq (below_new _ _) hb3); obtain ⟨r10, r11, f10, f11, rl⟩ := H3.out.res2; clear hb3)
          have hz0 : ¬ z1 = 0 := by simp_all
          have e := HF.out
          rw [if_neg hz0] at e
          refine bodyPost_ret (CheckLocked_ends (set_two H3.out.res) rfl) rfl ?_
          exact ⟨by rw [← e], H3.out.set _ _⟩
        · have hz0 : z1 = 0 := by simp_all
          have e := HF.out
          rw [if_pos hz0] at e
          exact ⟨⟨j + 1, by omega, by simp, H2.out.grow (below_new _ _), e⟩, by simp [intOf]; omega⟩
      · have e9 : lkOne ⟨xa, xp, xacts, .slice aad xacts.length ac⟩ = 3 := by
          unfold lkOne
          rw [if_neg hgo]
        rw [e9, if_neg (by decide)] at hf
        have HF : Hid ((3, (j : Int)) = chkL l 0) := hf
        have hgo' : xa < 0 ∨ 20000 < xa ∨ xp < 0 ∨ 1000 < xp := by simp [within] at hgo; omega
        clear hf e9 hgo
        by_cases y1 : xa < 0
        · go_wp2_with (go_at_call 16; refine (F_any _ _ _).mono ?_; rintro r w3 ⟨rfl, hb3⟩; have H3 : Hid (FB w w3 w.heap.size) := HB.out.1.grow hb3; obtain ⟨r10, r11, f10, f11, rl⟩ := H3.out.res2; clear hb3)
          refine bodyPost_ret (CheckLocked_ends (set_two H3.out.res) rfl) rfl ?_
          exact ⟨by rw [← HF.out], H3.out.set _ _⟩
        by_cases y2 : 20000 < xa
        · go_wp2_with (go_at_call 16; refine (F_any _ _ _).mono ?_; rintro r w3 ⟨rfl, hb3⟩; have H3 : Hid (FB w w3 w.heap.size) := HB.out.1.grow hb3; obtain ⟨r10, r11, f10, f11, rl⟩ := H3.out.res2; clear hb3)
          refine bodyPost_ret (CheckLocked_ends (set_two H3.out.res) rfl) rfl ?_
          exact ⟨by rw [← HF.out], H3.out.set _ _⟩
        by_cases y3 : xp < 0
        · go_wp2_with (go_at_call 16; refine (F_any _ _ _).mono ?_; rintro r w3 ⟨rfl, hb3⟩; have H3 : Hid (FB w w3 w.heap.size) := HB.out.1.grow hb3; obtain ⟨r10, r11, f10, f11, rl⟩ := H3.out.res2; clear hb3)
          refine bodyPost_ret (CheckLocked_ends (set_two H3.out.res) rfl) rfl ?_
          exact ⟨by rw [← HF.out], H3.out.set _ _⟩
        have y4 : 1000 < xp := by omega
        go_wp2_with (go_at_call 16; refine (F_any _ _ _).mono ?_; rintro r w3 ⟨rfl, hb3⟩; have H3 : Hid (FB w w3 w.heap.size) := HB.out.1.grow hb3; obtain ⟨r10, r11, f10, f11, rl⟩ := H3.out.res2; clear hb3)
        refine bodyPost_ret (CheckLocked_ends (set_two H3.out.res) rfl) rfl ?_
        exact ⟨by rw [← HF.out], H3.out.set _ _⟩
    · have hje : j = l.length := by omega
      subst hje
      rw [List.drop_length, chkL] at hf
      have H1 : Hid (FB w wr w.heap.size) := hb
      obtain ⟨r10, r11, f10, f11, rl⟩ := hb.res2
      have HF : Hid ((0, 0) = chkL l 0) := hf
      clear hf hb
      go_wp2_with fail
      refine bodyPost_ret (CheckLocked_ends (set_two H1.out.res) rfl) rfl ?_
      exact ⟨by rw [← HF.out], H1.out.set _ _⟩

/-- punctualref.CheckLocked. -/
theorem CheckLocked_any (w : World) (l : List Lj) (v : Value) (hv : LkSl w l v) : Calls Try.prog 13 #[v] w fun r w' => r = .returned (.agg #[.int .i64 (chkLk l).1, .int .i64 (chkLk l).2]) ∧ Below w.heap.size w w' := by
  obtain ⟨ad, c, rfl⟩ := hv.1.len
  unfold chkLk
  by_cases h : 100 < l.length
  · rw [if_pos h]
    exact CheckLocked_many w l.length c ad h
  · rw [if_neg h]
    exact CheckLocked_few w l ad c (by omega) hv
end Go.Proofs.Ytcmoehednkaehah
namespace Go.Proofs.Ytcmoehednkaehah
open Go.ChangeShapes Go.WideShapes Go.ChangeAt Go.RowKit

section
variable {P : Program} {ops : Array Oper} {Q : Exit → Act → World → Prop}
theorem wpOp_value {i : Nat} {o : Oper} {K : Act → World → Prop} {a : Act} {w w' : World} {v : Value} (ho : ops[i]? = some o) (hg : o.guard = none) (hrun : (execOp a.eval o).run P w = .ok (.value v) w') (h : K (a.put o.dst v) w') : wpOp P ops Q i K a w :=
  wpOp_step ho (fun K' hK => by
    rw [if_pos (by simp [Region.wanted, hg])]
    unfold Oper.wp
    rw [hrun]
    exact hK _ _ h)
theorem wpOp_enter {i : Nat} {o : Oper} {K : Act → World → Prop} {a : Act} {w w' : World} {f : FuncId} {args : Array Value} (ho : ops[i]? = some o) (hg : o.guard = none) (hrun : (execOp a.eval o).run P w = .ok (.enter f args) w') (h : Calls P f args w' fun e w'' => ∃ v, e = .returned v ∧ K (a.put o.dst v) w'') : wpOp P ops Q i K a w :=
  wpOp_step ho (fun K' hK => by
    rw [if_pos (by simp [Region.wanted, hg])]
    unfold Oper.wp
    rw [hrun]
    refine h.mono ?_
    rintro e w'' ⟨v, rfl, hk⟩
    exact hK _ _ hk)
end

theorem wpAnyH_listed {P : Program} {md : Region.Mode} {ops : Array Oper} {Q : Exit → Act → World → Prop} {S : World → Prop} {fuel : Nat} {listed listed' : Array Bool} {a : Act} {w : World} (h : listed = listed') (H : wpAnyH P md ops Q S fuel listed' a w) : wpAnyH P md ops Q S fuel listed a w := h ▸ H

theorem wpAnyH_act {P : Program} {md : Region.Mode} {ops : Array Oper} {Q : Exit → Act → World → Prop} {S : World → Prop} {fuel : Nat} {listed : Array Bool} {a : Act} {w : World} (H : ∀ a0, a0 = a → wpAnyH P md ops Q S fuel listed a0 w) : wpAnyH P md ops Q S fuel listed a w := H a rfl

theorem eval_tmp {a : Act} {k : Nat} {v : Value} (h : a.tmps[k]? = some v) : a.eval (.tmp k) = v := by
  show a.tmps.getD k undef = v
  rw [Array.getD_eq_getD_getElem?, h]
  rfl

def val9 (n i g : Nat) : Value := if i = 3 then sl0 g 4 else if i = 14 then .map (some g) else sl0 g n
def obj9 (l : List Lj) (i : Nat) : Obj := if i = 3 then .cells (inV (topsF l)).toArray 3 (0, 0) else if i = 14 then .map #[] 0 else if i = 9 ∨ i = 13 then .cells (List.replicate l.length (Value.bool false)).toArray 4 (0, 0) else .cells (List.replicate l.length (Value.int .i64 0)).toArray 3 (0, 0)
def Phi9 (l : List Lj) (i : Nat) (v : Value) (w : World) : Prop := ∃ g, v = val9 l.length i g ∧ w.heap[g]? = some (obj9 l i)
def bl9 : Value → Nat
  | .slice (some a) _ _ => a.block
  | .map (some g) => g
  | .pointer (some a) => a.block
  | _ => 0
theorem bl_val (n i g : Nat) : bl9 (val9 n i g) = g := by
  unfold val9
  split
  · rfl
  · split <;> rfl

theorem info4 : (Try.prog.info? 4).map (fun i => (i.zero, i.size, i.bytes)) = some (some (.bool false), 1, 1) := by kernel_rfl
theorem made_bools (n : Nat) : madeCells (Value.bool false).cells (n * 1) = (List.replicate n (Value.bool false)).toArray := by
  apply Array.ext
  · simp [madeCells]
  · intro i h1 h2
    simp [madeCells, Value.cells, Nat.mod_one]

theorem make_bools (W : World) (n : Nat) (hn : n ≤ 1000000) : (Instr.makeSlice 55 (.int .i64 (n : Int)) (.int .i64 (n : Int))).run Try.prog W = .ok (.slice (some ⟨W.heap.size, 0, none⟩) n n) (W.alloc (.cells (List.replicate n (Value.bool false)).toArray 4)) := by
  obtain ⟨i0, hi0, hz0, hz1, hz2⟩ := info_parts info4
  have h := run_make (P := Try.prog) W 55 4 i0 _ Try.underlying55 hi0 hz0 .i64 .i64 (n : Int) (n : Int) (by omega) (by omega) (by rw [hz2]; omega) (by omega)
  rw [Int.toNat_natCast, hz1, made_bools] at h
  exact h

def val10 (n i g : Nat) : Value := if i = 5 then .pointer (some ⟨g, 0, none⟩) else sl0 g n
def obj10 (n i : Nat) : Obj := if i = 5 then .cells #[.slice none 0 0, .slice none 0 0, .slice none 0 0, .bool false] 28 (0, 0) else .cells (List.replicate n (Value.int .i64 0)).toArray 3 (0, 0)
theorem bl_val10 (n i g : Nat) : bl9 (val10 n i g) = g := by
  unfold val10
  split <;> rfl
/-- What region 10 has made so far. -/
structure I10 (n : Nat) (W3 : World) (T : List Nat) (vs : Nat → Value) (w : World) : Prop where
  bel : Below W3.heap.size W3 w
  phi : ∀ i ∈ T, i ≠ 4 → ∃ g, vs i = val10 n i g ∧ w.heap[g]? = some (obj10 n i) ∧ W3.heap.size ≤ g
  ap : ∀ i ∈ T, i ≠ 4 → ∀ j ∈ T, j ≠ 4 → i ≠ j → bl9 (vs i) ≠ bl9 (vs j)
  bd : 4 ∈ T → 1 ∈ T ∧ 3 ∈ T ∧ vs 4 = .agg #[.slice none 0 0, vs 1, vs 3, .bool false]

theorem updV_self (vs : Nat → Value) (i : Nat) (v : Value) : updV vs i v i = v := if_pos rfl
theorem updV_ne (vs : Nat → Value) {i j : Nat} (v : Value) (h : j ≠ i) : updV vs i v j = vs j := if_neg h

theorem I10.make {n : Nat} {W3 : World} {T : List Nat} {vs : Nat → Value} {w : World} (h : I10 n W3 T vs w) {i : Nat} (hi : i ≠ 4) (hT : i ∉ T) : I10 n W3 (T ++ [i]) (updV vs i (val10 n i w.heap.size)) (w.alloc (obj10 n i)) := by
  have hin : ∀ j ∈ T ++ [i], (j ∈ T ∧ j ≠ i) ∨ j = i := fun j hj => by
    rcases List.mem_append.1 hj with h | h
    · exact .inl ⟨h, by rintro rfl; exact hT h⟩
    · exact .inr (by simpa using h)
  refine ⟨below_seq h.bel (below_new _ _), fun j hj hj4 => ?_, fun j hj hj4 k hk hk4 hjk => ?_, fun h4 => ?_⟩
  · rcases hin j hj with ⟨hj1, hj2⟩ | rfl
    · obtain ⟨g, q1, q2, q3⟩ := h.phi j hj1 hj4
      rw [updV_ne _ _ hj2]
      exact ⟨g, q1, ((below_new _ _).block _ (heap_lt q2)).trans q2, q3⟩
    · rw [updV_self]
      exact ⟨w.heap.size, rfl, heap_alloc_new _ _, h.bel.size⟩
  · rcases hin j hj with ⟨hj1, hj2⟩ | rfl
    · obtain ⟨g, q1, q2, q3⟩ := h.phi j hj1 hj4
      rw [updV_ne _ _ hj2]
      rcases hin k hk with ⟨hk1, hk2⟩ | rfl
      · rw [updV_ne _ _ hk2]
        exact h.ap j hj1 hj4 k hk1 hk4 hjk
      · rw [updV_self, q1, bl_val10, bl_val10]
        have := heap_lt q2
        omega
    · rw [updV_self]
      rcases hin k hk with ⟨hk1, hk2⟩ | rfl
      · obtain ⟨g, q1, q2, q3⟩ := h.phi k hk1 hk4
        rw [updV_ne _ _ hk2, q1, bl_val10, bl_val10]
        have := heap_lt q2
        omega
      · exact absurd rfl hjk
  · rcases hin 4 h4 with ⟨q, -⟩ | q
    · obtain ⟨q1, q2, q3⟩ := h.bd q
      refine ⟨List.mem_append_left _ q1, List.mem_append_left _ q2, ?_⟩
      rw [updV_ne _ _ (Ne.symm hi), updV_ne _ _ (by rintro rfl; exact hT q1), updV_ne _ _ (by rintro rfl; exact hT q2)]
      exact q3
    · exact absurd q.symm hi

theorem I10.build {n : Nat} {W3 : World} {T : List Nat} {vs : Nat → Value} {w : World} (h : I10 n W3 T vs w) (h1 : 1 ∈ T) (h3 : 3 ∈ T) : I10 n W3 (T ++ [4]) (updV vs 4 (.agg #[.slice none 0 0, vs 1, vs 3, .bool false])) w := by
  have hin : ∀ j ∈ T ++ [4], j ≠ 4 → j ∈ T := fun j hj h4 => by
    rcases List.mem_append.1 hj with h | h
    · exact h
    · exact absurd (by simpa using h) h4
  refine ⟨h.bel, fun j hj hj4 => ?_, fun j hj hj4 k hk hk4 hjk => ?_, fun _ => ?_⟩
  · rw [updV_ne _ _ hj4]
    exact h.phi j (hin j hj hj4) hj4
  · rw [updV_ne _ _ hj4, updV_ne _ _ hk4]
    exact h.ap j (hin j hj hj4) hj4 k (hin k hk hk4) hk4 hjk
  · rw [updV_self, updV_ne _ _ (by decide), updV_ne _ _ (by decide)]
    exact ⟨List.mem_append_left _ h1, List.mem_append_left _ h3, rfl⟩

/-- Ahead of tick 0: so many have been set. -/
structure IW (Wn W5 wr : World) (gW gE n k : Nat) : Prop where
  bel : Below Wn.heap.size Wn wr
  oth : ∀ c, c ≠ gW → c ≠ gE → wr.heap[c]? = W5.heap[c]?
  w : wr.heap[gW]? = some (.cells (inV (rowF (fun i => if i < k then -1 else 0) n)).toArray 3 (0, 0))
  e : wr.heap[gE]? = some (.cells (inV (rowF (fun i => if i < k then -1 else 0) n)).toArray 3 (0, 0))
  sz : wr.heap.size = W5.heap.size

theorem ini_step (n k : Nat) (hk : k < n) : (rowF (fun i => if i < k then (-1 : Int) else 0) n).set k (-1) = rowF (fun i => if i < k + 1 then -1 else 0) n := by
  rw [rowF_set _ _ hk]
  congr 1
  funext i
  by_cases h : i = k
  · subst h
    rw [upd_self, if_pos (by omega)]
  · rw [upd_ne _ _ h]
    by_cases h2 : i < k
    · rw [if_pos h2, if_pos (by omega)]
    · rw [if_neg h2, if_neg (by omega)]

theorem IW.step {Wn W5 wr : World} {gW gE n k : Nat} (h : IW Wn W5 wr gW gE n k) (hk : k < n) (hne : gW ≠ gE) (h1 : Wn.heap.size ≤ gW) (h2 : Wn.heap.size ≤ gE) : IW Wn W5 ((wr.setCell ⟨gW, k, none⟩ (.int .i64 (-1))).setCell ⟨gE, k, none⟩ (.int .i64 (-1))) gW gE n (k + 1) := by
  refine ⟨(h.bel.setCell h1 _).setCell h2 _, fun c hc hc' => (Below.heap_setCell _ _ _ _ hc').trans ((Below.heap_setCell _ _ _ _ hc).trans (h.oth c hc hc')), ?_, ?_, by simpa using h.sz⟩
  · rw [Below.heap_setCell _ _ _ _ hne, setCell_at h.w, List.setIfInBounds_toArray, inV_set, ini_step n k hk]
  · rw [setCell_at ((Below.heap_setCell _ _ _ _ (Ne.symm hne)).trans h.e), List.setIfInBounds_toArray, inV_set, ini_step n k hk]

theorem IW.drew {Wn W5 wr : World} {gW gE n k : Nat} (h : IW Wn W5 wr gW gE n k) : IW Wn W5 wr.drew gW gE n k := ⟨h.bel.drew, h.oth, h.w, h.e, h.sz⟩

theorem inV_rep (n : Nat) (z : Int) : List.replicate n (Value.int .i64 z) = inV (List.replicate n z) := by unfold inV; rw [List.map_replicate]
theorem blV_rep (n : Nat) (z : Bool) : List.replicate n (Value.bool z) = blV (List.replicate n z) := by unfold blV; rw [List.map_replicate]
theorem map_rep {α β : Type} (f : α → β) (z : β) : ∀ l : List α, (∀ a ∈ l, f a = z) → l.map f = List.replicate l.length z
  | [], _ => rfl
  | a :: r, h => by rw [List.map_cons, h a (List.mem_cons_self ..), map_rep f z r (fun b hb => h b (List.mem_cons_of_mem _ hb))]; rfl
theorem x0_map {β : Type} (f : En → β) (z : β) (l : List Lj) (h : ∀ y, f (en0 y) = z) : (x0 l).es.map f = List.replicate l.length z := by
  unfold x0
  dsimp only
  rw [List.map_map]
  exact map_rep _ z l (fun y _ => h y)

theorem ini_all (n : Nat) : rowF (fun i => if i < n then (-1 : Int) else 0) n = List.replicate n (-1) := by
  unfold rowF
  rw [map_rep _ (-1) (List.range n) (fun i hi => if_pos (List.mem_range.1 hi)), List.length_range]

/-- Ahead of tick 0. -/
theorem DW.start {Wn W5 wr : World} {gS gP gA gK gB gW gD gM gO gE gT : Nat} {pr : Int} {lv : Value} {l : List Lj} (h : IW Wn W5 wr gW gE l.length l.length) (hj : LkSl Wn l lv) (hnd : [gS, gP, gA, gK, gB, gW, gD, gM, gO, gE, gT].Nodup) (hlo : ∀ b ∈ [gS, gP, gA, gK, gB, gW, gD, gM, gO, gE, gT], Wn.heap.size ≤ b ∧ b < W5.heap.size)
    (kS : W5.heap[gS]? = some (.cells #[lv, .int .i64 pr, sl0 gP 4, sl0 gA l.length, sl0 gK l.length, sl0 gB l.length, sl0 gW l.length, sl0 gD l.length, .map (some gM)] 58 (0, 0))) (kP : W5.heap[gP]? = some (obj9 l 3)) (kA : W5.heap[gA]? = some (obj9 l 5)) (kK : W5.heap[gK]? = some (obj9 l 7)) (kB : W5.heap[gB]? = some (obj9 l 9)) (kD : W5.heap[gD]? = some (obj9 l 13)) (kM : W5.heap[gM]? = some (obj9 l 14))
    (kO : W5.heap[gO]? = some (.cells #[.slice none 0 0, sl0 gE l.length, sl0 gT l.length, .bool false] 28 (0, 0))) (kT : W5.heap[gT]? = some (obj10 l.length 3)) :
    DW Wn wr ⟨gS, gP, gA, gK, gB, gW, gD, gM⟩ ⟨gO, gE, gT⟩ wr.heap.size pr lv l (.slice none 0 0) [] (x0 l) 0 (.map []) := by
  have hx : ∀ {i j : Nat} (_ : i ≠ j) {a b : Nat} (_ : [gS, gP, gA, gK, gB, gW, gD, gM, gO, gE, gT][i]? = some a) (_ : [gS, gP, gA, gK, gB, gW, gD, gM, gO, gE, gT][j]? = some b), a ≠ b := fun {_ _} hij {_ _} hi hj => ndx (d := ⟨gS, gP, gA, gK, gB, gW, gD, gM⟩) (o := ⟨gO, gE, gT⟩) hnd hij hi hj
  have eA : obj9 l 5 = .cells (inV ((x0 l).es.map (fun e => (e.nx : Int)))).toArray 3 (0, 0) := by rw [x0_map _ 0 l (fun _ => rfl), ← inV_rep]; rfl
  have eK : obj9 l 7 = .cells (inV ((x0 l).es.map En.rn)).toArray 3 (0, 0) := by rw [x0_map _ 0 l (fun _ => rfl), ← inV_rep]; rfl
  have eB : obj9 l 9 = .cells (blV ((x0 l).es.map En.bg)).toArray 4 (0, 0) := by rw [x0_map _ false l (fun _ => rfl), ← blV_rep]; rfl
  have eD : obj9 l 13 = .cells (blV ((x0 l).en.map (fun z => z != -1))).toArray 4 (0, 0) := by
    rw [show (x0 l).en.map (fun z => z != -1) = List.replicate l.length false by unfold x0; dsimp only; rw [List.map_replicate]; rfl, ← blV_rep]
    rfl
  refine ⟨h.bel, hj, ⟨?_, ?_, ?_, ?_, ?_, ?_, ?_, ?_, ?_, hj.below h.bel⟩, ?_, ?_, ?_, hnd, fun b hb => ?_, ⟨rfl, .inl ⟨rfl, rfl⟩⟩, Nat.le_refl _⟩
  · exact (h.oth _ (hx (i := 0) (j := 5) (by decide) rfl rfl) (hx (i := 0) (j := 9) (by decide) rfl rfl)).trans kS
  · exact (h.oth _ (hx (i := 1) (j := 5) (by decide) rfl rfl) (hx (i := 1) (j := 9) (by decide) rfl rfl)).trans kP
  · rw [← eA]
    exact (h.oth _ (hx (i := 2) (j := 5) (by decide) rfl rfl) (hx (i := 2) (j := 9) (by decide) rfl rfl)).trans kA
  · rw [← eK]
    exact (h.oth _ (hx (i := 3) (j := 5) (by decide) rfl rfl) (hx (i := 3) (j := 9) (by decide) rfl rfl)).trans kK
  · rw [← eB]
    exact (h.oth _ (hx (i := 4) (j := 5) (by decide) rfl rfl) (hx (i := 4) (j := 9) (by decide) rfl rfl)).trans kB
  · rw [x0_map _ (-1) l (fun _ => rfl), ← ini_all]
    exact h.w
  · rw [← eD]
    exact (h.oth _ (hx (i := 6) (j := 5) (by decide) rfl rfl) (hx (i := 6) (j := 9) (by decide) rfl rfl)).trans kD
  · have := World.ownsMap_made (H := Unit) wr Try.prog 3 (plainElem Try.prog 3)
    refine owns_block (W := { wr with heap := wr.heap }) (b := gM) ?_ rfl
    obtain ⟨es, clock, h1, h2, h3, h4⟩ := this
    rw [heap_alloc_new] at h1
    cases h1
    exact ⟨#[], 0, (h.oth _ (hx (i := 7) (j := 5) (by decide) rfl rfl) (hx (i := 7) (j := 9) (by decide) rfl rfl)).trans kM, h2, h3, h4⟩
  · exact MSpec.new
  · exact (h.oth _ (hx (i := 8) (j := 5) (by decide) rfl rfl) (hx (i := 8) (j := 9) (by decide) rfl rfl)).trans kO
  · show wr.heap[gE]? = _
    rw [show (x0 l).en = List.replicate l.length (-1) from rfl, ← ini_all]
    exact h.e
  · show wr.heap[gT]? = _
    rw [show (x0 l).ws = List.replicate l.length 0 from rfl, ← inV_rep]
    exact (h.oth _ (hx (i := 10) (j := 5) (by decide) rfl rfl) (hx (i := 10) (j := 9) (by decide) rfl rfl)).trans kT
  · rw [h.sz]
    exact hlo b hb

end Go.Proofs.Ytcmoehednkaehah
namespace Go.Proofs.Ytcmoehednkaehah
open Go.ChangeShapes Go.WideShapes Go.ChangeAt Go.RowKit

theorem sum_le200 : ∀ es : List En, (∀ e ∈ es, e.x.acts.length ≤ 200) → (es.map (fun e => e.x.acts.length - e.nx)).sum ≤ 200 * es.length
  | [], _ => by simp
  | e :: r, h => by
    have h1 := sum_le200 r (fun e he => h e (List.mem_cons_of_mem _ he))
    have h2 := h e (List.mem_cons_self ..)
    rw [List.map_cons, List.sum_cons, List.length_cons]
    omega
theorem sum_le1 : ∀ en : List Int, (en.map (fun z : Int => if z = -1 then 1 else 0)).sum ≤ en.length
  | [] => by simp
  | z :: r => by
    have h1 := sum_le1 r
    rw [List.map_cons, List.sum_cons, List.length_cons]
    split <;> omega

theorem mu2_start {l : List Lj} (ok : Ok l) : mu2 l.length (x0 l) ≤ 10000000 := by
  have g := GI.start ok
  have h1 := sum_le200 (x0 l).es (fun e he => by
    obtain ⟨i, hi⟩ := List.getElem?_of_mem he
    exact (ok.acts _ (g.mem hi)).1)
  have h2 := sum_le1 (x0 l).en
  have h3 := cw_le (x0 l).es
  rw [g.len] at h1 h3
  rw [g.ne] at h2
  have hn := ok.few
  have h4 : mu (x0 l) ≤ 20100 := by unfold mu; omega
  have h5 : mu (x0 l) * (l.length + 1) ≤ 20100 * 101 := Nat.mul_le_mul h4 (by omega)
  unfold mu2
  omega

theorem mu2_ws (n : Nat) (x : Rs) (ws : List Int) : mu2 n { x with ws := ws } = mu2 n x := rfl

/-- What one does. -/
theorem act_cases {x z : Rs} {i : Nat} {now : Int} {b : Bool} {e : En} (he : x.es[i]? = some e) (h : actF x i now = some (b, z)) :
    (e.x.acts.length = 0 ∧ b = false ∧ z = { x with es := x.es.set i (begF e), en := x.en.set i now }) ∨
    (e.x.acts.length ≠ 0 ∧ ∃ a, e.x.acts[e.nx]? = some a ∧
      ((a.d = 1 ∧ 0 ≤ e.rn ∧ a.n ≤ 1000 ∧ b = true ∧ ((e.rn + 1 = a.n ∧ z = endF { x with es := x.es.set i { e with bg := true, rn := e.rn + 1 } } i { e with bg := true, rn := e.rn + 1 } (now + 1)) ∨ (e.rn + 1 < a.n ∧ z = { x with es := x.es.set i { e with bg := true, rn := e.rn + 1 } }))) ∨
       (∃ m : Nat, a.n = (m : Int) ∧ m < 4 ∧ b = false ∧
        ((a.d = 2 ∧ ((x.hs[m]? = some (-1) ∧ z = endF { x with hs := x.hs.set m i, es := x.es.set i (begF e) } i (begF e) now) ∨ ∃ q, x.hs[m]? = some q ∧ q ≠ -1 ∧ z = { x with es := x.es.set i { e with bg := true, wt := (m : Int) } })) ∨
         (a.d = 3 ∧ z = endF { x with hs := x.hs.set m (-1), es := (x.es.set i (begF e)).map (unF (m : Int)) } i (unF (m : Int) (begF e)) now))))) := by
  unfold actF at h
  rw [he] at h
  dsimp only at h
  by_cases h0 : e.x.acts.length = 0
  · rw [if_pos h0] at h
    cases h
    exact .inl ⟨h0, rfl, rfl⟩
  · rw [if_neg h0] at h
    refine .inr ⟨h0, ?_⟩
    cases ha : e.x.acts[e.nx]? with
    | none => rw [ha] at h; cases h
    | some a =>
      rw [ha] at h
      dsimp only at h
      refine ⟨a, rfl, ?_⟩
      by_cases h1 : a.d = 1
      · rw [if_pos h1] at h
        left
        by_cases h2 : 0 ≤ e.rn
        · rw [if_pos h2] at h
          by_cases h3 : a.n ≤ 1000
          · rw [if_pos h3] at h
            by_cases h4 : e.rn + 1 = a.n
            · rw [if_pos h4] at h
              cases h
              exact ⟨h1, h2, h3, rfl, .inl ⟨h4, rfl⟩⟩
            · rw [if_neg h4] at h
              by_cases h5 : e.rn + 1 < a.n
              · rw [if_pos h5] at h
                cases h
                exact ⟨h1, h2, h3, rfl, .inr ⟨h5, rfl⟩⟩
              · rw [if_neg h5] at h; cases h
          · rw [if_neg h3] at h; cases h
        · rw [if_neg h2] at h; cases h
      · rw [if_neg h1] at h
        right
        by_cases h2 : 0 ≤ a.n
        · rw [if_pos h2] at h
          by_cases h3 : a.n < 4
          · rw [if_pos h3] at h
            obtain ⟨m, hm⟩ := Int.eq_ofNat_of_zero_le h2
            rw [hm, Int.toNat_natCast] at h
            by_cases h4 : a.d = 2
            · rw [if_pos h4] at h
              cases hh : x.hs[m]? with
              | none => rw [hh] at h; cases h
              | some q =>
                rw [hh] at h
                dsimp only at h
                by_cases h5 : q = -1
                · rw [if_pos h5] at h
                  cases h
                  subst h5
                  exact ⟨m, hm, by omega, rfl, .inl ⟨h4, .inl ⟨hh, rfl⟩⟩⟩
                · rw [if_neg h5] at h
                  cases h
                  exact ⟨m, hm, by omega, rfl, .inl ⟨h4, .inr ⟨q, hh, h5, rfl⟩⟩⟩
            · rw [if_neg h4] at h
              by_cases h5 : a.d = 3
              · rw [if_pos h5] at h
                cases h
                exact ⟨m, hm, by omega, rfl, .inr ⟨h5, rfl⟩⟩
              · rw [if_neg h5] at h; cases h
          · rw [if_neg h3] at h; cases h
        · rw [if_neg h2] at h; cases h

theorem Stk.push2 {W : World} {B : Nat} {rv : Value} {runs : List Int} (h : Stk W B rv runs) (f : Int) (hl : runs.length ≤ 100000) (hB : B ≤ W.heap.size) :
    ∃ rv' w4, (Builtin.append_ #[26, 26] 26 #[rv, .slice (some ⟨W.heap.size, 0, none⟩) 1 1]).run Try.prog (W.alloc (.cells #[.int .i64 f] 3)) = .ok rv' w4 ∧ Stk w4 B rv' (runs ++ [f]) ∧ Below B W w4 ∧ ∀ c, c < W.heap.size → rv.ownBlock ≠ some c → w4.heap[c]? = W.heap[c]? := by
  obtain ⟨i0, hi0, hz0, hz1, hz2⟩ := info_parts info3
  have h1 := h.grow (below_new W (.cells #[.int .i64 f] 3))
  obtain ⟨v4, w4, hrun, ho4, hg4, -, -⟩ := run_append_own_at (P := Try.prog) (w := W.alloc (.cells #[.int .i64 f] 3)) B 26 26 3 i0 _ 1 8 Try.underlying26 hi0 hz0 hz1 hz2 rfl (by decide) rv runs.length (runs.map (Value.int .i64)) h1 ⟨W.heap.size, 0, none⟩ 1 1 [.int .i64 f] rfl (fun j u hj => by rw [Addr.add_lit]; have := (cells_of (l := [.int .i64 f]) (heap_alloc_new W (.cells #[.int .i64 f] 3))).1 j u hj; simpa using this) (fun u hu => by simp at hu; subst hu; rfl) (by unfold maxLen; omega) (by omega) (by simp; omega)
  refine ⟨v4, w4, hrun, ?_, ((below_new W _).mono hB).grown hg4 (by simp; omega) (fun k hk => h.low hk), fun c hc hne => ?_⟩
  · unfold Stk
    rw [List.length_append, List.map_append]
    exact ho4
  · rw [hg4.block c (by simp; omega) (fun e => hne e.symm)]
    exact (below_new W _).block c hc

/-- One more tick is told. -/
theorem DW.push {W0 W : World} {d : Dd} {o : Do} {base : Nat} {pr : Int} {lv : Value} {l : List Lj} {rv : Value} {runs : List Int} {x : Rs} {cnt : Nat} {D : DataW Unit} (h : DW W0 W d o base pr lv l rv runs x cnt D) (f : Int) (hl : runs.length ≤ 100000) :
    ∃ rv' w4, (Builtin.append_ #[26, 26] 26 #[rv, .slice (some ⟨W.heap.size, 0, none⟩) 1 1]).run Try.prog (W.alloc (.cells #[.int .i64 f] 3)) = .ok rv' w4 ∧ (w4.cell? ⟨o.O, 0, none⟩ = some rv ∧ w4.frozen? ⟨o.O, 0, none⟩ = false ∧ o.O < w4.heap.size) ∧ (∀ c, c < W.heap.size → rv.ownBlock ≠ some c → c ≠ o.O → (w4.setCell ⟨o.O, 0, none⟩ rv').heap[c]? = W.heap[c]?) ∧ DW W0 (w4.setCell ⟨o.O, 0, none⟩ rv') d o base pr lv l rv' (runs ++ [f]) x cnt D := by
  obtain ⟨rv', w4, h1, h2, h3, h4⟩ := h.stk.push2 f hl h.bs
  have hO : w4.heap[o.O]? = _ := (h3.block _ (h.lo o.O (by simp [blks])).2).trans h.hO
  obtain ⟨c, q, r⟩ := cells_of (l := [_, _, _, _]) hO
  exact ⟨rv', w4, h1, ⟨c 0 _ rfl, q 0, r⟩, fun c hc hne hO => (Below.heap_setCell _ _ _ _ hO).trans (h4 c hc hne), h.rows h3 h2⟩
theorem DW.own_lt {W0 W : World} {d : Dd} {o : Do} {base : Nat} {pr : Int} {lv : Value} {l : List Lj} {rv : Value} {runs : List Int} {x : Rs} {cnt : Nat} {D : DataW Unit} (h : DW W0 W d o base pr lv l rv runs x cnt D) {k : Nat} (hk : rv.ownBlock = some k) : base ≤ k ∧ k < W.heap.size := by
  refine ⟨h.stk.low hk, ?_⟩
  rcases h.stk.cases with ⟨h0, -⟩ | ⟨g', cap, cur, h0, -, h2, -⟩
  · rw [h0] at hk; cases hk
  · rw [h0] at hk; cases hk; exact heap_lt h2

/-- The run, and the act that is being done. -/
structure DA (W0 W : World) (d : Dd) (o : Do) (base : Nat) (pr : Int) (lv : Value) (l : List Lj) (rv : Value) (runs : List Int) (x : Rs) (cnt : Nat) (D : DataW Unit) (ga : Nat) (a : Ac) : Prop where
  dw : DW W0 W d o base pr lv l rv runs x cnt D
  ab : W.heap[ga]? = some (.cells #[.int .i64 a.d, .int .i64 a.n] 61 (0, 0))
  gb : base ≤ ga

theorem DA.grow {W0 W : World} {d : Dd} {o : Do} {base : Nat} {pr : Int} {lv : Value} {l : List Lj} {rv : Value} {runs : List Int} {x : Rs} {cnt : Nat} {D : DataW Unit} {ga : Nat} {a : Ac} {W' : World} (h : DA W0 W d o base pr lv l rv runs x cnt D ga a) (hb : Below W.heap.size W W') : DA W0 W' d o base pr lv l rv runs x cnt D ga a := ⟨h.dw.grow hb, (hb.block _ (heap_lt h.ab)).trans h.ab, h.gb⟩
theorem DA.set {W0 W : World} {d : Dd} {o : Do} {base : Nat} {pr : Int} {lv : Value} {l : List Lj} {rv : Value} {runs : List Int} {x : Rs} {cnt : Nat} {D : DataW Unit} {ga : Nat} {a : Ac} {b k : Nat} {u : Value} {x' : Rs} (h : DA W0 W d o base pr lv l rv runs x cnt D ga a) (hb : b ∈ blks d o) (hdw : DW W0 (W.setCell ⟨b, k, none⟩ u) d o base pr lv l rv runs x' cnt D) : DA W0 (W.setCell ⟨b, k, none⟩ u) d o base pr lv l rv runs x' cnt D ga a :=
  ⟨hdw, (Below.heap_setCell _ _ _ _ (by have := (h.dw.lo b hb).2; have := h.gb; show ¬ (ga = b); omega)).trans h.ab, h.gb⟩
theorem DA.act {W0 W : World} {d : Dd} {o : Do} {base : Nat} {pr : Int} {lv : Value} {l : List Lj} {rv : Value} {runs : List Int} {x : Rs} {cnt : Nat} {D : DataW Unit} {ga : Nat} {a : Ac} (h : DA W0 W d o base pr lv l rv runs x cnt D ga a) : W.cell? ⟨ga, 0, none⟩ = some (.int .i64 a.d) ∧ W.cell? ⟨ga, 1, none⟩ = some (.int .i64 a.n) ∧ ga < W.heap.size := by
  obtain ⟨c, -, r⟩ := cells_of (l := [_, _]) h.ab
  exact ⟨c 0 _ rfl, c 1 _ rfl, r⟩

theorem wp_world {P : Program} {c : Code} {Q : Exit → Act → World → Prop} {a : Act} {w : World} (Φ : World → Prop) (h : Φ w) (H : ∀ w', Φ w' → Code.wp P c Q a w') : Code.wp P c Q a w := H w h

theorem fst_elig {pr : Int} {tp : List Int} {n : Nat} {x : Rs} {now f : Int} (h : Fst pr tp n x now f) : f = -1 ∨ ∃ i : Nat, f = (i : Int) ∧ Elig x now i := by
  obtain ⟨a, -, hb⟩ := h
  rcases hb with ⟨rfl, -⟩ | ⟨i, -, rfl, ⟨e, h1, h2, h3, h4⟩, -⟩
  · exact .inl rfl
  · refine .inr ⟨i, rfl, ?_⟩
    cases he : x.es[i]? with
    | none => rw [show ({ x with es := wAc x.es a } : Rs).es = wAc x.es a from rfl, wAc_none he] at h1; cases h1
    | some e0 =>
      rw [show ({ x with es := wAc x.es a } : Rs).es = wAc x.es a from rfl, wAc_at he] at h1
      cases h1
      exact ⟨e0, he, h2, h3, h4⟩

theorem fst_some {l : List Lj} {now : Nat} {x : Rs} (g : GI l now x) (tp : List Int) (pr : Int) (hpr : pr = 1 ∨ pr = 2 ∨ pr = 3) : ∃ f, Fst pr tp l.length x now f := by
  obtain ⟨a, ha⟩ := ac_some g tp pr hpr
  refine ⟨_, a, ha, foreF_best _ _ l.length ?_ ?_⟩
  · show l.length ≤ (wAc x.es a).length
    rw [show (wAc x.es a).length = x.es.length by simp [wAc], g.len]
    exact Nat.le_refl _
  · show l.length ≤ x.en.length
    rw [g.ne]
    exact Nat.le_refl _

section
variable {P : Program} {ops : Array Oper} {o : Oper} {a : Act} {w : World} {K : Act → World → Prop} {Q : Exit → Act → World → Prop} {E : Prop} [Decidable (Region.wanted o (yielded ops a.tmps) = true)]
theorem region_update (hgd : o.guard = none) (m k x : Operand) (t : TypeId) (ho : o.op = .mapUpdate t m k x) {vm vk vx : Value} {w' : World} (hm : a.eval m = vm) (hk : a.eval k = vk) (hx : a.eval x = vx) (hrun : (Instr.mapUpdate t vm vk vx).run P w = .ok () w') (h : K (a.put o.dst undef) w') : if Region.wanted o (yielded ops a.tmps) = true then Oper.wp P o a w K Q else E := by
  rw [if_pos (by simp [Region.wanted, hgd])]
  unfold Oper.wp
  simp [execOp, ho, hm, hk, hx, hrun, Result.andThen]
  exact h
theorem region_delete (hgd : o.guard = none) (m k : Operand) (t s : TypeId) (ho : o.op = .call { callee := .builtin .delete, args := #[m, k], argTypes := #[t, s] }) {vm vk : Value} {w' : World} (hm : a.eval m = vm) (hk : a.eval k = vk) (hrun : (Builtin.delete_ #[t, s] o.type #[vm, vk]).run P w = .ok (.tuple #[]) w') (h : K (a.put o.dst (.tuple #[])) w') : if Region.wanted o (yielded ops a.tmps) = true then Oper.wp P o a w K Q else E := by
  rw [if_pos (by simp [Region.wanted, hgd])]
  unfold Oper.wp
  simp [execOp, ho, resolve, invoke, builtin, hm, hk, hrun, Result.andThen]
  exact h
end
theorem DW.rvs {W0 W : World} {d : Dd} {o : Do} {base : Nat} {pr : Int} {lv : Value} {l : List Lj} {rv : Value} {runs : List Int} {x : Rs} {cnt : Nat} {D : DataW Unit} (h : DW W0 W d o base pr lv l rv runs x cnt D) : ∃ ad c, rv = .slice ad runs.length c := by
  obtain ⟨ad, c, e⟩ := owns_value h.stk
  exact ⟨ad, c, by simpa using e⟩

theorem PlayDoc_ends {w : World} {g h : Nat} {a1 a2 a3 a4 c k : Value} {a : Act} (hg : w.heap[g]? = some (.cells #[a1, a2, a3, a4] 28 (0, 0))) (hh : w.heap[h]? = some (.cells #[c, k] 31 (0, 0))) (h3 : a.tmps[6]?.getD undef = .pointer (some ⟨g, 0, none⟩)) (h4 : a.tmps[7]?.getD undef = .pointer (some ⟨h, 0, none⟩)) :
    (results Try.f8 a.tmps).run Try.prog w = .ok (.tuple #[.agg #[a1, a2, a3, a4], .agg #[c, k]]) w := by
  obtain ⟨c1, -, -⟩ := cells_of (l := [_, _, _, _]) hg
  obtain ⟨c2, -, -⟩ := cells_of (l := [_, _]) hh
  have c10 := c1 0 _ rfl
  have c11 := c1 1 _ rfl
  have c12 := c1 2 _ rfl
  have c13 := c1 3 _ rfl
  have c20 := c2 0 _ rfl
  have c21 := c2 1 _ rfl
  simp [results, Try.results8, go_sem, h3, h4, c10, c11, c12, c13, c20, c21]
theorem PlayDoc_endsD {w : World} {g h : Nat} {a1 a2 a3 a4 c k : Value} {a : Act} (hg : w.heap[g]? = some (.cells #[a1, a2, a3, a4] 28 (0, 0))) (hh : w.heap[h]? = some (.cells #[c, k] 31 (0, 0))) (h3 : a.tmps[6]?.getD undef = .pointer (some ⟨g, 0, none⟩)) (h4 : a.tmps[7]?.getD undef = .pointer (some ⟨h, 0, none⟩)) :
    (results Try.f8 a.tmps).run Try.prog w.drew = .ok (.tuple #[.agg #[a1, a2, a3, a4], .agg #[c, k]]) w.drew := PlayDoc_ends (w := w.drew) hg hh h3 h4
theorem doc_store {W5 : World} {s : Nat} {x1 x2 x3 x4 y1 y2 : Value} (a1 a2 a3 a4 b1 b2 : Value) (h6 : W5.heap[s]? = some (.cells #[x1, x2, x3, x4] 28 (0, 0))) (h7 : W5.heap[s + 1]? = some (.cells #[y1, y2] 31 (0, 0))) :
    let W' := (((((W5.setCell ⟨s, 0, none⟩ a1).setCell ⟨s, 1, none⟩ a2).setCell ⟨s, 2, none⟩ a3).setCell ⟨s, 3, none⟩ a4).setCell ⟨s + 1, 0, none⟩ b1).setCell ⟨s + 1, 1, none⟩ b2
    W'.heap[s]? = some (.cells #[a1, a2, a3, a4] 28 (0, 0)) ∧ W'.heap[s + 1]? = some (.cells #[b1, b2] 31 (0, 0)) ∧ (∀ k, k ≠ s → k ≠ s + 1 → W'.heap[k]? = W5.heap[k]?) ∧ Below s W5 W' := by
  intro W'
  have e1 : ∀ k, k ≠ s → ((((W5.setCell ⟨s, 0, none⟩ a1).setCell ⟨s, 1, none⟩ a2).setCell ⟨s, 2, none⟩ a3).setCell ⟨s, 3, none⟩ a4).heap[k]? = W5.heap[k]? := fun k hk => by
    rw [Below.heap_setCell _ _ _ _ hk, Below.heap_setCell _ _ _ _ hk, Below.heap_setCell _ _ _ _ hk, Below.heap_setCell _ _ _ _ hk]
  have e2 : ∀ k, k ≠ s + 1 → W'.heap[k]? = ((((W5.setCell ⟨s, 0, none⟩ a1).setCell ⟨s, 1, none⟩ a2).setCell ⟨s, 2, none⟩ a3).setCell ⟨s, 3, none⟩ a4).heap[k]? := fun k hk => by
    rw [Below.heap_setCell _ _ _ _ hk, Below.heap_setCell _ _ _ _ hk]
  refine ⟨?_, ?_, fun k h1 h2 => (e2 k h2).trans (e1 k h1), ?_⟩
  · rw [e2 s (by omega), setCell_at (setCell_at (setCell_at (setCell_at h6)))]
    rfl
  · exact set_two ((e1 (s + 1) (by omega)).trans h7)
  · exact ((((((Below.refl s W5).setCell (Nat.le_refl _) _).setCell (Nat.le_refl _) _).setCell (Nat.le_refl _) _).setCell (Nat.le_refl _) _).setCell (Nat.le_succ _) _).setCell (Nat.le_succ _) _
end Go.Proofs.Ytcmoehednkaehah
