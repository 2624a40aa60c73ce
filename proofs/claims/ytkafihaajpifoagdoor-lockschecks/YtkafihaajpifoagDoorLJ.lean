import Derived.Test.YtkafihaajpifoagDoorLI
namespace Go.Proofs.YtkafihaajpifoagDoor
open Go.ChangeShapes Go.WideShapes Go.ChangeAt Go.RowKit

theorem CheckLocked_ends {w : World} {g : Nat} {c k : Value} {a : Act} (h : w.heap[g]? = some (.cells #[c, k] 25 (0, 0))) (h3 : a.tmps[2]?.getD undef = .pointer (some ⟨g, 0, none⟩)) :
    (results Tryd.f21 a.tmps).run Tryd.prog w = .ok (.agg #[c, k]) w := by
  obtain ⟨c1, f1, l1⟩ := cells_of (l := [_, _]) h
  have c10 := c1 0 _ rfl
  have c11 := c1 1 _ rfl
  simp [results, Tryd.results21, go_sem, h3, c10, c11]

set_option maxRecDepth 20000 in
theorem CheckLocked_many (w : World) (n c : Nat) (ad : Option Addr) (h : 100 < n) : Calls Tryd.prog 21 #[.slice ad n c] w fun r w' => r = .returned (.agg #[.int .i64 2, .int .i64 0]) ∧ Below w.heap.size w w' := by
  have hw : (100 : Int) < (n : Int) := by omega
  have H0 : Hid (FB w (w.alloc (.cells #[.int .i64 0, .int .i64 0] 25)) w.heap.size) := FB.start w
  go_enter Tryd.func21, Tryd.ntmps21
  go_wp2_with (go_at_call 6; refine (F_any _ _ _).mono ?_; rintro r w1 ⟨rfl, hb1⟩; have H1 : Hid (FB w w1 w.heap.size) := H0.out.grow hb1; obtain ⟨r10, r11, f10, f11, rl⟩ := H1.out.res2; clear hb1)
  refine bodyPost_ret (CheckLocked_ends (set_two H1.out.res) rfl) rfl ?_
  exact ⟨rfl, H1.out.set _ _⟩

set_option maxRecDepth 20000 in
set_option maxHeartbeats 4000000 in
theorem CheckLocked_few (w : World) (l : List Lj) (ad : Option Addr) (c : Nat) (h8 : l.length ≤ 100) (hv : LkSl w l (.slice ad l.length c)) : Calls Tryd.prog 21 #[.slice ad l.length c] w fun r w' => r = .returned (.agg #[.int .i64 (chkL l 0).1, .int .i64 (chkL l 0).2]) ∧ Below w.heap.size w w' := by
  have hw : ¬ ((100 : Int) < (l.length : Int)) := by omega
  obtain ⟨⟨_, _, e, -, hcap, hrow⟩, hacts⟩ := hv
  cases e
  have HR : Hid ((l = [] ∨ ∃ b o, ad = some ⟨b, o, none⟩ ∧ ∀ q u, (l.flatMap Lj.vals)[q]? = some u → w.cell? ⟨b, o + q, none⟩ = some u) ∧ ∀ x ∈ l, RowSl Ac.vals w x.acts x.v) := ⟨hrow, hacts⟩
  clear hrow hacts
  go_enter Tryd.func21, Tryd.ntmps21
  go_wp2_with fail
  go_loopw [12] (fun i wr => ∃ j : Nat, j ≤ l.length ∧ i = .int .i64 j ∧ FB w wr w.heap.size ∧ chkL (l.drop j) j = chkL l 0) (fun i _ => l.length - (intOf i).toNat)
  case atStart => exact ⟨0, Nat.zero_le _, rfl, FB.start w, rfl⟩
  case round =>
    obtain ⟨j, hj, rfl, hb, hf⟩ := hrel
    by_cases hlt : j < l.length
    · obtain ⟨x, hx, hd⟩ := drop_at hlt
      rw [hd, chkL] at hf
      rcases HR.out.1 with h | ⟨b, o, rfl, hrow⟩
      · rw [h] at hlt; simp at hlt
      have ha := lj_at (fun q u hq => below_cell hb.bel (hrow q u hq)) hx
      have hac := (HR.out.2 x (List.mem_of_getElem? hx)).below hb.bel
      obtain ⟨xa, xp, xacts, xv⟩ := x
      dsimp only at hac
      obtain ⟨aad, ac, rfl⟩ := hac.len
      obtain ⟨c0, c1, c2⟩ := ha
      dsimp only at c0 c1 c2
      have lb : b < wr.heap.size := World.block_lt_of_cell? _ _ c0
      have hb1 := hb.grow (below_new wr (.cells #[.int .i64 xa, .int .i64 xp, .slice aad xacts.length ac] 44))
      have HB : Hid (FB w (wr.alloc (.cells #[.int .i64 xa, .int .i64 xp, .slice aad xacts.length ac] 44)) w.heap.size ∧ RowSl Ac.vals (wr.alloc (.cells #[.int .i64 xa, .int .i64 xp, .slice aad xacts.length ac] 44)) xacts (.slice aad xacts.length ac)) := ⟨hb1, hac.below (below_new _ _)⟩
      have hji : (j : Int) < (l.length : Int) := by omega
      clear hb hrow hb1 hac hx hd
      by_cases hgo : (within xa 0 20000 && within xp 0 1000) = true
      · have hgo' : 0 ≤ xa ∧ xa ≤ 20000 ∧ 0 ≤ xp ∧ xp ≤ 1000 := by simp [within] at hgo; omega
        have e9 : lkOne ⟨xa, xp, xacts, .slice aad xacts.length ac⟩ = (chkActs xacts).1 := by
          unfold lkOne
          rw [if_pos hgo]
        rw [e9] at hf
        have HF : Hid ((if (chkActs xacts).1 = 0 then chkL (l.drop (j + 1)) (j + 1) else ((chkActs xacts).1, (j : Int))) = chkL l 0) := hf
        have y1 : ¬ (xa < 0) := by omega
        have y2 : ¬ (20000 < xa) := by omega
        have y3 : ¬ (xp < 0) := by omega
        have y4 : ¬ (1000 < xp) := by omega
        clear hf e9 hgo hgo'
        have HC := CheckActs_any _ xacts _ HB.out.2
        generalize chkActs xacts = z at *
        obtain ⟨z1, z2⟩ := z
        dsimp only at HC
        go_wp2_with (go_at_call 16; refine HC.mono ?_; rintro r w2 ⟨rfl, hb2⟩; have H2 : Hid (FB w w2 w.heap.size) := HB.out.1.grow hb2; clear hb2 HC)
        · go_wp2_with (go_at_call 6; refine (F_any _ _ _).mono ?_; rintro r w3 ⟨rfl, hb3⟩; have H3 : Hid (FB w w3 w.heap.size) := H2.out.grow (below_seq (below_new _ _) hb3); obtain ⟨r10, r11, f10, f11, rl⟩ := H3.out.res2; clear hb3)
          have hz0 : ¬ z1 = 0 := by simp_all
          have e := HF.out
          rw [if_neg hz0] at e
          refine bodyPost_ret (CheckLocked_ends (set_two H3.out.res) rfl) rfl ?_
          exact ⟨by rw [← e], H3.out.set _ _⟩
        · have hz0 : z1 = 0 := by simp_all
          have e := HF.out
          rw [if_pos hz0] at e
          exact ⟨⟨j + 1, by omega, by simp, H2.out.grow (below_new _ _), e⟩, by simp [intOf]; omega⟩
      · have e9 : lkOne ⟨xa, xp, xacts, .slice aad xacts.length ac⟩ = 3 := by
          unfold lkOne
          rw [if_neg hgo]
        rw [e9, if_neg (by decide)] at hf
        have HF : Hid ((3, (j : Int)) = chkL l 0) := hf
        have hgo' : xa < 0 ∨ 20000 < xa ∨ xp < 0 ∨ 1000 < xp := by simp [within] at hgo; omega
        clear hf e9 hgo
        by_cases y1 : xa < 0
        · go_wp2_with (go_at_call 6; refine (F_any _ _ _).mono ?_; rintro r w3 ⟨rfl, hb3⟩; have H3 : Hid (FB w w3 w.heap.size) := HB.out.1.grow hb3; obtain ⟨r10, r11, f10, f11, rl⟩ := H3.out.res2; clear hb3)
          refine bodyPost_ret (CheckLocked_ends (set_two H3.out.res) rfl) rfl ?_
          exact ⟨by rw [← HF.out], H3.out.set _ _⟩
        by_cases y2 : 20000 < xa
        · go_wp2_with (go_at_call 6; refine (F_any _ _ _).mono ?_; rintro r w3 ⟨rfl, hb3⟩; have H3 : Hid (FB w w3 w.heap.size) := HB.out.1.grow hb3; obtain ⟨r10, r11, f10, f11, rl⟩ := H3.out.res2; clear hb3)
          refine bodyPost_ret (CheckLocked_ends (set_two H3.out.res) rfl) rfl ?_
          exact ⟨by rw [← HF.out], H3.out.set _ _⟩
        by_cases y3 : xp < 0
        · go_wp2_with (go_at_call 6; refine (F_any _ _ _).mono ?_; rintro r w3 ⟨rfl, hb3⟩; have H3 : Hid (FB w w3 w.heap.size) := HB.out.1.grow hb3; obtain ⟨r10, r11, f10, f11, rl⟩ := H3.out.res2; clear hb3)
          refine bodyPost_ret (CheckLocked_ends (set_two H3.out.res) rfl) rfl ?_
          exact ⟨by rw [← HF.out], H3.out.set _ _⟩
        have y4 : 1000 < xp := by omega
        go_wp2_with (go_at_call 6; refine (F_any _ _ _).mono ?_; rintro r w3 ⟨rfl, hb3⟩; have H3 : Hid (FB w w3 w.heap.size) := HB.out.1.grow hb3; obtain ⟨r10, r11, f10, f11, rl⟩ := H3.out.res2; clear hb3)
        refine bodyPost_ret (CheckLocked_ends (set_two H3.out.res) rfl) rfl ?_
        exact ⟨by rw [← HF.out], H3.out.set _ _⟩
    · have hje : j = l.length := by omega
      subst hje
      rw [List.drop_length, chkL] at hf
      have H1 : Hid (FB w wr w.heap.size) := hb
      obtain ⟨r10, r11, f10, f11, rl⟩ := hb.res2
      have HF : Hid ((0, 0) = chkL l 0) := hf
      clear hf hb
      go_wp2_with fail
      refine bodyPost_ret (CheckLocked_ends (set_two H1.out.res) rfl) rfl ?_
      exact ⟨by rw [← HF.out], H1.out.set _ _⟩

/-- punctualref.CheckLocked. -/
theorem CheckLocked_any (w : World) (l : List Lj) (v : Value) (hv : LkSl w l v) : Calls Tryd.prog 21 #[v] w fun r w' => r = .returned (.agg #[.int .i64 (chkLk l).1, .int .i64 (chkLk l).2]) ∧ Below w.heap.size w w' := by
  obtain ⟨ad, c, rfl⟩ := hv.1.len
  unfold chkLk
  by_cases h : 100 < l.length
  · rw [if_pos h]
    exact CheckLocked_many w l.length c ad h
  · rw [if_neg h]
    exact CheckLocked_few w l ad c (by omega) hv
end Go.Proofs.YtkafihaajpifoagDoor
