import Derived.Test.YtcmoehednkaehahPD
namespace Go.Proofs.Ytcmoehednkaehah
open Go.ChangeShapes Go.WideShapes Go.ChangeAt Go.RowKit

theorem field_31 (W : World) (a b : Int) : (Instr.field 31 (.agg #[.int .i64 a, .int .i64 b]) 0).run Try.prog W = .ok (.int .i64 a) W := by kernel_rfl

set_option maxRecDepth 20000 in
set_option maxHeartbeats 1000000 in
theorem LocksOnce_many (w : World) (l : List Lj) (v : Value) (hv : LkSl w l v) (h : 5000 < l.length) (U : Int) :
    Calls Try.prog 4 #[v, .int .i64 U] w fun r w' => r = .returned (.bool true) ∧ Below w.heap.size w w' := by
  obtain ⟨ad, cp, hve⟩ := hv.1.len
  subst hve
  have hfew : decide ((l.length : Int) ≤ 5000) = false := by simp; omega
  clear hv
  go_enter Try.func4, Try.ntmps4
  go_wp2_with (go_at_call 5; refine (locked_any _).mono ?_; rintro r w1 ⟨rfl, hb⟩; have H1 : Hid (Below w.heap.size w w1) := hb; clear hb)
  go_wp2_with (go_at_call 6; refine (few_any _ _).mono ?_; rintro r w2 ⟨rfl, rfl⟩; rw [hfew])
  go_ret
  exact ⟨rfl, H1.out⟩

set_option maxRecDepth 20000 in
set_option maxHeartbeats 1000000 in
theorem LocksOnce_long (w : World) (l : List Lj) (v : Value) (hv : LkSl w l v) (h : l.length ≤ 5000) (U : Int) (h1 : 3000 < U) (h2 : U ≤ 20000) :
    Calls Try.prog 4 #[v, .int .i64 U] w fun r w' => r = .returned (.bool true) ∧ Below w.heap.size w w' := by
  obtain ⟨ad, cp, hve⟩ := hv.1.len
  subst hve
  have hfew : decide ((l.length : Int) ≤ 5000) = true := by simp; omega
  clear hv
  go_enter Try.func4, Try.ntmps4
  go_wp2_with (go_at_call 5; refine (locked_any _).mono ?_; rintro r w1 ⟨rfl, hb⟩; have H1 : Hid (Below w.heap.size w w1) := hb; clear hb)
  go_wp2_with (go_at_call 6; refine (few_any _ _).mono ?_; rintro r w2 ⟨rfl, rfl⟩; rw [hfew])
  go_ret
  exact ⟨rfl, H1.out⟩

set_option maxRecDepth 20000 in
set_option maxHeartbeats 1000000 in
theorem LocksOnce_bad (w : World) (l : List Lj) (v : Value) (hv : LkSl w l v) (hs : ∀ x ∈ l, x.acts.length * 16 ≤ 140737488355328) (h : l.length ≤ 5000) (h0 : (chkLk l).1 ≠ 0) (U : Int) (hU : U ≤ 3000 ∨ 20000 < U) :
    Calls Try.prog 4 #[v, .int .i64 U] w fun r w' => r = .returned (.bool true) ∧ Below w.heap.size w w' := by
  obtain ⟨ad, cp, hve⟩ := hv.1.len
  subst hve
  have hfew : decide ((l.length : Int) ≤ 5000) = true := by simp; omega
  have HC := fun W (hb : Below w.heap.size w W) => CheckLocked_any W l (.slice ad l.length cp) (hv.below hb)
  have HV : Hid (LkSl w l (.slice ad l.length cp) ∧ (∀ x ∈ l, x.acts.length * 16 ≤ 140737488355328) ∧ l.length ≤ 5000) := ⟨hv, hs, h⟩
  have HP := fun W (js : List Lj) u (hj : LkSl W js u) (he : chkLk js = chkLk l) => Play_bad W js u hj (by rw [he]; exact h0) U
  clear hv hs
  obtain ⟨z, hz⟩ : ∃ z, chkLk l = z := ⟨_, rfl⟩
  rw [hz] at h0 HC
  have HZ : Hid (chkLk l = z) := hz
  clear hz
  obtain ⟨z1, z2⟩ := z
  dsimp only at h0 HC
  have h0' : (z1 != 0) = true := by simpa using h0
  have hor : ∀ (P : Prop), (3000 < U → U ≤ 20000 → P) := fun P h1 h2 => by omega
  rcases hU with hU | hU
  · have hU1 : ¬ (3000 < U) := by omega
    have hfd := field_31
    go_enter Try.func4, Try.ntmps4
    go_wp2_with (go_at_call 5; refine (locked_any _).mono ?_; rintro r w1 ⟨rfl, hb⟩; have H1 : Hid (Below w.heap.size w w1) := hb; clear hb)
    go_wp2_with (go_at_call 6; refine (few_any _ _).mono ?_; rintro r w2 ⟨rfl, rfl⟩; rw [hfew])
    go_wp2_with (go_at_call 7; refine (Acts_any _ l (.slice ad l.length cp) HV.out.2.2 HV.out.2.1 (HV.out.1.below H1.out)).mono ?_; rintro r w3 ⟨u, js, rfl, hcore, hjs, hb, -, -⟩; have H3 : Hid (Below w.heap.size w w3 ∧ LkSl w3 js u ∧ chkLk js = chkLk l) := ⟨below_seq H1.out hb, hjs, chkLk_core hcore⟩; clear hcore hjs hb)
    go_wp2_with (go_at_call 9; refine (HP _ js u H3.out.2.1 H3.out.2.2).mono ?_; rintro r w4 ⟨rfl, hb⟩; rw [H3.out.2.2, HZ.out]; have H4 : Hid (Below w.heap.size w w4) := below_seq H3.out.1 hb; clear hb)
    have HF : Hid (Below w.heap.size w ((w4.alloc (.cells #[.slice none 0 0, .slice none 0 0, .slice none 0 0, .bool false] 37)).alloc (.cells #[.int .i64 z1, .int .i64 z2] 31))) := below_seq H4.out (below_seq (below_new _ _) (below_new _ _))
    obtain ⟨wf, hwf⟩ : ∃ wf, (w4.alloc (.cells #[.slice none 0 0, .slice none 0 0, .slice none 0 0, .bool false] 37)).alloc (.cells #[.int .i64 z1, .int .i64 z2] 31) = wf := ⟨_, rfl⟩
    have HC0 := HC wf (by rw [← hwf]; exact HF.out)
    rw [hwf] at HF
    rw [hwf]
    go_wp2_with (go_at_call 13; refine HC0.mono ?_; rintro r w5 ⟨rfl, hb⟩; have H5 : Hid (Below w.heap.size w w5) := below_seq HF.out hb; clear hb)
    go_ret
    exact ⟨rfl, H5.out⟩
  · have hU1 : 3000 < U := by omega
    have hU2 : ¬ (U ≤ 20000) := by omega
    have hfd := field_31
    go_enter Try.func4, Try.ntmps4
    go_wp2_with (go_at_call 5; refine (locked_any _).mono ?_; rintro r w1 ⟨rfl, hb⟩; have H1 : Hid (Below w.heap.size w w1) := hb; clear hb)
    go_wp2_with (go_at_call 6; refine (few_any _ _).mono ?_; rintro r w2 ⟨rfl, rfl⟩; rw [hfew])
    go_wp2_with (go_at_call 7; refine (Acts_any _ l (.slice ad l.length cp) HV.out.2.2 HV.out.2.1 (HV.out.1.below H1.out)).mono ?_; rintro r w3 ⟨u, js, rfl, hcore, hjs, hb, -, -⟩; have H3 : Hid (Below w.heap.size w w3 ∧ LkSl w3 js u ∧ chkLk js = chkLk l) := ⟨below_seq H1.out hb, hjs, chkLk_core hcore⟩; clear hcore hjs hb)
    go_wp2_with (go_at_call 9; refine (HP _ js u H3.out.2.1 H3.out.2.2).mono ?_; rintro r w4 ⟨rfl, hb⟩; rw [H3.out.2.2, HZ.out]; have H4 : Hid (Below w.heap.size w w4) := below_seq H3.out.1 hb; clear hb)
    have HF : Hid (Below w.heap.size w ((w4.alloc (.cells #[.slice none 0 0, .slice none 0 0, .slice none 0 0, .bool false] 37)).alloc (.cells #[.int .i64 z1, .int .i64 z2] 31))) := below_seq H4.out (below_seq (below_new _ _) (below_new _ _))
    obtain ⟨wf, hwf⟩ : ∃ wf, (w4.alloc (.cells #[.slice none 0 0, .slice none 0 0, .slice none 0 0, .bool false] 37)).alloc (.cells #[.int .i64 z1, .int .i64 z2] 31) = wf := ⟨_, rfl⟩
    have HC0 := HC wf (by rw [← hwf]; exact HF.out)
    rw [hwf] at HF
    rw [hwf]
    go_wp2_with (go_at_call 13; refine HC0.mono ?_; rintro r w5 ⟨rfl, hb⟩; have H5 : Hid (Below w.heap.size w w5) := below_seq HF.out hb; clear hb)
    go_ret
    exact ⟨rfl, H5.out⟩

set_option maxRecDepth 20000 in
set_option maxHeartbeats 1000000 in
theorem LocksOnce_range (w : World) (l : List Lj) (v : Value) (hv : LkSl w l v) (hs : ∀ x ∈ l, x.acts.length * 16 ≤ 140737488355328) (h : l.length ≤ 5000) (h0 : chkLk l = (0, 0)) (U : Int) (hU : U < 0 ∨ 20000 < U) :
    Calls Try.prog 4 #[v, .int .i64 U] w fun r w' => r = .returned (.bool true) ∧ Below w.heap.size w w' := by
  obtain ⟨ad, cp, hve⟩ := hv.1.len
  subst hve
  have hfew : decide ((l.length : Int) ≤ 5000) = true := by simp; omega
  have HC := fun W (hb : Below w.heap.size w W) => CheckLocked_any W l (.slice ad l.length cp) (hv.below hb)
  rw [h0] at HC
  have HV : Hid (LkSl w l (.slice ad l.length cp) ∧ (∀ x ∈ l, x.acts.length * 16 ≤ 140737488355328) ∧ l.length ≤ 5000) := ⟨hv, hs, h⟩
  have HP := fun W (js : List Lj) u (hj : LkSl W js u) (he : chkLk js = chkLk l) => Play_range W js u hj (by rw [he]; exact h0) U (by rcases hU with h | h <;> simp [within] <;> omega)
  clear hv hs h0
  dsimp only at HC
  rcases hU with hU | hU
  · have hU1 : ¬ (3000 < U) := by omega
    have hfd := field_31
    go_enter Try.func4, Try.ntmps4
    go_wp2_with (go_at_call 5; refine (locked_any _).mono ?_; rintro r w1 ⟨rfl, hb⟩; have H1 : Hid (Below w.heap.size w w1) := hb; clear hb)
    go_wp2_with (go_at_call 6; refine (few_any _ _).mono ?_; rintro r w2 ⟨rfl, rfl⟩; rw [hfew])
    go_wp2_with (go_at_call 7; refine (Acts_any _ l (.slice ad l.length cp) HV.out.2.2 HV.out.2.1 (HV.out.1.below H1.out)).mono ?_; rintro r w3 ⟨u, js, rfl, hcore, hjs, hb, -, -⟩; have H3 : Hid (Below w.heap.size w w3 ∧ LkSl w3 js u ∧ chkLk js = chkLk l) := ⟨below_seq H1.out hb, hjs, chkLk_core hcore⟩; clear hcore hjs hb)
    go_wp2_with (go_at_call 9; refine (HP _ js u H3.out.2.1 H3.out.2.2).mono ?_; rintro r w4 ⟨rfl, hb⟩; have H4 : Hid (Below w.heap.size w w4) := below_seq H3.out.1 hb; clear hb)
    have HF : Hid (Below w.heap.size w ((w4.alloc (.cells #[.slice none 0 0, .slice none 0 0, .slice none 0 0, .bool false] 37)).alloc (.cells #[.int .i64 3, .int .i64 0] 31))) := below_seq H4.out (below_seq (below_new _ _) (below_new _ _))
    obtain ⟨wf, hwf⟩ : ∃ wf, (w4.alloc (.cells #[.slice none 0 0, .slice none 0 0, .slice none 0 0, .bool false] 37)).alloc (.cells #[.int .i64 3, .int .i64 0] 31) = wf := ⟨_, rfl⟩
    have HC0 := HC wf (by rw [← hwf]; exact HF.out)
    rw [hwf] at HF
    rw [hwf]
    go_wp2_with (go_at_call 13; refine HC0.mono ?_; rintro r w5 ⟨rfl, hb⟩; have H5 : Hid (Below w.heap.size w w5) := below_seq HF.out hb; clear hb)
    go_ret
    exact ⟨rfl, H5.out⟩
  · have hU1 : 3000 < U := by omega
    have hU2 : ¬ (U ≤ 20000) := by omega
    have hU3 : ¬ (U < 0) := by omega
    have hfd := field_31
    go_enter Try.func4, Try.ntmps4
    go_wp2_with (go_at_call 5; refine (locked_any _).mono ?_; rintro r w1 ⟨rfl, hb⟩; have H1 : Hid (Below w.heap.size w w1) := hb; clear hb)
    go_wp2_with (go_at_call 6; refine (few_any _ _).mono ?_; rintro r w2 ⟨rfl, rfl⟩; rw [hfew])
    go_wp2_with (go_at_call 7; refine (Acts_any _ l (.slice ad l.length cp) HV.out.2.2 HV.out.2.1 (HV.out.1.below H1.out)).mono ?_; rintro r w3 ⟨u, js, rfl, hcore, hjs, hb, -, -⟩; have H3 : Hid (Below w.heap.size w w3 ∧ LkSl w3 js u ∧ chkLk js = chkLk l) := ⟨below_seq H1.out hb, hjs, chkLk_core hcore⟩; clear hcore hjs hb)
    go_wp2_with (go_at_call 9; refine (HP _ js u H3.out.2.1 H3.out.2.2).mono ?_; rintro r w4 ⟨rfl, hb⟩; have H4 : Hid (Below w.heap.size w w4) := below_seq H3.out.1 hb; clear hb)
    have HF : Hid (Below w.heap.size w ((w4.alloc (.cells #[.slice none 0 0, .slice none 0 0, .slice none 0 0, .bool false] 37)).alloc (.cells #[.int .i64 3, .int .i64 0] 31))) := below_seq H4.out (below_seq (below_new _ _) (below_new _ _))
    obtain ⟨wf, hwf⟩ : ∃ wf, (w4.alloc (.cells #[.slice none 0 0, .slice none 0 0, .slice none 0 0, .bool false] 37)).alloc (.cells #[.int .i64 3, .int .i64 0] 31) = wf := ⟨_, rfl⟩
    have HC0 := HC wf (by rw [← hwf]; exact HF.out)
    rw [hwf] at HF
    rw [hwf]
    go_wp2_with (go_at_call 13; refine HC0.mono ?_; rintro r w5 ⟨rfl, hb⟩; have H5 : Hid (Below w.heap.size w w5) := below_seq HF.out hb; clear hb)
    go_ret
    exact ⟨rfl, H5.out⟩

/-- The law, at any jobs and any time. -/
theorem once_walk (w : World) (l : List Lj) (v : Value) (hv : LkSl w l v) (hs : ∀ x ∈ l, x.acts.length * 16 ≤ 140737488355328) (U : Int) :
    Calls Try.prog 4 #[v, .int .i64 U] w fun r w' => r = .returned (.bool true) ∧ Below w.heap.size w w' := by
  by_cases h : l.length ≤ 5000
  · by_cases h1 : 3000 < U ∧ U ≤ 20000
    · exact LocksOnce_long w l v hv h U h1.1 h1.2
    · by_cases h0 : (chkLk l).1 = 0
      · have e := chkLk_zero h0
        by_cases h2 : U < 0 ∨ 20000 < U
        · exact LocksOnce_range w l v hv hs h e U h2
        · obtain ⟨n, rfl⟩ := Int.eq_ofNat_of_zero_le (show 0 ≤ U by omega)
          exact LocksOnce_good w l v hv hs e n (by omega)
      · exact LocksOnce_bad w l v hv hs h h0 U (by omega)
  · exact LocksOnce_many w l v hv (by omega) U
end Go.Proofs.Ytcmoehednkaehah
