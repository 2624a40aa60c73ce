import Derived.Test.YtekbkcgpjkecbalJJ
import Derived.Test.YtekbkcgpjkecbalXD
namespace Go.Proofs.Ytekbkcgpjkecbal
open Go.ChangeShapes Go.WideShapes Go.ChangeAt Go.RowKit

def endF (l : List Ta) : List Co → Int → Int
  | [], e => e
  | c :: r, e => endF l r (max e (c.a + (Tk l c.k.toNat).d))

theorem endF_ge {l : List Ta} : ∀ (cs : List Co) (e : Int), e ≤ endF l cs e ∧ ∀ c ∈ cs, c.a + (Tk l c.k.toNat).d ≤ endF l cs e
  | [], e => ⟨Int.le_refl _, fun c hc => by simp at hc⟩
  | x :: r, e => by
    obtain ⟨h1, h2⟩ := endF_ge (l := l) r (max e (x.a + (Tk l x.k.toNat).d))
    refine ⟨by unfold endF; omega, fun c hc => ?_⟩
    unfold endF
    rcases List.mem_cons.1 hc with rfl | hc
    · omega
    · exact h2 c hc

theorem endF_at {l : List Ta} {cs : List Co} {j : Nat} {c : Co} {e : Int} (h : cs.drop j = c :: cs.drop (j + 1)) : endF l (cs.drop j) e = endF l (cs.drop (j + 1)) (max e (c.a + (Tk l c.k.toNat).d)) := by
  rw [h]; rfl

set_option maxRecDepth 20000 in
set_option maxHeartbeats 4000000 in
theorem lasts_any (w : World) (l : List Ta) (cs : List Co) (v v2 : Value) (hs : ∀ x ∈ l, stands x = true) (hl : l.length ≠ 0) (hn : cs.length ≤ 5000) (hc : ∀ c ∈ cs, 0 ≤ c.k ∧ c.k < (l.length : Int) ∧ 0 ≤ c.a ∧ c.a ≤ 20000) (hv : RowSl Ta.vals w l v) (hv2 : RowSl Co.vals w cs v2) :
    Calls Try.prog 7 #[v, v2] w fun r w' => r = .returned (.int .i64 (if 3000 < endF l cs 0 ∨ 300 < cs.length then -1 else endF l cs 0)) ∧ Below w.heap.size w w' := by
  obtain ⟨ad2, c2, rfl, -, hcap2, hrow2⟩ := hv2
  obtain ⟨ad, c, rfl, -, hcap, hrow⟩ := hv
  rcases hrow with h | ⟨b, o, rfl, hrow⟩
  · rw [h] at hl; simp at hl
  have HR : Hid ((∀ q u, (l.flatMap Ta.vals)[q]? = some u → w.cell? ⟨b, o + q, none⟩ = some u) ∧ (cs = [] ∨ ∃ b o, ad2 = some ⟨b, o, none⟩ ∧ ∀ q u, (cs.flatMap Co.vals)[q]? = some u → w.cell? ⟨b, o + q, none⟩ = some u) ∧ (∀ x ∈ l, stands x = true) ∧ (∀ c ∈ cs, 0 ≤ c.k ∧ c.k < (l.length : Int) ∧ 0 ≤ c.a ∧ c.a ≤ 20000)) := ⟨hrow, hrow2, hs, hc⟩
  clear hrow hrow2 hs hc
  generalize ez : (if 3000 < endF l cs 0 ∨ 300 < cs.length then -1 else endF l cs 0) = z
  have EZ : Hid ((if 3000 < endF l cs 0 ∨ 300 < cs.length then -1 else endF l cs 0) = z) := ez
  clear ez
  go_enter Try.func7, Try.ntmps7
  go_wp2_with fail
  go_loopw [5, 10] (fun ev iv wr => ∃ (j : Nat) (e : Int), j ≤ cs.length ∧ ev = .int .i64 e ∧ iv = .int .i64 (j : Int) ∧ Below w.heap.size w wr ∧ 0 ≤ e ∧ e ≤ 30000 ∧ Hid (endF l (cs.drop j) e = endF l cs 0)) (fun _ iv _ => cs.length - (intOf iv).toNat)
  case atStart => exact ⟨0, 0, Nat.zero_le _, rfl, rfl, Below.refl _ _, by omega, by omega, rfl⟩
  case round =>
    obtain ⟨j, e, hjl, rfl, rfl, hb, he0, he1, HQ⟩ := hrel
    by_cases hlt : j < cs.length
    · obtain ⟨x, hx, hdr⟩ := drop_at hlt
      have hq := HQ.out
      rw [endF_at hdr] at hq
      obtain ⟨x0, x1, x2, x3⟩ := HR.out.2.2.2 x (List.mem_of_getElem? hx)
      obtain ⟨kn, hkn⟩ : ∃ kn : Nat, x.k = (kn : Int) := ⟨x.k.toNat, by omega⟩
      rw [hkn, Int.toNat_natCast] at hq
      have hknl : kn < l.length := by omega
      obtain ⟨-, -, -, -, d5, d6, -, -, -, -⟩ := stands_t (stands_mem HR.out.2.2.1 hknl)
      rcases HR.out.2.1 with h | ⟨b2, o2, rfl, hrow2⟩
      · rw [h] at hlt; simp at hlt
      obtain ⟨c0, c1⟩ := co_at (fun q u hq => below_cell hb (hrow2 q u hq)) hx
      rw [hkn] at c0
      obtain ⟨-, -, -, t3, -, -, -⟩ := ta_at (fun q u hq => below_cell hb (HR.out.1 q u hq)) (Tk_get hknl)
      have lb : b < wr.heap.size := World.block_lt_of_cell? _ _ t3
      have lb2 : b2 < wr.heap.size := World.block_lt_of_cell? _ _ c0
      have hj' : (j : Int) < (cs.length : Int) := by omega
      have hk' : (kn : Int) < (l.length : Int) := by omega
      have HB : Hid (Below w.heap.size w wr) := hb
      generalize (Tk l kn).d = dd at *
      generalize x.a = xa at *
      have HQ' : Hid (endF l (cs.drop (j + 1)) (max e (xa + dd)) = endF l cs 0) := hq
      have e1 : IntKind.i64.wrap (xa + dd) = xa + dd := by rw [IntKind.wrap_i64]; omega
      clear hq HQ hb hrow2 hx hdr hkn
      go_wp2_with fail
      refine wp_region_noPanic ?_
      refine wp_region_held_drew (S := fun w' => w'.cell? ⟨wr.heap.size, 0, none⟩ = some (.int .i64 (kn : Int)) ∧ w'.cell? ⟨wr.heap.size, 1, none⟩ = some (.int .i64 xa) ∧ w'.cell? ⟨b, o + kn * 7 + 3, none⟩ = some (.int .i64 dd)) (by kernel_rfl) (by refine ⟨?_, ?_, ?_⟩ <;> go_simp) (fun hHeld => ?_)
      refine take_at (i := 0) (n := 14) (v := ?_) rfl rfl (by kernel_rfl) (by kernel_rfl) (by kernel_rfl) (fun _ _ _ h => h) (Or.inl ⟨by rfl, ?_⟩) (by assumption) ?_
      rotate_left 1
      · intro wz hSw
        obtain ⟨k0, k1, k2⟩ := hSw
        first | (go_simp; done) | (go_simp; with_reducible rfl)
      simp only [List.set_cons_zero, List.set_cons_succ]
      refine take_at (i := 1) (n := 15) (v := ?_) rfl rfl (by kernel_rfl) (by kernel_rfl) (by kernel_rfl) (fun _ _ _ h => h) (Or.inl ⟨by rfl, ?_⟩) (by assumption) ?_
      rotate_left 1
      · intro wz hSw
        obtain ⟨k0, k1, k2⟩ := hSw
        first | (go_simp; done) | (go_simp; with_reducible rfl)
      simp only [List.set_cons_zero, List.set_cons_succ]
      refine take_at (i := 2) (n := 16) (v := ?_) rfl rfl (by kernel_rfl) (by kernel_rfl) (by kernel_rfl) (fun _ _ _ h => h) (Or.inl ⟨by rfl, ?_⟩) (by assumption) ?_
      rotate_left 1
      · intro wz hSw
        obtain ⟨k0, k1, k2⟩ := hSw
        first | (go_simp; done) | (go_simp; with_reducible rfl)
      simp only [List.set_cons_zero, List.set_cons_succ]
      refine take_at (i := 3) (n := 17) (v := ?_) rfl rfl (by kernel_rfl) (by kernel_rfl) (by kernel_rfl) (fun _ _ _ h => h) (Or.inl ⟨by rfl, ?_⟩) (by assumption) ?_
      rotate_left 1
      · intro wz hSw
        obtain ⟨k0, k1, k2⟩ := hSw
        first | (go_simp; done) | (go_simp; with_reducible rfl)
      simp only [List.set_cons_zero, List.set_cons_succ]
      refine take_at (i := 4) (n := 18) (v := ?_) rfl rfl (by kernel_rfl) (by kernel_rfl) (by kernel_rfl) (fun _ _ _ h => h) (Or.inl ⟨by rfl, ?_⟩) (by assumption) ?_
      rotate_left 1
      · intro wz hSw
        obtain ⟨k0, k1, k2⟩ := hSw
        first | (go_simp; done) | (go_simp; with_reducible rfl)
      simp only [List.set_cons_zero, List.set_cons_succ]
      refine take_at (i := 5) (n := 19) (v := ?_) rfl rfl (by kernel_rfl) (by kernel_rfl) (by kernel_rfl) (fun _ _ _ h => h) (Or.inl ⟨by rfl, ?_⟩) (by assumption) ?_
      rotate_left 1
      · intro wz hSw
        obtain ⟨k0, k1, k2⟩ := hSw
        first | (go_simp; done) | (go_simp; with_reducible rfl)
      simp only [List.set_cons_zero, List.set_cons_succ]
      refine take_at (i := 6) (n := 20) (v := ?_) rfl rfl (by kernel_rfl) (by kernel_rfl) (by kernel_rfl) (fun _ _ _ h => h) (Or.inl ⟨by rfl, ?_⟩) (by assumption) ?_
      rotate_left 1
      · intro wz hSw
        obtain ⟨k0, k1, k2⟩ := hSw
        first | (go_simp; done) | (go_simp; with_reducible rfl)
      simp only [List.set_cons_zero, List.set_cons_succ]
      refine take_at (i := 7) (n := 21) (v := ?_) rfl rfl (by kernel_rfl) (by kernel_rfl) (by kernel_rfl) (fun _ _ _ h => h) (Or.inl ⟨by rfl, ?_⟩) (by assumption) ?_
      rotate_left 1
      · intro wz hSw
        obtain ⟨k0, k1, k2⟩ := hSw
        first | (go_simp; done) | (go_simp; with_reducible rfl)
      simp only [List.set_cons_zero, List.set_cons_succ]
      refine take_at (i := 8) (n := 22) (v := ?_) rfl rfl (by kernel_rfl) (by kernel_rfl) (by kernel_rfl) (fun _ _ _ h => h) (Or.inl ⟨by rfl, ?_⟩) (by assumption) ?_
      rotate_left 1
      · intro wz hSw
        obtain ⟨k0, k1, k2⟩ := hSw
        first | (go_simp; done) | (go_simp; with_reducible rfl)
      simp only [List.set_cons_zero, List.set_cons_succ]
      refine take_at (i := 9) (n := 23) (v := ?_) rfl rfl (by kernel_rfl) (by kernel_rfl) (by kernel_rfl) (fun _ _ _ h => h) (Or.inl ⟨by rfl, ?_⟩) (by assumption) ?_
      rotate_left 1
      · intro wz hSw
        obtain ⟨k0, k1, k2⟩ := hSw
        first | (go_simp; done) | (go_simp; with_reducible rfl)
      simp only [List.set_cons_zero, List.set_cons_succ]
      refine take_at (i := 10) (n := 24) (v := ?_) rfl rfl (by kernel_rfl) (by kernel_rfl) (by kernel_rfl) (fun _ _ _ h => h) (Or.inl ⟨by rfl, ?_⟩) (by assumption) ?_
      rotate_left 1
      · intro wz hSw
        obtain ⟨k0, k1, k2⟩ := hSw
        first | (go_simp; done) | (go_simp; with_reducible rfl)
      simp only [List.set_cons_zero, List.set_cons_succ]
      refine take_at (i := 11) (n := 5) (v := ?_) rfl rfl (by kernel_rfl) (by kernel_rfl) (by kernel_rfl) (fun _ _ _ h => h) (Or.inl ⟨by rfl, ?_⟩) (by assumption) ?_
      rotate_left 1
      · intro wz hSw
        obtain ⟨k0, k1, k2⟩ := hSw
        first | (go_simp; done) | (go_simp; with_reducible rfl)
      simp only [List.set_cons_zero, List.set_cons_succ]
      refine wpAnyH_done (by kernel_rfl) ?_ _
      refine NoPanic.normal ?_
      clear hHeld
      go_wp2_with fail
      first
        | exact ⟨⟨j + 1, max e (xa + dd), by omega, by rw [show (if e < xa + dd then xa + dd else e) = max e (xa + dd) by split <;> omega], by simp, (below_seq HB.out (below_new _ _)).drew, by omega, by omega, HQ'.out⟩, by simp [intOf]; omega⟩
        | fail
    · have hje : j = cs.length := by omega
      subst hje
      have hq := HQ.out
      rw [List.drop_length, endF] at hq
      have HB : Hid (Below w.heap.size w wr) := hb
      have hz := EZ.out
      rw [← hq] at hz
      have HZ : Hid ((if 3000 < e ∨ 300 < cs.length then -1 else e) = z) := hz
      clear hq HQ hb hz EZ
      by_cases h3 : 3000 < e
      · go_wp2_with fail
        go_ret
        exact ⟨by rw [← HZ.out, if_pos (.inl h3)]; rfl, HB.out⟩
      · by_cases h4 : 300 < cs.length
        · have h4' : (300 : Int) < (cs.length : Int) := by omega
          go_wp2_with fail
          go_ret
          exact ⟨by rw [← HZ.out, if_pos (.inr h4)]; rfl, HB.out⟩
        · have h4' : ¬ (300 : Int) < (cs.length : Int) := by omega
          go_wp2_with fail
          go_ret
          exact ⟨by rw [← HZ.out, if_neg (by omega)]; rfl, HB.out⟩
end Go.Proofs.Ytekbkcgpjkecbal
