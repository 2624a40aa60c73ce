import Derived.Test.YtccoobcggbbciamSS4
import Derived.Test.YtccoobcggbbciamSS0
namespace Go.Proofs.Ytccoobcggbbciam.Stab
open Go.ChangeShapes Go.WideShapes Go.ChangeAt Go.RowKit
open Go.Sort (swp swp_get swp_size SWO SWO.asymmA PermIn permIn_refl permIn_trans permIn_mono permIn_all swp_permIn)

theorem sym_any {l : List Co} {v : Value} {bS g : Nat} {W0 : World} (hC : SC l v bS g W0) : ∀ (k : Nat) (W : World) (d : Array Nat) (a m b : Nat), b - a ≤ k → SD l g W0 W d → a < m → m < b → b ≤ d.size → d.size ≤ 4194304 → Asc (ltC l) id a m d → Asc (ltC l) id m b d → Cross id a m b d →
    Calls Try.prog 73 #[.slice (some ⟨g, 0, none⟩) d.size d.size, .int .i64 (a : Int), .int .i64 (m : Int), .int .i64 (b : Int), (.func (Fn.func 34) #[] #[.pointer (some ⟨bS, 0, none⟩)])] W fun r W' => r = .returned (.tuple #[]) ∧ ∃ d', SD l g W0 W' d' ∧ Asc (ltC l) id a b d' ∧ PermIn a b d d'
  | 0, W, d, a, m, b, hk, _, h1, h2, _, _, _, _, _ => by omega
  | k + 1, W, d, a, m, b, hk, hd, h1, h2, hb, hs, hA, hA2, hX => by
    by_cases c1 : m = a + 1
    · exact symA_any hC hd a m b c1 h2 hb hs hA2 hX
    by_cases c2 : b = m + 1
    · exact symB_any hC hd a m b (by omega) c2 hb hs hA hX
    refine symC_any hC hd a m b (by omega) (by omega) hb hs hA hA2 hX (fun W' d' a' m' b' q1 q2 q3 q4 q5 q6 q7 q8 q9 => ?_)
    have h9 := sym_any hC k W' d' a' m' b' (by omega) q2 q4 q5 q6 (by omega) q7 q8 q9
    rw [q3] at h9
    exact h9

set_option maxRecDepth 20000 in
set_option maxHeartbeats 4000000 in
theorem ins_any {l : List Co} {v : Value} {bS g : Nat} {W0 W : World} {d : Array Nat} (hC : SC l v bS g W0) (h : SD l g W0 W d) (a b : Nat) (hab : a ≤ b) (hb : b ≤ d.size) (hs : d.size ≤ 4194304) (hX : ∀ p q, a ≤ p → p < q → q < b → d[p]! < d[q]!) :
    Calls Try.prog 72 #[.slice (some ⟨g, 0, none⟩) d.size d.size, .int .i64 (a : Int), .int .i64 (b : Int), (.func (Fn.func 34) #[] #[.pointer (some ⟨bS, 0, none⟩)])] W fun r W' => r = .returned (.tuple #[]) ∧ ∃ d', SD l g W0 W' d' ∧ Asc (ltC l) id a b d' ∧ PermIn a b d d' := by
  have H0 : Hid (SD l g W0 W d) := h
  have HX0 : Hid ((∀ p q, a ≤ p → p < q → q < b → d[p]! < d[q]!) ∧ a ≤ b ∧ b ≤ d.size) := ⟨hX, hab, hb⟩
  obtain ⟨i0, hi0⟩ : ∃ i0, i0 = a + 1 := ⟨_, rfl⟩
  have x0 : (a : Int) + 1 = (i0 : Int) := by omega
  have x1 : IntKind.i64.wrap (i0 : Int) = (i0 : Int) := wrap_nat (by omega)
  have HI : Hid (i0 = a + 1) := hi0
  clear h hX hab hb hi0
  go_enter Try.func72, Try.ntmps72
  go_wp2_with fail
  clear x0 x1
  go_loopw [8] (fun iv wr => ∃ (i : Nat) (d1 : Array Nat), a + 1 ≤ i ∧ (i ≤ b ∨ (i = a + 1 ∧ d1 = d)) ∧ iv = .int .i64 (i : Int) ∧ SD l g W0 wr d1 ∧ Asc (ltC l) id a i d1 ∧ PermIn a i d d1) (fun iv _ => b - (intOf iv).toNat)
  case atStart => exact ⟨i0, d, by have := HI.out; omega, .inr ⟨HI.out, rfl⟩, rfl, H0.out, fun p q h1 h2 h3 => by have := HI.out; omega, permIn_refl _ _ _⟩
  case round =>
    obtain ⟨i, d1, hai, hib, rfl, hd, hA, hp⟩ := hrel
    generalize wr = wR at *
    have HD : Hid (SD l g W0 wR d1 ∧ Asc (ltC l) id a i d1 ∧ PermIn a i d d1 ∧ a + 1 ≤ i ∧ (i ≤ b ∨ (i = a + 1 ∧ d1 = d))) := ⟨hd, hA, hp, hai, hib⟩
    clear H0 hA hai hib
    have hz := hp.1
    by_cases hlt : i < b
    rotate_left 1
    · have hji : ¬ (i : Int) < (b : Int) := by omega
      clear hd hp hlt
      go_wp2_with fail
      go_end0
      obtain ⟨q1, q2, q3, q4, q5⟩ := HD.out
      have := HX0.out.2
      refine ⟨rfl, d1, q1, fun p q h1 h2 h3 => ?_, ?_⟩
      · rcases q5 with h | ⟨h, -⟩
        · exact q2 p q h1 h2 (by omega)
        · omega
      · by_cases c : i = b
        · rw [← c]; exact q3
        · rcases q5 with h | ⟨-, h⟩
          · omega
          · rw [h]; exact permIn_refl _ _ _
    · have hji : (i : Int) < (b : Int) := by omega
      have hbs := HX0.out
      have HIN : Hid (InsB (ltC l) id a i i d1 ∧ PermIn a (i + 1) d d1) := ⟨InsB.start HD.out.2.1 (fun p h1 h2 => by
        have e1 : d1[i]! = d[i]! := hp.2.1 i (.inr (Nat.le_refl _))
        rw [e1]
        exact permIn_all d d1 a i (fun x => id x < id d[i]!) (by omega) hp (fun q h3 h4 => hbs.1 q i h3 h4 hlt) p h1 h2), permIn_mono _ _ _ _ _ _ (Nat.le_refl _) (by omega) (by omega) hp⟩
      have HL : Hid (i < b ∧ a < i ∧ b ≤ d.size) := ⟨hlt, HD.out.2.2.2.1, hbs.2.2⟩
      obtain ⟨i1, hi1⟩ : ∃ i1, i1 = i + 1 := ⟨_, rfl⟩
      have z0 : (i : Int) + 1 = (i1 : Int) := by omega
      have z1 : IntKind.i64.wrap (i1 : Int) = (i1 : Int) := wrap_nat (by omega)
      have HI1 : Hid (i1 = i + 1) := hi1
      clear hd hp hlt hbs hz hi1
      go_wp2_with fail
      go_loopw [9] (fun jv wr => ∃ (j : Nat) (d2 : Array Nat), a ≤ j ∧ j ≤ i ∧ jv = .int .i64 (j : Int) ∧ SD l g W0 wr d2 ∧ InsB (ltC l) id a j i d2 ∧ PermIn a (i + 1) d d2) (fun jv _ => (intOf jv).toNat)
      case atStart => exact ⟨i, d1, by have := HL.out; omega, Nat.le_refl _, rfl, HD.out.1, HIN.out⟩
      case round =>
        obtain ⟨p, d2, hap, hpi, rfl, hd, hin, hp⟩ := hrel
        have hz := hp.1
        have HR : Hid (SD l g W0 wr d2 ∧ InsB (ltC l) id a p i d2 ∧ PermIn a (i + 1) d d2 ∧ a ≤ p ∧ p ≤ i) := ⟨hd, hin, hp, hap, hpi⟩
        have hl := HL.out
        by_cases hlt : a < p
        · obtain ⟨q, hqe⟩ : ∃ q, q = p - 1 := ⟨_, rfl⟩
          have hpq : p = q + 1 := by omega
          have his : p < d2.size := by omega
          have hjs : q < d2.size := by omega
          obtain ⟨c0, f0⟩ := hd.cell his
          obtain ⟨c1, f1⟩ := hd.cell hjs
          have HCm := SD.cmp hC hd.drew his hjs
          have hltc := cmp_lt l d2[p]! d2[q]!
          generalize cmpI (Ck l d2[p]!).a (Ck l d2[q]!).a = cz at HCm hltc
          obtain ⟨x, hx⟩ : ∃ x, d2[p]! = x := ⟨_, rfl⟩
          obtain ⟨y, hy⟩ : ∃ y, d2[q]! = y := ⟨_, rfl⟩
          rw [hx] at c0 HCm
          rw [hy] at c1 HCm
          have HX : Hid (d2[p]! = x ∧ d2[q]! = y ∧ p < d2.size ∧ q < d2.size) := ⟨hx, hy, his, hjs⟩
          have HLT : Hid (decide (cz < 0) = ltC l d2[p]! d2[q]!) := hltc
          have HP : Hid (p = q + 1 ∧ a < p) := ⟨hpq, hlt⟩
          have lg := hd.lt
          have e0 : (p : Int) - 1 = (q : Int) := by omega
          have e1 : (a : Int) < (p : Int) := by omega
          have e2 : (p : Int) < (d.size : Int) := by omega
          have e3 : (q : Int) < (d.size : Int) := by omega
          have e7 : IntKind.i64.wrap (p : Int) = (p : Int) := wrap_nat (by omega)
          have e8 : IntKind.i64.wrap (q : Int) = (q : Int) := wrap_nat (by omega)
          clear hd hin hp hap hpi hz hl hlt hqe hpq his hjs hltc hx hy
          go_wp2_with fail
          refine wp_region_noPanic ?_
          refine wp_region_held_drew (S := fun w' => w'.cell? ⟨g, p, none⟩ = some (.int .i64 (x : Nat)) ∧ w'.cell? ⟨g, q, none⟩ = some (.int .i64 (y : Nat))) (by kernel_rfl) ⟨c0, c1⟩ (fun hHeld => ?_)
          refine take_at (i := 0) (n := 18) (v := ?_) rfl rfl (by kernel_rfl) (by kernel_rfl) (by kernel_rfl) (fun _ _ _ h => h) (Or.inl ⟨by rfl, ?_⟩) (by assumption) ?_
          rotate_left 1
          · intro wz hSw
            obtain ⟨s0, s1⟩ := hSw
            first | (go_simp; done) | (go_simp; with_reducible rfl)
          simp only [List.set_cons_zero, List.set_cons_succ]
          refine take_at (i := 1) (n := 19) (v := ?_) rfl rfl (by kernel_rfl) (by kernel_rfl) (by kernel_rfl) (fun _ _ _ h => h) (Or.inl ⟨by rfl, ?_⟩) (by assumption) ?_
          rotate_left 1
          · intro wz hSw
            obtain ⟨s0, s1⟩ := hSw
            first | (go_simp; done) | (go_simp; with_reducible rfl)
          simp only [List.set_cons_zero, List.set_cons_succ]
          refine take_at (i := 2) (n := 20) (v := ?_) rfl rfl (by kernel_rfl) (by kernel_rfl) (by kernel_rfl) (fun _ _ _ h => h) (Or.inl ⟨by rfl, ?_⟩) (by assumption) ?_
          rotate_left 1
          · intro wz hSw
            obtain ⟨s0, s1⟩ := hSw
            first | (go_simp; done) | (go_simp; with_reducible rfl)
          simp only [List.set_cons_zero, List.set_cons_succ]
          refine take_at (i := 3) (n := 21) (v := ?_) rfl rfl (by kernel_rfl) (by kernel_rfl) (by kernel_rfl) (fun _ _ _ h => h) (Or.inl ⟨by rfl, ?_⟩) (by assumption) ?_
          rotate_left 1
          · intro wz hSw
            obtain ⟨s0, s1⟩ := hSw
            first | (go_simp; done) | (go_simp; with_reducible rfl)
          simp only [List.set_cons_zero, List.set_cons_succ]
          refine take_at (i := 4) (n := 22) (v := ?_) rfl rfl (by kernel_rfl) (by kernel_rfl) (by kernel_rfl) (fun _ _ _ h => h) (Or.inl ⟨by rfl, ?_⟩) (by assumption) ?_
          rotate_left 1
          · intro wz hSw
            obtain ⟨s0, s1⟩ := hSw
            first | (go_simp; done) | (go_simp; with_reducible rfl)
          simp only [List.set_cons_zero, List.set_cons_succ]
          refine take_at (i := 5) (n := 23) (v := ?_) rfl rfl (by kernel_rfl) (by kernel_rfl) (by kernel_rfl) (fun _ _ _ h => h) (Or.inl ⟨by rfl, ?_⟩) (by assumption) ?_
          rotate_left 1
          · intro wz hSw
            obtain ⟨s0, s1⟩ := hSw
            first | (go_simp; done) | (go_simp; with_reducible rfl)
          simp only [List.set_cons_zero, List.set_cons_succ]
          refine take_at (i := 6) (n := 24) (v := ?_) rfl rfl (by kernel_rfl) (by kernel_rfl) (by kernel_rfl) (fun _ _ _ h => h) (Or.inl ⟨by rfl, ?_⟩) (by assumption) ?_
          rotate_left 1
          · intro wz hSw
            obtain ⟨s0, s1⟩ := hSw
            first | (go_simp; done) | (go_simp; with_reducible rfl)
          simp only [List.set_cons_zero, List.set_cons_succ]
          refine take_at (i := 7) (n := 25) (v := ?_) rfl rfl (by kernel_rfl) (by kernel_rfl) (by kernel_rfl) (fun _ _ _ h => h) (Or.inl ⟨by rfl, ?_⟩) (by assumption) ?_
          rotate_left 1
          · intro wz hSw
            obtain ⟨s0, s1⟩ := hSw
            first | (go_simp; done) | (go_simp; with_reducible rfl)
          simp only [List.set_cons_zero, List.set_cons_succ]
          refine take_at (i := 8) (n := 26) (v := ?_) rfl rfl (by kernel_rfl) (by kernel_rfl) (by kernel_rfl) (fun _ _ _ h => h) (Or.inl ⟨by rfl, ?_⟩) (by assumption) ?_
          rotate_left 1
          · intro wz hSw
            obtain ⟨s0, s1⟩ := hSw
            first | (go_simp; done) | (go_simp; with_reducible rfl)
          simp only [List.set_cons_zero, List.set_cons_succ]
          refine take_at (i := 9) (n := 27) (v := ?_) rfl rfl (by kernel_rfl) (by kernel_rfl) (by kernel_rfl) (fun _ _ _ h => h) (Or.inl ⟨by rfl, ?_⟩) (by assumption) ?_
          rotate_left 1
          · intro wz hSw
            obtain ⟨s0, s1⟩ := hSw
            first | (go_simp; done) | (go_simp; with_reducible rfl)
          simp only [List.set_cons_zero, List.set_cons_succ]
          refine take_at (i := 10) (n := 28) (v := ?_) rfl rfl (by kernel_rfl) (by kernel_rfl) (by kernel_rfl) (fun _ _ _ h => h) (Or.inl ⟨by rfl, ?_⟩) (by assumption) ?_
          rotate_left 1
          · intro wz hSw
            obtain ⟨s0, s1⟩ := hSw
            first | (go_simp; done) | (go_simp; with_reducible rfl)
          simp only [List.set_cons_zero, List.set_cons_succ]
          refine take_at (i := 11) (n := 29) (v := ?_) rfl rfl (by kernel_rfl) (by kernel_rfl) (by kernel_rfl) (fun _ _ _ h => h) (Or.inl ⟨by rfl, ?_⟩) (by assumption) ?_
          rotate_left 1
          · intro wz hSw
            obtain ⟨s0, s1⟩ := hSw
            first | (go_simp; done) | (go_simp; with_reducible rfl)
          simp only [List.set_cons_zero, List.set_cons_succ]
          refine take_at (i := 12) (n := 30) (v := ?_) rfl rfl (by kernel_rfl) (by kernel_rfl) (by kernel_rfl) (fun _ _ _ h => h) (Or.inl ⟨by rfl, ?_⟩) (by assumption) ?_
          rotate_left 1
          · intro wz hSw
            obtain ⟨s0, s1⟩ := hSw
            first | (go_simp; done) | (go_simp; with_reducible rfl)
          simp only [List.set_cons_zero, List.set_cons_succ]
          refine take_at (i := 13) (n := 31) (v := ?_) rfl rfl (by kernel_rfl) (by kernel_rfl) (by kernel_rfl) (fun _ _ _ h => h) (Or.inl ⟨by rfl, ?_⟩) (by assumption) ?_
          rotate_left 1
          · intro wz hSw
            obtain ⟨s0, s1⟩ := hSw
            first | (go_simp; done) | (go_simp; with_reducible rfl)
          simp only [List.set_cons_zero, List.set_cons_succ]
          refine wpAnyH_ready (rs := [14]) (by kernel_rfl) (by simp) ?_
          refine AllReadyH.cons rfl (fun K hK => ?_) AllReadyH.nil
          go_simp
          go_wp2_with (go_at_call 34; refine HCm.mono ?_; rintro r w5 ⟨rfl, h5⟩; have H5 : Hid (SD l g W0 w5 d2) := h5; clear h5 HCm)
          have c50 : w5.cell? ⟨g, p, none⟩ = some (.int .i64 (x : Nat)) := by have h9 := (H5.out.cell HX.out.2.2.1).1; rw [HX.out.1] at h9; exact h9
          have c51 : w5.cell? ⟨g, q, none⟩ = some (.int .i64 (y : Nat)) := by have h9 := (H5.out.cell HX.out.2.2.2).1; rw [HX.out.2.1] at h9; exact h9
          refine hK.out _ _ ⟨c50, c51⟩ (fun hHeld => ?_)
          clear hK K
          try simp only [List.set_cons_zero, List.set_cons_succ]
          refine take_at (i := 15) (n := 33) (v := ?_) rfl rfl (by kernel_rfl) (by kernel_rfl) (by kernel_rfl) (fun _ _ _ h => h) (Or.inl ⟨by rfl, ?_⟩) (by assumption) ?_
          rotate_left 1
          · intro wz hSw
            obtain ⟨s0, s1⟩ := hSw
            first | (go_simp; done) | (go_simp; with_reducible rfl)
          simp only [List.set_cons_zero, List.set_cons_succ]
          refine take_at (i := 16) (n := 34) (v := ?_) rfl rfl (by kernel_rfl) (by kernel_rfl) (by kernel_rfl) (fun _ _ _ h => h) (Or.inl ⟨by rfl, ?_⟩) (by assumption) ?_
          rotate_left 1
          · intro wz hSw
            obtain ⟨s0, s1⟩ := hSw
            first | (go_simp; done) | (go_simp; with_reducible rfl)
          simp only [List.set_cons_zero, List.set_cons_succ]
          refine wpAnyH_done (by kernel_rfl) ?_ _
          refine NoPanic.normal ?_
          clear hHeld
          cases hzb : decide (cz < 0) with
          | true =>
            obtain ⟨p5, hp5⟩ : ∃ p5 : Unit, p5 = () := ⟨_, rfl⟩
            have f50 := (H5.out.cell HX.out.2.2.1).2
            have f51 := (H5.out.cell HX.out.2.2.2).2
            have lg5 := H5.out.lt
            have HN : Hid (SD l g W0 ((w5.setCell ⟨g, p, none⟩ (.int .i64 (y : Nat))).setCell ⟨g, q, none⟩ (.int .i64 (x : Nat))).drew (swp d2 p q) ∧ InsB (ltC l) id a q i (swp d2 p q) ∧ PermIn a (i + 1) d (swp d2 p q)) := by
              have h1 := (H5.out.swap HX.out.2.2.1 HX.out.2.2.2).drew
              have h2 := HR.out.2.1
              have hsz := HR.out.2.2.1.1
              have h3 := HL.out
              have h4 := HP.out
              have h5 := HR.out.2.2.2
              rw [HX.out.1, HX.out.2.1] at h1
              refine ⟨h1, ?_, permIn_trans _ _ _ _ _ HR.out.2.2.1 (swp_permIn _ _ _ _ _ (by omega) (by omega) (by omega) (by omega) (by omega))⟩
              rw [h4.1]
              rw [h4.1] at h2
              refine h2.step ?_ (by omega) (by omega) (by omega)
              have h6 := HLT.out
              rw [hzb, h4.1] at h6
              exact h6.symm
            clear c0 c1 f0 f1 lg
            clear hHeld
            go_wp2_with fail
            refine wp_region_noPanic ?_
            refine wp_region_held_drew (S := fun w' => (∃ u, w'.cell? ⟨g, p, none⟩ = some u) ∧ (∃ u, w'.cell? ⟨g, q, none⟩ = some u) ∧ w'.frozen? ⟨g, p, none⟩ = false ∧ w'.frozen? ⟨g, q, none⟩ = false) (by kernel_rfl) ⟨⟨_, c50⟩, ⟨_, c51⟩, f50, f51⟩ (fun hHeld => ?_)
            refine take_at (i := 0) (n := 37) (v := ?_) rfl rfl (by kernel_rfl) (by kernel_rfl) (by kernel_rfl) (fun _ _ _ h => h) (Or.inl ⟨by rfl, ?_⟩) (by assumption) ?_
            rotate_left 1
            · intro wz hSw
              obtain ⟨-, -, -, -⟩ := hSw
              first | (go_simp; done) | (go_simp; with_reducible rfl)
            simp only [List.set_cons_zero, List.set_cons_succ]
            refine take_at (i := 1) (n := 38) (v := ?_) rfl rfl (by kernel_rfl) (by kernel_rfl) (by kernel_rfl) (fun _ _ _ h => h) (Or.inl ⟨by rfl, ?_⟩) (by assumption) ?_
            rotate_left 1
            · intro wz hSw
              obtain ⟨-, -, -, -⟩ := hSw
              first | (go_simp; done) | (go_simp; with_reducible rfl)
            simp only [List.set_cons_zero, List.set_cons_succ]
            refine take_at (i := 2) (n := 39) (v := ?_) rfl rfl (by kernel_rfl) (by kernel_rfl) (by kernel_rfl) (fun _ _ _ h => h) (Or.inl ⟨by rfl, ?_⟩) (by assumption) ?_
            rotate_left 1
            · intro wz hSw
              obtain ⟨-, -, -, -⟩ := hSw
              first | (go_simp; done) | (go_simp; with_reducible rfl)
            simp only [List.set_cons_zero, List.set_cons_succ]
            refine take_at (i := 3) (n := 40) (v := ?_) rfl rfl (by kernel_rfl) (by kernel_rfl) (by kernel_rfl) (fun _ _ _ h => h) (Or.inl ⟨by rfl, ?_⟩) (by assumption) ?_
            rotate_left 1
            · intro wz hSw
              obtain ⟨-, -, -, -⟩ := hSw
              first | (go_simp; done) | (go_simp; with_reducible rfl)
            simp only [List.set_cons_zero, List.set_cons_succ]
            refine take_at (i := 4) (n := 41) (v := ?_) rfl rfl (by kernel_rfl) (by kernel_rfl) (by kernel_rfl) (fun _ _ _ h => h) (Or.inl ⟨by rfl, ?_⟩) (by assumption) ?_
            rotate_left 1
            · intro wz hSw
              obtain ⟨-, -, -, -⟩ := hSw
              first | (go_simp; done) | (go_simp; with_reducible rfl)
            simp only [List.set_cons_zero, List.set_cons_succ]
            refine take_at (i := 5) (n := 42) (v := ?_) rfl rfl (by kernel_rfl) (by kernel_rfl) (by kernel_rfl) (fun _ _ _ h => h) (Or.inl ⟨by rfl, ?_⟩) (by assumption) ?_
            rotate_left 1
            · intro wz hSw
              obtain ⟨-, -, -, -⟩ := hSw
              first | (go_simp; done) | (go_simp; with_reducible rfl)
            simp only [List.set_cons_zero, List.set_cons_succ]
            refine take_at (i := 6) (n := 43) (v := ?_) rfl rfl (by kernel_rfl) (by kernel_rfl) (by kernel_rfl) (fun _ _ _ h => h) (Or.inl ⟨by rfl, ?_⟩) (by assumption) ?_
            rotate_left 1
            · intro wz hSw
              obtain ⟨-, -, -, -⟩ := hSw
              first | (go_simp; done) | (go_simp; with_reducible rfl)
            simp only [List.set_cons_zero, List.set_cons_succ]
            refine take_at (i := 7) (n := 44) (v := ?_) rfl rfl (by kernel_rfl) (by kernel_rfl) (by kernel_rfl) (fun _ _ _ h => h) (Or.inl ⟨by rfl, ?_⟩) (by assumption) ?_
            rotate_left 1
            · intro wz hSw
              obtain ⟨-, -, -, -⟩ := hSw
              first | (go_simp; done) | (go_simp; with_reducible rfl)
            simp only [List.set_cons_zero, List.set_cons_succ]
            refine take_at (i := 8) (n := 45) (v := ?_) rfl rfl (by kernel_rfl) (by kernel_rfl) (by kernel_rfl) (fun _ _ _ h => h) (Or.inl ⟨by rfl, ?_⟩) (by assumption) ?_
            rotate_left 1
            · intro wz hSw
              obtain ⟨-, -, -, -⟩ := hSw
              first | (go_simp; done) | (go_simp; with_reducible rfl)
            simp only [List.set_cons_zero, List.set_cons_succ]
            refine take_at (i := 10) (n := 47) (v := ?_) rfl rfl (by kernel_rfl) (by kernel_rfl) (by kernel_rfl) (fun _ _ _ h => h) (Or.inl ⟨by rfl, ?_⟩) (by assumption) ?_
            rotate_left 1
            · intro wz hSw
              obtain ⟨-, -, -, -⟩ := hSw
              first | (go_simp; done) | (go_simp; with_reducible rfl)
            simp only [List.set_cons_zero, List.set_cons_succ]
            refine take_at (i := 11) (n := 48) (v := ?_) rfl rfl (by kernel_rfl) (by kernel_rfl) (by kernel_rfl) (fun _ _ _ h => h) (Or.inl ⟨by rfl, ?_⟩) (by assumption) ?_
            rotate_left 1
            · intro wz hSw
              obtain ⟨-, -, -, -⟩ := hSw
              first | (go_simp; done) | (go_simp; with_reducible rfl)
            simp only [List.set_cons_zero, List.set_cons_succ]
            refine take_at (i := 12) (n := 49) (v := ?_) rfl rfl (by kernel_rfl) (by kernel_rfl) (by kernel_rfl) (fun _ _ _ h => h) (Or.inl ⟨by rfl, ?_⟩) (by assumption) ?_
            rotate_left 1
            · intro wz hSw
              obtain ⟨-, -, -, -⟩ := hSw
              first | (go_simp; done) | (go_simp; with_reducible rfl)
            simp only [List.set_cons_zero, List.set_cons_succ]
            refine wpAnyH_ready (rs := [9, 13]) (by kernel_rfl) (by simp) ?_
            refine AllReadyH.cons rfl (fun K hK => ?_) (AllReadyH.cons rfl (fun K hK => ?_) AllReadyH.nil)
            · go_simp
              refine hK.out _ _ ⟨⟨_, c50⟩, ⟨_, c51⟩, f50, f51⟩ (fun hHeld => ?_)
              clear hK K
              try simp only [List.set_cons_zero, List.set_cons_succ]
              refine wpAnyH_ready (rs := [13]) (by kernel_rfl) (by simp) ?_
              refine AllReadyH.cons rfl (fun K hK => ?_) AllReadyH.nil
              go_simp
              refine hK.out _ _ ⟨⟨_, c50⟩, ⟨_, c51⟩, f50, f51⟩ (fun hHeld => ?_)
              clear hK K
              try simp only [List.set_cons_zero, List.set_cons_succ]
              refine take_at (i := 14) (n := 51) (v := ?_) rfl rfl (by kernel_rfl) (by kernel_rfl) (by kernel_rfl) (fun _ _ _ h => h) (Or.inl ⟨by rfl, ?_⟩) (by assumption) ?_
              rotate_left 1
              · intro wz hSw
                obtain ⟨-, -, -, -⟩ := hSw
                first | (go_simp; done) | (go_simp; with_reducible rfl)
              simp only [List.set_cons_zero, List.set_cons_succ]
              refine wpAnyH_ready (rs := [15]) (by kernel_rfl) (by simp) ?_
              refine AllReadyH.cons rfl (fun K hK => ?_) AllReadyH.nil
              go_simp
              refine hK.out _ _ ⟨by go_simp, by go_simp, by go_simp, by go_simp⟩ (fun hHeld => ?_)
              clear hK K
              try simp only [List.set_cons_zero, List.set_cons_succ]
              refine take_at (i := 16) (n := 52) (v := ?_) rfl rfl (by kernel_rfl) (by kernel_rfl) (by kernel_rfl) (fun _ _ _ h => h) (Or.inl ⟨by rfl, ?_⟩) (by assumption) ?_
              rotate_left 1
              · intro wz hSw
                obtain ⟨-, -, -, -⟩ := hSw
                first | (go_simp; done) | (go_simp; with_reducible rfl)
              simp only [List.set_cons_zero, List.set_cons_succ]
              refine wpAnyH_ready (rs := [17]) (by kernel_rfl) (by simp) ?_
              refine AllReadyH.cons rfl (fun K hK => ?_) AllReadyH.nil
              go_simp
              refine hK.out _ _ ⟨by go_simp, by go_simp, by go_simp, by go_simp⟩ (fun hHeld => ?_)
              clear hK K
              try simp only [List.set_cons_zero, List.set_cons_succ]
              refine wpAnyH_done (by kernel_rfl) ?_ _
              refine NoPanic.normal ?_
              clear hHeld
              go_wp2_with fail
              have h4 := HP.out
              exact ⟨⟨q, _, by omega, by have := HR.out; omega, rfl, HN.out⟩, by simp [intOf]; omega⟩
            · go_simp
              refine hK.out _ _ ⟨⟨_, c50⟩, ⟨_, c51⟩, f50, f51⟩ (fun hHeld => ?_)
              clear hK K
              try simp only [List.set_cons_zero, List.set_cons_succ]
              refine wpAnyH_ready (rs := [9]) (by kernel_rfl) (by simp) ?_
              refine AllReadyH.cons rfl (fun K hK => ?_) AllReadyH.nil
              go_simp
              refine hK.out _ _ ⟨⟨_, c50⟩, ⟨_, c51⟩, f50, f51⟩ (fun hHeld => ?_)
              clear hK K
              try simp only [List.set_cons_zero, List.set_cons_succ]
              refine take_at (i := 14) (n := 51) (v := ?_) rfl rfl (by kernel_rfl) (by kernel_rfl) (by kernel_rfl) (fun _ _ _ h => h) (Or.inl ⟨by rfl, ?_⟩) (by assumption) ?_
              rotate_left 1
              · intro wz hSw
                obtain ⟨-, -, -, -⟩ := hSw
                first | (go_simp; done) | (go_simp; with_reducible rfl)
              simp only [List.set_cons_zero, List.set_cons_succ]
              refine wpAnyH_ready (rs := [15]) (by kernel_rfl) (by simp) ?_
              refine AllReadyH.cons rfl (fun K hK => ?_) AllReadyH.nil
              go_simp
              refine hK.out _ _ ⟨by go_simp, by go_simp, by go_simp, by go_simp⟩ (fun hHeld => ?_)
              clear hK K
              try simp only [List.set_cons_zero, List.set_cons_succ]
              refine take_at (i := 16) (n := 52) (v := ?_) rfl rfl (by kernel_rfl) (by kernel_rfl) (by kernel_rfl) (fun _ _ _ h => h) (Or.inl ⟨by rfl, ?_⟩) (by assumption) ?_
              rotate_left 1
              · intro wz hSw
                obtain ⟨-, -, -, -⟩ := hSw
                first | (go_simp; done) | (go_simp; with_reducible rfl)
              simp only [List.set_cons_zero, List.set_cons_succ]
              refine wpAnyH_ready (rs := [17]) (by kernel_rfl) (by simp) ?_
              refine AllReadyH.cons rfl (fun K hK => ?_) AllReadyH.nil
              go_simp
              refine hK.out _ _ ⟨by go_simp, by go_simp, by go_simp, by go_simp⟩ (fun hHeld => ?_)
              clear hK K
              try simp only [List.set_cons_zero, List.set_cons_succ]
              refine wpAnyH_done (by kernel_rfl) ?_ _
              refine NoPanic.normal ?_
              clear hHeld
              go_wp2_with fail
              have h4 := HP.out
              exact ⟨⟨q, _, by omega, by have := HR.out; omega, rfl, HN.out⟩, by simp [intOf]; omega⟩
          | false =>
            go_wp2_with fail
            obtain ⟨q1, q2, q3, q4, q5⟩ := HR.out
            have h4 := HP.out
            have h5 := HL.out
            have h6 := HI1.out
            refine ⟨⟨i1, d2, by omega, .inl (by omega), by simp, H5.out, ?_, by rw [h6]; exact q3⟩, by simp [intOf]; omega⟩
            rw [h6]
            refine q2.stop (ltC_swo l) (.inr ?_) q5
            rw [show p - 1 = q by omega, ← HLT.out]
            exact hzb
        · have hpa : p = a := by omega
          subst hpa
          have e1 : ¬ (p : Int) < (p : Int) := by omega
          clear hd hin hp hap hpi hz hl hlt
          go_wp2_with fail
          refine wp_region_noPanic ?_
          refine wp_region_held_drew (S := fun w' => True) (by kernel_rfl) trivial (fun hHeld => ?_)
          refine take_at (i := 0) (n := 18) (v := ?_) rfl rfl (by kernel_rfl) (by kernel_rfl) (by kernel_rfl) (fun _ _ _ h => h) (Or.inl ⟨by rfl, ?_⟩) (by assumption) ?_
          rotate_left 1
          · intro wz hSw
            clear hSw
            first | (go_simp; done) | (go_simp; with_reducible rfl)
          simp only [List.set_cons_zero, List.set_cons_succ]
          refine take_at (i := 1) (n := 19) (v := ?_) rfl rfl (by kernel_rfl) (by kernel_rfl) (by kernel_rfl) (fun _ _ _ h => h) (Or.inl ⟨by rfl, ?_⟩) (by assumption) ?_
          rotate_left 1
          · intro wz hSw
            clear hSw
            first | (go_simp; done) | (go_simp; with_reducible rfl)
          simp only [List.set_cons_zero, List.set_cons_succ]
          refine take_at (i := 2) (n := 20) (v := ?_) rfl rfl (by kernel_rfl) (by kernel_rfl) (by kernel_rfl) (fun _ _ _ h => h) (Or.inl ⟨by rfl, ?_⟩) (by assumption) ?_
          rotate_left 1
          · intro wz hSw
            clear hSw
            first | (go_simp; done) | (go_simp; with_reducible rfl)
          simp only [List.set_cons_zero, List.set_cons_succ]
          refine take_at (i := 3) (n := 21) (v := ?_) rfl rfl (by kernel_rfl) (by kernel_rfl) (by kernel_rfl) (fun _ _ _ h => h) (Or.inl ⟨by rfl, ?_⟩) (by assumption) ?_
          rotate_left 1
          · intro wz hSw
            clear hSw
            first | (go_simp; done) | (go_simp; with_reducible rfl)
          simp only [List.set_cons_zero, List.set_cons_succ]
          refine take_at (i := 4) (n := 22) (v := undef) rfl rfl (by kernel_rfl) (by kernel_rfl) (by kernel_rfl) (fun _ _ _ h => h) (Or.inr ⟨by rfl, rfl⟩) (by assumption) ?_
          simp only [List.set_cons_zero, List.set_cons_succ]
          refine take_at (i := 5) (n := 23) (v := undef) rfl rfl (by kernel_rfl) (by kernel_rfl) (by kernel_rfl) (fun _ _ _ h => h) (Or.inr ⟨by rfl, rfl⟩) (by assumption) ?_
          simp only [List.set_cons_zero, List.set_cons_succ]
          refine take_at (i := 6) (n := 24) (v := undef) rfl rfl (by kernel_rfl) (by kernel_rfl) (by kernel_rfl) (fun _ _ _ h => h) (Or.inr ⟨by rfl, rfl⟩) (by assumption) ?_
          simp only [List.set_cons_zero, List.set_cons_succ]
          refine take_at (i := 7) (n := 25) (v := undef) rfl rfl (by kernel_rfl) (by kernel_rfl) (by kernel_rfl) (fun _ _ _ h => h) (Or.inr ⟨by rfl, rfl⟩) (by assumption) ?_
          simp only [List.set_cons_zero, List.set_cons_succ]
          refine take_at (i := 8) (n := 26) (v := undef) rfl rfl (by kernel_rfl) (by kernel_rfl) (by kernel_rfl) (fun _ _ _ h => h) (Or.inr ⟨by rfl, rfl⟩) (by assumption) ?_
          simp only [List.set_cons_zero, List.set_cons_succ]
          refine take_at (i := 9) (n := 27) (v := undef) rfl rfl (by kernel_rfl) (by kernel_rfl) (by kernel_rfl) (fun _ _ _ h => h) (Or.inr ⟨by rfl, rfl⟩) (by assumption) ?_
          simp only [List.set_cons_zero, List.set_cons_succ]
          refine take_at (i := 10) (n := 28) (v := undef) rfl rfl (by kernel_rfl) (by kernel_rfl) (by kernel_rfl) (fun _ _ _ h => h) (Or.inr ⟨by rfl, rfl⟩) (by assumption) ?_
          simp only [List.set_cons_zero, List.set_cons_succ]
          refine take_at (i := 11) (n := 29) (v := undef) rfl rfl (by kernel_rfl) (by kernel_rfl) (by kernel_rfl) (fun _ _ _ h => h) (Or.inr ⟨by rfl, rfl⟩) (by assumption) ?_
          simp only [List.set_cons_zero, List.set_cons_succ]
          refine take_at (i := 12) (n := 30) (v := undef) rfl rfl (by kernel_rfl) (by kernel_rfl) (by kernel_rfl) (fun _ _ _ h => h) (Or.inr ⟨by rfl, rfl⟩) (by assumption) ?_
          simp only [List.set_cons_zero, List.set_cons_succ]
          refine take_at (i := 13) (n := 31) (v := undef) rfl rfl (by kernel_rfl) (by kernel_rfl) (by kernel_rfl) (fun _ _ _ h => h) (Or.inr ⟨by rfl, rfl⟩) (by assumption) ?_
          simp only [List.set_cons_zero, List.set_cons_succ]
          refine take_at (i := 14) (n := 32) (v := undef) rfl rfl (by kernel_rfl) (by kernel_rfl) (by kernel_rfl) (fun _ _ _ h => h) (Or.inr ⟨by rfl, rfl⟩) (by assumption) ?_
          simp only [List.set_cons_zero, List.set_cons_succ]
          refine take_at (i := 15) (n := 33) (v := undef) rfl rfl (by kernel_rfl) (by kernel_rfl) (by kernel_rfl) (fun _ _ _ h => h) (Or.inr ⟨by rfl, rfl⟩) (by assumption) ?_
          simp only [List.set_cons_zero, List.set_cons_succ]
          refine take_at (i := 16) (n := 34) (v := ?_) rfl rfl (by kernel_rfl) (by kernel_rfl) (by kernel_rfl) (fun _ _ _ h => h) (Or.inl ⟨by rfl, ?_⟩) (by assumption) ?_
          rotate_left 1
          · intro wz hSw
            clear hSw
            first | (go_simp; done) | (go_simp; with_reducible rfl)
          simp only [List.set_cons_zero, List.set_cons_succ]
          refine wpAnyH_done (by kernel_rfl) ?_ _
          refine NoPanic.normal ?_
          clear hHeld
          go_wp2_with fail
          obtain ⟨q1, q2, q3, q4, q5⟩ := HR.out
          have h5 := HL.out
          have h6 := HI1.out
          refine ⟨⟨i1, d2, by omega, .inl (by omega), by simp, q1.drew, ?_, by rw [h6]; exact q3⟩, by simp [intOf]; omega⟩
          rw [h6]
          exact q2.stop (ltC_swo l) (.inl (Nat.le_refl _)) q5
end Go.Proofs.Ytccoobcggbbciam.Stab
namespace Go.Proofs.Ytccoobcggbbciam.Stab
open Go.Sort (swp swp_get swp_size SWO SWO.asymmA PermIn permIn_refl permIn_trans permIn_mono permIn_all swp_permIn)

/- Blocks. -/
theorem blk_mul {bs a : Nat} (ha : a % bs = 0) : a / bs * bs = a := by
  have := Nat.div_add_mod a bs
  rw [ha, Nat.add_zero, Nat.mul_comm] at this
  exact this
theorem blk_lt {bs a p : Nat} (h0 : 0 < bs) (ha : a % bs = 0) (hp : p < a) : p / bs < a / bs := by
  rw [Nat.div_lt_iff_lt_mul h0, blk_mul ha]
  exact hp
theorem blk_eq {bs a p : Nat} (h0 : 0 < bs) (ha : a % bs = 0) (h1 : a ≤ p) (h2 : p < a + bs) : p / bs = a / bs := by
  have h3 : a / bs ≤ p / bs := Nat.div_le_div_right h1
  have h4 : p / bs < a / bs + 1 := by
    rw [Nat.div_lt_iff_lt_mul h0, Nat.add_mul, blk_mul ha, Nat.one_mul]
    exact h2
  omega
theorem blk_next {bs a : Nat} (ha : a % bs = 0) : (a + bs) % bs = 0 := by rw [Nat.add_mod_right]; exact ha
theorem blk_half {bs a : Nat} (ha : a % (2 * bs) = 0) : a % bs = 0 := Nat.mod_eq_zero_of_dvd (Nat.dvd_trans (Nat.dvd_mul_left bs 2) (Nat.dvd_of_mod_eq_zero ha))

def SBk (lt : Nat → Nat → Bool) (bs n : Nat) (d : Array Nat) : Prop := ∀ p q, p < q → q < n → p / bs = q / bs → Bef lt id d[p]! d[q]!
def Bk (bs n : Nat) (d : Array Nat) : Prop := ∀ p, p < n → d[p]! / bs = p / bs
theorem grow_sorted {lt : Nat → Nat → Bool} {bs a b : Nat} {d1 d2 : Array Nat} (h0 : 0 < bs) (ha : a % bs = 0) (h1 : SBk lt bs a d1) (hP : PermIn a b d1 d2) (hA : Asc lt id a b d2) : SBk lt bs b d2 := by
  intro p q h2 h3 h4
  by_cases c : q < a
  · rw [hP.2.1 p (.inl (by omega)), hP.2.1 q (.inl c)]
    exact h1 p q h2 c h4
  · by_cases c2 : p < a
    · have h5 := blk_lt h0 ha c2
      have h6 : a / bs ≤ q / bs := Nat.div_le_div_right (by omega)
      omega
    · exact hA p q (by omega) h2 h3
theorem bk_perm {bs a b n : Nat} {d1 d2 : Array Nat} (h : Bk bs n d1) (hP : PermIn a b d1 d2) (hb : b ≤ n) (hn : n ≤ d1.size) (hblk : ∀ p, a ≤ p → p < b → p / bs = a / bs) : Bk bs n d2 := by
  intro p hp
  by_cases c : a ≤ p ∧ p < b
  · rw [hblk p c.1 c.2]
    exact permIn_all d1 d2 a b (fun x => x / bs = a / bs) (by omega) hP (fun i h1 h2 => by rw [h i (by omega)]; exact hblk i h1 h2) p c.1 c.2
  · rw [hP.2.1 p (by omega)]
    exact h p hp
theorem bk_cross {bs a m b n : Nat} {d : Array Nat} (h0 : 0 < bs) (h : Bk bs n d) (hm : m % bs = 0) (hb : b ≤ n) : Cross id a m b d := by
  intro p q h1 h2 h3 h4
  have h5 := h p (by omega)
  have h6 := h q (by omega)
  have h7 := blk_lt h0 hm h2
  have h8 : m / bs ≤ q / bs := Nat.div_le_div_right h3
  show d[p]! < d[q]!
  by_cases c : d[p]! < d[q]!
  · exact c
  · have h9 : d[q]! / bs ≤ d[p]! / bs := Nat.div_le_div_right (by omega)
    omega
theorem bk_double {bs n : Nat} {d : Array Nat} (h : Bk bs n d) : Bk (2 * bs) n d := by
  intro p hp
  rw [Nat.mul_comm 2 bs, ← Nat.div_div_eq_div_mul, ← Nat.div_div_eq_div_mul, h p hp]
theorem sbk_asc {lt : Nat → Nat → Bool} {bs n a b : Nat} {d : Array Nat} (h0 : 0 < bs) (h : SBk lt bs n d) (ha : a % bs = 0) (h1 : b ≤ a + bs) (h2 : b ≤ n) : Asc lt id a b d := fun p q h3 h4 h5 => h p q h4 (by omega) ((blk_eq h0 ha h3 (by omega)).trans (blk_eq h0 ha (by omega) (by omega)).symm)

end Go.Proofs.Ytccoobcggbbciam.Stab
