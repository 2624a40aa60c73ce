import Derived.Test.YtccoobcggbbciamSS3
import Derived.Deep.CutRange
import Derived.Deep.CutBlock
namespace Go.Proofs.Ytccoobcggbbciam.Stab
open Go.ChangeShapes Go.WideShapes Go.ChangeAt Go.RowKit
open Go.Sort (swp swp_get swp_size SWO SWO.asymmA PermIn permIn_refl permIn_trans permIn_mono permIn_all swp_permIn)

theorem from_K {P : Program} {c : Code} {q : Exit → Act → World → Prop} {K : Act → World → Prop} (h : ∀ a w, Code.wp P c q a w → K a w) (a : Act) (w : World) (g : Code.wp P c q a w) : K a w := h a w g

set_option maxRecDepth 20000 in
set_option maxHeartbeats 8000000 in
theorem symC_any {l : List Co} {v : Value} {bS g : Nat} {W0 W : World} {d : Array Nat} (hC : SC l v bS g W0) (h : SD l g W0 W d) (a m b : Nat) (ham : a + 1 < m) (hmb : m + 1 < b) (hb : b ≤ d.size) (hs : d.size ≤ 4194304) (hA : Asc (ltC l) id a m d) (hA2 : Asc (ltC l) id m b d) (hX : Cross id a m b d)
    (hrec : ∀ (W' : World) (d' : Array Nat) (a' m' b' : Nat), b' - a' < b - a → SD l g W0 W' d' → d'.size = d.size → a' < m' → m' < b' → b' ≤ d'.size → Asc (ltC l) id a' m' d' → Asc (ltC l) id m' b' d' → Cross id a' m' b' d' → Calls Try.prog 73 #[.slice (some ⟨g, 0, none⟩) d.size d.size, .int .i64 (a' : Int), .int .i64 (m' : Int), .int .i64 (b' : Int), (.func (Fn.func 34) #[] #[.pointer (some ⟨bS, 0, none⟩)])] W' fun r W2 => r = .returned (.tuple #[]) ∧ ∃ d2, SD l g W0 W2 d2 ∧ Asc (ltC l) id a' b' d2 ∧ PermIn a' b' d' d2) :
    Calls Try.prog 73 #[.slice (some ⟨g, 0, none⟩) d.size d.size, .int .i64 (a : Int), .int .i64 (m : Int), .int .i64 (b : Int), (.func (Fn.func 34) #[] #[.pointer (some ⟨bS, 0, none⟩)])] W fun r W' => r = .returned (.tuple #[]) ∧ ∃ d', SD l g W0 W' d' ∧ Asc (ltC l) id a b d' ∧ PermIn a b d d' := by
  have H0 : Hid (SD l g W0 W d) := h
  have HA : Hid (Asc (ltC l) id a m d ∧ Asc (ltC l) id m b d ∧ Cross id a m b d) := ⟨hA, hA2, hX⟩
  obtain ⟨k0, hk0⟩ : ∃ k0, k0 = m - a := ⟨_, rfl⟩
  obtain ⟨k1, hk1⟩ : ∃ k1, k1 = b - m := ⟨_, rfl⟩
  obtain ⟨sab, hsab⟩ : ∃ sab, sab = a + b := ⟨_, rfl⟩
  obtain ⟨mid, hmid⟩ : ∃ mid, mid = (a + b) / 2 := ⟨_, rfl⟩
  obtain ⟨n, hn⟩ : ∃ n, n = mid + m := ⟨_, rfl⟩
  obtain ⟨p, hp⟩ : ∃ p, p = n - 1 := ⟨_, rfl⟩
  obtain ⟨s0, r0, hsp⟩ : ∃ s0 r0 : Nat, if mid < m then s0 + b = n ∧ r0 = mid else s0 = a ∧ r0 = m := by
    by_cases q : mid < m
    · exact ⟨n - b, mid, by rw [if_pos q]; exact ⟨by omega, rfl⟩⟩
    · exact ⟨a, m, by rw [if_neg q]; exact ⟨rfl, rfl⟩⟩
  have HB : Hid (a + 1 < m ∧ m + 1 < b ∧ b ≤ d.size ∧ mid = (a + b) / 2 ∧ n = mid + m ∧ p = n - 1 ∧ if mid < m then s0 + b = n ∧ r0 = mid else s0 = a ∧ r0 = m) := ⟨ham, hmb, hb, hmid, hn, hp, hsp⟩
  have HG : Hid (a ≤ s0 ∧ s0 ≤ r0 ∧ r0 ≤ mid ∧ r0 ≤ m ∧ n ≤ s0 + b ∧ m + 2 ≤ n) := by
    have : a ≤ s0 ∧ s0 ≤ r0 ∧ r0 ≤ mid ∧ r0 ≤ m ∧ n ≤ s0 + b ∧ m + 2 ≤ n := by split at hsp <;> omega
    exact this
  have x0 : (m : Int) - (a : Int) = (k0 : Int) := by omega
  have x1 : IntKind.i64.wrap (k0 : Int) = (k0 : Int) := wrap_nat (by omega)
  have x2 : ((k0 : Int) == 1) = false := by simp; omega
  have x3 : (b : Int) - (m : Int) = (k1 : Int) := by omega
  have x4 : IntKind.i64.wrap (k1 : Int) = (k1 : Int) := wrap_nat (by omega)
  have x5 : ((k1 : Int) == 1) = false := by simp; omega
  have x6 : (a : Int) + (b : Int) = (sab : Int) := by omega
  have x7 : (sab : Int) / 2 = (mid : Int) := by omega
  have x8 : IntKind.u64.wrap (sab : Int) = (sab : Int) := by rw [IntKind.wrap_u64]; omega
  have x9 : IntKind.i64.wrap (sab : Int) = (sab : Int) := wrap_nat (by omega)
  have x10 : IntKind.i64.wrap (mid : Int) = (mid : Int) := wrap_nat (by omega)
  have x11 : (mid : Int) + (m : Int) = (n : Int) := by omega
  have x12 : IntKind.i64.wrap (n : Int) = (n : Int) := wrap_nat (by omega)
  have x13 : (n : Int) - 1 = (p : Int) := by omega
  have x14 : IntKind.i64.wrap (p : Int) = (p : Int) := wrap_nat (by omega)
  clear h hA hA2 hX ham hmb hb hk0 hk1 hsab hmid hn hp hsp
  go_enter Try.func73, Try.ntmps73
  go_upto_if 140 with fail
  clear x0 x1 x2 x3 x4 x5 x6 x7 x8 x9 x10 x11
  go_cut [20, 21] from 138 to 146 (fun sv rv W1 => sv = .int .i64 (s0 : Int) ∧ rv = .int .i64 (r0 : Int) ∧ W1 = W)
  case first =>
    have hsp := HB.out.2.2.2.2.2.2
    by_cases q : mid < m
    · rw [if_pos q] at hsp
      obtain ⟨h1, h2⟩ := hsp
      subst h2
      have y0 : (r0 : Int) < (m : Int) := by omega
      have y1 : (n : Int) - (b : Int) = (s0 : Int) := by omega
      have y2 : IntKind.i64.wrap (s0 : Int) = (s0 : Int) := wrap_nat (by have := HB.out; omega)
      clear q h1
      go_wp2_with fail
      go_meet
      case rel => exact ⟨rfl, rfl, rfl⟩
    · rw [if_neg q] at hsp
      obtain ⟨h1, h2⟩ := hsp
      subst h1 h2
      have y0 : ¬ (mid : Int) < (r0 : Int) := by omega
      clear q
      go_wp2_with fail
      go_meet
      case rel => exact ⟨rfl, rfl, rfl⟩
  case rest =>
    obtain ⟨rfl, rfl, hwc⟩ := hcut
    have hwc' := hwc.symm
    subst hwc'
    clear hwc
    go_wp2_with fail
    clear x13 x14
    go_loopw [20, 21] (fun sv rv wr => ∃ s r : Nat, s0 ≤ s ∧ s ≤ r ∧ r ≤ r0 ∧ sv = .int .i64 (s : Int) ∧ rv = .int .i64 (r : Int) ∧ SD l g W0 wr d ∧ (s = s0 ∨ ltC l d[n - s]! d[s - 1]! = false) ∧ (r = r0 ∨ ltC l d[n - 1 - r]! d[r]! = true)) (fun sv rv _ => (intOf rv).toNat - (intOf sv).toNat)
    case atStart => exact ⟨s0, r0, Nat.le_refl _, HG.out.2.1, Nat.le_refl _, rfl, rfl, H0.out, .inl rfl, .inl rfl⟩
    case round =>
      obtain ⟨s, r, hmi, hij, hjb, rfl, rfl, hd, hl1, hl2⟩ := hrel
      generalize wr = wR at *
      have HD : Hid (SD l g W0 wR d ∧ (s = s0 ∨ ltC l d[n - s]! d[s - 1]! = false) ∧ (r = r0 ∨ ltC l d[n - 1 - r]! d[r]! = true)) := ⟨hd, hl1, hl2⟩
      clear H0 hl1 hl2
      by_cases hlt : s < r
      · have hg := HG.out
        have hq := HB.out
        obtain ⟨sr, hse⟩ : ∃ sr, sr = s + r := ⟨_, rfl⟩
        obtain ⟨c, hhe⟩ : ∃ c, c = (s + r) / 2 := ⟨_, rfl⟩
        obtain ⟨pc, hpc⟩ : ∃ pc, pc = p - c := ⟨_, rfl⟩
        have y0 : (s : Int) + (r : Int) = (sr : Int) := by omega
        have y1 : IntKind.i64.wrap (sr : Int) = (sr : Int) := wrap_nat (by omega)
        have y2 : (sr : Int) / 2 = (c : Int) := by omega
        have y3 : IntKind.u64.wrap (sr : Int) = (sr : Int) := by rw [IntKind.wrap_u64]; omega
        have y4 : IntKind.i64.wrap (c : Int) = (c : Int) := wrap_nat (by omega)
        have y5 : (p : Int) - (c : Int) = (pc : Int) := by omega
        have y6 : IntKind.i64.wrap (pc : Int) = (pc : Int) := wrap_nat (by omega)
        have hji : (s : Int) < (r : Int) := by omega
        have hhs : (c : Int) < (d.size : Int) := by omega
        have has : (pc : Int) < (d.size : Int) := by omega
        have his : pc < d.size := by omega
        have hjs : c < d.size := by omega
        obtain ⟨c0, -⟩ := hd.cell his
        obtain ⟨c1, -⟩ := hd.cell hjs
        have HCm := SD.cmp hC hd.drew his hjs
        have hlt := cmp_lt l d[pc]! d[c]!
        generalize cmpI (Ck l d[pc]!).a (Ck l d[c]!).a = cz at HCm hlt
        obtain ⟨x, hx⟩ : ∃ x, d[pc]! = x := ⟨_, rfl⟩
        obtain ⟨y, hy⟩ : ∃ y, d[c]! = y := ⟨_, rfl⟩
        rw [hx] at c0 HCm
        rw [hy] at c1 HCm
        have HX : Hid (d[pc]! = x ∧ d[c]! = y ∧ pc < d.size ∧ c < d.size) := ⟨hx, hy, his, hjs⟩
        have HLT : Hid (decide (cz < 0) = ltC l d[pc]! d[c]!) := hlt
        clear hx hy his hjs hlt
        have HH : Hid (s ≤ c ∧ c < r ∧ s0 ≤ s ∧ r ≤ r0 ∧ pc = n - 1 - c ∧ c < n) := ⟨by omega, by omega, hmi, hjb, by omega, by omega⟩
        have lg := hd.lt
        clear hd hse hhe hpc hmi hjb hij hlt hg hq
        go_wp2_with fail
        refine wp_region_noPanic ?_
        refine wp_region_held_drew (S := fun w' => w'.cell? ⟨g, pc, none⟩ = some (.int .i64 (x : Nat)) ∧ w'.cell? ⟨g, c, none⟩ = some (.int .i64 (y : Nat))) (by kernel_rfl) ⟨c0, c1⟩ (fun hHeld => ?_)
        refine take_at (i := 0) (n := 158) (v := ?_) rfl rfl (by kernel_rfl) (by kernel_rfl) (by kernel_rfl) (fun _ _ _ h => h) (Or.inl ⟨by rfl, ?_⟩) (by assumption) ?_
        rotate_left 1
        · intro wz hSw
          obtain ⟨s0, s1⟩ := hSw
          first | (go_simp; done) | (go_simp; with_reducible rfl)
        simp only [List.set_cons_zero, List.set_cons_succ]
        refine take_at (i := 1) (n := 159) (v := ?_) rfl rfl (by kernel_rfl) (by kernel_rfl) (by kernel_rfl) (fun _ _ _ h => h) (Or.inl ⟨by rfl, ?_⟩) (by assumption) ?_
        rotate_left 1
        · intro wz hSw
          obtain ⟨s0, s1⟩ := hSw
          first | (go_simp; done) | (go_simp; with_reducible rfl)
        simp only [List.set_cons_zero, List.set_cons_succ]
        refine take_at (i := 2) (n := 160) (v := ?_) rfl rfl (by kernel_rfl) (by kernel_rfl) (by kernel_rfl) (fun _ _ _ h => h) (Or.inl ⟨by rfl, ?_⟩) (by assumption) ?_
        rotate_left 1
        · intro wz hSw
          obtain ⟨s0, s1⟩ := hSw
          first | (go_simp; done) | (go_simp; with_reducible rfl)
        simp only [List.set_cons_zero, List.set_cons_succ]
        refine take_at (i := 3) (n := 161) (v := ?_) rfl rfl (by kernel_rfl) (by kernel_rfl) (by kernel_rfl) (fun _ _ _ h => h) (Or.inl ⟨by rfl, ?_⟩) (by assumption) ?_
        rotate_left 1
        · intro wz hSw
          obtain ⟨s0, s1⟩ := hSw
          first | (go_simp; done) | (go_simp; with_reducible rfl)
        simp only [List.set_cons_zero, List.set_cons_succ]
        refine take_at (i := 4) (n := 162) (v := ?_) rfl rfl (by kernel_rfl) (by kernel_rfl) (by kernel_rfl) (fun _ _ _ h => h) (Or.inl ⟨by rfl, ?_⟩) (by assumption) ?_
        rotate_left 1
        · intro wz hSw
          obtain ⟨s0, s1⟩ := hSw
          first | (go_simp; done) | (go_simp; with_reducible rfl)
        simp only [List.set_cons_zero, List.set_cons_succ]
        refine take_at (i := 5) (n := 163) (v := ?_) rfl rfl (by kernel_rfl) (by kernel_rfl) (by kernel_rfl) (fun _ _ _ h => h) (Or.inl ⟨by rfl, ?_⟩) (by assumption) ?_
        rotate_left 1
        · intro wz hSw
          obtain ⟨s0, s1⟩ := hSw
          first | (go_simp; done) | (go_simp; with_reducible rfl)
        simp only [List.set_cons_zero, List.set_cons_succ]
        refine take_at (i := 6) (n := 164) (v := ?_) rfl rfl (by kernel_rfl) (by kernel_rfl) (by kernel_rfl) (fun _ _ _ h => h) (Or.inl ⟨by rfl, ?_⟩) (by assumption) ?_
        rotate_left 1
        · intro wz hSw
          obtain ⟨s0, s1⟩ := hSw
          first | (go_simp; done) | (go_simp; with_reducible rfl)
        simp only [List.set_cons_zero, List.set_cons_succ]
        refine take_at (i := 7) (n := 165) (v := ?_) rfl rfl (by kernel_rfl) (by kernel_rfl) (by kernel_rfl) (fun _ _ _ h => h) (Or.inl ⟨by rfl, ?_⟩) (by assumption) ?_
        rotate_left 1
        · intro wz hSw
          obtain ⟨s0, s1⟩ := hSw
          first | (go_simp; done) | (go_simp; with_reducible rfl)
        simp only [List.set_cons_zero, List.set_cons_succ]
        refine take_at (i := 8) (n := 166) (v := ?_) rfl rfl (by kernel_rfl) (by kernel_rfl) (by kernel_rfl) (fun _ _ _ h => h) (Or.inl ⟨by rfl, ?_⟩) (by assumption) ?_
        rotate_left 1
        · intro wz hSw
          obtain ⟨s0, s1⟩ := hSw
          first | (go_simp; done) | (go_simp; with_reducible rfl)
        simp only [List.set_cons_zero, List.set_cons_succ]
        refine take_at (i := 9) (n := 167) (v := ?_) rfl rfl (by kernel_rfl) (by kernel_rfl) (by kernel_rfl) (fun _ _ _ h => h) (Or.inl ⟨by rfl, ?_⟩) (by assumption) ?_
        rotate_left 1
        · intro wz hSw
          obtain ⟨s0, s1⟩ := hSw
          first | (go_simp; done) | (go_simp; with_reducible rfl)
        simp only [List.set_cons_zero, List.set_cons_succ]
        refine take_at (i := 10) (n := 168) (v := ?_) rfl rfl (by kernel_rfl) (by kernel_rfl) (by kernel_rfl) (fun _ _ _ h => h) (Or.inl ⟨by rfl, ?_⟩) (by assumption) ?_
        rotate_left 1
        · intro wz hSw
          obtain ⟨s0, s1⟩ := hSw
          first | (go_simp; done) | (go_simp; with_reducible rfl)
        simp only [List.set_cons_zero, List.set_cons_succ]
        refine wpAnyH_ready (rs := [11]) (by kernel_rfl) (by simp) ?_
        refine AllReadyH.cons rfl (fun K hK => ?_) AllReadyH.nil
        go_simp
        go_wp2_with (go_at_call 34; refine HCm.mono ?_; rintro r w5 ⟨rfl, h5⟩; have H5 : Hid (SD l g W0 w5 d) := h5; clear h5 HCm)
        have c50 : w5.cell? ⟨g, pc, none⟩ = some (.int .i64 (x : Nat)) := by have h9 := (H5.out.cell HX.out.2.2.1).1; rw [HX.out.1] at h9; exact h9
        have c51 : w5.cell? ⟨g, c, none⟩ = some (.int .i64 (y : Nat)) := by have h9 := (H5.out.cell HX.out.2.2.2).1; rw [HX.out.2.1] at h9; exact h9
        refine hK.out _ _ ⟨c50, c51⟩ (fun hHeld => ?_)
        clear hK K
        try simp only [List.set_cons_zero, List.set_cons_succ]
        refine take_at (i := 12) (n := 170) (v := ?_) rfl rfl (by kernel_rfl) (by kernel_rfl) (by kernel_rfl) (fun _ _ _ h => h) (Or.inl ⟨by rfl, ?_⟩) (by assumption) ?_
        rotate_left 1
        · intro wz hSw
          obtain ⟨s0, s1⟩ := hSw
          first | (go_simp; done) | (go_simp; with_reducible rfl)
        simp only [List.set_cons_zero, List.set_cons_succ]
        refine take_at (i := 13) (n := 171) (v := ?_) rfl rfl (by kernel_rfl) (by kernel_rfl) (by kernel_rfl) (fun _ _ _ h => h) (Or.inl ⟨by rfl, ?_⟩) (by assumption) ?_
        rotate_left 1
        · intro wz hSw
          obtain ⟨s0, s1⟩ := hSw
          first | (go_simp; done) | (go_simp; with_reducible rfl)
        simp only [List.set_cons_zero, List.set_cons_succ]
        refine wpAnyH_done (by kernel_rfl) ?_ _
        refine NoPanic.normal ?_
        clear hHeld
        cases hzb : decide (cz < 0) with
        | true =>
          go_wp2_with fail
          obtain ⟨q1, q2, q3, q4, q5, q6⟩ := HH.out
          refine ⟨⟨s, c, q3, q1, by omega, rfl, rfl, H5.out, HD.out.2.1, .inr ?_⟩, by simp [intOf]; omega⟩
          rw [← q5, ← HLT.out]
          exact hzb
        | false =>
          go_wp2_with fail
          obtain ⟨q1, q2, q3, q4, q5, q6⟩ := HH.out
          refine ⟨⟨c + 1, r, by omega, by omega, q4, by simp, rfl, H5.out, .inr ?_, HD.out.2.2⟩, by simp [intOf]; omega⟩
          rw [Nat.add_sub_cancel, show n - (c + 1) = pc by omega, ← HLT.out]
          exact hzb
      · have hije : s = r := by omega
        subst hije
        have hg := HG.out
        have hq := HB.out
        obtain ⟨e, hee⟩ : ∃ e, e = n - s := ⟨_, rfl⟩
        have y0 : (n : Int) - (s : Int) = (e : Int) := by omega
        have y1 : IntKind.i64.wrap (e : Int) = (e : Int) := wrap_nat (by omega)
        have HE : Hid (e = n - s ∧ s0 ≤ s ∧ s ≤ r0 ∧ e + s = n ∧ s ≤ m ∧ m ≤ e ∧ e ≤ b ∧ b ≤ d.size) := ⟨hee, hmi, hjb, by omega, by omega, by omega, by omega, hq.2.2.1⟩
        clear hee hd hlt hmi hjb hij hg hq
        obtain ⟨rb, hrb⟩ : ∃ rb, decide (s < m ∧ m < e) = rb := ⟨_, rfl⟩
        have Hrb : Hid (decide (s < m ∧ m < e) = rb) := hrb
        clear hrb
        go_upto_region 39 with fail
        go_cut [185] from 178 to 185 (fun v W => v = .bool rb ∧ W = wR)
        case first =>
          by_cases c1 : s < m
          · have d1 : (s : Int) < (m : Int) := by omega
            by_cases c2 : m < e
            · have d2 : (m : Int) < (e : Int) := by omega
              obtain rfl : rb = true := by rw [← Hrb.out]; simp [c1, c2]
              clear c1 c2
              go_wp2_with fail
              go_meet
              case rel => exact ⟨rfl, rfl⟩
            · have d2 : ¬ (m : Int) < (e : Int) := by omega
              obtain rfl : rb = false := by rw [← Hrb.out]; simp [c2]
              clear c1 c2
              go_wp2_with fail
              go_meet
              case rel => first | exact ⟨rfl, rfl⟩ | exact ⟨by simp; omega, rfl⟩
          · have d1 : ¬ (s : Int) < (m : Int) := by omega
            obtain rfl : rb = false := by rw [← Hrb.out]; simp [c1]
            clear c1
            go_wp2_with fail
            go_meet
            case rel => first | exact ⟨rfl, rfl⟩ | exact ⟨by simp; omega, rfl⟩
        case rest =>
          obtain ⟨rfl, hwc⟩ := hcut
          have hwc' := hwc.symm
          subst hwc'
          clear hwc
          refine from_K (by assumption) _ _ ?_
          go_cut [] from 186 to 191 (fun W => Hid (∃ d1, SD l g W0 W d1 ∧ Rot s m e d d1 ∧ PermIn s e d d1))
          case first =>
            cases rb with
            | true =>
              have HR := rot_any HD.out.1 bS s m e (by have := Hrb.out; simp at this; omega) (by have := Hrb.out; simp at this; omega) (by have := HE.out; omega) hs
              go_wp2_with (go_at_call 77; refine HR.mono ?_; rintro r w5 ⟨rfl, h5⟩; have H5 : Hid (∃ d1, SD l g W0 w5 d1 ∧ Rot s m e d d1 ∧ PermIn s e d d1) := h5; clear h5 HR)
              go_meet
              case rel => exact H5
            | false =>
              have H5 : Hid (∃ d1, SD l g W0 wR d1 ∧ Rot s m e d d1 ∧ PermIn s e d d1) := ⟨d, HD.out.1, Rot.none (by have := Hrb.out; simp at this; have := HE.out; omega) (by have := HE.out; omega) (by have := HE.out; omega), permIn_refl _ _ _⟩
              go_wp2_with fail
              go_meet
              case rel => exact H5
          case rest =>
            obtain ⟨w_a, hw_a⟩ : ∃ w_a, w_a = wc := ⟨_, rfl⟩
            subst hw_a
            obtain ⟨d1, hd1, hr1, hp1⟩ := hcut.out
            have hz1 := hp1.1
            have h9 := HB.out.2.2.2.2.2.2
            have h8 := HE.out
            have h7 := HB.out.2.2.2.2.1
            have hS0 : if mid < m then mid + m ≤ s + b ∧ s ≤ mid else a ≤ s ∧ s ≤ m := by
              by_cases q : mid < m
              · rw [if_pos q] at h9 ⊢; omega
              · rw [if_neg q] at h9 ⊢; omega
            have hLow : (if mid < m then s + b = mid + m else s = a) ∨ ltC l d[e]! d[s - 1]! = false := by
              rcases HD.out.2.1 with h | h
              · left
                by_cases q : mid < m
                · rw [if_pos q] at h9 ⊢; omega
                · rw [if_neg q] at h9 ⊢; omega
              · right
                rw [h8.1]
                exact h
            have hHigh : (if mid < m then s = mid else s = m) ∨ ltC l d[e - 1]! d[s]! = true := by
              rcases HD.out.2.2 with h | h
              · left
                by_cases q : mid < m
                · rw [if_pos q] at h9 ⊢; omega
                · rw [if_neg q] at h9 ⊢; omega
              · right
                rw [show e - 1 = n - 1 - s by omega]
                exact h
            obtain ⟨hsy, g1, g2, g3, g4, g5, g6⟩ := sym_of (ltC_swo l) (d := d) (d' := d1) (a := a) (m := m) (b := b) (mid := mid) (s := s) (e := e) (by have := HB.out; omega) HB.out.2.2.2.1 (by omega) HA.out.1 HA.out.2.1 HA.out.2.2 hS0 hLow hHigh hr1
            have HP1 : Hid (SD l g W0 w_a d1 ∧ Sym (ltC l) id a m b mid s e d d1 ∧ PermIn a b d d1 ∧ d1.size = d.size ∧ a ≤ s ∧ s ≤ mid ∧ mid ≤ e ∧ e ≤ b) := ⟨hd1, hsy, permIn_mono _ _ _ _ _ _ g1 g6 (by have := HB.out; omega) hp1, hz1, g1, g2, g4, g6⟩
            clear hcut hd1 hr1 hp1 hz1 hsy g1 g2 g3 g4 g5 g6 h9 h8 h7 hS0 hLow hHigh
            obtain ⟨lb, hlb⟩ : ∃ lb, decide (a < s ∧ s < mid) = lb := ⟨_, rfl⟩
            have Hlb : Hid (decide (a < s ∧ s < mid) = lb) := hlb
            clear hlb
            go_upto_region 41 with fail
            go_cut [199] from 192 to 199 (fun v W => v = .bool lb ∧ W = w_a)
            case first =>
              by_cases c1 : a < s
              · have d1 : (a : Int) < (s : Int) := by omega
                by_cases c2 : s < mid
                · have d2 : (s : Int) < (mid : Int) := by omega
                  obtain rfl : lb = true := by rw [← Hlb.out]; simp [c1, c2]
                  clear c1 c2
                  go_wp2_with fail
                  go_meet
                  case rel => exact ⟨rfl, rfl⟩
                · have d2 : ¬ (s : Int) < (mid : Int) := by omega
                  obtain rfl : lb = false := by rw [← Hlb.out]; simp [c2]
                  clear c1 c2
                  go_wp2_with fail
                  go_meet
                  case rel => first | exact ⟨rfl, rfl⟩ | exact ⟨by simp; omega, rfl⟩
              · have d1 : ¬ (a : Int) < (s : Int) := by omega
                obtain rfl : lb = false := by rw [← Hlb.out]; simp [c1]
                clear c1
                go_wp2_with fail
                go_meet
                case rel => first | exact ⟨rfl, rfl⟩ | exact ⟨by simp; omega, rfl⟩
            case rest =>
              obtain ⟨rfl, hwc⟩ := hcut
              have hwc' := hwc.symm
              subst hwc'
              clear hwc
              refine from_K (by assumption) _ _ ?_
              go_cut [] from 200 to 205 (fun W => Hid (∃ d2, SD l g W0 W d2 ∧ PermIn a mid d1 d2 ∧ Asc (ltC l) id a mid d2))
              case first =>
                cases lb with
                | true =>
                  have HR := hrec w_a d1 a s mid (by have := HP1.out; have := HB.out; have := Hlb.out; simp at this; omega) HP1.out.1 HP1.out.2.2.2.1 (by have := Hlb.out; simp at this; omega) (by have := Hlb.out; simp at this; omega) (by have := HP1.out; have := HB.out; omega) HP1.out.2.1.lo1 HP1.out.2.1.lo2 HP1.out.2.1.loc
                  go_wp2_with (go_at_call 73; refine HR.mono ?_; rintro r w5 ⟨rfl, d2, h5, h6, h7⟩; have H5 : Hid (∃ d2, SD l g W0 w5 d2 ∧ PermIn a mid d1 d2 ∧ Asc (ltC l) id a mid d2) := ⟨d2, h5, h7, h6⟩; clear h5 h6 h7 HR)
                  go_meet
                  case rel => exact H5
                | false =>
                  have H5 : Hid (∃ d2, SD l g W0 w_a d2 ∧ PermIn a mid d1 d2 ∧ Asc (ltC l) id a mid d2) := ⟨d1, HP1.out.1, permIn_refl _ _ _, by
                    have h9 := Hlb.out
                    simp at h9
                    have := HP1.out.2.2.2.2
                    by_cases q : a < s
                    · rw [show mid = s by omega]; exact HP1.out.2.1.lo1
                    · have q2 : s = a := by omega
                      have := HP1.out.2.1.lo2
                      rw [q2] at this
                      exact this⟩
                  go_wp2_with fail
                  go_meet
                  case rel => exact H5
              case rest =>
                obtain ⟨w_b, hw_b⟩ : ∃ w_b, w_b = wc := ⟨_, rfl⟩
                subst hw_b
                obtain ⟨d2, hd2, hp2, ha2⟩ := hcut.out
                have HP2 : Hid (SD l g W0 w_b d2 ∧ PermIn a mid d1 d2 ∧ Asc (ltC l) id a mid d2 ∧ d2.size = d.size) := ⟨hd2, hp2, ha2, hp2.1.trans HP1.out.2.2.2.1⟩
                have hup : ∀ p, mid ≤ p → d2[p]! = d1[p]! := fun p hp => hp2.2.1 p (.inr hp)
                have HU : Hid (Asc (ltC l) id mid e d2 ∧ Asc (ltC l) id e b d2 ∧ Cross id mid e b d2) := ⟨fun p q h1 h2 h3 => by rw [hup p h1, hup q (by omega)]; exact HP1.out.2.1.hi1 p q h1 h2 h3, fun p q h1 h2 h3 => by rw [hup p (by have := HP1.out; omega), hup q (by have := HP1.out; omega)]; exact HP1.out.2.1.hi2 p q h1 h2 h3, fun p q h1 h2 h3 h4 => by rw [hup p h1, hup q (by have := HP1.out; omega)]; exact HP1.out.2.1.hic p q h1 h2 h3 h4⟩
                clear hcut hd2 hp2 ha2 hup
                obtain ⟨ub, hub⟩ : ∃ ub, decide (mid < e ∧ e < b) = ub := ⟨_, rfl⟩
                have Hub : Hid (decide (mid < e ∧ e < b) = ub) := hub
                clear hub
                go_upto_region 43 with fail
                go_cut [213] from 206 to 213 (fun v W => v = .bool ub ∧ W = w_b)
                case first =>
                  by_cases c1 : mid < e
                  · have d1 : (mid : Int) < (e : Int) := by omega
                    by_cases c2 : e < b
                    · have d2 : (e : Int) < (b : Int) := by omega
                      obtain rfl : ub = true := by rw [← Hub.out]; simp [c1, c2]
                      clear c1 c2
                      go_wp2_with fail
                      go_meet
                      case rel => exact ⟨rfl, rfl⟩
                    · have d2 : ¬ (e : Int) < (b : Int) := by omega
                      obtain rfl : ub = false := by rw [← Hub.out]; simp [c2]
                      clear c1 c2
                      go_wp2_with fail
                      go_meet
                      case rel => first | exact ⟨rfl, rfl⟩ | exact ⟨by simp; omega, rfl⟩
                  · have d1 : ¬ (mid : Int) < (e : Int) := by omega
                    obtain rfl : ub = false := by rw [← Hub.out]; simp [c1]
                    clear c1
                    go_wp2_with fail
                    go_meet
                    case rel => first | exact ⟨rfl, rfl⟩ | exact ⟨by simp; omega, rfl⟩
                case rest =>
                  obtain ⟨rfl, hwc⟩ := hcut
                  have hwc' := hwc.symm
                  subst hwc'
                  clear hwc
                  refine from_K (by assumption) _ _ ?_
                  have HF : Hid (∀ W3 d3, SD l g W0 W3 d3 → PermIn mid b d2 d3 → Asc (ltC l) id mid b d3 → ∃ d', SD l g W0 W3 d' ∧ Asc (ltC l) id a b d' ∧ PermIn a b d d') := fun W3 d3 h1 h2 h3 => by
                    have := HP1.out
                    have := HB.out
                    have hbs : b ≤ d1.size := by omega
                    have hj := asc_join HP2.out.2.1 h2 hbs (by omega) HP2.out.2.2.1 h3 HP1.out.2.1.mix
                    refine ⟨d3, h1, hj, permIn_trans _ _ _ _ _ HP1.out.2.2.1 (permIn_trans _ _ _ _ _ (permIn_mono _ _ _ _ _ _ (Nat.le_refl _) (by omega) (by omega) HP2.out.2.1) (permIn_mono _ _ _ _ _ _ (by omega) (Nat.le_refl _) (by have := HP2.out.2.2.2; omega) h2))⟩
                  cases ub with
                  | true =>
                    have HR := hrec w_b d2 mid e b (by have := HP1.out; have := HB.out; have := Hub.out; simp at this; omega) HP2.out.1 HP2.out.2.2.2 (by have := Hub.out; simp at this; omega) (by have := Hub.out; simp at this; omega) (by have := HP2.out; have := HB.out; omega) HU.out.1 HU.out.2.1 HU.out.2.2
                    go_wp2_with (go_at_call 73; refine HR.mono ?_; rintro r w5 ⟨rfl, d3, h5, h6, h7⟩; have H5 : Hid (∃ d', SD l g W0 w5 d' ∧ Asc (ltC l) id a b d' ∧ PermIn a b d d') := HF.out _ d3 h5 h7 h6; clear h5 h6 h7 HR)
                    go_end0
                    exact ⟨rfl, H5.out⟩
                  | false =>
                    have H5 : Hid (∃ d', SD l g W0 w_b d' ∧ Asc (ltC l) id a b d' ∧ PermIn a b d d') := HF.out _ d2 HP2.out.1 (permIn_refl _ _ _) (by
                      have h9 := Hub.out
                      simp at h9
                      have := HP1.out.2.2.2.2
                      by_cases q : mid < e
                      · have q2 : e = b := by omega
                        have := HU.out.1
                        rw [q2] at this
                        exact this
                      · have q2 : e = mid := by omega
                        have := HU.out.2.1
                        rw [q2] at this
                        exact this)
                    go_wp2_with fail
                    go_end0
                    exact ⟨rfl, H5.out⟩
end Go.Proofs.Ytccoobcggbbciam.Stab
