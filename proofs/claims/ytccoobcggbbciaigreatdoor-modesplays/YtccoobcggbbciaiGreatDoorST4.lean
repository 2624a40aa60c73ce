import Derived.Test.YtccoobcggbbciaiGreatDoorST3
import Derived.Deep.CutRange
import Derived.Deep.CutBlock
namespace Go.Proofs.YtccoobcggbbciaiGreatDoor.Stab
open Go.ChangeShapes Go.WideShapes Go.ChangeAt Go.RowKit Go.Shelf
open Go.Sort (swp swp_get swp_size SWO SWO.asymmA PermIn permIn_refl permIn_trans permIn_mono permIn_all swp_permIn)
variable {α : Type} [Inhabited α]

omit [Inhabited α] in
theorem from_KF {P : Program} {c : Code} {q : Exit → Act → World → Prop} {K : Act → World → Prop} (h : ∀ a w, Code.wp P c q a w → K a w) (a : Act) (w : World) (g : Code.wp P c q a w) : K a w := h a w g

set_option maxRecDepth 20000 in
set_option maxHeartbeats 8000000 in
theorem symCF_any {H : World → Array α → Prop} {lt : α → α → Bool} {ix : α → Nat} {N blk g sf : Nat} {lb sb : Array Value} (hS : SWO lt) (hL : LSw H lt N blk g lb sf sb) {W : World} {d : Array α} (h : H W d) (a m b : Nat) (ham : a + 1 < m) (hmb : m + 1 < b) (hb : b ≤ N) (hs : N ≤ 4194304) (hA : Asc lt ix a m d) (hA2 : Asc lt ix m b d) (hX : Cross ix a m b d)
    (hrec : ∀ (W' : World) (d' : Array α) (a' m' b' : Nat), b' - a' < b - a → H W' d' → a' < m' → m' < b' → b' ≤ N → Asc lt ix a' m' d' → Asc lt ix m' b' d' → Cross ix a' m' b' d' → Calls Tryz.prog 112 #[.agg #[.func (.func g) #[] lb, .func (.func sf) #[] sb], .int .i64 (a' : Int), .int .i64 (m' : Int), .int .i64 (b' : Int)] W' fun r W2 => r = .returned (.tuple #[]) ∧ ∃ d2, H W2 d2 ∧ W'.grownBy W2 (some blk) ∧ Asc lt ix a' b' d2 ∧ PermIn a' b' d' d2) :
    Calls Tryz.prog 112 #[.agg #[.func (.func g) #[] lb, .func (.func sf) #[] sb], .int .i64 (a : Int), .int .i64 (m : Int), .int .i64 (b : Int)] W fun r W' => r = .returned (.tuple #[]) ∧ ∃ d', H W' d' ∧ W.grownBy W' (some blk) ∧ Asc lt ix a b d' ∧ PermIn a b d d' := by
  have eg := hL.eg
  have H0 : Hid (H W d ∧ BX H blk g lb sf sb W (W.alloc (.cells #[.func (.func g) #[] lb, .func (.func sf) #[] sb] 115)) d) := ⟨h, BX.start hL h⟩
  have HZ : Hid (d.size = N) := hL.size _ _ h
  have HA : Hid (Asc lt ix a m d ∧ Asc lt ix m b d ∧ Cross ix a m b d) := ⟨hA, hA2, hX⟩
  obtain ⟨k0, hk0⟩ : ∃ k0, k0 = m - a := ⟨_, rfl⟩
  obtain ⟨k1, hk1⟩ : ∃ k1, k1 = b - m := ⟨_, rfl⟩
  obtain ⟨sab, hsab⟩ : ∃ sab, sab = a + b := ⟨_, rfl⟩
  obtain ⟨mid, hmid⟩ : ∃ mid, mid = (a + b) / 2 := ⟨_, rfl⟩
  obtain ⟨n, hn⟩ : ∃ n, n = mid + m := ⟨_, rfl⟩
  obtain ⟨p, hp⟩ : ∃ p, p = n - 1 := ⟨_, rfl⟩
  obtain ⟨s0, r0, hsp⟩ : ∃ s0 r0 : Nat, if mid < m then s0 + b = n ∧ r0 = mid else s0 = a ∧ r0 = m := by
    by_cases q : mid < m
    · exact ⟨n - b, mid, by rw [if_pos q]; exact ⟨by omega, rfl⟩⟩
    · exact ⟨a, m, by rw [if_neg q]; exact ⟨rfl, rfl⟩⟩
  have HB : Hid (a + 1 < m ∧ m + 1 < b ∧ b ≤ N ∧ mid = (a + b) / 2 ∧ n = mid + m ∧ p = n - 1 ∧ if mid < m then s0 + b = n ∧ r0 = mid else s0 = a ∧ r0 = m) := ⟨ham, hmb, hb, hmid, hn, hp, hsp⟩
  have HG : Hid (a ≤ s0 ∧ s0 ≤ r0 ∧ r0 ≤ mid ∧ r0 ≤ m ∧ n ≤ s0 + b ∧ m + 2 ≤ n) := by
    have : a ≤ s0 ∧ s0 ≤ r0 ∧ r0 ≤ mid ∧ r0 ≤ m ∧ n ≤ s0 + b ∧ m + 2 ≤ n := by split at hsp <;> omega
    exact this
  have x0 : (m : Int) - (a : Int) = (k0 : Int) := by omega
  have x1 : IntKind.i64.wrap (k0 : Int) = (k0 : Int) := wrapN (by omega)
  have x2 : ((k0 : Int) == 1) = false := by simp; omega
  have x3 : (b : Int) - (m : Int) = (k1 : Int) := by omega
  have x4 : IntKind.i64.wrap (k1 : Int) = (k1 : Int) := wrapN (by omega)
  have x5 : ((k1 : Int) == 1) = false := by simp; omega
  have x6 : (a : Int) + (b : Int) = (sab : Int) := by omega
  have x7 : (sab : Int) / 2 = (mid : Int) := by omega
  have x8 : IntKind.u64.wrap (sab : Int) = (sab : Int) := by rw [IntKind.wrap_u64]; omega
  have x9 : IntKind.i64.wrap (sab : Int) = (sab : Int) := wrapN (by omega)
  have x10 : IntKind.i64.wrap (mid : Int) = (mid : Int) := wrapN (by omega)
  have x11 : (mid : Int) + (m : Int) = (n : Int) := by omega
  have x12 : IntKind.i64.wrap (n : Int) = (n : Int) := wrapN (by omega)
  have x13 : (n : Int) - 1 = (p : Int) := by omega
  have x14 : IntKind.i64.wrap (p : Int) = (p : Int) := wrapN (by omega)
  clear h hA hA2 hX ham hmb hb hk0 hk1 hsab hmid hn hp hsp
  go_enter Tryz.func112, Tryz.ntmps112
  go_upto_if 106 with fail
  clear x0 x1 x2 x3 x4 x5 x6 x7 x8 x9 x10 x11
  go_cut [18, 19] from 104 to 112 (fun sv rv W1 => sv = .int .i64 (s0 : Int) ∧ rv = .int .i64 (r0 : Int) ∧ W1 = (W.alloc (.cells #[.func (.func g) #[] lb, .func (.func sf) #[] sb] 115)))
  case first =>
    have hsp := HB.out.2.2.2.2.2.2
    by_cases q : mid < m
    · rw [if_pos q] at hsp
      obtain ⟨h1, h2⟩ := hsp
      subst h2
      have y0 : (r0 : Int) < (m : Int) := by omega
      have y1 : (n : Int) - (b : Int) = (s0 : Int) := by omega
      have y2 : IntKind.i64.wrap (s0 : Int) = (s0 : Int) := wrapN (by have := HB.out; omega)
      clear q h1
      go_wp2_with fail
      go_meet
      case rel => exact ⟨rfl, rfl, rfl⟩
    · rw [if_neg q] at hsp
      obtain ⟨h1, h2⟩ := hsp
      subst h1 h2
      have y0 : ¬ (mid : Int) < (r0 : Int) := by omega
      clear q
      go_wp2_with fail
      go_meet
      case rel => exact ⟨rfl, rfl, rfl⟩
  case rest =>
    obtain ⟨rfl, rfl, hwc⟩ := hcut
    have H1 : Hid (BX H blk g lb sf sb W wc d) := by rw [hwc]; exact H0.out.2
    clear hwc
    go_wp2_with fail
    clear x13 x14
    go_loopw [18, 19] (fun sv rv wr => ∃ s r : Nat, s0 ≤ s ∧ s ≤ r ∧ r ≤ r0 ∧ sv = .int .i64 (s : Int) ∧ rv = .int .i64 (r : Int) ∧ BX H blk g lb sf sb W wr d ∧ (s = s0 ∨ lt d[n - s]! d[s - 1]! = false) ∧ (r = r0 ∨ lt d[n - 1 - r]! d[r]! = true)) (fun sv rv _ => (intOf rv).toNat - (intOf sv).toNat)
    case atStart => exact ⟨s0, r0, Nat.le_refl _, HG.out.2.1, Nat.le_refl _, rfl, rfl, H1.out, .inl rfl, .inl rfl⟩
    case round =>
      obtain ⟨s, r, hmi, hij, hjb, rfl, rfl, hd, hl1, hl2⟩ := hrel
      generalize wr = wR at *
      have HD : Hid (BX H blk g lb sf sb W wR d ∧ (s = s0 ∨ lt d[n - s]! d[s - 1]! = false) ∧ (r = r0 ∨ lt d[n - 1 - r]! d[r]! = true)) := ⟨hd, hl1, hl2⟩
      clear H1 hl1 hl2
      by_cases hlt : s < r
      · have hg := HG.out
        have hq := HB.out
        obtain ⟨sr, hse⟩ : ∃ sr, sr = s + r := ⟨_, rfl⟩
        obtain ⟨c, hhe⟩ : ∃ c, c = (s + r) / 2 := ⟨_, rfl⟩
        obtain ⟨pc, hpc⟩ : ∃ pc, pc = p - c := ⟨_, rfl⟩
        have y0 : (s : Int) + (r : Int) = (sr : Int) := by omega
        have y1 : IntKind.i64.wrap (sr : Int) = (sr : Int) := wrapN (by omega)
        have y2 : (sr : Int) / 2 = (c : Int) := by omega
        have y3 : IntKind.u64.wrap (sr : Int) = (sr : Int) := by rw [IntKind.wrap_u64]; omega
        have y4 : IntKind.i64.wrap (c : Int) = (c : Int) := wrapN (by omega)
        have y5 : (p : Int) - (c : Int) = (pc : Int) := by omega
        have y6 : IntKind.i64.wrap (pc : Int) = (pc : Int) := wrapN (by omega)
        have hji : (s : Int) < (r : Int) := by omega
        have hcb : c < 4194304 := by omega
        have HCm := hL.less wR d hd.h pc c (by omega) (by omega)
        have HH : Hid (s ≤ c ∧ c < r ∧ s0 ≤ s ∧ r ≤ r0 ∧ pc = n - 1 - c ∧ c < n) := ⟨by omega, by omega, hmi, hjb, by omega, by omega⟩
        have c0 := hd.c0
        have lg := hd.lt
        clear hd hse hhe hpc hmi hjb hij hlt hg hq
        cases hzb : lt d[pc]! d[c]! with
        | true =>
          rw [hzb] at HCm
          have HZB : Hid (lt d[pc]! d[c]! = true) := hzb
          clear hzb
          go_wp2_with (go_at_fn g; refine HCm.mono ?_; rintro r w5 ⟨rfl, h5, hg5⟩; have H5 : Hid (BX H blk g lb sf sb W w5 d) := HD.out.1.step hL H0.out.1 h5 hg5; clear h5 hg5 HCm)
          obtain ⟨q1, q2, q3, q4, q5, q6⟩ := HH.out
          refine ⟨⟨s, c, q3, q1, by omega, rfl, rfl, H5.out, HD.out.2.1, .inr ?_⟩, by simp [intOf]; omega⟩
          rw [← q5]
          exact HZB.out
        | false =>
          rw [hzb] at HCm
          have HZB : Hid (lt d[pc]! d[c]! = false) := hzb
          clear hzb
          go_wp2_with (go_at_fn g; refine HCm.mono ?_; rintro r w5 ⟨rfl, h5, hg5⟩; have H5 : Hid (BX H blk g lb sf sb W w5 d) := HD.out.1.step hL H0.out.1 h5 hg5; clear h5 hg5 HCm)
          obtain ⟨q1, q2, q3, q4, q5, q6⟩ := HH.out
          refine ⟨⟨c + 1, r, by omega, by omega, q4, by simp, rfl, H5.out, .inr ?_, HD.out.2.2⟩, by simp [intOf]; omega⟩
          rw [Nat.add_sub_cancel, show n - (c + 1) = pc by omega]
          exact HZB.out
      · have hije : s = r := by omega
        subst hije
        have hg := HG.out
        have hq := HB.out
        obtain ⟨e, hee⟩ : ∃ e, e = n - s := ⟨_, rfl⟩
        have y0 : (n : Int) - (s : Int) = (e : Int) := by omega
        have y1 : IntKind.i64.wrap (e : Int) = (e : Int) := wrapN (by omega)
        have HE : Hid (e = n - s ∧ s0 ≤ s ∧ s ≤ r0 ∧ e + s = n ∧ s ≤ m ∧ m ≤ e ∧ e ≤ b ∧ b ≤ N) := ⟨hee, hmi, hjb, by omega, by omega, by omega, by omega, hq.2.2.1⟩
        clear hee hd hlt hmi hjb hij hg hq
        obtain ⟨rb, hrb⟩ : ∃ rb, decide (s < m ∧ m < e) = rb := ⟨_, rfl⟩
        have Hrb : Hid (decide (s < m ∧ m < e) = rb) := hrb
        clear hrb
        go_upto_region 40 with fail
        go_cut [145] from 138 to 145 (fun v W => v = .bool rb ∧ W = wR)
        case first =>
          by_cases c1 : s < m
          · have d1 : (s : Int) < (m : Int) := by omega
            by_cases c2 : m < e
            · have d2 : (m : Int) < (e : Int) := by omega
              obtain rfl : rb = true := by rw [← Hrb.out]; simp [c1, c2]
              clear c1 c2
              go_wp2_with fail
              go_meet
              case rel => exact ⟨rfl, rfl⟩
            · have d2 : ¬ (m : Int) < (e : Int) := by omega
              obtain rfl : rb = false := by rw [← Hrb.out]; simp [c2]
              clear c1 c2
              go_wp2_with fail
              go_meet
              case rel => first | exact ⟨rfl, rfl⟩ | exact ⟨by simp; omega, rfl⟩
          · have d1 : ¬ (s : Int) < (m : Int) := by omega
            obtain rfl : rb = false := by rw [← Hrb.out]; simp [c1]
            clear c1
            go_wp2_with fail
            go_meet
            case rel => first | exact ⟨rfl, rfl⟩ | exact ⟨by simp; omega, rfl⟩
        case rest =>
          obtain ⟨rfl, hwc⟩ := hcut
          have hwc' := hwc.symm
          subst hwc'
          clear hwc
          refine from_KF (by assumption) _ _ ?_
          go_cut [] from 146 to 150 (fun W1 => Hid (∃ d1, BX H blk g lb sf sb W W1 d1 ∧ Rot s m e d d1 ∧ PermIn s e d d1))
          case first =>
            cases rb with
            | true =>
              have HR := rotF_any hL HD.out.1.h s m e (by have := Hrb.out; simp at this; omega) (by have := Hrb.out; simp at this; omega) (by have := HE.out; omega) hs
              have c0 := HD.out.1.c0
              have c1 := HD.out.1.c1
              have lg := HD.out.1.lt
              go_wp2_with (go_at_call 135; refine HR.mono ?_; rintro r w5 ⟨rfl, d1, h5, hg5, h6, h7⟩; have H5 : Hid (∃ d1, BX H blk g lb sf sb W w5 d1 ∧ Rot s m e d d1 ∧ PermIn s e d d1) := ⟨d1, HD.out.1.step hL H0.out.1 h5 hg5, h6, h7⟩; clear h5 hg5 h6 h7 HR)
              go_meet
              case rel => exact H5
            | false =>
              have H5 : Hid (∃ d1, BX H blk g lb sf sb W wR d1 ∧ Rot s m e d d1 ∧ PermIn s e d d1) := ⟨d, HD.out.1, Rot.none (by have := Hrb.out; simp at this; have := HE.out; omega) (by have := HE.out; omega) (by have := HE.out; omega), permIn_refl _ _ _⟩
              go_wp2_with fail
              go_meet
              case rel => exact H5
          case rest =>
            obtain ⟨w_a, hw_a⟩ : ∃ w_a, w_a = wc := ⟨_, rfl⟩
            subst hw_a
            obtain ⟨d1, hd1, hr1, hp1⟩ := hcut.out
            have hz1 := hp1.1
            have h9 := HB.out.2.2.2.2.2.2
            have h8 := HE.out
            have h7 := HB.out.2.2.2.2.1
            have hdz := HZ.out
            have hS0 : if mid < m then mid + m ≤ s + b ∧ s ≤ mid else a ≤ s ∧ s ≤ m := by
              by_cases q : mid < m
              · rw [if_pos q] at h9 ⊢; omega
              · rw [if_neg q] at h9 ⊢; omega
            have hLow : (if mid < m then s + b = mid + m else s = a) ∨ lt d[e]! d[s - 1]! = false := by
              rcases HD.out.2.1 with h | h
              · left
                by_cases q : mid < m
                · rw [if_pos q] at h9 ⊢; omega
                · rw [if_neg q] at h9 ⊢; omega
              · right
                rw [h8.1]
                exact h
            have hHigh : (if mid < m then s = mid else s = m) ∨ lt d[e - 1]! d[s]! = true := by
              rcases HD.out.2.2 with h | h
              · left
                by_cases q : mid < m
                · rw [if_pos q] at h9 ⊢; omega
                · rw [if_neg q] at h9 ⊢; omega
              · right
                rw [show e - 1 = n - 1 - s by omega]
                exact h
            obtain ⟨hsy, g1, g2, g3, g4, g5, g6⟩ := sym_of hS (d := d) (d' := d1) (a := a) (m := m) (b := b) (mid := mid) (s := s) (e := e) (by have := HB.out; omega) HB.out.2.2.2.1 (by omega) HA.out.1 HA.out.2.1 HA.out.2.2 hS0 hLow hHigh hr1
            have HP1 : Hid (BX H blk g lb sf sb W w_a d1 ∧ Sym lt ix a m b mid s e d d1 ∧ PermIn a b d d1 ∧ d1.size = d.size ∧ a ≤ s ∧ s ≤ mid ∧ mid ≤ e ∧ e ≤ b) := ⟨hd1, hsy, permIn_mono _ _ _ _ _ _ g1 g6 (by have := HB.out; omega) hp1, hz1, g1, g2, g4, g6⟩
            clear hcut hd1 hr1 hp1 hz1 hsy g1 g2 g3 g4 g5 g6 h9 h8 h7 hS0 hLow hHigh hdz
            obtain ⟨lb2, hlb2⟩ : ∃ lb2, decide (a < s ∧ s < mid) = lb2 := ⟨_, rfl⟩
            have Hlb2 : Hid (decide (a < s ∧ s < mid) = lb2) := hlb2
            clear hlb2
            go_upto_region 42 with fail
            go_cut [158] from 151 to 158 (fun v W => v = .bool lb2 ∧ W = w_a)
            case first =>
              by_cases c1 : a < s
              · have d1 : (a : Int) < (s : Int) := by omega
                by_cases c2 : s < mid
                · have d2 : (s : Int) < (mid : Int) := by omega
                  obtain rfl : lb2 = true := by rw [← Hlb2.out]; simp [c1, c2]
                  clear c1 c2
                  go_wp2_with fail
                  go_meet
                  case rel => exact ⟨rfl, rfl⟩
                · have d2 : ¬ (s : Int) < (mid : Int) := by omega
                  obtain rfl : lb2 = false := by rw [← Hlb2.out]; simp [c2]
                  clear c1 c2
                  go_wp2_with fail
                  go_meet
                  case rel => first | exact ⟨rfl, rfl⟩ | exact ⟨by simp; omega, rfl⟩
              · have d1 : ¬ (a : Int) < (s : Int) := by omega
                obtain rfl : lb2 = false := by rw [← Hlb2.out]; simp [c1]
                clear c1
                go_wp2_with fail
                go_meet
                case rel => first | exact ⟨rfl, rfl⟩ | exact ⟨by simp; omega, rfl⟩
            case rest =>
              obtain ⟨rfl, hwc⟩ := hcut
              have hwc' := hwc.symm
              subst hwc'
              clear hwc
              refine from_KF (by assumption) _ _ ?_
              go_cut [] from 159 to 163 (fun W1 => Hid (∃ d2, BX H blk g lb sf sb W W1 d2 ∧ PermIn a mid d1 d2 ∧ Asc lt ix a mid d2))
              case first =>
                cases lb2 with
                | true =>
                  have HR := hrec w_a d1 a s mid (by have := HP1.out; have := HB.out; have := Hlb2.out; simp at this; omega) HP1.out.1.h (by have := Hlb2.out; simp at this; omega) (by have := Hlb2.out; simp at this; omega) (by have := HP1.out; have := HB.out; omega) HP1.out.2.1.lo1 HP1.out.2.1.lo2 HP1.out.2.1.loc
                  have c0 := HP1.out.1.c0
                  have c1 := HP1.out.1.c1
                  have lg := HP1.out.1.lt
                  go_wp2_with (go_at_call 112; refine HR.mono ?_; rintro r w5 ⟨rfl, d2, h5, hg5, h6, h7⟩; have H5 : Hid (∃ d2, BX H blk g lb sf sb W w5 d2 ∧ PermIn a mid d1 d2 ∧ Asc lt ix a mid d2) := ⟨d2, HP1.out.1.step hL H0.out.1 h5 hg5, h7, h6⟩; clear h5 hg5 h6 h7 HR)
                  go_meet
                  case rel => exact H5
                | false =>
                  have H5 : Hid (∃ d2, BX H blk g lb sf sb W w_a d2 ∧ PermIn a mid d1 d2 ∧ Asc lt ix a mid d2) := ⟨d1, HP1.out.1, permIn_refl _ _ _, by
                    have h9 := Hlb2.out
                    simp at h9
                    have := HP1.out.2.2.2.2
                    by_cases q : a < s
                    · rw [show mid = s by omega]; exact HP1.out.2.1.lo1
                    · have q2 : s = a := by omega
                      have := HP1.out.2.1.lo2
                      rw [q2] at this
                      exact this⟩
                  go_wp2_with fail
                  go_meet
                  case rel => exact H5
              case rest =>
                obtain ⟨w_b, hw_b⟩ : ∃ w_b, w_b = wc := ⟨_, rfl⟩
                subst hw_b
                obtain ⟨d2, hd2, hp2, ha2⟩ := hcut.out
                have HP2 : Hid (BX H blk g lb sf sb W w_b d2 ∧ PermIn a mid d1 d2 ∧ Asc lt ix a mid d2 ∧ d2.size = d.size) := ⟨hd2, hp2, ha2, hp2.1.trans HP1.out.2.2.2.1⟩
                have hup : ∀ p, mid ≤ p → d2[p]! = d1[p]! := fun p hp => hp2.2.1 p (.inr hp)
                have HU : Hid (Asc lt ix mid e d2 ∧ Asc lt ix e b d2 ∧ Cross ix mid e b d2) := ⟨fun p q h1 h2 h3 => by rw [hup p h1, hup q (by omega)]; exact HP1.out.2.1.hi1 p q h1 h2 h3, fun p q h1 h2 h3 => by rw [hup p (by have := HP1.out; omega), hup q (by have := HP1.out; omega)]; exact HP1.out.2.1.hi2 p q h1 h2 h3, fun p q h1 h2 h3 h4 => by rw [hup p h1, hup q (by have := HP1.out; omega)]; exact HP1.out.2.1.hic p q h1 h2 h3 h4⟩
                clear hcut hd2 hp2 ha2 hup
                obtain ⟨ub2, hub2⟩ : ∃ ub2, decide (mid < e ∧ e < b) = ub2 := ⟨_, rfl⟩
                have Hub2 : Hid (decide (mid < e ∧ e < b) = ub2) := hub2
                clear hub2
                go_upto_region 44 with fail
                go_cut [171] from 164 to 171 (fun v W => v = .bool ub2 ∧ W = w_b)
                case first =>
                  by_cases c1 : mid < e
                  · have d1 : (mid : Int) < (e : Int) := by omega
                    by_cases c2 : e < b
                    · have d2 : (e : Int) < (b : Int) := by omega
                      obtain rfl : ub2 = true := by rw [← Hub2.out]; simp [c1, c2]
                      clear c1 c2
                      go_wp2_with fail
                      go_meet
                      case rel => exact ⟨rfl, rfl⟩
                    · have d2 : ¬ (e : Int) < (b : Int) := by omega
                      obtain rfl : ub2 = false := by rw [← Hub2.out]; simp [c2]
                      clear c1 c2
                      go_wp2_with fail
                      go_meet
                      case rel => first | exact ⟨rfl, rfl⟩ | exact ⟨by simp; omega, rfl⟩
                  · have d1 : ¬ (mid : Int) < (e : Int) := by omega
                    obtain rfl : ub2 = false := by rw [← Hub2.out]; simp [c1]
                    clear c1
                    go_wp2_with fail
                    go_meet
                    case rel => first | exact ⟨rfl, rfl⟩ | exact ⟨by simp; omega, rfl⟩
                case rest =>
                  obtain ⟨rfl, hwc⟩ := hcut
                  have hwc' := hwc.symm
                  subst hwc'
                  clear hwc
                  refine from_KF (by assumption) _ _ ?_
                  have HF : Hid (∀ W3 d3, BX H blk g lb sf sb W W3 d3 → PermIn mid b d2 d3 → Asc lt ix mid b d3 → ∃ d', H W3 d' ∧ W.grownBy W3 (some blk) ∧ Asc lt ix a b d' ∧ PermIn a b d d') := fun W3 d3 h1 h2 h3 => by
                    have := HP1.out
                    have := HB.out
                    have := HZ.out
                    have hbs : b ≤ d1.size := by omega
                    have hj := asc_join HP2.out.2.1 h2 hbs (by omega) HP2.out.2.2.1 h3 HP1.out.2.1.mix
                    refine ⟨d3, h1.h, h1.gr, hj, permIn_trans _ _ _ _ _ HP1.out.2.2.1 (permIn_trans _ _ _ _ _ (permIn_mono _ _ _ _ _ _ (Nat.le_refl _) (by omega) (by omega) HP2.out.2.1) (permIn_mono _ _ _ _ _ _ (by omega) (Nat.le_refl _) (by have := HP2.out.2.2.2; omega) h2))⟩
                  cases ub2 with
                  | true =>
                    have HR := hrec w_b d2 mid e b (by have := HP1.out; have := HB.out; have := Hub2.out; simp at this; omega) HP2.out.1.h (by have := Hub2.out; simp at this; omega) (by have := Hub2.out; simp at this; omega) (by have := HP2.out; have := HB.out; omega) HU.out.1 HU.out.2.1 HU.out.2.2
                    have c0 := HP2.out.1.c0
                    have c1 := HP2.out.1.c1
                    have lg := HP2.out.1.lt
                    go_wp2_with (go_at_call 112; refine HR.mono ?_; rintro r w5 ⟨rfl, d3, h5, hg5, h6, h7⟩; have H5 : Hid (∃ d', H w5 d' ∧ W.grownBy w5 (some blk) ∧ Asc lt ix a b d' ∧ PermIn a b d d') := HF.out _ d3 (HP2.out.1.step hL H0.out.1 h5 hg5) h7 h6; clear h5 hg5 h6 h7 HR)
                    go_end0
                    exact ⟨rfl, H5.out⟩
                  | false =>
                    have H5 : Hid (∃ d', H w_b d' ∧ W.grownBy w_b (some blk) ∧ Asc lt ix a b d' ∧ PermIn a b d d') := HF.out _ d2 HP2.out.1 (permIn_refl _ _ _) (by
                      have h9 := Hub2.out
                      simp at h9
                      have := HP1.out.2.2.2.2
                      by_cases q : mid < e
                      · have q2 : e = b := by omega
                        have := HU.out.1
                        rw [q2] at this
                        exact this
                      · have q2 : e = mid := by omega
                        have := HU.out.2.1
                        rw [q2] at this
                        exact this)
                    go_wp2_with fail
                    go_end0
                    exact ⟨rfl, H5.out⟩

theorem symF_any {H : World → Array α → Prop} {lt : α → α → Bool} {ix : α → Nat} {N blk g sf : Nat} {lb sb : Array Value} (hS : SWO lt) (hL : LSw H lt N blk g lb sf sb) (hs : N ≤ 4194304) : ∀ (k : Nat) (W : World) (d : Array α) (a m b : Nat), b - a ≤ k → H W d → a < m → m < b → b ≤ N → Asc lt ix a m d → Asc lt ix m b d → Cross ix a m b d →
    Calls Tryz.prog 112 #[.agg #[.func (.func g) #[] lb, .func (.func sf) #[] sb], .int .i64 (a : Int), .int .i64 (m : Int), .int .i64 (b : Int)] W fun r W' => r = .returned (.tuple #[]) ∧ ∃ d', H W' d' ∧ W.grownBy W' (some blk) ∧ Asc lt ix a b d' ∧ PermIn a b d d'
  | 0, W, d, a, m, b, hk, _, h1, h2, _, _, _, _ => by omega
  | k + 1, W, d, a, m, b, hk, hd, h1, h2, hb, hA, hA2, hX => by
    by_cases c1 : m = a + 1
    · exact symAF_any hS hL hd a m b c1 h2 hb hs hA2 hX
    by_cases c2 : b = m + 1
    · exact symBF_any hS hL hd a m b (by omega) c2 hb hs hA hX
    exact symCF_any hS hL hd a m b (by omega) (by omega) hb hs hA hA2 hX (fun W' d' a' m' b' q1 q2 q4 q5 q6 q7 q8 q9 => symF_any hS hL hs k W' d' a' m' b' (by omega) q2 q4 q5 q6 q7 q8 q9)
end Go.Proofs.YtccoobcggbbciaiGreatDoor.Stab
