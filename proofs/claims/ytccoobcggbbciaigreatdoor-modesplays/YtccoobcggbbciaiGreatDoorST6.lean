import Derived.Test.YtccoobcggbbciaiGreatDoorST2
import Derived.Test.YtccoobcggbbciaiGreatDoorST4
namespace Go.Proofs.YtccoobcggbbciaiGreatDoor.Stab
open Go.Sort (swp swp_get swp_size SWO SWO.asymmA PermIn permIn_refl permIn_trans permIn_mono permIn_all swp_permIn)

/- Blocks. -/
theorem blk_mul {bs a : Nat} (ha : a % bs = 0) : a / bs * bs = a := by
  have := Nat.div_add_mod a bs
  rw [ha, Nat.add_zero, Nat.mul_comm] at this
  exact this
theorem blk_lt {bs a p : Nat} (h0 : 0 < bs) (ha : a % bs = 0) (hp : p < a) : p / bs < a / bs := by
  rw [Nat.div_lt_iff_lt_mul h0, blk_mul ha]
  exact hp
theorem blk_eq {bs a p : Nat} (h0 : 0 < bs) (ha : a % bs = 0) (h1 : a ≤ p) (h2 : p < a + bs) : p / bs = a / bs := by
  have h3 : a / bs ≤ p / bs := Nat.div_le_div_right h1
  have h4 : p / bs < a / bs + 1 := by
    rw [Nat.div_lt_iff_lt_mul h0, Nat.add_mul, blk_mul ha, Nat.one_mul]
    exact h2
  omega
theorem blk_next {bs a : Nat} (ha : a % bs = 0) : (a + bs) % bs = 0 := by rw [Nat.add_mod_right]; exact ha
theorem blk_half {bs a : Nat} (ha : a % (2 * bs) = 0) : a % bs = 0 := Nat.mod_eq_zero_of_dvd (Nat.dvd_trans (Nat.dvd_mul_left bs 2) (Nat.dvd_of_mod_eq_zero ha))

def SBk (lt : Nat → Nat → Bool) (bs n : Nat) (d : Array Nat) : Prop := ∀ p q, p < q → q < n → p / bs = q / bs → Bef lt id d[p]! d[q]!
def Bk (bs n : Nat) (d : Array Nat) : Prop := ∀ p, p < n → d[p]! / bs = p / bs
theorem grow_sorted {lt : Nat → Nat → Bool} {bs a b : Nat} {d1 d2 : Array Nat} (h0 : 0 < bs) (ha : a % bs = 0) (h1 : SBk lt bs a d1) (hP : PermIn a b d1 d2) (hA : Asc lt id a b d2) : SBk lt bs b d2 := by
  intro p q h2 h3 h4
  by_cases c : q < a
  · rw [hP.2.1 p (.inl (by omega)), hP.2.1 q (.inl c)]
    exact h1 p q h2 c h4
  · by_cases c2 : p < a
    · have h5 := blk_lt h0 ha c2
      have h6 : a / bs ≤ q / bs := Nat.div_le_div_right (by omega)
      omega
    · exact hA p q (by omega) h2 h3
theorem bk_perm {bs a b n : Nat} {d1 d2 : Array Nat} (h : Bk bs n d1) (hP : PermIn a b d1 d2) (hb : b ≤ n) (hn : n ≤ d1.size) (hblk : ∀ p, a ≤ p → p < b → p / bs = a / bs) : Bk bs n d2 := by
  intro p hp
  by_cases c : a ≤ p ∧ p < b
  · rw [hblk p c.1 c.2]
    exact permIn_all d1 d2 a b (fun x => x / bs = a / bs) (by omega) hP (fun i h1 h2 => by rw [h i (by omega)]; exact hblk i h1 h2) p c.1 c.2
  · rw [hP.2.1 p (by omega)]
    exact h p hp
theorem bk_cross {bs a m b n : Nat} {d : Array Nat} (h0 : 0 < bs) (h : Bk bs n d) (hm : m % bs = 0) (hb : b ≤ n) : Cross id a m b d := by
  intro p q h1 h2 h3 h4
  have h5 := h p (by omega)
  have h6 := h q (by omega)
  have h7 := blk_lt h0 hm h2
  have h8 : m / bs ≤ q / bs := Nat.div_le_div_right h3
  show d[p]! < d[q]!
  by_cases c : d[p]! < d[q]!
  · exact c
  · have h9 : d[q]! / bs ≤ d[p]! / bs := Nat.div_le_div_right (by omega)
    omega
theorem bk_double {bs n : Nat} {d : Array Nat} (h : Bk bs n d) : Bk (2 * bs) n d := by
  intro p hp
  rw [Nat.mul_comm 2 bs, ← Nat.div_div_eq_div_mul, ← Nat.div_div_eq_div_mul, h p hp]
theorem sbk_asc {lt : Nat → Nat → Bool} {bs n a b : Nat} {d : Array Nat} (h0 : 0 < bs) (h : SBk lt bs n d) (ha : a % bs = 0) (h1 : b ≤ a + bs) (h2 : b ≤ n) : Asc lt id a b d := fun p q h3 h4 h5 => h p q h4 (by omega) ((blk_eq h0 ha h3 (by omega)).trans (blk_eq h0 ha (by omega) (by omega)).symm)

end Go.Proofs.YtccoobcggbbciaiGreatDoor.Stab
namespace Go.Proofs.YtccoobcggbbciaiGreatDoor.Stab
open Go.ChangeShapes Go.WideShapes Go.ChangeAt Go.RowKit Go.Shelf
open Go.Sort (swp swp_get swp_size SWO SWO.asymmA PermIn permIn_refl permIn_trans permIn_mono permIn_all swp_permIn)

set_option maxRecDepth 20000 in
set_option maxHeartbeats 8000000 in
theorem insF_any {α : Type} [Inhabited α] {H : World → Array α → Prop} {lt : α → α → Bool} {ix : α → Nat} {N blk g sf : Nat} {lb sb : Array Value} (hS : SWO lt) (hL : LSw H lt N blk g lb sf sb) {W : World} {d : Array α} (h : H W d) (a b : Nat) (hab : a ≤ b) (hb : b ≤ N) (hs : N ≤ 4194304) (hX : ∀ p q, a ≤ p → p < q → q < b → ix d[p]! < ix d[q]!) :
    Calls Tryz.prog 111 #[.agg #[.func (.func g) #[] lb, .func (.func sf) #[] sb], .int .i64 (a : Int), .int .i64 (b : Int)] W fun r W' => r = .returned (.tuple #[]) ∧ ∃ d', H W' d' ∧ W.grownBy W' (some blk) ∧ Asc lt ix a b d' ∧ PermIn a b d d' := by
  have eg := hL.eg
  have H0 : Hid (H W d ∧ BX H blk g lb sf sb W (W.alloc (.cells #[.func (.func g) #[] lb, .func (.func sf) #[] sb] 115)) d) := ⟨h, BX.start hL h⟩
  have HX0 : Hid ((∀ p q, a ≤ p → p < q → q < b → ix d[p]! < ix d[q]!) ∧ a ≤ b ∧ b ≤ N ∧ d.size = N) := ⟨hX, hab, hb, hL.size _ _ h⟩
  obtain ⟨i0, hi0⟩ : ∃ i0, i0 = a + 1 := ⟨_, rfl⟩
  have x0 : (a : Int) + 1 = (i0 : Int) := by omega
  have x1 : IntKind.i64.wrap (i0 : Int) = (i0 : Int) := wrapN (by omega)
  have HI : Hid (i0 = a + 1) := hi0
  clear h hX hab hb hi0
  go_enter Tryz.func111, Tryz.ntmps111
  go_wp2_with fail
  clear x0 x1
  go_loopw [6] (fun iv wr => ∃ (i : Nat) (d1 : Array α), a + 1 ≤ i ∧ (i ≤ b ∨ (i = a + 1 ∧ d1 = d)) ∧ iv = .int .i64 (i : Int) ∧ BX H blk g lb sf sb W wr d1 ∧ Asc lt ix a i d1 ∧ PermIn a i d d1) (fun iv _ => b - (intOf iv).toNat)
  case atStart => exact ⟨i0, d, by have := HI.out; omega, .inr ⟨HI.out, rfl⟩, rfl, H0.out.2, fun p q h1 h2 h3 => by have := HI.out; omega, permIn_refl _ _ _⟩
  case round =>
    obtain ⟨i, d1, hai, hib, rfl, hd, hA, hp⟩ := hrel
    generalize wr = wR at *
    have HD : Hid (BX H blk g lb sf sb W wR d1 ∧ Asc lt ix a i d1 ∧ PermIn a i d d1 ∧ a + 1 ≤ i ∧ (i ≤ b ∨ (i = a + 1 ∧ d1 = d))) := ⟨hd, hA, hp, hai, hib⟩
    clear hA hai hib
    have hz := hp.1
    by_cases hlt : i < b
    rotate_left 1
    · have hji : ¬ (i : Int) < (b : Int) := by omega
      clear hd hp hlt
      go_wp2_with fail
      go_end0
      obtain ⟨q1, q2, q3, q4, q5⟩ := HD.out
      have := HX0.out.2
      refine ⟨rfl, d1, q1.h, q1.gr, fun p q h1 h2 h3 => ?_, ?_⟩
      · rcases q5 with h | ⟨h, -⟩
        · exact q2 p q h1 h2 (by omega)
        · omega
      · by_cases c : i = b
        · rw [← c]; exact q3
        · rcases q5 with h | ⟨-, h⟩
          · omega
          · rw [h]; exact permIn_refl _ _ _
    · have hji : (i : Int) < (b : Int) := by omega
      have hbs := HX0.out
      have HIN : Hid (InsB lt ix a i i d1 ∧ PermIn a (i + 1) d d1) := ⟨InsB.start HD.out.2.1 (fun p h1 h2 => by
        have e1 : d1[i]! = d[i]! := hp.2.1 i (.inr (Nat.le_refl _))
        rw [e1]
        exact permIn_all d d1 a i (fun x => ix x < ix d[i]!) (by omega) hp (fun q h3 h4 => hbs.1 q i h3 h4 hlt) p h1 h2), permIn_mono _ _ _ _ _ _ (Nat.le_refl _) (by omega) (by omega) hp⟩
      have HL : Hid (i < b ∧ a < i ∧ b ≤ N ∧ d.size = N) := ⟨hlt, HD.out.2.2.2.1, hbs.2.2⟩
      obtain ⟨i1, hi1⟩ : ∃ i1, i1 = i + 1 := ⟨_, rfl⟩
      have z0 : (i : Int) + 1 = (i1 : Int) := by omega
      have z1 : IntKind.i64.wrap (i1 : Int) = (i1 : Int) := wrapN (by omega)
      have HI1 : Hid (i1 = i + 1) := hi1
      clear hd hp hlt hbs hz hi1
      go_wp2_with fail
      go_loopw [7] (fun jv wr => ∃ (j : Nat) (d2 : Array α), a ≤ j ∧ j ≤ i ∧ jv = .int .i64 (j : Int) ∧ BX H blk g lb sf sb W wr d2 ∧ InsB lt ix a j i d2 ∧ PermIn a (i + 1) d d2) (fun jv _ => (intOf jv).toNat)
      case atStart => exact ⟨i, d1, by have := HL.out; omega, Nat.le_refl _, rfl, HD.out.1, HIN.out⟩
      case round =>
        obtain ⟨p, d2, hap, hpi, rfl, hd, hin, hp⟩ := hrel
        have hz := hp.1
        have HR : Hid (BX H blk g lb sf sb W wr d2 ∧ InsB lt ix a p i d2 ∧ PermIn a (i + 1) d d2 ∧ a ≤ p ∧ p ≤ i) := ⟨hd, hin, hp, hap, hpi⟩
        have hl := HL.out
        have c0 := hd.c0
        have lg := hd.lt
        by_cases hlt : a < p
        · obtain ⟨q, hqe⟩ : ∃ q, q = p - 1 := ⟨_, rfl⟩
          have hpq : p = q + 1 := by omega
          have HCm := hL.less wr d2 hd.h p q (by omega) (by omega)
          have HP : Hid (p = q + 1 ∧ a < p) := ⟨hpq, hlt⟩
          have e0 : (p : Int) - 1 = (q : Int) := by omega
          have e1 : (a : Int) < (p : Int) := by omega
          have e8 : IntKind.i64.wrap (q : Int) = (q : Int) := wrapN (by omega)
          clear hd hin hp hap hpi hz hl hlt hqe hpq
          cases hzb : lt d2[p]! d2[q]! with
          | true =>
            rw [hzb] at HCm
            have HZB : Hid (lt d2[p]! d2[q]! = true) := hzb
            clear hzb
            go_wp2_with (go_at_fn g; refine HCm.mono ?_; rintro r w5 ⟨rfl, h5, hg5⟩; have H5 : Hid (BX H blk g lb sf sb W w5 d2) := HR.out.1.step hL H0.out.1 h5 hg5; have c51 := H5.out.c1; have lg5 := H5.out.lt; clear h5 hg5 HCm)
            obtain ⟨W2, hrun, hH2, hg2⟩ := hL.swap w5 d2 H5.out.h p q (by have := HL.out; have := HR.out.2.2.2; omega) (by have := HL.out; have := HR.out.2.2.2; have := HP.out; omega)
            have HN : Hid (BX H blk g lb sf sb W W2 (swp d2 p q) ∧ InsB lt ix a q i (swp d2 p q) ∧ PermIn a (i + 1) d (swp d2 p q)) := by
              have h2 := HR.out.2.1
              have hsz := HR.out.2.2.1.1
              have h3 := HL.out
              have h4 := HP.out
              have h5 := HR.out.2.2.2
              refine ⟨H5.out.step hL H0.out.1 hH2 hg2, ?_, permIn_trans _ _ _ _ _ HR.out.2.2.1 (swp_permIn _ _ _ _ _ (by omega) (by omega) (by omega) (by omega) (by omega))⟩
              rw [h4.1]
              rw [h4.1] at h2
              refine h2.step ?_ (by omega) (by omega) (by omega)
              have h6 := HZB.out
              rw [h4.1] at h6
              exact h6
            have HRN : Hid (_ = _) := hrun
            clear hrun hH2 hg2
            rw [HRN.out, Oper.upon_value]
            go_wp2_with fail
            have h4 := HP.out
            exact ⟨⟨q, _, by omega, by have := HR.out; omega, rfl, HN.out⟩, by simp [intOf]; omega⟩
          | false =>
            rw [hzb] at HCm
            have HZB : Hid (lt d2[p]! d2[q]! = false) := hzb
            clear hzb
            go_wp2_with (go_at_fn g; refine HCm.mono ?_; rintro r w5 ⟨rfl, h5, hg5⟩; have H5 : Hid (BX H blk g lb sf sb W w5 d2) := HR.out.1.step hL H0.out.1 h5 hg5; clear h5 hg5 HCm)
            obtain ⟨q1, q2, q3, q4, q5⟩ := HR.out
            have h4 := HP.out
            have h5 := HL.out
            have h6 := HI1.out
            refine ⟨⟨i1, d2, by omega, .inl (by omega), by simp, H5.out, ?_, by rw [h6]; exact q3⟩, by simp [intOf]; omega⟩
            rw [h6]
            refine q2.stop hS (.inr ?_) q5
            rw [show p - 1 = q by omega]
            exact HZB.out
        · have hpa : p = a := by omega
          subst hpa
          have e1 : ¬ (p : Int) < (p : Int) := by omega
          clear hd hin hp hap hpi hz hl hlt
          go_wp2_with fail
          obtain ⟨q1, q2, q3, q4, q5⟩ := HR.out
          have h5 := HL.out
          have h6 := HI1.out
          refine ⟨⟨i1, d2, by omega, .inl (by omega), by simp, q1, ?_, by rw [h6]; exact q3⟩, by simp [intOf]; omega⟩
          rw [h6]
          exact q2.stop hS (.inl (Nat.le_refl _)) q5
end Go.Proofs.YtccoobcggbbciaiGreatDoor.Stab
namespace Go.Proofs.YtccoobcggbbciaiGreatDoor.Stab
open Go.ChangeShapes Go.WideShapes Go.ChangeAt Go.RowKit Go.Shelf
open Go.Sort (swp swp_get swp_size SWO SWO.asymmA PermIn permIn_refl permIn_trans permIn_mono permIn_all swp_permIn)

/-- What holds between two blocks. -/
structure LAF (lt : Nat → Nat → Bool) (P : World → Array Nat → Prop) (W : World) (bs n a : Nat) (d0 d d1 : Array Nat) : Prop where
  sd : P W d1
  mod : a % bs = 0
  le : a ≤ n
  srt : SBk lt bs a d1
  same : ∀ p, a ≤ p → d1[p]! = d[p]!
  bk : Bk bs n d1
  prm : PermIn 0 n d0 d1
theorem LAF.size {lt : Nat → Nat → Bool} {P : World → Array Nat → Prop} {W : World} {bs n a : Nat} {d0 d d1 : Array Nat} (h : LAF lt P W bs n a d0 d d1) : d1.size = d0.size := h.prm.1
theorem LAF.step {lt : Nat → Nat → Bool} {P : World → Array Nat → Prop} {W W' : World} {bs n a b : Nat} {d0 d d1 d2 : Array Nat} (h : LAF lt P W bs n a d0 d d1) (h0 : 0 < bs) (hb : b = a + bs) (hbn : b ≤ n) (hn : n ≤ d0.size) (hd : P W' d2) (hA : Asc lt id a b d2) (hP : PermIn a b d1 d2) : LAF lt P W' bs n b d0 d d2 := by
  subst hb
  exact ⟨hd, blk_next h.mod, hbn, grow_sorted h0 h.mod h.srt hP hA, fun p hp => (hP.2.1 p (.inr hp)).trans (h.same p (by omega)), bk_perm h.bk hP hbn (by rw [h.size]; exact hn) (fun p h1 h2 => blk_eq h0 h.mod h1 h2), permIn_trans _ _ _ _ _ h.prm (permIn_mono _ _ _ _ _ _ (Nat.zero_le _) hbn (by rw [h.size]; exact hn) hP)⟩
/-- What holds between two rounds. -/
structure LBF (lt : Nat → Nat → Bool) (P : World → Array Nat → Prop) (W : World) (bs n : Nat) (d0 d1 : Array Nat) : Prop where
  sd : P W d1
  srt : SBk lt bs n d1
  bk : Bk bs n d1
  prm : PermIn 0 n d0 d1
theorem LAF.last {lt : Nat → Nat → Bool} {P : World → Array Nat → Prop} {W W' : World} {bs n a : Nat} {d0 d d1 d2 : Array Nat} (h : LAF lt P W bs n a d0 d d1) (h0 : 0 < bs) (hbn : n < a + bs) (hn : n ≤ d0.size) (hd : P W' d2) (hA : Asc lt id a n d2) (hP : PermIn a n d1 d2) : LBF lt P W' bs n d0 d2 :=
  ⟨hd, grow_sorted h0 h.mod h.srt hP hA, bk_perm h.bk hP (Nat.le_refl _) (by rw [h.size]; exact hn) (fun p h1 h2 => blk_eq h0 h.mod h1 (by omega)), permIn_trans _ _ _ _ _ h.prm (permIn_mono _ _ _ _ _ _ (Nat.zero_le _) (Nat.le_refl _) (by rw [h.size]; exact hn) hP)⟩
theorem LBF.start {lt : Nat → Nat → Bool} {P : World → Array Nat → Prop} {W : World} {bs n : Nat} {d0 d1 : Array Nat} (h : LBF lt P W bs n d0 d1) : LAF lt P W (2 * bs) n 0 d0 d1 d1 :=
  ⟨h.sd, Nat.zero_mod _, Nat.zero_le _, fun p q _ h2 => by omega, fun p _ => rfl, bk_double h.bk, h.prm⟩
/-- What a merge of two blocks finds. -/
theorem LAF.two {lt : Nat → Nat → Bool} {P : World → Array Nat → Prop} {W1 W : World} {bs n a m b : Nat} {d0 d1 d2 : Array Nat} (h : LAF lt P W (2 * bs) n a d0 d1 d2) (hB : LBF lt P W1 bs n d0 d1) (h0 : 0 < bs) (hm : m = a + bs) (hmb : m ≤ b) (hbm : b ≤ m + bs) (hb : b ≤ n) : Asc lt id a m d2 ∧ Asc lt id m b d2 ∧ Cross id a m b d2 := by
  subst hm
  have hs := h.same
  have ha := blk_half h.mod
  refine ⟨fun p q h1 h2 h3 => ?_, fun p q h1 h2 h3 => ?_, fun p q h1 h2 h3 h4 => ?_⟩
  · rw [hs p h1, hs q (by omega)]
    exact sbk_asc h0 hB.srt ha (Nat.le_refl _) (by omega) p q h1 h2 h3
  · rw [hs p (by omega), hs q (by omega)]
    exact sbk_asc h0 hB.srt (blk_next ha) hbm hb p q h1 h2 h3
  · rw [hs p h1, hs q (by omega)]
    exact bk_cross (a := a) h0 hB.bk (blk_next ha) hb p q h1 h2 h3 h4

set_option maxRecDepth 20000 in
set_option maxHeartbeats 8000000 in
/-- stable: blocks by insertion, then merged. -/
theorem stableF_full {H : World → Array Nat → Prop} {lt : Nat → Nat → Bool} {blk g sf : Nat} {lb sb : Array Value} (n : Nat) (hS : SWO lt) (hL : LSw H lt n blk g lb sf sb) {W : World} {d : Array Nat} (h : H W d) (hs : n ≤ 4000000) (hid : ∀ p, p < n → d[p]! = p) :
    Calls Tryz.prog 65 #[.agg #[.func (.func g) #[] lb, .func (.func sf) #[] sb], .int .i64 (n : Int)] W fun r W' => r = .returned (.tuple #[]) ∧ ∃ d', H W' d' ∧ W.grownBy W' (some blk) ∧ Asc lt id 0 n d' ∧ PermIn 0 n d d' := by
  have hn : n = d.size := (hL.size _ _ h).symm
  have HN : Hid (n = d.size ∧ n ≤ 4000000 ∧ (∀ p, p < n → d[p]! = p) ∧ H W d) := ⟨hn, hs, hid, h⟩
  have H0 : Hid (LAF lt (BX H blk g lb sf sb W) (W.alloc (.cells #[.func (.func g) #[] lb, .func (.func sf) #[] sb] 115)) 20 n 0 d d d) := ⟨BX.start hL h, rfl, Nat.zero_le _, fun p q _ h2 => by omega, fun p _ => rfl, fun p hp => by rw [hid p hp], permIn_refl _ _ _⟩
  clear h hn hid
  go_enter Tryz.func65, Tryz.ntmps65
  go_wp2_with fail
  go_loopw [5, 6] (fun av bv wr => ∃ (a b : Nat) (d1 : Array Nat), b = a + 20 ∧ av = .int .i64 (a : Int) ∧ bv = .int .i64 (b : Int) ∧ Hid (LAF lt (BX H blk g lb sf sb W) wr 20 n a d d d1)) (fun av _ _ => n + 20 - (intOf av).toNat)
  case atStart => exact ⟨0, 20, d, rfl, rfl, rfl, H0⟩
  case round =>
    obtain ⟨a, b, d1, hab, rfl, rfl, HL⟩ := hrel
    clear H0
    have hln := HL.out.le
    have hz : d1.size = n := by rw [HL.out.size]; exact HN.out.1.symm
    by_cases hlt : b ≤ n
    · have HI := insF_any (ix := id) hS hL HL.out.sd.h a b (by omega) (by omega) (by omega) (fun p q h1 h2 h3 => by
        rw [HL.out.same p h1, HL.out.same q (by omega), HN.out.2.2.1 p (by omega), HN.out.2.2.1 q (by omega)]
        exact h2)
      obtain ⟨c, hc⟩ : ∃ c, c = b + 20 := ⟨_, rfl⟩
      have e0 : (b : Int) + 20 = (c : Int) := by omega
      have e1 : IntKind.i64.wrap (c : Int) = (c : Int) := wrapN (by omega)
      have e2 : (b : Int) ≤ (n : Int) := by omega
      have HP : Hid (b = a + 20 ∧ c = b + 20 ∧ b ≤ n) := ⟨hab, hc, hlt⟩
      clear hab hc hlt hln hz
      have c0 := HL.out.sd.c0
      have c1 := HL.out.sd.c1
      have lgb := HL.out.sd.lt
      go_wp2_with (go_at_call 111; refine HI.mono ?_; rintro r w5 ⟨rfl, d2, h5, hg5, h6, h7⟩; have H5 : Hid (LAF lt (BX H blk g lb sf sb W) w5 20 n b d d d2) := HL.out.step (by omega) HP.out.1 HP.out.2.2 (by have := HN.out; omega) (HL.out.sd.step hL HN.out.2.2.2 h5 hg5) h6 h7; clear h5 hg5 h6 h7 HI)
      exact ⟨⟨b, c, d2, HP.out.2.1, by simp, by simp, H5⟩, by have := HP.out; simp [intOf]; omega⟩
    · have HI := insF_any (ix := id) hS hL HL.out.sd.h a n (by omega) (by omega) (by omega) (fun p q h1 h2 h3 => by
        rw [HL.out.same p h1, HL.out.same q (by omega), HN.out.2.2.1 p (by omega), HN.out.2.2.1 q (by omega)]
        exact h2)
      have e2 : ¬ (b : Int) ≤ (n : Int) := by omega
      have HP : Hid (n < a + 20) := by have : n < a + 20 := by omega
                                       exact this
      clear hab hlt hln hz
      have c0 := HL.out.sd.c0
      have c1 := HL.out.sd.c1
      have lgb := HL.out.sd.lt
      go_wp2_with (go_at_call 111; refine HI.mono ?_; rintro r w5 ⟨rfl, d2, h5, hg5, h6, h7⟩; have H5 : Hid (LBF lt (BX H blk g lb sf sb W) w5 20 n d d2) := HL.out.last (by omega) HP.out (by have := HN.out; omega) (HL.out.sd.step hL HN.out.2.2.2 h5 hg5) h6 h7; clear h5 hg5 h6 h7 HI)
      go_loopw [4] (fun sv wr => ∃ (bs : Nat) (d3 : Array Nat), 20 ≤ bs ∧ bs ≤ 8000000 ∧ sv = .int .i64 (bs : Int) ∧ Hid (LBF lt (BX H blk g lb sf sb W) wr bs n d d3)) (fun sv _ => n - (intOf sv).toNat)
      case atStart => exact ⟨20, d2, Nat.le_refl _, by omega, rfl, H5⟩
      case round =>
        obtain ⟨bs, d3, h20, hbs, rfl, HM⟩ := hrel
        generalize wr = wR at *
        clear H5 HL
        by_cases hlt : bs < n
        rotate_left 1
        · have e2 : ¬ (bs : Int) < (n : Int) := by omega
          have HQ : Hid (Asc lt id 0 n d3) := sbk_asc (by omega) HM.out.srt (Nat.zero_mod _) (by omega) (Nat.le_refl _)
          clear hlt
          go_wp2_with fail
          go_end0
          exact ⟨rfl, d3, HM.out.sd.h, HM.out.sd.gr, HQ.out, HM.out.prm⟩
        · obtain ⟨b2, hb2⟩ : ∃ b2, b2 = 2 * bs := ⟨_, rfl⟩
          have e0 : 2 * (bs : Int) = (b2 : Int) := by omega
          have e1 : IntKind.i64.wrap (b2 : Int) = (b2 : Int) := wrapN (by omega)
          have e2 : (bs : Int) < (n : Int) := by omega
          have e3 : (bs : Int) * 2 = (b2 : Int) := by omega
          have HS : Hid (b2 = 2 * bs ∧ 20 ≤ bs ∧ bs < n) := ⟨hb2, h20, hlt⟩
          have HA0 : Hid (LAF lt (BX H blk g lb sf sb W) wR b2 n 0 d d3 d3) := by rw [hb2]; exact HM.out.start
          clear hb2 h20 hbs hlt
          go_wp2_with fail
          go_loopw [5, 6] (fun av bv wr => ∃ (a b : Nat) (d4 : Array Nat), b = a + b2 ∧ av = .int .i64 (a : Int) ∧ bv = .int .i64 (b : Int) ∧ Hid (LAF lt (BX H blk g lb sf sb W) wr b2 n a d d3 d4)) (fun av _ _ => n + b2 - (intOf av).toNat)
          case atStart => exact ⟨0, b2, d3, by omega, rfl, rfl, HA0⟩
          case round =>
            obtain ⟨a, b, d4, hab, rfl, rfl, HL⟩ := hrel
            generalize wr = wS at *
            clear HA0
            have hln := HL.out.le
            have hnn := HN.out
            have hss := HS.out
            have hz : d4.size = n := by rw [HL.out.size]; exact hnn.1.symm
            obtain ⟨m, hm⟩ : ∃ m, m = a + bs := ⟨_, rfl⟩
            have y0 : (a : Int) + (bs : Int) = (m : Int) := by omega
            have y1 : IntKind.i64.wrap (m : Int) = (m : Int) := wrapN (by omega)
            by_cases hlt : b ≤ n
            · have HT := HL.out
              rw [hss.1] at HT
              obtain ⟨t1, t2, t3⟩ := HT.two HM.out (m := m) (b := b) (by omega) hm (by omega) (by omega) hlt
              have HI := symF_any hS hL (by omega) (b - a) wS d4 a m b (Nat.le_refl _) HT.sd.h (by omega) (by omega) (by omega) t1 t2 t3
              obtain ⟨c, hc⟩ : ∃ c, c = b + b2 := ⟨_, rfl⟩
              have y2 : (b : Int) + (b2 : Int) = (c : Int) := by omega
              have y3 : IntKind.i64.wrap (c : Int) = (c : Int) := wrapN (by omega)
              have y4 : (b : Int) ≤ (n : Int) := by omega
              have HP : Hid (b = a + b2 ∧ c = b + b2 ∧ b ≤ n) := ⟨hab, hc, hlt⟩
              clear hab hc hlt hln hz hnn hss hm HT t1 t2 t3
              have c0 := HL.out.sd.c0
              have c1 := HL.out.sd.c1
              have lgb := HL.out.sd.lt
              go_wp2_with (go_at_call 112; refine HI.mono ?_; rintro r w5 ⟨rfl, d5, h5, hg5, h6, h7⟩; have H5 : Hid (LAF lt (BX H blk g lb sf sb W) w5 b2 n b d d3 d5) := HL.out.step (by have := HS.out; omega) HP.out.1 HP.out.2.2 (by have := HN.out; omega) (HL.out.sd.step hL HN.out.2.2.2 h5 hg5) h6 h7; clear h5 hg5 h6 h7 HI)
              exact ⟨⟨b, c, d5, HP.out.2.1, by simp, by simp, H5⟩, by have := HP.out; have := HS.out; simp [intOf]; omega⟩
            · have y4 : ¬ (b : Int) ≤ (n : Int) := by omega
              have HP : Hid (n < a + b2 ∧ 20 ≤ b2 ∧ b2 ≤ 8000000 ∧ n - b2 < n - bs) := ⟨by omega, by omega, by omega, by omega⟩
              by_cases hmn : m < n
              · have HT := HL.out
                rw [hss.1] at HT
                obtain ⟨t1, t2, t3⟩ := HT.two HM.out (m := m) (b := n) (by omega) hm (by omega) (by omega) (Nat.le_refl _)
                have HI := symF_any hS hL (by omega) (n - a) wS d4 a m n (Nat.le_refl _) HT.sd.h (by omega) (by omega) (by omega) t1 t2 t3
                have y5 : (m : Int) < (n : Int) := by omega
                clear hab hlt hln hz hnn hss hm HT t1 t2 t3 hmn
                have c0 := HL.out.sd.c0
                have c1 := HL.out.sd.c1
                have lgb := HL.out.sd.lt
                go_wp2_with (go_at_call 112; refine HI.mono ?_; rintro r w5 ⟨rfl, d5, h5, hg5, h6, h7⟩; have H5 : Hid (LBF lt (BX H blk g lb sf sb W) w5 b2 n d d5) := HL.out.last (by have := HS.out; omega) HP.out.1 (by have := HN.out; omega) (HL.out.sd.step hL HN.out.2.2.2 h5 hg5) h6 h7; clear h5 hg5 h6 h7 HI)
                exact ⟨⟨b2, d5, HP.out.2.1, HP.out.2.2.1, by simp, H5⟩, by have := HP.out; simp [intOf]; omega⟩
              · have y5 : ¬ (m : Int) < (n : Int) := by omega
                have H5 : Hid (LBF lt (BX H blk g lb sf sb W) wS b2 n d d4) := by
                  have HT := HL.out
                  rw [hss.1] at HT
                  refine HL.out.last (by omega) HP.out.1 (by omega) HL.out.sd (fun p q h1 h2 h3 => ?_) (permIn_refl _ _ _)
                  rw [HL.out.same p h1, HL.out.same q (by omega)]
                  exact sbk_asc (by omega) HM.out.srt (blk_half HT.mod) (by omega) (Nat.le_refl _) p q h1 h2 h3
                clear hab hlt hln hz hnn hss hm hmn
                go_wp2_with fail
                exact ⟨⟨b2, d4, HP.out.2.1, HP.out.2.2.1, by simp, H5⟩, by have := HP.out; simp [intOf]; omega⟩
end Go.Proofs.YtccoobcggbbciaiGreatDoor.Stab
