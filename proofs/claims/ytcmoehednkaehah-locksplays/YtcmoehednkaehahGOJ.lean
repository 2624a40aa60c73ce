import Derived.Test.YtcmoehednkaehahGOH
namespace Go.Proofs.Ytcmoehednkaehah
open Go.ChangeShapes Go.WideShapes Go.ChangeAt Go.RowKit

/-- One that may go first. -/
def Elig (x : Rs) (now : Int) (i : Nat) : Prop := ∃ e, x.es[i]? = some e ∧ x.en[i]? = some (-1) ∧ e.x.a ≤ now ∧ e.wt = -1
/-- One goes ahead of another. -/
def bf (e : En) (i : Nat) (g : En) (k : Nat) : Prop := g.ac < e.ac ∨ (e.ac = g.ac ∧ (ltr e.bg < ltr g.bg ∨ (ltr e.bg = ltr g.bg ∧ (e.x.a < g.x.a ∨ (e.x.a = g.x.a ∧ i < k)))))
def bfR (x : Rs) (i j : Nat) : Prop := ∀ e g, x.es[i]? = some e → x.es[j]? = some g → bf e i g j
/-- The one that goes first of those ahead of a place. -/
def Best (x : Rs) (now : Int) (k : Nat) (f : Int) : Prop := (f = -1 ∧ ∀ i, i < k → ¬ Elig x now i) ∨ ∃ i : Nat, i < k ∧ f = (i : Int) ∧ Elig x now i ∧ ∀ j, j < k → j ≠ i → Elig x now j → bfR x i j

theorem bf_trans {e g h : En} {i j k : Nat} (h1 : bf e i g j) (h2 : bf g j h k) : bf e i h k := by unfold bf at *; omega

theorem Best.zero (x : Rs) (now : Int) : Best x now 0 (-1) := .inl ⟨rfl, fun _ h => by omega⟩
theorem Best.skip {x : Rs} {now f : Int} {k : Nat} (h : Best x now k f) (hk : ¬ Elig x now k) : Best x now (k + 1) f := by
  rcases h with ⟨h1, h2⟩ | ⟨i, h1, h2, h3, h4⟩
  · refine .inl ⟨h1, fun i hi => ?_⟩
    by_cases e : i = k
    · subst e; exact hk
    · exact h2 i (by omega)
  · refine .inr ⟨i, by omega, h2, h3, fun j hj hne he => ?_⟩
    by_cases e : j = k
    · subst e; exact absurd he hk
    · exact h4 j (by omega) hne he
theorem Best.first {x : Rs} {now : Int} {k : Nat} (h : Best x now k (-1)) (hk : Elig x now k) : Best x now (k + 1) k := by
  rcases h with ⟨-, h2⟩ | ⟨i, -, h2, -⟩
  · refine .inr ⟨k, by omega, rfl, hk, fun j hj hne he => absurd he (h2 j (by omega))⟩
  · omega
theorem Best.win {x : Rs} {now : Int} {k i : Nat} (h : Best x now k i) (hk : Elig x now k) (hb : bfR x k i) : Best x now (k + 1) k := by
  rcases h with ⟨h1, -⟩ | ⟨i', h1, h2, h3, h4⟩
  · omega
  · obtain rfl : i = i' := by omega
    refine .inr ⟨k, by omega, rfl, hk, fun j hj hne he => ?_⟩
    by_cases e : j = i
    · subst e; exact hb
    · obtain ⟨g, hg, -⟩ := h3
      exact fun a b ha hb' => bf_trans (hb a g ha hg) (h4 j (by omega) e he g b hg hb')
theorem Best.keep {x : Rs} {now : Int} {k i : Nat} (h : Best x now k i) (hb : bfR x i k) : Best x now (k + 1) i := by
  rcases h with ⟨h1, -⟩ | ⟨i', h1, h2, h3, h4⟩
  · omega
  · obtain rfl : i = i' := by omega
    refine .inr ⟨i, by omega, rfl, h3, fun j hj hne he => ?_⟩
    by_cases e : j = k
    · subst e; exact hb
    · exact h4 j (by omega) hne he

theorem or3_lt (xa xv ya yv : Int) (xb yb : Bool) : or3 (cmpI yv xv) (ltr xb - ltr yb) (cmpI xa ya) < 0 ↔ (yv < xv ∨ (xv = yv ∧ (ltr xb < ltr yb ∨ (ltr xb = ltr yb ∧ xa < ya)))) := by
  unfold or3 cmpI
  split <;> split <;> (try split) <;> (try split) <;> omega

set_option maxRecDepth 20000 in
set_option maxHeartbeats 4000000 in
/-- The one that goes first. -/
theorem foremost_any (w0 w : World) (A : Ad) (pr : Int) (tp : List Int) (n : Nat) (rv : Value) (x : Rs) (now : Int) (hn : n ≤ 100)
    (HRaise : Calls Try.prog 39 #[.pointer (some ⟨A.R, 0, none⟩)] w fun r w' => r = .returned (.tuple #[]) ∧ RunW w0 w' A pr tp n rv x) :
    Calls Try.prog 34 #[.pointer (some ⟨A.R, 0, none⟩), .int .i64 now] w fun r w' => ∃ f, r = .returned (.int .i64 f) ∧ Best x now n f ∧ RunW w0 w' A pr tp n rv x := by
  go_enter Try.func34, Try.ntmps34
  go_wp2_with (go_at_call 39; refine HRaise.mono ?_; rintro r w1 ⟨rfl, h1⟩; obtain ⟨-, -, -, c4, -, -⟩ := h1.own; have H1 : Hid (RunW w0 w1 A pr tp n rv x) := h1; clear h1 HRaise)
  go_loopw [5, 15] (fun f i wr => ∃ (k : Nat) (z : Int), k ≤ n ∧ f = .int .i64 z ∧ i = .int .i64 k ∧ RunW w0 wr A pr tp n rv x ∧ Best x now k z) (fun _ i _ => n - (intOf i).toNat)
  case atStart => exact ⟨0, -1, Nat.zero_le _, rfl, rfl, H1.out, Best.zero _ _⟩
  case round =>
    obtain ⟨k, z, hk, rfl, rfl, hr, hb⟩ := hrel
    by_cases hlt : k < n
    · obtain ⟨e, he⟩ := at_lt hr.ln.1 hlt
      obtain ⟨d, hd⟩ := at_lt hr.ln.2.1 hlt
      obtain ⟨j0, -, -, -, -, j5, j6, j7⟩ := hr.job he
      obtain ⟨-, d1, -, d4, -, -⟩ := hr.own
      have hdc := hr.ends hd
      have hki : (k : Int) < (n : Int) := by omega
      have HDone := done_any wr A.R A.E n n k d hlt d1 hdc
      by_cases ha : now < e.x.a
      · have HB : Hid (RunW w0 wr A pr tp n rv x ∧ Best x now (k + 1) z) := ⟨hr, hb.skip (by rintro ⟨e', h1, -, h2, -⟩; rw [he] at h1; cases h1; omega)⟩
        clear hr hb he hd HDone
        go_wp2_with fail
        exact ⟨⟨k + 1, z, by omega, rfl, by simp, HB.out.1, HB.out.2⟩, by simp [intOf]; omega⟩
      · by_cases hdn : d = -1
        · subst hdn
          by_cases hw : e.wt = -1
          · have hel : Elig x now k := ⟨e, he, hd, by omega, hw⟩
            rw [hw] at j6
            by_cases hz : z = -1
            · subst hz
              have HB : Hid (RunW w0 wr A pr tp n rv x ∧ Best x now (k + 1) k) := ⟨hr, hb.first hel⟩
              clear hr hb he hd hel hw
              go_wp2_with (go_at_call 31; refine HDone.mono ?_; rintro r w2 ⟨rfl, rfl⟩; clear HDone)
              exact ⟨⟨k + 1, k, by omega, rfl, by simp, HB.out.1, HB.out.2⟩, by simp [intOf]; omega⟩
            · obtain ⟨i, hik, rfl⟩ : ∃ i : Nat, i < k ∧ z = i := by
                rcases hb with ⟨h, -⟩ | ⟨i, h1, h2, -⟩
                · exact absurd h hz
                · exact ⟨i, h1, h2⟩
              obtain ⟨g, hg⟩ := at_lt hr.ln.1 (show i < n by omega)
              obtain ⟨k0, -, -, -, -, k5, -, k7⟩ := hr.job hg
              have HAhead := ahead_any wr A.J (k * 8) (i * 8) e.x.a e.ac g.x.a g.ac e.bg g.bg j0 j5 j7 k0 k5 k7
              have hii : (i : Int) < (n : Int) := by omega
              have hzi : ((i : Int) == -1) = false := by simp
              have H3 : Hid (RunW w0 wr A pr tp n rv x ∧ (or3 (cmpI g.ac e.ac) (ltr e.bg - ltr g.bg) (cmpI e.x.a g.x.a) < 0 → Best x now (k + 1) k) ∧ (¬ or3 (cmpI g.ac e.ac) (ltr e.bg - ltr g.bg) (cmpI e.x.a g.x.a) < 0 → Best x now (k + 1) i)) := by
                refine ⟨hr, fun h => hb.win hel ?_, fun h => hb.keep ?_⟩
                · intro e1 g1 h1 h2
                  rw [he] at h1; rw [hg] at h2; cases h1; cases h2
                  rw [or3_lt] at h
                  unfold bf; omega
                · intro g1 e1 h2 h1
                  rw [he] at h1; rw [hg] at h2; cases h1; cases h2
                  rw [or3_lt] at h
                  unfold bf; omega
              generalize or3 (cmpI g.ac e.ac) (ltr e.bg - ltr g.bg) (cmpI e.x.a g.x.a) = q at *
              clear hr hb he hd hel hw hg hz
              by_cases hq : q < 0
              · go_wp2_with (first | (go_at_call 31; refine HDone.mono ?_; rintro r w2 ⟨rfl, rfl⟩; clear HDone) | (go_at_call 40; refine HAhead.mono ?_; rintro r w3 ⟨rfl, hb3⟩; have H4 : Hid (Below w2.heap.size w2 w3) := hb3; clear HAhead hb3))
                exact ⟨⟨k + 1, k, by omega, rfl, by simp, H3.out.1.grow H4.out, H3.out.2.1 hq⟩, by simp [intOf]; omega⟩
              · go_wp2_with (first | (go_at_call 31; refine HDone.mono ?_; rintro r w2 ⟨rfl, rfl⟩; clear HDone) | (go_at_call 40; refine HAhead.mono ?_; rintro r w3 ⟨rfl, hb3⟩; have H4 : Hid (Below w2.heap.size w2 w3) := hb3; clear HAhead hb3))
                exact ⟨⟨k + 1, i, by omega, rfl, by simp, H3.out.1.grow H4.out, H3.out.2.2 hq⟩, by simp [intOf]; omega⟩
          · have hw' : (e.wt != -1) = true := by simpa using hw
            have HB : Hid (RunW w0 wr A pr tp n rv x ∧ Best x now (k + 1) z) := ⟨hr, hb.skip (by rintro ⟨e', h1, -, -, h2⟩; rw [he] at h1; cases h1; exact hw h2)⟩
            clear hr hb he hd
            go_wp2_with (go_at_call 31; refine HDone.mono ?_; rintro r w2 ⟨rfl, rfl⟩; clear HDone)
            exact ⟨⟨k + 1, z, by omega, rfl, by simp, HB.out.1, HB.out.2⟩, by simp [intOf]; omega⟩
        · have hdn' : (d != -1) = true := by simpa using hdn
          have HB : Hid (RunW w0 wr A pr tp n rv x ∧ Best x now (k + 1) z) := ⟨hr, hb.skip (by rintro ⟨e', -, h1, -⟩; rw [hd] at h1; cases h1; exact hdn rfl)⟩
          clear hr hb he hd
          go_wp2_with (go_at_call 31; refine HDone.mono ?_; rintro r w2 ⟨rfl, rfl⟩; clear HDone)
          exact ⟨⟨k + 1, z, by omega, rfl, by simp, HB.out.1, HB.out.2⟩, by simp [intOf]; omega⟩
    · have hke : k = n := by omega
      subst hke
      have HE : Hid (RunW w0 wr A pr tp k rv x ∧ Best x now k z) := ⟨hr, hb⟩
      clear hr hb
      go_wp2_with fail
      go_ret
      exact ⟨z, rfl, HE.out.2, HE.out.1⟩
end Go.Proofs.Ytcmoehednkaehah
