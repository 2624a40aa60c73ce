import Derived.Test.YtcmoehednkaehahGOH
namespace Go.Proofs.Ytcmoehednkaehah
open Go.ChangeShapes Go.WideShapes Go.ChangeAt Go.RowKit

def loF (e : En) : En := { e with ac := e.x.p }

/-- A lock's ceiling goes to the one that holds it. -/
def upF (es : List En) (z t : Int) : List En := if z = -1 then es else match es[z.toNat]? with
  | some e => es.set z.toNat { e with ac := if e.ac < t then t else e.ac }
  | none => es
def upAll : List Int → List Int → List En → List En
  | z :: r, t :: q, es => upAll r q (upF es z t)
  | _, _, es => es

theorem upF_len (es : List En) (z t : Int) : (upF es z t).length = es.length := by
  unfold upF
  split
  · rfl
  · split <;> simp

theorem upAll_drop {hs tp : List Int} {m : Nat} {z t : Int} (h1 : hs[m]? = some z) (h2 : tp[m]? = some t) (es : List En) : upAll (hs.drop m) (tp.drop m) es = upAll (hs.drop (m + 1)) (tp.drop (m + 1)) (upF es z t) := by
  obtain ⟨k1, e1⟩ := List.getElem?_eq_some_iff.1 h1
  obtain ⟨k2, e2⟩ := List.getElem?_eq_some_iff.1 h2
  rw [List.drop_eq_getElem_cons k1, List.drop_eq_getElem_cons k2, upAll, e1, e2]

set_option maxRecDepth 20000 in
set_option maxHeartbeats 4000000 in
/-- The active priorities, by ceilings. -/
theorem raise_any (w0 w : World) (A : Ad) (tp : List Int) (n : Nat) (rv : Value) (x : Rs) (h : RunW w0 w A 3 tp n rv x) (hn : n ≤ 100) (hh : ∀ z ∈ x.hs, z = -1 ∨ (0 ≤ z ∧ z < n)) :
    Calls Try.prog 39 #[.pointer (some ⟨A.R, 0, none⟩)] w fun r w' => r = .returned (.tuple #[]) ∧ RunW w0 w' A 3 tp n rv { x with es := upAll x.hs tp (x.es.map loF) } := by
  obtain ⟨-, -, -, c4, -, -⟩ := h.own
  have HH : Hid (RunW w0 w A 3 tp n rv x ∧ ∀ z ∈ x.hs, z = -1 ∨ (0 ≤ z ∧ z < n)) := ⟨h, hh⟩
  clear h hh
  go_enter Try.func39, Try.ntmps39
  go_wp2_with fail
  go_loopw [11] (fun i wr => ∃ k : Nat, k ≤ n ∧ i = .int .i64 k ∧ RunW w0 wr A 3 tp n rv { x with es := mid loF x.es k }) (fun i _ => n - (intOf i).toNat)
  case atStart => exact ⟨0, Nat.zero_le _, rfl, by rw [mid_zero]; exact HH.out.1⟩
  case round =>
    obtain ⟨k, hk, rfl, hr⟩ := hrel
    by_cases hlt' : k < n
    · obtain ⟨e, he⟩ := at_lt HH.out.1.ln.1 hlt'
      have hj := hr.job (mid_at loF he)
      obtain ⟨-, j1, -, -, -, -, -, j7⟩ := hj
      obtain ⟨-, -, -, d4, -, -⟩ := hr.own
      have hf7 := hr.frz.2.1 (k * 8 + 7)
      have hki : (k : Int) < (n : Int) := by omega
      obtain ⟨-, lJ, -⟩ := hr.lts
      have hRJ := hr.ne.1.1
      have hs := hr.setJ (k := 7) (u := .int .i64 e.x.p) (e' := loF e) (mid_at loF he) (by omega) rfl
      dsimp only at hs
      rw [mid_set loF he] at hs
      have HS : Hid (RunW w0 (wr.setCell ⟨A.J, k * 8 + 7, none⟩ (.int .i64 e.x.p)) A 3 tp n rv { x with es := mid loF x.es (k + 1) }) := hs
      clear hs hr he
      go_wp2_with fail
      have hS0 : (fun w' : World => w'.cell? ⟨A.R, 4, none⟩ = some (.slice (some ⟨A.J, 0, none⟩) n n) ∧ w'.cell? ⟨A.J, k * 8 + 1, none⟩ = some (.int .i64 e.x.p)) wr.drew := ⟨d4, j1⟩
      refine wp_region_noPanic ?_
      refine wp_region_held_drew (S := fun w' => w'.cell? ⟨A.R, 4, none⟩ = some (.slice (some ⟨A.J, 0, none⟩) n n) ∧ w'.cell? ⟨A.J, k * 8 + 1, none⟩ = some (.int .i64 e.x.p)) (by kernel_rfl) (hS0) (fun hHeld => ?_)
      refine take_at (i := 0) (n := 14) (v := ?_) rfl rfl (by kernel_rfl) (by kernel_rfl) (by kernel_rfl) (fun _ _ _ h => h) (Or.inl ⟨by rfl, ?_⟩) (by assumption) ?_
      rotate_left 1
      · intro wz hSw
        obtain ⟨s0, s1⟩ := hSw
        first | (go_simp; done) | (go_simp; with_reducible rfl)
      simp only [List.set_cons_zero, List.set_cons_succ]
      refine take_at (i := 1) (n := 15) (v := ?_) rfl rfl (by kernel_rfl) (by kernel_rfl) (by kernel_rfl) (fun _ _ _ h => h) (Or.inl ⟨by rfl, ?_⟩) (by assumption) ?_
      rotate_left 1
      · intro wz hSw
        obtain ⟨s0, s1⟩ := hSw
        first | (go_simp; done) | (go_simp; with_reducible rfl)
      simp only [List.set_cons_zero, List.set_cons_succ]
      refine take_at (i := 2) (n := 16) (v := ?_) rfl rfl (by kernel_rfl) (by kernel_rfl) (by kernel_rfl) (fun _ _ _ h => h) (Or.inl ⟨by rfl, ?_⟩) (by assumption) ?_
      rotate_left 1
      · intro wz hSw
        obtain ⟨s0, s1⟩ := hSw
        first | (go_simp; done) | (go_simp; with_reducible rfl)
      simp only [List.set_cons_zero, List.set_cons_succ]
      refine take_at (i := 3) (n := 17) (v := ?_) rfl rfl (by kernel_rfl) (by kernel_rfl) (by kernel_rfl) (fun _ _ _ h => h) (Or.inl ⟨by rfl, ?_⟩) (by assumption) ?_
      rotate_left 1
      · intro wz hSw
        obtain ⟨s0, s1⟩ := hSw
        first | (go_simp; done) | (go_simp; with_reducible rfl)
      simp only [List.set_cons_zero, List.set_cons_succ]
      refine take_at (i := 4) (n := 18) (v := ?_) rfl rfl (by kernel_rfl) (by kernel_rfl) (by kernel_rfl) (fun _ _ _ h => h) (Or.inl ⟨by rfl, ?_⟩) (by assumption) ?_
      rotate_left 1
      · intro wz hSw
        obtain ⟨s0, s1⟩ := hSw
        first | (go_simp; done) | (go_simp; with_reducible rfl)
      simp only [List.set_cons_zero, List.set_cons_succ]
      refine take_at (i := 5) (n := 19) (v := ?_) rfl rfl (by kernel_rfl) (by kernel_rfl) (by kernel_rfl) (fun _ _ _ h => h) (Or.inl ⟨by rfl, ?_⟩) (by assumption) ?_
      rotate_left 1
      · intro wz hSw
        obtain ⟨s0, s1⟩ := hSw
        first | (go_simp; done) | (go_simp; with_reducible rfl)
      simp only [List.set_cons_zero, List.set_cons_succ]
      refine take_at (i := 6) (n := 20) (v := ?_) rfl rfl (by kernel_rfl) (by kernel_rfl) (by kernel_rfl) (fun _ _ _ h => h) (Or.inl ⟨by rfl, ?_⟩) (by assumption) ?_
      rotate_left 1
      · intro wz hSw
        obtain ⟨s0, s1⟩ := hSw
        first | (go_simp; done) | (go_simp; with_reducible rfl)
      simp only [List.set_cons_zero, List.set_cons_succ]
      refine take_at (i := 7) (n := 21) (v := ?_) rfl rfl (by kernel_rfl) (by kernel_rfl) (by kernel_rfl) (fun _ _ _ h => h) (Or.inl ⟨by rfl, ?_⟩) (by assumption) ?_
      rotate_left 1
      · intro wz hSw
        obtain ⟨s0, s1⟩ := hSw
        first | (go_simp; done) | (go_simp; with_reducible rfl)
      simp only [List.set_cons_zero, List.set_cons_succ]
      refine take_at (i := 8) (n := 22) (v := ?_) rfl rfl (by kernel_rfl) (by kernel_rfl) (by kernel_rfl) (fun _ _ _ h => h) (Or.inl ⟨by rfl, ?_⟩) (by assumption) ?_
      rotate_left 1
      · intro wz hSw
        obtain ⟨s0, s1⟩ := hSw
        first | (go_simp; done) | (go_simp; with_reducible rfl)
      simp only [List.set_cons_zero, List.set_cons_succ]
      refine take_at (i := 9) (n := 23) (v := ?_) rfl rfl (by kernel_rfl) (by kernel_rfl) (by kernel_rfl) (fun _ _ _ h => h) (Or.inl ⟨by rfl, ?_⟩) (by assumption) ?_
      rotate_left 1
      · intro wz hSw
        obtain ⟨s0, s1⟩ := hSw
        first | (go_simp; done) | (go_simp; with_reducible rfl)
      simp only [List.set_cons_zero, List.set_cons_succ]
      refine take_at (i := 10) (n := 24) (v := ?_) rfl rfl (by kernel_rfl) (by kernel_rfl) (by kernel_rfl) (fun _ _ _ h => h) (Or.inl ⟨by rfl, ?_⟩) (by assumption) ?_
      rotate_left 1
      · intro wz hSw
        obtain ⟨s0, s1⟩ := hSw
        first | (go_simp; done) | (go_simp; with_reducible rfl)
      simp only [List.set_cons_zero, List.set_cons_succ]
      refine take_at (i := 11) (n := 25) (v := ?_) rfl rfl (by kernel_rfl) (by kernel_rfl) (by kernel_rfl) (fun _ _ _ h => h) (Or.inl ⟨by rfl, ?_⟩) (by assumption) ?_
      rotate_left 1
      · intro wz hSw
        obtain ⟨s0, s1⟩ := hSw
        first | (go_simp; done) | (go_simp; with_reducible rfl)
      simp only [List.set_cons_zero, List.set_cons_succ]
      refine take_at (i := 12) (n := 26) (v := ?_) rfl rfl (by kernel_rfl) (by kernel_rfl) (by kernel_rfl) (fun _ _ _ h => h) (Or.inl ⟨by rfl, ?_⟩) (by assumption) ?_
      rotate_left 1
      · intro wz hSw
        obtain ⟨s0, s1⟩ := hSw
        first | (go_simp; done) | (go_simp; with_reducible rfl)
      simp only [List.set_cons_zero, List.set_cons_succ]
      refine take_at (i := 13) (n := 27) (v := ?_) rfl rfl (by kernel_rfl) (by kernel_rfl) (by kernel_rfl) (fun _ _ _ h => h) (Or.inl ⟨by rfl, ?_⟩) (by assumption) ?_
      rotate_left 1
      · intro wz hSw
        obtain ⟨s0, s1⟩ := hSw
        first | (go_simp; done) | (go_simp; with_reducible rfl)
      simp only [List.set_cons_zero, List.set_cons_succ]
      refine take_at (i := 14) (n := 28) (v := ?_) rfl rfl (by kernel_rfl) (by kernel_rfl) (by kernel_rfl) (fun _ _ _ h => h) (Or.inl ⟨by rfl, ?_⟩) (by assumption) ?_
      rotate_left 1
      · intro wz hSw
        obtain ⟨s0, s1⟩ := hSw
        first | (go_simp; done) | (go_simp; with_reducible rfl)
      simp only [List.set_cons_zero, List.set_cons_succ]
      refine take_at (i := 15) (n := 29) (v := ?_) rfl rfl (by kernel_rfl) (by kernel_rfl) (by kernel_rfl) (fun _ _ _ h => h) (Or.inl ⟨by rfl, ?_⟩) (by assumption) ?_
      rotate_left 1
      · intro wz hSw
        obtain ⟨s0, s1⟩ := hSw
        first | (go_simp; done) | (go_simp; with_reducible rfl)
      simp only [List.set_cons_zero, List.set_cons_succ]
      refine wpAnyH_ready (rs := [16]) (by kernel_rfl) (by simp) ?_
      refine AllReadyH.cons rfl (fun K hK => ?_) AllReadyH.nil
      go_simp
      refine hK.out _ _ (by refine ⟨?_, ?_⟩ <;> go_simp) (fun hHeld => ?_)
      clear hK K
      refine wpAnyH_done (by kernel_rfl) ?_ _
      refine NoPanic.normal ?_
      go_wp2_with fail
      exact ⟨⟨k + 1, by omega, by simp, HS.out.drew⟩, by simp [intOf]; omega⟩
    · have hke : k = n := by omega
      subst hke
      have HE : Hid (RunW w0 wr A 3 tp k rv { x with es := x.es.map loF }) := by
        have e := HH.out.1.ln.1
        rw [← mid_all, e]
        exact hr
      obtain ⟨-, -, -, -, d5, -⟩ := hr.own
      obtain ⟨a0, a1, a2, a3, hl⟩ : ∃ a0 a1 a2 a3, x.hs = [a0, a1, a2, a3] := by
        have := HH.out.1.ln.2.2.2.1
        match hq : x.hs, this with
        | [a0, a1, a2, a3], _ => exact ⟨a0, a1, a2, a3, rfl⟩
      have g0 := hr.hold (m := 0) (z := a0) (by rw [hl]; rfl)
      have g1 := hr.hold (m := 1) (z := a1) (by rw [hl]; rfl)
      have g2 := hr.hold (m := 2) (z := a2) (by rw [hl]; rfl)
      have g3 := hr.hold (m := 3) (z := a3) (by rw [hl]; rfl)
      have HL : Hid (x.hs = [a0, a1, a2, a3]) := hl
      simp only [Nat.reduceAdd] at g0 g1 g2 g3
      clear hr hl
      go_wp2_with fail
      go_loopw [55] (fun i wr => ∃ (m : Nat) (es : List En), m ≤ 4 ∧ i = .int .i64 m ∧ RunW w0 wr A 3 tp k rv { x with es := es } ∧ upAll (x.hs.drop m) (tp.drop m) es = upAll x.hs tp (x.es.map loF)) (fun i _ => 4 - (intOf i).toNat)
      case atStart => exact ⟨0, _, Nat.zero_le _, rfl, HE.out, rfl⟩
      case round =>
        obtain ⟨m, es, hm, rfl, hr, hu⟩ := hrel
        by_cases hm4 : m < 4
        · obtain ⟨z, hz⟩ := at_lt HH.out.1.ln.2.2.2.1 hm4
          obtain ⟨t, ht⟩ := at_lt HH.out.1.ln.2.2.2.2 hm4
          rw [upAll_drop hz ht] at hu
          have hmi : (m : Int) < 4 := by omega
          have hidx : (Instr.index 68 (.agg #[.int .i64 a0, .int .i64 a1, .int .i64 a2, .int .i64 a3]) (.int .i64 (m : Int))).run Try.prog wr = .ok (.int .i64 z) wr := by
            have hz' := hz
            rw [HL.out] at hz'
            have : m = 0 ∨ m = 1 ∨ m = 2 ∨ m = 3 := by omega
            rcases this with rfl | rfl | rfl | rfl <;> (simp at hz'; subst hz'; rfl)
          by_cases hzn : z = -1
          · subst hzn
            have HS : Hid (RunW w0 wr A 3 tp k rv { x with es := es } ∧ upAll (x.hs.drop (m + 1)) (tp.drop (m + 1)) es = upAll x.hs tp (x.es.map loF)) := ⟨hr, by rw [← hu]; simp [upF]⟩
            clear hr hu hz ht
            go_wp2_with fail
            exact ⟨⟨m + 1, es, by omega, by simp, HS.out.1, HS.out.2⟩, by simp [intOf]; omega⟩
          · have hzr := (HH.out.2 z (List.mem_of_getElem? hz)).resolve_left hzn
            obtain ⟨i, rfl⟩ : ∃ i : Nat, z = (i : Int) := ⟨z.toNat, by omega⟩
            have hik : i < k := by omega
            obtain ⟨e, he⟩ := at_lt hr.ln.1 hik
            have hzn' : ((i : Int) != -1) = true := by simp
            dsimp only at he
            obtain ⟨-, -, -, -, -, -, -, j7⟩ := hr.job he
            obtain ⟨-, -, -, d4, -, d6⟩ := hr.own
            have hcl := hr.ceil ht
            have hf7 := hr.frz.2.1 (i * 8 + 7)
            obtain ⟨-, lJ, -⟩ := hr.lts
            have hRJ := hr.ne.1.1
            have hCJ := hr.ne.2.1.2.2
            have hii : (i : Int) < (k : Int) := by omega
            have hs := hr.setJ (k := 7) (u := .int .i64 (if e.ac < t then t else e.ac)) (e' := { e with ac := if e.ac < t then t else e.ac }) he (by omega) rfl
            dsimp only at hs
            have HS : Hid (RunW w0 (wr.setCell ⟨A.J, i * 8 + 7, none⟩ (.int .i64 (if e.ac < t then t else e.ac))) A 3 tp k rv { x with es := es.set i { e with ac := if e.ac < t then t else e.ac } } ∧ upAll (x.hs.drop (m + 1)) (tp.drop (m + 1)) (es.set i { e with ac := if e.ac < t then t else e.ac }) = upAll x.hs tp (x.es.map loF)) := ⟨hs, by rw [← hu]; simp [upF, he, hzn]⟩
            clear hs hr hu hz ht he hzr hzn
            go_wp2_with fail
            have hS0 : (fun w' : World => w'.cell? ⟨A.R, 4, none⟩ = some (.slice (some ⟨A.J, 0, none⟩) k k) ∧ w'.cell? ⟨A.R, 6, none⟩ = some (.slice (some ⟨A.C, 0, none⟩) 4 4) ∧ w'.cell? ⟨A.C, m, none⟩ = some (.int .i64 t)) wr.drew := ⟨d4, d6, hcl⟩
            refine wp_region_noPanic ?_
            refine wp_region_held_drew (S := fun w' => w'.cell? ⟨A.R, 4, none⟩ = some (.slice (some ⟨A.J, 0, none⟩) k k) ∧ w'.cell? ⟨A.R, 6, none⟩ = some (.slice (some ⟨A.C, 0, none⟩) 4 4) ∧ w'.cell? ⟨A.C, m, none⟩ = some (.int .i64 t)) (by kernel_rfl) (hS0) (fun hHeld => ?_)
            refine take_at (i := 0) (n := 61) (v := ?_) rfl rfl (by kernel_rfl) (by kernel_rfl) (by kernel_rfl) (fun _ _ _ h => h) (Or.inl ⟨by rfl, ?_⟩) (by assumption) ?_
            rotate_left 1
            · intro wz hSw
              obtain ⟨s0, s1, s2⟩ := hSw
              first | (go_simp; done) | (go_simp; with_reducible rfl)
            simp only [List.set_cons_zero, List.set_cons_succ]
            refine take_at (i := 1) (n := 62) (v := ?_) rfl rfl (by kernel_rfl) (by kernel_rfl) (by kernel_rfl) (fun _ _ _ h => h) (Or.inl ⟨by rfl, ?_⟩) (by assumption) ?_
            rotate_left 1
            · intro wz hSw
              obtain ⟨s0, s1, s2⟩ := hSw
              first | (go_simp; done) | (go_simp; with_reducible rfl)
            simp only [List.set_cons_zero, List.set_cons_succ]
            refine take_at (i := 2) (n := 63) (v := ?_) rfl rfl (by kernel_rfl) (by kernel_rfl) (by kernel_rfl) (fun _ _ _ h => h) (Or.inl ⟨by rfl, ?_⟩) (by assumption) ?_
            rotate_left 1
            · intro wz hSw
              obtain ⟨s0, s1, s2⟩ := hSw
              first | (go_simp; done) | (go_simp; with_reducible rfl)
            simp only [List.set_cons_zero, List.set_cons_succ]
            refine take_at (i := 3) (n := 64) (v := ?_) rfl rfl (by kernel_rfl) (by kernel_rfl) (by kernel_rfl) (fun _ _ _ h => h) (Or.inl ⟨by rfl, ?_⟩) (by assumption) ?_
            rotate_left 1
            · intro wz hSw
              obtain ⟨s0, s1, s2⟩ := hSw
              first | (go_simp; done) | (go_simp; with_reducible rfl)
            simp only [List.set_cons_zero, List.set_cons_succ]
            refine take_at (i := 4) (n := 65) (v := ?_) rfl rfl (by kernel_rfl) (by kernel_rfl) (by kernel_rfl) (fun _ _ _ h => h) (Or.inl ⟨by rfl, ?_⟩) (by assumption) ?_
            rotate_left 1
            · intro wz hSw
              obtain ⟨s0, s1, s2⟩ := hSw
              first | (go_simp; done) | (go_simp; with_reducible rfl)
            simp only [List.set_cons_zero, List.set_cons_succ]
            refine take_at (i := 5) (n := 66) (v := ?_) rfl rfl (by kernel_rfl) (by kernel_rfl) (by kernel_rfl) (fun _ _ _ h => h) (Or.inl ⟨by rfl, ?_⟩) (by assumption) ?_
            rotate_left 1
            · intro wz hSw
              obtain ⟨s0, s1, s2⟩ := hSw
              first | (go_simp; done) | (go_simp; with_reducible rfl)
            simp only [List.set_cons_zero, List.set_cons_succ]
            refine take_at (i := 6) (n := 67) (v := ?_) rfl rfl (by kernel_rfl) (by kernel_rfl) (by kernel_rfl) (fun _ _ _ h => h) (Or.inl ⟨by rfl, ?_⟩) (by assumption) ?_
            rotate_left 1
            · intro wz hSw
              obtain ⟨s0, s1, s2⟩ := hSw
              first | (go_simp; done) | (go_simp; with_reducible rfl)
            simp only [List.set_cons_zero, List.set_cons_succ]
            refine take_at (i := 7) (n := 68) (v := ?_) rfl rfl (by kernel_rfl) (by kernel_rfl) (by kernel_rfl) (fun _ _ _ h => h) (Or.inl ⟨by rfl, ?_⟩) (by assumption) ?_
            rotate_left 1
            · intro wz hSw
              obtain ⟨s0, s1, s2⟩ := hSw
              first | (go_simp; done) | (go_simp; with_reducible rfl)
            simp only [List.set_cons_zero, List.set_cons_succ]
            refine take_at (i := 8) (n := 69) (v := ?_) rfl rfl (by kernel_rfl) (by kernel_rfl) (by kernel_rfl) (fun _ _ _ h => h) (Or.inl ⟨by rfl, ?_⟩) (by assumption) ?_
            rotate_left 1
            · intro wz hSw
              obtain ⟨s0, s1, s2⟩ := hSw
              first | (go_simp; done) | (go_simp; with_reducible rfl)
            simp only [List.set_cons_zero, List.set_cons_succ]
            refine take_at (i := 9) (n := 70) (v := ?_) rfl rfl (by kernel_rfl) (by kernel_rfl) (by kernel_rfl) (fun _ _ _ h => h) (Or.inl ⟨by rfl, ?_⟩) (by assumption) ?_
            rotate_left 1
            · intro wz hSw
              obtain ⟨s0, s1, s2⟩ := hSw
              first | (go_simp; done) | (go_simp; with_reducible rfl)
            simp only [List.set_cons_zero, List.set_cons_succ]
            refine take_at (i := 10) (n := 71) (v := ?_) rfl rfl (by kernel_rfl) (by kernel_rfl) (by kernel_rfl) (fun _ _ _ h => h) (Or.inl ⟨by rfl, ?_⟩) (by assumption) ?_
            rotate_left 1
            · intro wz hSw
              obtain ⟨s0, s1, s2⟩ := hSw
              first | (go_simp; done) | (go_simp; with_reducible rfl)
            simp only [List.set_cons_zero, List.set_cons_succ]
            refine take_at (i := 11) (n := 72) (v := ?_) rfl rfl (by kernel_rfl) (by kernel_rfl) (by kernel_rfl) (fun _ _ _ h => h) (Or.inl ⟨by rfl, ?_⟩) (by assumption) ?_
            rotate_left 1
            · intro wz hSw
              obtain ⟨s0, s1, s2⟩ := hSw
              first | (go_simp; done) | (go_simp; with_reducible rfl)
            simp only [List.set_cons_zero, List.set_cons_succ]
            refine take_at (i := 13) (n := 74) (v := ?_) rfl rfl (by kernel_rfl) (by kernel_rfl) (by kernel_rfl) (fun _ _ _ h => h) (Or.inl ⟨by rfl, ?_⟩) (by assumption) ?_
            rotate_left 1
            · intro wz hSw
              obtain ⟨s0, s1, s2⟩ := hSw
              first | (go_simp; done) | (go_simp; with_reducible rfl)
            simp only [List.set_cons_zero, List.set_cons_succ]
            refine take_at (i := 14) (n := 75) (v := ?_) rfl rfl (by kernel_rfl) (by kernel_rfl) (by kernel_rfl) (fun _ _ _ h => h) (Or.inl ⟨by rfl, ?_⟩) (by assumption) ?_
            rotate_left 1
            · intro wz hSw
              obtain ⟨s0, s1, s2⟩ := hSw
              first | (go_simp; done) | (go_simp; with_reducible rfl)
            simp only [List.set_cons_zero, List.set_cons_succ]
            refine take_at (i := 15) (n := 76) (v := ?_) rfl rfl (by kernel_rfl) (by kernel_rfl) (by kernel_rfl) (fun _ _ _ h => h) (Or.inl ⟨by rfl, ?_⟩) (by assumption) ?_
            rotate_left 1
            · intro wz hSw
              obtain ⟨s0, s1, s2⟩ := hSw
              first | (go_simp; done) | (go_simp; with_reducible rfl)
            simp only [List.set_cons_zero, List.set_cons_succ]
            refine take_at (i := 16) (n := 77) (v := ?_) rfl rfl (by kernel_rfl) (by kernel_rfl) (by kernel_rfl) (fun _ _ _ h => h) (Or.inl ⟨by rfl, ?_⟩) (by assumption) ?_
            rotate_left 1
            · intro wz hSw
              obtain ⟨s0, s1, s2⟩ := hSw
              first | (go_simp; done) | (go_simp; with_reducible rfl)
            simp only [List.set_cons_zero, List.set_cons_succ]
            refine take_at (i := 17) (n := 78) (v := ?_) rfl rfl (by kernel_rfl) (by kernel_rfl) (by kernel_rfl) (fun _ _ _ h => h) (Or.inl ⟨by rfl, ?_⟩) (by assumption) ?_
            rotate_left 1
            · intro wz hSw
              obtain ⟨s0, s1, s2⟩ := hSw
              first | (go_simp; done) | (go_simp; with_reducible rfl)
            simp only [List.set_cons_zero, List.set_cons_succ]
            refine take_at (i := 18) (n := 79) (v := ?_) rfl rfl (by kernel_rfl) (by kernel_rfl) (by kernel_rfl) (fun _ _ _ h => h) (Or.inl ⟨by rfl, ?_⟩) (by assumption) ?_
            rotate_left 1
            · intro wz hSw
              obtain ⟨s0, s1, s2⟩ := hSw
              first | (go_simp; done) | (go_simp; with_reducible rfl)
            simp only [List.set_cons_zero, List.set_cons_succ]
            refine take_at (i := 19) (n := 80) (v := ?_) rfl rfl (by kernel_rfl) (by kernel_rfl) (by kernel_rfl) (fun _ _ _ h => h) (Or.inl ⟨by rfl, ?_⟩) (by assumption) ?_
            rotate_left 1
            · intro wz hSw
              obtain ⟨s0, s1, s2⟩ := hSw
              first | (go_simp; done) | (go_simp; with_reducible rfl)
            simp only [List.set_cons_zero, List.set_cons_succ]
            refine wpAnyH_ready (rs := [12]) (by kernel_rfl) (by simp) ?_
            refine AllReadyH.cons rfl (fun K hK => ?_) AllReadyH.nil
            go_simp
            refine hK.out _ _ (hS0) (fun hHeld => ?_)
            clear hK K
            refine wpAnyH_ready (rs := [20]) (by kernel_rfl) (by simp) ?_
            refine AllReadyH.cons rfl (fun K hK => ?_) AllReadyH.nil
            go_simp
            refine hK.out _ _ (hS0) (fun hHeld => ?_)
            clear hK K
            refine take_at (i := 21) (n := 82) (v := ?_) rfl rfl (by kernel_rfl) (by kernel_rfl) (by kernel_rfl) (fun _ _ _ h => h) (Or.inl ⟨by rfl, ?_⟩) (by assumption) ?_
            rotate_left 1
            · intro wz hSw
              obtain ⟨s0, s1, s2⟩ := hSw
              first | (go_simp; done) | (go_simp; with_reducible rfl)
            simp only [List.set_cons_zero, List.set_cons_succ]
            refine take_at (i := 22) (n := 83) (v := ?_) rfl rfl (by kernel_rfl) (by kernel_rfl) (by kernel_rfl) (fun _ _ _ h => h) (Or.inl ⟨by rfl, ?_⟩) (by assumption) ?_
            rotate_left 1
            · intro wz hSw
              obtain ⟨s0, s1, s2⟩ := hSw
              first | (go_simp; done) | (go_simp; with_reducible rfl)
            simp only [List.set_cons_zero, List.set_cons_succ]
            refine wpAnyH_ready (rs := [23]) (by kernel_rfl) (by simp) ?_
            refine AllReadyH.cons rfl (fun K hK => ?_) AllReadyH.nil
            go_simp
            refine hK.out _ _ (by refine ⟨?_, ?_, ?_⟩ <;> go_simp) (fun hHeld => ?_)
            clear hK K
            refine wpAnyH_done (by kernel_rfl) ?_ _
            refine NoPanic.normal ?_
            go_wp2_with fail
            exact ⟨⟨m + 1, _, by omega, by simp, HS.out.1.drew, HS.out.2⟩, by simp [intOf]; omega⟩
        · have hme : m = 4 := by omega
          subst hme
          have e1 : x.hs.drop 4 = [] := List.drop_eq_nil_of_le (by have := HH.out.1.ln.2.2.2.1; omega)
          rw [e1, upAll] at hu
          · have HE2 : Hid (RunW w0 wr A 3 tp k rv { x with es := upAll x.hs tp (x.es.map loF) }) := by
              rw [← hu]
              exact hr
            clear hr hu e1
            go_wp2_with fail
            go_end0
            exact ⟨rfl, HE2.out⟩
          · intro z r t q e; cases e
end Go.Proofs.Ytcmoehednkaehah
