import Derived.Test.YtekbkcgpjkecbalDoorSPA
import Derived.Test.YtekbkcgpjkecbalDoorZC1
import Derived.Test.YtekbkcgpjkecbalDoorZD0
import Derived.Test.YtekbkcgpjkecbalDoorZB
import Derived.Test.YtekbkcgpjkecbalDoorSRI
import Derived.Test.YtekbkcgpjkecbalDoorXD
namespace Go.Proofs.YtekbkcgpjkecbalDoor
open Go.ChangeShapes Go.WideShapes Go.ChangeAt Go.RowKit

/- Which fault is the first one that isn't above the one ahead of it. -/
def upF : Int → List Int → Nat → Int
  | _, [], _ => -1
  | p, x :: r, k => if x ≤ p then (k : Int) else upF x r (k + 1)
def upR : List Int → Int
  | [] => -1
  | x :: r => upF x r 1
def chkR (l : List Jb) (sp : Int) (fs : List Int) (u : Int) : Int × Int := if (S8.chkJ l).1 ≠ 0 then S8.chkJ l else if within sp 0 10000 = false ∨ within u 0 20000 = false then (3, 0) else if 4000 < fs.length then (2, 0) else if 0 ≤ upR fs then (12, upR fs) else (0, 0)

theorem upF_ok : ∀ (p : Int) (r : List Int) (k : Nat), upF p r k < 0 → (p :: r).Pairwise (· < ·)
  | p, [], _, _ => by simp
  | p, x :: r, k, h => by
    rw [upF] at h
    by_cases hx : x ≤ p
    · rw [if_pos hx] at h; omega
    · rw [if_neg hx] at h
      have ih := upF_ok x r (k + 1) h
      refine List.Pairwise.cons (fun y hy => ?_) ih
      rcases List.mem_cons.1 hy with rfl | hy
      · omega
      · have := (List.pairwise_cons.1 ih).1 y hy
        omega

theorem upR_ok {fs : List Int} (h : upR fs < 0) : fs.Pairwise (· < ·) := by
  cases fs with
  | nil => exact List.Pairwise.nil
  | cons x r => exact upF_ok x r 1 h

theorem upF_rise : ∀ (p : Int) (r : List Int) (k : Nat), (p :: r).Pairwise (· < ·) → upF p r k = -1
  | p, [], _, _ => rfl
  | p, x :: r, k, h => by
    rw [upF]
    have h1 := (List.pairwise_cons.1 h).1 x List.mem_cons_self
    rw [if_neg (by omega)]
    exact upF_rise x r (k + 1) (List.pairwise_cons.1 h).2

theorem upR_rise {fs : List Int} (h : fs.Pairwise (· < ·)) : upR fs = -1 := by
  cases fs with
  | nil => rfl
  | cons x r => exact upF_rise x r 1 h

theorem chkR_1 {l : List Jb} {sp : Int} {fs : List Int} {u : Int} (h : (S8.chkJ l).1 ≠ 0) : chkR l sp fs u = S8.chkJ l := by
  unfold chkR; rw [if_pos h]
theorem chkR_2 {l : List Jb} {sp : Int} {fs : List Int} {u : Int} (h : (S8.chkJ l).1 = 0) (h2 : within sp 0 10000 = false ∨ within u 0 20000 = false) : chkR l sp fs u = (3, 0) := by
  unfold chkR; rw [if_neg (by simpa using h), if_pos h2]
theorem chkR_3 {l : List Jb} {sp : Int} {fs : List Int} {u : Int} (h : (S8.chkJ l).1 = 0) (h2 : within sp 0 10000 = true) (h3 : within u 0 20000 = true) (h4 : 4000 < fs.length) : chkR l sp fs u = (2, 0) := by
  unfold chkR; rw [if_neg (by simpa using h), if_neg (by simp [h2, h3]), if_pos h4]
theorem chkR_4 {l : List Jb} {sp : Int} {fs : List Int} {u : Int} (h : (S8.chkJ l).1 = 0) (h2 : within sp 0 10000 = true) (h3 : within u 0 20000 = true) (h4 : fs.length ≤ 4000) : chkR l sp fs u = if 0 ≤ upR fs then (12, upR fs) else (0, 0) := by
  unfold chkR; rw [if_neg (by simpa using h), if_neg (by simp [h2, h3]), if_neg (by omega)]

/-- Nothing is wrong with it. -/
theorem chkR_ok {l : List Jb} {sp : Int} {fs : List Int} {u : Int} (h : (chkR l sp fs u).1 = 0) : (S8.chkJ l).1 = 0 ∧ within sp 0 10000 = true ∧ within u 0 20000 = true ∧ fs.length ≤ 4000 ∧ fs.Pairwise (· < ·) ∧ chkR l sp fs u = (0, 0) := by
  by_cases h1 : (S8.chkJ l).1 = 0
  rotate_left 1
  · rw [chkR_1 h1] at h; exact absurd h h1
  by_cases h2 : within sp 0 10000 = false ∨ within u 0 20000 = false
  · rw [chkR_2 h1 h2] at h; cases h
  have h3 : within sp 0 10000 = true := by cases e : within sp 0 10000 <;> simp_all
  have h4 : within u 0 20000 = true := by cases e : within u 0 20000 <;> simp_all
  by_cases h5 : 4000 < fs.length
  · rw [chkR_3 h1 h3 h4 h5] at h; cases h
  have e := chkR_4 (sp := sp) (fs := fs) (u := u) h1 h3 h4 (by omega)
  rw [e] at h ⊢
  by_cases h6 : 0 ≤ upR fs
  · rw [if_pos h6] at h; cases h
  · rw [if_neg h6]
    exact ⟨h1, h3, h4, by omega, upR_ok (by omega), rfl⟩

theorem checkPlay_ends {w : World} {g : Nat} {c k : Value} {a : Act} (h : w.heap[g]? = some (.cells #[c, k] 30 (0, 0))) (h3 : a.tmps[8]?.getD undef = .pointer (some ⟨g, 0, none⟩)) :
    (results Tryd.f38 a.tmps).run Tryd.prog w = .ok (.agg #[c, k]) w := by
  obtain ⟨c1, f1, l1⟩ := cells_of (l := [_, _]) h
  have c10 := c1 0 _ rfl
  have c11 := c1 1 _ rfl
  simp [results, Tryd.results38, go_sem, h3, c10, c11]

set_option maxRecDepth 20000 in
set_option maxHeartbeats 4000000 in
theorem checkPlay_any (w : World) (l : List Jb) (sp : Int) (fs : List Int) (u : Int) (v vf : Value) (hv : RowSl Jb.vals w l v) (hf : RowSl nuV w fs vf) :
    Calls Tryd.prog 38 #[v, .int .i64 sp, vf, .int .i64 u] w fun r w' => r = .returned (.agg #[.int .i64 (chkR l sp fs u).1, .int .i64 (chkR l sp fs u).2]) ∧ Below w.heap.size w w' := by
  obtain ⟨ad, c, rfl⟩ := hv.len
  have HC := S8.Check_any (w.alloc (.cells #[.int .i64 0, .int .i64 0] 30)) l _ (hv.below (below_new _ _))
  obtain ⟨fad, fc, rfl, -, hcap, hrow⟩ := hf
  have HR : Hid (fs = [] ∨ ∃ b o, fad = some ⟨b, o, none⟩ ∧ ∀ q u, (fs.flatMap nuV)[q]? = some u → w.cell? ⟨b, o + q, none⟩ = some u) := hrow
  have HF : Hid (FB w (w.alloc (.cells #[.int .i64 0, .int .i64 0] 30)) w.heap.size) := FB.start w
  clear hv hrow
  obtain ⟨z1, z2, hz⟩ : ∃ z1 z2, S8.chkJ l = (z1, z2) := ⟨_, _, rfl⟩
  obtain ⟨y1, y2, hy⟩ : ∃ y1 y2, chkR l sp fs u = (y1, y2) := ⟨_, _, rfl⟩
  have HY : Hid (S8.chkJ l = (z1, z2) ∧ chkR l sp fs u = (y1, y2)) := ⟨hz, hy⟩
  rw [hz] at HC
  rw [hy]
  dsimp only at HC ⊢
  clear hz hy
  go_enter Tryd.func38, Tryd.ntmps38
  go_upto_region 2 with (go_at_call 49; refine HC.mono ?_; rintro r w1 ⟨rfl, hb1⟩; have H1 : Hid (FB w (w1.alloc (.cells #[.int .i64 z1, .int .i64 z2] 30)) w.heap.size) := (HF.out.grow hb1).grow (below_new _ _); clear hb1 HC HF)
  obtain ⟨gs, -, gl⟩ := cells_of (l := [_, _]) (heap_alloc_new w1 (.cells #[.int .i64 z1, .int .i64 z2] 30))
  have g0 := gs 0 _ rfl
  have g1 := gs 1 _ rfl
  clear gs gl
  generalize w1.alloc (.cells #[.int .i64 z1, .int .i64 z2] 30) = w2 at *
  generalize w1.heap.size = fb at *
  obtain ⟨G, hG⟩ : ∃ G, w.heap.size = G := ⟨_, rfl⟩
  rw [hG] at H1
  simp only [hG]
  obtain ⟨rs1, rf1, rl1⟩ := cells_of (l := [_, _]) H1.out.res
  have r10 := rs1 0 _ rfl
  have r11 := rs1 1 _ rfl
  have f10 := rf1 0
  have f11 := rf1 1
  clear rs1 rf1
  have FIN : Hid (∀ W, FB w W G → ∀ a b : Int, y1 = a → y2 = b → ((Ending.returned (.agg #[.int .i64 a, .int .i64 b]) = Ending.returned (.agg #[.int .i64 y1, .int .i64 y2])) ∧ Below w.heap.size w ((W.setCell ⟨G, 0, none⟩ (.int .i64 a)).setCell ⟨G, 1, none⟩ (.int .i64 b)))) := fun W hW a b e1 e2 => by
    subst e1 e2
    exact ⟨rfl, hW.set _ _⟩
  by_cases h0 : z1 = 0
  rotate_left 1
  · have hzb : (z1 != 0) = true := by simpa using h0
    go_wp2_with fail
    refine bodyPost_ret (checkPlay_ends (set_two H1.out.res) rfl) rfl ?_
    have e := HY.out.2
    rw [chkR_1 (by rw [HY.out.1]; exact h0), HY.out.1] at e
    simp at e
    exact FIN.out w2 H1.out z1 z2 e.1.symm e.2.symm
  subst h0
  have HJ : Hid ((S8.chkJ l).1 = 0) := by
    have e := congrArg Prod.fst HY.out.1
    exact e
  cases hw1 : within sp 0 10000 with
  | false =>
    go_wp2_with (go_at_call 24; refine (isStep_any _ _).mono ?_; rintro r w3 ⟨rfl, hw3⟩; have hw4 := hw3.symm; subst hw4; clear hw3; rw [hw1])
    refine bodyPost_ret (checkPlay_ends (set_two H1.out.res) rfl) rfl ?_
    have e := HY.out.2
    rw [chkR_2 HJ.out (.inl hw1)] at e
    simp at e
    exact FIN.out w2 H1.out 3 0 e.1.symm e.2.symm
  | true =>
  cases hw2 : within u 0 20000 with
  | false =>
    go_wp2_with (first | (go_at_call 23; refine (rwithin_any _ _ _ _).mono ?_; rintro r w3 ⟨rfl, hw3⟩; have hw4 := hw3.symm; subst hw4; clear hw3; rw [hw2]) | (go_at_call 24; refine (isStep_any _ _).mono ?_; rintro r w3 ⟨rfl, hw3⟩; have hw4 := hw3.symm; subst hw4; clear hw3; rw [hw1]))
    refine bodyPost_ret (checkPlay_ends (set_two H1.out.res) rfl) rfl ?_
    have e := HY.out.2
    rw [chkR_2 HJ.out (.inr hw2)] at e
    simp at e
    exact FIN.out w2 H1.out 3 0 e.1.symm e.2.symm
  | true =>
  by_cases h4 : 4000 < fs.length
  · have h4' : (4000 : Int) < (fs.length : Int) := by omega
    go_wp2_with (first | (go_at_call 23; refine (rwithin_any _ _ _ _).mono ?_; rintro r w3 ⟨rfl, hw3⟩; have hw4 := hw3.symm; subst hw4; clear hw3; rw [hw2]) | (go_at_call 24; refine (isStep_any _ _).mono ?_; rintro r w3 ⟨rfl, hw3⟩; have hw4 := hw3.symm; subst hw4; clear hw3; rw [hw1]))
    refine bodyPost_ret (checkPlay_ends (set_two H1.out.res) rfl) rfl ?_
    have e := HY.out.2
    rw [chkR_3 HJ.out hw1 hw2 h4] at e
    simp at e
    exact FIN.out w2 H1.out 2 0 e.1.symm e.2.symm
  have h4' : ¬ (4000 : Int) < (fs.length : Int) := by omega
  have h4b : fs.length ≤ 4000 := by omega
  have HE : Hid ((y1, y2) = if 0 ≤ upR fs then (12, upR fs) else (0, 0)) := by
    have e := HY.out.2
    rw [chkR_4 HJ.out hw1 hw2 h4b] at e
    exact e.symm
  have HW : Hid (within sp 0 10000 = true ∧ within u 0 20000 = true) := ⟨hw1, hw2⟩
  go_wp2_with (first | (go_at_call 23; refine (rwithin_any _ _ _ _).mono ?_; rintro r w3 ⟨rfl, hw3⟩; have hw4 := hw3.symm; subst hw4; clear hw3; rw [hw2]) | (go_at_call 24; refine (isStep_any _ _).mono ?_; rintro r w3 ⟨rfl, hw3⟩; have hw4 := hw3.symm; subst hw4; clear hw3; rw [hw1]))
  clear hw1 hw2 HY
  go_loopw [35] (fun iv wr => ∃ k : Nat, k ≤ fs.length ∧ iv = .int .i64 (k : Int) ∧ (∃ nq, wr = w2.drewN nq) ∧ Hid (k = 0 ∨ ∃ p, fs[k - 1]? = some p ∧ upF p (fs.drop k) k = upR fs)) (fun iv _ => fs.length - (intOf iv).toNat)
  case atStart => exact ⟨0, Nat.zero_le _, rfl, ⟨0, rfl⟩, .inl rfl⟩
  case round =>
    obtain ⟨k, hk, rfl, ⟨nq, rfl⟩, HK⟩ := hrel
    by_cases hlt : k < fs.length
    · obtain ⟨x, hx, hd⟩ := drop_at hlt
      have hki : (k : Int) < (fs.length : Int) := by omega
      rcases k with _ | m
      · have HX : Hid (fs[0]? = some x ∧ fs.drop 0 = x :: fs.drop 1) := ⟨hx, hd⟩
        clear hx hd
        go_wp2_with fail
        refine wp_region_noPanic ?_
        refine wp_region_held_drew (S := fun w' => True) (by kernel_rfl) trivial (fun hHeld => ?_)
        refine take_at (i := 0) (n := 38) (v := ?_) rfl rfl (by kernel_rfl) (by kernel_rfl) (by kernel_rfl) (fun _ _ _ h => h) (Or.inl ⟨by rfl, ?_⟩) (by assumption) ?_
        rotate_left 1
        · intro wz hSw
          clear hSw
          first | (go_simp; done) | (go_simp; with_reducible rfl)
        simp only [List.set_cons_zero, List.set_cons_succ]
        refine take_at (i := 1) (n := 39) (v := ?_) rfl rfl (by kernel_rfl) (by kernel_rfl) (by kernel_rfl) (fun _ _ _ h => h) (Or.inl ⟨by rfl, ?_⟩) (by assumption) ?_
        rotate_left 1
        · intro wz hSw
          clear hSw
          first | (go_simp; done) | (go_simp; with_reducible rfl)
        simp only [List.set_cons_zero, List.set_cons_succ]
        refine take_at (i := 2) (n := 40) (v := ?_) rfl rfl (by kernel_rfl) (by kernel_rfl) (by kernel_rfl) (fun _ _ _ h => h) (Or.inl ⟨by rfl, ?_⟩) (by assumption) ?_
        rotate_left 1
        · intro wz hSw
          clear hSw
          first | (go_simp; done) | (go_simp; with_reducible rfl)
        simp only [List.set_cons_zero, List.set_cons_succ]
        refine take_at (i := 3) (n := 41) (v := undef) rfl rfl (by kernel_rfl) (by kernel_rfl) (by kernel_rfl) (fun _ _ _ h => h) (Or.inr ⟨by rfl, rfl⟩) (by assumption) ?_
        simp only [List.set_cons_zero, List.set_cons_succ]
        refine take_at (i := 4) (n := 42) (v := undef) rfl rfl (by kernel_rfl) (by kernel_rfl) (by kernel_rfl) (fun _ _ _ h => h) (Or.inr ⟨by rfl, rfl⟩) (by assumption) ?_
        simp only [List.set_cons_zero, List.set_cons_succ]
        refine take_at (i := 5) (n := 43) (v := undef) rfl rfl (by kernel_rfl) (by kernel_rfl) (by kernel_rfl) (fun _ _ _ h => h) (Or.inr ⟨by rfl, rfl⟩) (by assumption) ?_
        simp only [List.set_cons_zero, List.set_cons_succ]
        refine take_at (i := 6) (n := 44) (v := undef) rfl rfl (by kernel_rfl) (by kernel_rfl) (by kernel_rfl) (fun _ _ _ h => h) (Or.inr ⟨by rfl, rfl⟩) (by assumption) ?_
        simp only [List.set_cons_zero, List.set_cons_succ]
        refine take_at (i := 7) (n := 45) (v := undef) rfl rfl (by kernel_rfl) (by kernel_rfl) (by kernel_rfl) (fun _ _ _ h => h) (Or.inr ⟨by rfl, rfl⟩) (by assumption) ?_
        simp only [List.set_cons_zero, List.set_cons_succ]
        refine take_at (i := 8) (n := 46) (v := undef) rfl rfl (by kernel_rfl) (by kernel_rfl) (by kernel_rfl) (fun _ _ _ h => h) (Or.inr ⟨by rfl, rfl⟩) (by assumption) ?_
        simp only [List.set_cons_zero, List.set_cons_succ]
        refine take_at (i := 9) (n := 47) (v := undef) rfl rfl (by kernel_rfl) (by kernel_rfl) (by kernel_rfl) (fun _ _ _ h => h) (Or.inr ⟨by rfl, rfl⟩) (by assumption) ?_
        simp only [List.set_cons_zero, List.set_cons_succ]
        refine take_at (i := 10) (n := 48) (v := undef) rfl rfl (by kernel_rfl) (by kernel_rfl) (by kernel_rfl) (fun _ _ _ h => h) (Or.inr ⟨by rfl, rfl⟩) (by assumption) ?_
        simp only [List.set_cons_zero, List.set_cons_succ]
        refine take_at (i := 11) (n := 49) (v := undef) rfl rfl (by kernel_rfl) (by kernel_rfl) (by kernel_rfl) (fun _ _ _ h => h) (Or.inr ⟨by rfl, rfl⟩) (by assumption) ?_
        simp only [List.set_cons_zero, List.set_cons_succ]
        refine take_at (i := 12) (n := 50) (v := undef) rfl rfl (by kernel_rfl) (by kernel_rfl) (by kernel_rfl) (fun _ _ _ h => h) (Or.inr ⟨by rfl, rfl⟩) (by assumption) ?_
        simp only [List.set_cons_zero, List.set_cons_succ]
        refine take_at (i := 13) (n := 51) (v := ?_) rfl rfl (by kernel_rfl) (by kernel_rfl) (by kernel_rfl) (fun _ _ _ h => h) (Or.inl ⟨by rfl, ?_⟩) (by assumption) ?_
        rotate_left 1
        · intro wz hSw
          clear hSw
          first | (go_simp; done) | (go_simp; with_reducible rfl)
        simp only [List.set_cons_zero, List.set_cons_succ]
        refine wpAnyH_done (by kernel_rfl) ?_ _
        refine NoPanic.normal ?_
        clear hHeld
        go_wp2_with fail
        refine ⟨⟨1, by omega, rfl, ⟨nq + 1, rfl⟩, .inr ⟨x, HX.out.1, ?_⟩⟩, by simp [intOf]; omega⟩
        have e := HX.out.2
        rw [List.drop_zero] at e
        rw [e]
        rfl
      · obtain ⟨p, hp, hup⟩ : ∃ p, fs[m]? = some p ∧ upF p (fs.drop (m + 1)) (m + 1) = upR fs := by
          rcases HK.out with h | ⟨p, h1, h2⟩
          · omega
          · exact ⟨p, h1, h2⟩
        rw [hd, upF] at hup
        rcases HR.out with h | ⟨b, o, rfl, hrow⟩
        · rw [h] at hlt; simp at hlt
        have c1 := below_cell (below_seq (by have := H1.out.bel; exact this) (below_drewN' (n := nq))) (S8.nuV_at hrow hx)
        have c0 := below_cell (below_seq (by have := H1.out.bel; exact this) (below_drewN' (n := nq))) (S8.nuV_at hrow hp)
        have HU : Hid ((if x ≤ p then ((m + 1 : Nat) : Int) else upF x (fs.drop (m + 1 + 1)) (m + 1 + 1)) = upR fs ∧ fs[m + 1]? = some x) := ⟨hup, hx⟩
        have hm0 : (0 : Int) < (m : Int) + 1 := by omega
        have hm3 : (0 : Int) ≤ (m : Int) + 1 := by omega
        have hm4 : ((m : Int) + 1).toNat = m + 1 := by omega
        have hmw : IntKind.i64.wrap ((m : Int) + 1 - 1) = (m : Int) := by rw [IntKind.wrap_i64]; omega
        have hmw2 : IntKind.i64.wrap (m : Int) = (m : Int) := by rw [IntKind.wrap_i64]; omega
        have hm1 : (m : Int) < (fs.length : Int) := by omega
        have hm2 : (m : Int) + 1 < (fs.length : Int) := by omega
        clear hup hx hd hp hrow HK
        by_cases hxp : x ≤ p
        · have e := HU.out.1
          rw [if_pos hxp] at e
          have HV : Hid (upR fs = ((m + 1 : Nat) : Int)) := e.symm
          clear e
          go_wp2_with fail
          refine wp_region_noPanic ?_
          refine wp_region_held_drew (S := fun w' => w'.cell? ⟨b, o + (m + 1), none⟩ = some (.int .i64 x) ∧ w'.cell? ⟨b, o + m, none⟩ = some (.int .i64 p)) (by kernel_rfl) ⟨c1, c0⟩ (fun hHeld => ?_)
          refine take_at (i := 0) (n := 38) (v := ?_) rfl rfl (by kernel_rfl) (by kernel_rfl) (by kernel_rfl) (fun _ _ _ h => h) (Or.inl ⟨by rfl, ?_⟩) (by assumption) ?_
          rotate_left 1
          · intro wz hSw
            obtain ⟨s0, s1⟩ := hSw
            first | (go_simp; done) | (go_simp; with_reducible rfl)
          simp only [List.set_cons_zero, List.set_cons_succ]
          refine take_at (i := 1) (n := 39) (v := ?_) rfl rfl (by kernel_rfl) (by kernel_rfl) (by kernel_rfl) (fun _ _ _ h => h) (Or.inl ⟨by rfl, ?_⟩) (by assumption) ?_
          rotate_left 1
          · intro wz hSw
            obtain ⟨s0, s1⟩ := hSw
            first | (go_simp; done) | (go_simp; with_reducible rfl)
          simp only [List.set_cons_zero, List.set_cons_succ]
          refine take_at (i := 2) (n := 40) (v := ?_) rfl rfl (by kernel_rfl) (by kernel_rfl) (by kernel_rfl) (fun _ _ _ h => h) (Or.inl ⟨by rfl, ?_⟩) (by assumption) ?_
          rotate_left 1
          · intro wz hSw
            obtain ⟨s0, s1⟩ := hSw
            first | (go_simp; done) | (go_simp; with_reducible rfl)
          simp only [List.set_cons_zero, List.set_cons_succ]
          refine take_at (i := 3) (n := 41) (v := ?_) rfl rfl (by kernel_rfl) (by kernel_rfl) (by kernel_rfl) (fun _ _ _ h => h) (Or.inl ⟨by rfl, ?_⟩) (by assumption) ?_
          rotate_left 1
          · intro wz hSw
            obtain ⟨s0, s1⟩ := hSw
            first | (go_simp; done) | (go_simp; with_reducible rfl)
          simp only [List.set_cons_zero, List.set_cons_succ]
          refine take_at (i := 4) (n := 42) (v := ?_) rfl rfl (by kernel_rfl) (by kernel_rfl) (by kernel_rfl) (fun _ _ _ h => h) (Or.inl ⟨by rfl, ?_⟩) (by assumption) ?_
          rotate_left 1
          · intro wz hSw
            obtain ⟨s0, s1⟩ := hSw
            first | (go_simp; done) | (go_simp; with_reducible rfl)
          simp only [List.set_cons_zero, List.set_cons_succ]
          refine take_at (i := 5) (n := 43) (v := ?_) rfl rfl (by kernel_rfl) (by kernel_rfl) (by kernel_rfl) (fun _ _ _ h => h) (Or.inl ⟨by rfl, ?_⟩) (by assumption) ?_
          rotate_left 1
          · intro wz hSw
            obtain ⟨s0, s1⟩ := hSw
            first | (go_simp; done) | (go_simp; with_reducible rfl)
          simp only [List.set_cons_zero, List.set_cons_succ]
          refine take_at (i := 6) (n := 44) (v := ?_) rfl rfl (by kernel_rfl) (by kernel_rfl) (by kernel_rfl) (fun _ _ _ h => h) (Or.inl ⟨by rfl, ?_⟩) (by assumption) ?_
          rotate_left 1
          · intro wz hSw
            obtain ⟨s0, s1⟩ := hSw
            first | (go_simp; done) | (go_simp; with_reducible rfl)
          simp only [List.set_cons_zero, List.set_cons_succ]
          refine take_at (i := 7) (n := 45) (v := ?_) rfl rfl (by kernel_rfl) (by kernel_rfl) (by kernel_rfl) (fun _ _ _ h => h) (Or.inl ⟨by rfl, ?_⟩) (by assumption) ?_
          rotate_left 1
          · intro wz hSw
            obtain ⟨s0, s1⟩ := hSw
            first | (go_simp; done) | (go_simp; with_reducible rfl)
          simp only [List.set_cons_zero, List.set_cons_succ]
          refine take_at (i := 8) (n := 46) (v := ?_) rfl rfl (by kernel_rfl) (by kernel_rfl) (by kernel_rfl) (fun _ _ _ h => h) (Or.inl ⟨by rfl, ?_⟩) (by assumption) ?_
          rotate_left 1
          · intro wz hSw
            obtain ⟨s0, s1⟩ := hSw
            first | (go_simp; done) | (go_simp; with_reducible rfl)
          simp only [List.set_cons_zero, List.set_cons_succ]
          refine take_at (i := 9) (n := 47) (v := ?_) rfl rfl (by kernel_rfl) (by kernel_rfl) (by kernel_rfl) (fun _ _ _ h => h) (Or.inl ⟨by rfl, ?_⟩) (by assumption) ?_
          rotate_left 1
          · intro wz hSw
            obtain ⟨s0, s1⟩ := hSw
            first | (go_simp; done) | (go_simp; with_reducible rfl)
          simp only [List.set_cons_zero, List.set_cons_succ]
          refine take_at (i := 10) (n := 48) (v := ?_) rfl rfl (by kernel_rfl) (by kernel_rfl) (by kernel_rfl) (fun _ _ _ h => h) (Or.inl ⟨by rfl, ?_⟩) (by assumption) ?_
          rotate_left 1
          · intro wz hSw
            obtain ⟨s0, s1⟩ := hSw
            first | (go_simp; done) | (go_simp; with_reducible rfl)
          simp only [List.set_cons_zero, List.set_cons_succ]
          refine take_at (i := 11) (n := 49) (v := ?_) rfl rfl (by kernel_rfl) (by kernel_rfl) (by kernel_rfl) (fun _ _ _ h => h) (Or.inl ⟨by rfl, ?_⟩) (by assumption) ?_
          rotate_left 1
          · intro wz hSw
            obtain ⟨s0, s1⟩ := hSw
            first | (go_simp; done) | (go_simp; with_reducible rfl)
          simp only [List.set_cons_zero, List.set_cons_succ]
          refine take_at (i := 12) (n := 50) (v := ?_) rfl rfl (by kernel_rfl) (by kernel_rfl) (by kernel_rfl) (fun _ _ _ h => h) (Or.inl ⟨by rfl, ?_⟩) (by assumption) ?_
          rotate_left 1
          · intro wz hSw
            obtain ⟨s0, s1⟩ := hSw
            first | (go_simp; done) | (go_simp; with_reducible rfl)
          simp only [List.set_cons_zero, List.set_cons_succ]
          refine take_at (i := 13) (n := 51) (v := ?_) rfl rfl (by kernel_rfl) (by kernel_rfl) (by kernel_rfl) (fun _ _ _ h => h) (Or.inl ⟨by rfl, ?_⟩) (by assumption) ?_
          rotate_left 1
          · intro wz hSw
            obtain ⟨s0, s1⟩ := hSw
            first | (go_simp; done) | (go_simp; with_reducible rfl)
          simp only [List.set_cons_zero, List.set_cons_succ]
          refine wpAnyH_done (by kernel_rfl) ?_ _
          refine NoPanic.normal ?_
          clear hHeld
          have HG : Hid (FB w (w2.drewN nq).drew G) := (H1.out.grow (below_drewN' (n := nq))).grow (Below.refl _ _).drew
          clear c0 c1
          generalize (w2.drewN nq).drew = w4 at *
          obtain ⟨rs1, rf1, rl2⟩ := cells_of (l := [_, _]) HG.out.res
          have r20 := rs1 0 _ rfl
          have r21 := rs1 1 _ rfl
          have f20 := rf1 0
          have f21 := rf1 1
          clear rs1 rf1
          go_wp2_with fail
          refine bodyPost_ret (checkPlay_ends (set_two HG.out.res) rfl) rfl ?_
          have e := HE.out
          rw [HV.out, if_pos (by omega)] at e
          simp at e
          exact FIN.out w4 HG.out 12 _ e.1 e.2
        · have e := HU.out.1
          rw [if_neg hxp] at e
          have HV : Hid (upF x (fs.drop (m + 1 + 1)) (m + 1 + 1) = upR fs) := e
          clear e
          go_wp2_with fail
          refine wp_region_noPanic ?_
          refine wp_region_held_drew (S := fun w' => w'.cell? ⟨b, o + (m + 1), none⟩ = some (.int .i64 x) ∧ w'.cell? ⟨b, o + m, none⟩ = some (.int .i64 p)) (by kernel_rfl) ⟨c1, c0⟩ (fun hHeld => ?_)
          refine take_at (i := 0) (n := 38) (v := ?_) rfl rfl (by kernel_rfl) (by kernel_rfl) (by kernel_rfl) (fun _ _ _ h => h) (Or.inl ⟨by rfl, ?_⟩) (by assumption) ?_
          rotate_left 1
          · intro wz hSw
            obtain ⟨s0, s1⟩ := hSw
            first | (go_simp; done) | (go_simp; with_reducible rfl)
          simp only [List.set_cons_zero, List.set_cons_succ]
          refine take_at (i := 1) (n := 39) (v := ?_) rfl rfl (by kernel_rfl) (by kernel_rfl) (by kernel_rfl) (fun _ _ _ h => h) (Or.inl ⟨by rfl, ?_⟩) (by assumption) ?_
          rotate_left 1
          · intro wz hSw
            obtain ⟨s0, s1⟩ := hSw
            first | (go_simp; done) | (go_simp; with_reducible rfl)
          simp only [List.set_cons_zero, List.set_cons_succ]
          refine take_at (i := 2) (n := 40) (v := ?_) rfl rfl (by kernel_rfl) (by kernel_rfl) (by kernel_rfl) (fun _ _ _ h => h) (Or.inl ⟨by rfl, ?_⟩) (by assumption) ?_
          rotate_left 1
          · intro wz hSw
            obtain ⟨s0, s1⟩ := hSw
            first | (go_simp; done) | (go_simp; with_reducible rfl)
          simp only [List.set_cons_zero, List.set_cons_succ]
          refine take_at (i := 3) (n := 41) (v := ?_) rfl rfl (by kernel_rfl) (by kernel_rfl) (by kernel_rfl) (fun _ _ _ h => h) (Or.inl ⟨by rfl, ?_⟩) (by assumption) ?_
          rotate_left 1
          · intro wz hSw
            obtain ⟨s0, s1⟩ := hSw
            first | (go_simp; done) | (go_simp; with_reducible rfl)
          simp only [List.set_cons_zero, List.set_cons_succ]
          refine take_at (i := 4) (n := 42) (v := ?_) rfl rfl (by kernel_rfl) (by kernel_rfl) (by kernel_rfl) (fun _ _ _ h => h) (Or.inl ⟨by rfl, ?_⟩) (by assumption) ?_
          rotate_left 1
          · intro wz hSw
            obtain ⟨s0, s1⟩ := hSw
            first | (go_simp; done) | (go_simp; with_reducible rfl)
          simp only [List.set_cons_zero, List.set_cons_succ]
          refine take_at (i := 5) (n := 43) (v := ?_) rfl rfl (by kernel_rfl) (by kernel_rfl) (by kernel_rfl) (fun _ _ _ h => h) (Or.inl ⟨by rfl, ?_⟩) (by assumption) ?_
          rotate_left 1
          · intro wz hSw
            obtain ⟨s0, s1⟩ := hSw
            first | (go_simp; done) | (go_simp; with_reducible rfl)
          simp only [List.set_cons_zero, List.set_cons_succ]
          refine take_at (i := 6) (n := 44) (v := ?_) rfl rfl (by kernel_rfl) (by kernel_rfl) (by kernel_rfl) (fun _ _ _ h => h) (Or.inl ⟨by rfl, ?_⟩) (by assumption) ?_
          rotate_left 1
          · intro wz hSw
            obtain ⟨s0, s1⟩ := hSw
            first | (go_simp; done) | (go_simp; with_reducible rfl)
          simp only [List.set_cons_zero, List.set_cons_succ]
          refine take_at (i := 7) (n := 45) (v := ?_) rfl rfl (by kernel_rfl) (by kernel_rfl) (by kernel_rfl) (fun _ _ _ h => h) (Or.inl ⟨by rfl, ?_⟩) (by assumption) ?_
          rotate_left 1
          · intro wz hSw
            obtain ⟨s0, s1⟩ := hSw
            first | (go_simp; done) | (go_simp; with_reducible rfl)
          simp only [List.set_cons_zero, List.set_cons_succ]
          refine take_at (i := 8) (n := 46) (v := ?_) rfl rfl (by kernel_rfl) (by kernel_rfl) (by kernel_rfl) (fun _ _ _ h => h) (Or.inl ⟨by rfl, ?_⟩) (by assumption) ?_
          rotate_left 1
          · intro wz hSw
            obtain ⟨s0, s1⟩ := hSw
            first | (go_simp; done) | (go_simp; with_reducible rfl)
          simp only [List.set_cons_zero, List.set_cons_succ]
          refine take_at (i := 9) (n := 47) (v := ?_) rfl rfl (by kernel_rfl) (by kernel_rfl) (by kernel_rfl) (fun _ _ _ h => h) (Or.inl ⟨by rfl, ?_⟩) (by assumption) ?_
          rotate_left 1
          · intro wz hSw
            obtain ⟨s0, s1⟩ := hSw
            first | (go_simp; done) | (go_simp; with_reducible rfl)
          simp only [List.set_cons_zero, List.set_cons_succ]
          refine take_at (i := 10) (n := 48) (v := ?_) rfl rfl (by kernel_rfl) (by kernel_rfl) (by kernel_rfl) (fun _ _ _ h => h) (Or.inl ⟨by rfl, ?_⟩) (by assumption) ?_
          rotate_left 1
          · intro wz hSw
            obtain ⟨s0, s1⟩ := hSw
            first | (go_simp; done) | (go_simp; with_reducible rfl)
          simp only [List.set_cons_zero, List.set_cons_succ]
          refine take_at (i := 11) (n := 49) (v := ?_) rfl rfl (by kernel_rfl) (by kernel_rfl) (by kernel_rfl) (fun _ _ _ h => h) (Or.inl ⟨by rfl, ?_⟩) (by assumption) ?_
          rotate_left 1
          · intro wz hSw
            obtain ⟨s0, s1⟩ := hSw
            first | (go_simp; done) | (go_simp; with_reducible rfl)
          simp only [List.set_cons_zero, List.set_cons_succ]
          refine take_at (i := 12) (n := 50) (v := ?_) rfl rfl (by kernel_rfl) (by kernel_rfl) (by kernel_rfl) (fun _ _ _ h => h) (Or.inl ⟨by rfl, ?_⟩) (by assumption) ?_
          rotate_left 1
          · intro wz hSw
            obtain ⟨s0, s1⟩ := hSw
            first | (go_simp; done) | (go_simp; with_reducible rfl)
          simp only [List.set_cons_zero, List.set_cons_succ]
          refine take_at (i := 13) (n := 51) (v := ?_) rfl rfl (by kernel_rfl) (by kernel_rfl) (by kernel_rfl) (fun _ _ _ h => h) (Or.inl ⟨by rfl, ?_⟩) (by assumption) ?_
          rotate_left 1
          · intro wz hSw
            obtain ⟨s0, s1⟩ := hSw
            first | (go_simp; done) | (go_simp; with_reducible rfl)
          simp only [List.set_cons_zero, List.set_cons_succ]
          refine wpAnyH_done (by kernel_rfl) ?_ _
          refine NoPanic.normal ?_
          clear hHeld
          go_wp2_with fail
          exact ⟨⟨m + 1 + 1, by omega, by simp, ⟨nq + 1, rfl⟩, .inr ⟨x, HU.out.2, HV.out⟩⟩, by simp [intOf]; omega⟩
    · have hke : k = fs.length := by omega
      subst hke
      have HG : Hid (FB w (w2.drewN nq) G) := H1.out.grow (below_drewN' (n := nq))
      generalize w2.drewN nq = w4 at *
      obtain ⟨rs1, rf1, rl2⟩ := cells_of (l := [_, _]) HG.out.res
      have r20 := rs1 0 _ rfl
      have r21 := rs1 1 _ rfl
      have f20 := rf1 0
      have f21 := rf1 1
      clear rs1 rf1
      go_wp2_with fail
      refine bodyPost_ret (checkPlay_ends (set_two HG.out.res) rfl) rfl ?_
      have hneg : upR fs < 0 := by
        rcases HK.out with h | ⟨p, h1, h2⟩
        · have : fs = [] := List.length_eq_zero_iff.1 h
          rw [this]; decide
        · rw [List.drop_length, upF] at h2
          omega
      have e := HE.out
      rw [if_neg (by omega)] at e
      simp at e
      exact FIN.out w4 HG.out 0 0 e.1 e.2
end Go.Proofs.YtekbkcgpjkecbalDoor
namespace Go.Proofs.YtekbkcgpjkecbalDoor.S8
open Go.ChangeShapes Go.WideShapes Go.ChangeAt Go.RowKit Go.Sort

/-- A box and two blocks for results. -/
structure TR (w W : World) (vf : Value) : Prop where
  bel : Below w.heap.size w W
  bx : W.heap[w.heap.size]? = some (.cells #[vf] 36 (0, 0))
  r1 : W.heap[w.heap.size + 1]? = some (.cells #[.slice none 0 0, .slice none 0 0] 43 (0, 0))
  r2 : W.heap[w.heap.size + 1 + 1]? = some (.cells #[.int .i64 0, .int .i64 0] 30 (0, 0))

theorem TR.start (w : World) (vf : Value) : TR w (((w.alloc (.cells #[vf] 36)).alloc (.cells #[.slice none 0 0, .slice none 0 0] 43)).alloc (.cells #[.int .i64 0, .int .i64 0] 30)) vf := by
  refine ⟨below_seq (below_seq (below_new _ _) (below_new _ _)) (below_new _ _), ?_, ?_, heap_new3 _ _ _ _⟩
  · rw [Below.heap_alloc _ _ _ (by simp; omega), Below.heap_alloc _ _ _ (by simp)]
    exact heap_alloc_new _ _
  · rw [Below.heap_alloc _ _ _ (by simp)]
    exact heap_new2 _ _ _

theorem TR.grow {w W W' : World} {vf : Value} (h : TR w W vf) (hb : Below W.heap.size W W') : TR w W' vf :=
  ⟨below_seq h.bel hb, (hb.block _ (lt_of_heap h.bx)).trans h.bx, (hb.block _ (lt_of_heap h.r1)).trans h.r1, (hb.block _ (lt_of_heap h.r2)).trans h.r2⟩

/-- Both results are laid. -/
theorem TR.put {w W : World} {vf : Value} (h : TR w W vf) (a b c k : Value) : ((((W.setCell ⟨w.heap.size + 1, 0, none⟩ a).setCell ⟨w.heap.size + 1, 1, none⟩ b).setCell ⟨w.heap.size + 1 + 1, 0, none⟩ c).setCell ⟨w.heap.size + 1 + 1, 1, none⟩ k).heap[w.heap.size + 1]? = some (.cells #[a, b] 43 (0, 0)) ∧ ((((W.setCell ⟨w.heap.size + 1, 0, none⟩ a).setCell ⟨w.heap.size + 1, 1, none⟩ b).setCell ⟨w.heap.size + 1 + 1, 0, none⟩ c).setCell ⟨w.heap.size + 1 + 1, 1, none⟩ k).heap[w.heap.size + 1 + 1]? = some (.cells #[c, k] 30 (0, 0)) ∧ Below w.heap.size w ((((W.setCell ⟨w.heap.size + 1, 0, none⟩ a).setCell ⟨w.heap.size + 1, 1, none⟩ b).setCell ⟨w.heap.size + 1 + 1, 0, none⟩ c).setCell ⟨w.heap.size + 1 + 1, 1, none⟩ k) ∧ ∀ q, w.heap.size + 1 + 1 < q → ((((W.setCell ⟨w.heap.size + 1, 0, none⟩ a).setCell ⟨w.heap.size + 1, 1, none⟩ b).setCell ⟨w.heap.size + 1 + 1, 0, none⟩ c).setCell ⟨w.heap.size + 1 + 1, 1, none⟩ k).heap[q]? = W.heap[q]? := by
  have ha : ((W.setCell ⟨w.heap.size + 1, 0, none⟩ a).setCell ⟨w.heap.size + 1, 1, none⟩ b).heap[w.heap.size + 1]? = some (.cells #[a, b] 43 (0, 0)) := by rw [setCell_at (setCell_at h.r1)]; rfl
  have hb : ((W.setCell ⟨w.heap.size + 1, 0, none⟩ a).setCell ⟨w.heap.size + 1, 1, none⟩ b).heap[w.heap.size + 1 + 1]? = some (.cells #[.int .i64 0, .int .i64 0] 30 (0, 0)) := by
    rw [Below.heap_setCell _ _ _ _ (by show w.heap.size + 1 + 1 ≠ w.heap.size + 1; omega), Below.heap_setCell _ _ _ _ (by show w.heap.size + 1 + 1 ≠ w.heap.size + 1; omega)]
    exact h.r2
  refine ⟨?_, ?_, (((h.bel.setCell (show w.heap.size ≤ w.heap.size + 1 by omega) _).setCell (show w.heap.size ≤ w.heap.size + 1 by omega) _).setCell (show w.heap.size ≤ w.heap.size + 1 + 1 by omega) _).setCell (show w.heap.size ≤ w.heap.size + 1 + 1 by omega) _, fun q hq => ?_⟩
  · rw [Below.heap_setCell _ _ _ _ (by show w.heap.size + 1 ≠ w.heap.size + 1 + 1; omega), Below.heap_setCell _ _ _ _ (by show w.heap.size + 1 ≠ w.heap.size + 1 + 1; omega)]
    exact ha
  · rw [setCell_at (setCell_at hb)]; rfl
  · rw [Below.heap_setCell _ _ _ _ (by show q ≠ w.heap.size + 1 + 1; omega), Below.heap_setCell _ _ _ _ (by show q ≠ w.heap.size + 1 + 1; omega), Below.heap_setCell _ _ _ _ (by show q ≠ w.heap.size + 1; omega), Below.heap_setCell _ _ _ _ (by show q ≠ w.heap.size + 1; omega)]

theorem PlayR_ends {w : World} {g1 g2 : Nat} {a b c k : Value} {ac : Act} (h : w.heap[g1]? = some (.cells #[a, b] 43 (0, 0))) (h' : w.heap[g2]? = some (.cells #[c, k] 30 (0, 0))) (h2 : ac.tmps[8]?.getD undef = .pointer (some ⟨g1, 0, none⟩)) (h3 : ac.tmps[9]?.getD undef = .pointer (some ⟨g2, 0, none⟩)) :
    (results Tryd.f15 ac.tmps).run Tryd.prog w = .ok (.tuple #[.agg #[a, b], .agg #[c, k]]) w := by
  obtain ⟨c1, f1, l1⟩ := cells_of (l := [_, _]) h
  have c10 := c1 0 _ rfl
  have c11 := c1 1 _ rfl
  obtain ⟨d1, f2, l2⟩ := cells_of (l := [_, _]) h'
  have d10 := d1 0 _ rfl
  have d11 := d1 1 _ rfl
  simp [results, Tryd.results15, go_sem, h2, h3, c10, c11, d10, d11]

set_option maxRecDepth 20000 in
set_option maxHeartbeats 2000000 in
theorem PlayR_bad (w : World) (l : List Jb) (sp : Int) (fs : List Int) (u : Int) (v vf : Value) (hv : RowSl Jb.vals w l v) (hf : RowSl nuV w fs vf) (h0 : (chkR l sp fs u).1 ≠ 0) :
    Calls Tryd.prog 15 #[v, .int .i64 sp, vf, .int .i64 u] w fun r W => r = .returned (.tuple #[.agg #[.slice none 0 0, .slice none 0 0], .agg #[.int .i64 (chkR l sp fs u).1, .int .i64 (chkR l sp fs u).2]]) ∧ Below w.heap.size w W := by
  have HC := checkPlay_any (((w.alloc (.cells #[vf] 36)).alloc (.cells #[.slice none 0 0, .slice none 0 0] 43)).alloc (.cells #[.int .i64 0, .int .i64 0] 30)) l sp fs u v vf (hv.below (TR.start w vf).bel) (hf.below (TR.start w vf).bel)
  have HS : Hid (TR w (((w.alloc (.cells #[vf] 36)).alloc (.cells #[.slice none 0 0, .slice none 0 0] 43)).alloc (.cells #[.int .i64 0, .int .i64 0] 30)) vf) := TR.start w vf
  obtain ⟨ad, c, rfl⟩ := hv.len
  obtain ⟨ad1, c1, rfl⟩ := hf.len
  clear hv hf
  generalize (chkR l sp fs u).1 = z1 at *
  generalize (chkR l sp fs u).2 = z2 at *
  have hz : (z1 != 0) = true := by simpa using h0
  clear h0
  go_enter Tryd.func15, Tryd.ntmps15
  go_upto_region 3 with (go_at_call 38; refine HC.mono ?_; rintro r w1 ⟨rfl, hb1⟩; have HX : Hid (TR w (w1.alloc (.cells #[.int .i64 z1, .int .i64 z2] 30)) (.slice ad1 fs.length c1)) := (HS.out.grow hb1).grow (below_new _ _); have hl1 : w.heap.size + 1 < w1.heap.size := lt_of_heap (HS.out.grow hb1).r1; have hl2 : w.heap.size + 1 + 1 < w1.heap.size := lt_of_heap (HS.out.grow hb1).r2; clear hb1 HC)
  obtain ⟨gs, -, fl⟩ := cells_of (l := [_, _]) (heap_alloc_new w1 (.cells #[.int .i64 z1, .int .i64 z2] 30))
  have g0 := gs 0 _ rfl
  have g1 := gs 1 _ rfl
  clear gs
  generalize w1.alloc (.cells #[.int .i64 z1, .int .i64 z2] 30) = w2 at *
  obtain ⟨qs, qf, ql⟩ := cells_of (l := [_, _]) HX.out.r1; have q0 := qs 0 _ rfl; have q1 := qs 1 _ rfl; have qf0 := qf 0; have qf1 := qf 1; obtain ⟨rs, rf, rl⟩ := cells_of (l := [_, _]) HX.out.r2; have r0 := rs 0 _ rfl; have r1 := rs 1 _ rfl; have rf0 := rf 0; have rf1 := rf 1; clear qs qf rs rf
  go_region
  all_goals go_wp2_with fail
  all_goals
    have hx := HX.out.put (.slice none 0 0) (.slice none 0 0) (.int .i64 z1) (.int .i64 z2)
    refine bodyPost_ret (PlayR_ends (g1 := w.heap.size + 1) (g2 := w.heap.size + 1 + 1) (a := .slice none 0 0) (b := .slice none 0 0) (c := .int .i64 z1) (k := .int .i64 z2) hx.1 hx.2.1 rfl rfl) rfl ?_
    exact ⟨rfl, hx.2.2.1.drew⟩

/-- What was played: rows of one's own. -/
def OutR (w W : World) (l : List Jb) (sp : Int) (fs : List Int) (n : Nat) (v1 v2 : Value) : Prop := (∃ q rb eb, PlaysR l sp (fun t => decide ((t : Int) ∈ fs)) n q ∧ v1 = .slice (some ⟨rb, 0, none⟩) n n ∧ v2 = .slice (some ⟨eb, 0, none⟩) l.length l.length ∧ W.heap[rb]? = some (.cells (q.s.runs.map (Value.int .i64)).toArray 3 (0, 0)) ∧ W.heap[eb]? = some (.cells (q.s.ends.map (Value.int .i64)).toArray 3 (0, 0)) ∧ rb ≠ eb ∧ w.heap.size ≤ rb ∧ w.heap.size ≤ eb) ∧ Below w.heap.size w W

set_option maxRecDepth 20000 in
set_option maxHeartbeats 2000000 in
theorem PlayR_good (w : World) (l : List Jb) (sp : Int) (fs : List Int) (n : Nat) (v vf : Value) (hv : RowSl Jb.vals w l v) (hf : RowSl nuV w fs vf) (h0 : (chkR l sp fs (n : Int)).1 = 0) :
    Calls Tryd.prog 15 #[v, .int .i64 sp, vf, .int .i64 (n : Int)] w fun r W => ∃ v1 v2, r = .returned (.tuple #[.agg #[v1, v2], .agg #[.int .i64 0, .int .i64 0]]) ∧ OutR w W l sp fs n v1 v2 := by
  have HC := checkPlay_any (((w.alloc (.cells #[vf] 36)).alloc (.cells #[.slice none 0 0, .slice none 0 0] 43)).alloc (.cells #[.int .i64 0, .int .i64 0] 30)) l sp fs (n : Int) v vf (hv.below (TR.start w vf).bel) (hf.below (TR.start w vf).bel)
  have HS : Hid (TR w (((w.alloc (.cells #[vf] 36)).alloc (.cells #[.slice none 0 0, .slice none 0 0] 43)).alloc (.cells #[.int .i64 0, .int .i64 0] 30)) vf) := TR.start w vf
  obtain ⟨k1, k2, k3, k4, k5, k6⟩ := chkR_ok h0
  have hn : n ≤ 20000 := by unfold within at k3; simp at k3; omega
  rw [k6] at HC
  dsimp only at HC
  obtain ⟨kl, kok, -⟩ := chkJ_ok k1
  have HV : Hid (RowSl Jb.vals w l v ∧ RowSl nuV w fs vf ∧ fs.Pairwise (· < ·) ∧ fs.length ≤ 4000) := ⟨hv, hf, k5, k4⟩
  obtain ⟨ad, c, rfl⟩ := hv.len
  obtain ⟨ad1, c1, rfl⟩ := hf.len
  have HK : Hid (l.length ≤ 4000 ∧ (∀ x ∈ l, okJ x)) := ⟨kl, kok⟩
  clear hv hf h0 k1 k2 k3 k4 k5 k6 kl kok
  go_enter Tryd.func15, Tryd.ntmps15
  go_upto_region 2 with (go_at_call 38; refine HC.mono ?_; rintro r w1 ⟨rfl, hb1⟩; have H1 : Hid (TR w (w1.alloc (.cells #[.int .i64 0, .int .i64 0] 30)) (.slice ad1 fs.length c1)) := (HS.out.grow hb1).grow (below_new _ _); clear hb1 HC HS)
  obtain ⟨gs, -, fl⟩ := cells_of (l := [_, _]) (heap_alloc_new w1 (.cells #[.int .i64 0, .int .i64 0] 30))
  have g0 := gs 0 _ rfl
  clear gs
  generalize w1.alloc (.cells #[.int .i64 0, .int .i64 0] 30) = w2 at *
  have hbx := (cells_of (l := [_]) H1.out.bx).1 0 _ rfl
  have HP := playR_walk w2 l sp _ n w.heap.size (fun t => decide ((t : Int) ∈ fs)) (HV.out.1.below H1.out.bel) HK.out.1 HK.out.2 hn (fun W' hb t _ => struck_any W' fs _ w.heap.size (t : Int) (HV.out.2.1.below (below_seq H1.out.bel hb)) (below_cell hb hbx) HV.out.2.2.1 (by have := HV.out.2.2.2; omega)) (fun W v hW => by
    have := New_any W l v 1 (.inl rfl) hW HK.out.1
    rw [if_neg (by decide)] at this
    exact this)
  clear hbx
  go_wp2_with (go_at_call 41; refine HP.mono ?_; rintro r w7 ⟨q, rb, eb, hpl, rfl, hrb, heb, hne, hrl, hel, hb7⟩; have HX : Hid (TR w w7 (.slice ad1 fs.length c1)) := H1.out.grow hb7; have HO : Hid (PlaysR l sp (fun t => decide ((t : Int) ∈ fs)) n q ∧ w7.heap[rb]? = some (.cells (q.s.runs.map (Value.int .i64)).toArray 3 (0, 0)) ∧ w7.heap[eb]? = some (.cells (q.s.ends.map (Value.int .i64)).toArray 3 (0, 0)) ∧ rb ≠ eb ∧ w2.heap.size ≤ rb ∧ w2.heap.size ≤ eb ∧ w.heap.size + 1 + 1 < w2.heap.size) := ⟨hpl, hrb, heb, hne, hrl, hel, lt_of_heap H1.out.r2⟩; obtain ⟨qs, qf, ql⟩ := cells_of (l := [_, _]) HX.out.r1; have q0 := qs 0 _ rfl; have q1 := qs 1 _ rfl; have qf0 := qf 0; have qf1 := qf 1; obtain ⟨rs, rf, rl⟩ := cells_of (l := [_, _]) HX.out.r2; have r0 := rs 0 _ rfl; have r1 := rs 1 _ rfl; have rf0 := rf 0; have rf1 := rf 1; clear qs qf rs rf; clear hpl hrb heb hne hrl hel hb7 HP)
  have hx := HX.out.put (.slice (some ⟨rb, 0, none⟩) n n) (.slice (some ⟨eb, 0, none⟩) l.length l.length) (.int .i64 0) (.int .i64 0)
  refine bodyPost_ret (PlayR_ends (g1 := w.heap.size + 1) (g2 := w.heap.size + 1 + 1) (a := .slice (some ⟨rb, 0, none⟩) n n) (b := .slice (some ⟨eb, 0, none⟩) l.length l.length) (c := .int .i64 0) (k := .int .i64 0) hx.1 hx.2.1 rfl rfl) rfl ?_
  obtain ⟨o1, o2, o3, o4, o5, o6, o7⟩ := HO.out
  exact ⟨_, _, rfl, ⟨q, rb, eb, o1, rfl, rfl, (hx.2.2.2 rb (by omega)).trans o2, (hx.2.2.2 eb (by omega)).trans o3, o4, by omega, by omega⟩, hx.2.2.1⟩
end Go.Proofs.YtekbkcgpjkecbalDoor.S8
