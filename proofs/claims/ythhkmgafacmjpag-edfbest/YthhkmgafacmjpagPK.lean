import Derived.Test.YthhkmgafacmjpagPJ
namespace Go.Proofs.Ythhkmgafacmjpag
open Go.ChangeShapes Go.WideShapes Go.ChangeAt Go.RowKit Go.Sort

/-- How many still come. -/
def comesLen (K : Nat) (w : World) : Nat := match w.cell? ⟨K, 1, none⟩ with
  | some (.slice _ n _) => n
  | _ => 0

theorem CoreW.comesLen {B K R C : Nat} {W : World} {l : List Jb} {rk cm : List Nat} {k : Nat} {th : List Nat} {left : List Int} {tv cv : Value} (h : CoreW B K R C W l rk cm k th left tv cv) : comesLen K W = l.length - k := by
  obtain ⟨hs, -, -⟩ := cells_of (l := [_, _, _]) h.core
  have c1 := hs 1 _ rfl
  obtain ⟨a, e, -⟩ := h.cval
  unfold Go.Proofs.Ythhkmgafacmjpag.comesLen
  rw [c1, e]

theorem ents_at {l : List Jb} {rk : List Nat} {left : List Int} {p : Nat} (hp : p < rk.length) : (entsOf l rk left)[p]? = some ⟨J l (RK rk p), ((RK rk p : Nat) : Int), L left (RK rk p)⟩ := by
  unfold entsOf
  rw [List.getElem?_map, RK_get hp]
  rfl

theorem CoreW.ent {B K R C : Nat} {W : World} {l : List Jb} {rk cm : List Nat} {k : Nat} {th : List Nat} {left : List Int} {tv cv : Value} (h : CoreW B K R C W l rk cm k th left tv cv) {p i : Nat} {u : Value} (hp : p < rk.length) (hi : i < 7) (hu : (En.vals ⟨J l (RK rk p), ((RK rk p : Nat) : Int), L left (RK rk p)⟩)[i]? = some u) : W.cell? ⟨R, p * 7 + i, none⟩ = some u := by
  refine (cells_of (l := (entsOf l rk left).flatMap En.vals) h.ranked).1 _ _ ?_
  rw [flat_at En.vals 7 En.len _ p i _ (ents_at hp) hi]
  exact hu

theorem CoreW.alloc {B K R C : Nat} {W : World} {l : List Jb} {rk cm : List Nat} {k : Nat} {th : List Nat} {left : List Int} {tv cv : Value} (h : CoreW B K R C W l rk cm k th left tv cv) (o : Obj) : CoreW B K R C (W.drew.alloc o) l rk cm k th left tv cv ∧ Moved W (W.drew.alloc o) K tv tv := by
  have keep : ∀ b, b < W.heap.size → (W.drew.alloc o).heap[b]? = W.heap[b]? := fun b hb => Below.heap_alloc W.drew o b hb
  have hb := h.bs
  have lK := h.lK
  have lR := h.lR
  have lC := h.lC
  refine ⟨⟨(keep K (by omega)).trans h.core, (keep R (by omega)).trans h.ranked, (keep C (by omega)).trans h.comes, h.there.same (fun g e => keep g (h.there.low e).2), lK, lR, lC, h.dR, h.dC, h.dRC, ?_, h.cval⟩, ⟨rfl, rfl, rfl, ?_, fun b hb _ hu => ⟨keep b hb, hu⟩⟩⟩
  · simp; omega
  · simp

/-- One comes: what the core is behind it. -/
theorem CoreW.next {B K R C : Nat} {W : World} {l : List Jb} {rk cm : List Nat} {k : Nat} {th : List Nat} {left : List Int} {tv cv : Value} (h : CoreW B K R C W l rk cm k th left tv cv) (cv' : Value) (hc : ∃ a, cv' = .slice a (l.length - (k + 1)) (l.length - (k + 1)) ∧ (k + 1 < l.length → a = some ⟨C, k + 1, none⟩)) :
    CoreW B K R C (W.setCell ⟨K, 1, none⟩ cv') l rk cm (k + 1) th left tv cv' ∧ Moved W (W.setCell ⟨K, 1, none⟩ cv') K tv tv := by
  have hne : ∀ g, tv.ownBlock = some g → g ≠ K := fun g e => by have := h.low g e; have := h.lK; omega
  refine ⟨⟨?_, ?_, ?_, h.there.same (fun g e => Below.heap_setCell _ _ _ _ (hne g e)), h.lK, h.lR, h.lC, h.dR, h.dC, h.dRC, ?_, hc⟩, ⟨rfl, rfl, rfl, ?_, fun b hb hbK hu => ⟨Below.heap_setCell _ _ _ _ hbK, hu⟩⟩⟩
  · rw [setCell_at h.core]; rfl
  · rw [Below.heap_setCell _ _ _ _ h.dR]; exact h.ranked
  · rw [Below.heap_setCell _ _ _ _ h.dC]; exact h.comes
  · have := h.bs; simpa using this
  · simp

set_option maxRecDepth 20000 in
set_option maxHeartbeats 2000000 in
theorem come_any (B K R C : Nat) (W : World) (l : List Jb) (pol : Int) (rk cm : List Nat) (k : Nat) (th : List Nat) (left : List Int) (tv cv : Value) (t : Int) (h : CoreW B K R C W l rk cm k th left tv cv) (hcore : Core l rk cm k th left) (hr : Ranked l pol rk) (hc : Coming l rk cm) (hl : l.length ≤ 4000) (hb : ∀ p ∈ cm.take k, (J l (RK rk p)).a ≤ t) :
    Calls Try.prog 32 #[.pointer (some ⟨K, 0, none⟩), .int .i64 t] W fun r W' => r = .returned (.tuple #[]) ∧ ∃ k' th' tv' cv', CoreW B K R C W' l rk cm k' th' left tv' cv' ∧ Core l rk cm k' th' left ∧ Now l rk cm k' t ∧ Moved W W' K tv tv' ∧ (∀ x ∈ th, x ∈ th') := by
  have HK : Hid (Ranked l pol rk ∧ Coming l rk cm) := ⟨hr, hc⟩
  have H0 : Hid (CoreW B K R C W l rk cm k th left tv cv ∧ Core l rk cm k th left ∧ (∀ p ∈ cm.take k, (J l (RK rk p)).a ≤ t)) := ⟨h, hcore, hb⟩
  clear h hcore hr hc hb
  go_enter Try.func32, Try.ntmps32
  go_wp2_with fail
  go_loopw [4] (fun _ wr => ∃ k1 th1 tv1 cv1, CoreW B K R C wr l rk cm k1 th1 left tv1 cv1 ∧ Core l rk cm k1 th1 left ∧ (∀ p ∈ cm.take k1, (J l (RK rk p)).a ≤ t) ∧ Moved W wr K tv tv1 ∧ (∀ x ∈ th, x ∈ th1)) (fun _ wr => comesLen K wr)
  case atStart => exact ⟨k, th, tv, cv, H0.out.1, H0.out.2.1, H0.out.2.2, Moved.refl _ _ _, fun _ h => h⟩
  case round =>
    obtain ⟨k1, th1, tv1, cv1, hw, hco, hb, hmv, hsub⟩ := hrel
    have HL : Hid (comesLen K wr = l.length - k1) := hw.comesLen
    obtain ⟨ad, c, rfl⟩ := own_slice hw.there
    obtain ⟨hs, hf, hlk⟩ := cells_of (l := [_, _, _]) hw.core
    have c0 := hs 0 _ rfl
    have c1 := hs 1 _ rfl
    have c2 := hs 2 _ rfl
    have f2 := hf 2
    have f1 := hf 1
    obtain ⟨a, rfl, ha⟩ := hw.cval
    have HR : Hid (CoreW B K R C wr l rk cm k1 th1 left (.slice ad th1.length c) (.slice a (l.length - k1) (l.length - k1)) ∧ Core l rk cm k1 th1 left ∧ (∀ p ∈ cm.take k1, (J l (RK rk p)).a ≤ t) ∧ Moved W wr K tv (.slice ad th1.length c) ∧ (∀ x ∈ th, x ∈ th1)) := ⟨hw, hco, hb, hmv, hsub⟩
    clear hs hf
    by_cases hk : k1 < l.length
    · have hkc : k1 < cm.length := by rw [HK.out.2.len]; exact hk
      obtain ⟨p, hp, -⟩ := drop_at hkc
      obtain rfl := ha hk
      have hpl : p < l.length := HK.out.2.mem.1 (List.mem_of_getElem? hp)
      have dC : wr.cell? ⟨C, k1, none⟩ = some (.int .i64 (p : Int)) := (cells_of (l := (zI cm).map (Value.int .i64)) hw.comes).1 k1 _ (by simp [zI, hp])
      have dR : wr.cell? ⟨R, p * 7 + 1, none⟩ = some (.int .i64 (J l (RK rk p)).a) := hw.ent (i := 1) (by rw [HK.out.1.len]; exact hpl) (by omega) rfl
      have HP : Hid (cm[k1]? = some p) := hp
      have hgt : decide ((0 : Int) < ((l.length - k1 : Nat) : Int)) = true := by simp; omega
      have hgt' : 0 < l.length - k1 := by omega
      have hpi : (p : Int) < (l.length : Int) := by omega
      clear ha hw hco hb hmv hsub hp hkc
      by_cases hat : (J l (RK rk p)).a ≤ t
      · have hat' : decide ((J l (RK rk p)).a ≤ t) = true := by simpa using hat
        have HAT : Hid ((J l (RK rk p)).a ≤ t) := hat
        clear hat
        obtain ⟨A, hA⟩ : ∃ A, (J l (RK rk p)).a = A := ⟨_, rfl⟩
        rw [hA] at dR hat'
        clear hA
        go_wp2_with fail
        go_quiet (fail)
        have HR1 : Hid (CoreW B K R C (wr.drewN nq) l rk cm k1 th1 left (.slice ad th1.length c) (.slice (some ⟨C, k1, none⟩) (l.length - k1) (l.length - k1)) ∧ Core l rk cm k1 th1 left ∧ (∀ p ∈ cm.take k1, (J l (RK rk p)).a ≤ t) ∧ Moved W (wr.drewN nq) K tv (.slice ad th1.length c) ∧ (∀ x ∈ th, x ∈ th1)) := ⟨HR.out.1.drewN nq, HR.out.2.1, HR.out.2.2.1, HR.out.2.2.2.1.trans (Moved.drewN wr K _ nq), HR.out.2.2.2.2⟩
        have e1 : (wr.drewN nq).cell? ⟨K, 1, none⟩ = _ := c1
        have e2 : (wr.drewN nq).cell? ⟨K, 2, none⟩ = _ := c2
        have eC : (wr.drewN nq).cell? ⟨C, k1, none⟩ = _ := dC
        have hlk1 : K < (wr.drewN nq).heap.size := hlk
        clear HR c0 c1 c2 dC dR f1 f2 hlk
        have HL1 : Hid (comesLen K wr = l.length - k1) := HL
        generalize wr.drewN nq = wq at *
        go_wp2_with fail
        have HSr := fun n => Search_any (wq.drewN n) B (.slice ad th1.length c) th1 p (HR1.out.1.drewN n).there HR1.out.2.1.asc (by have := HR1.out.2.1.len HK.out.2; omega)
        go_quiet (first | (go_at_call 50; exact Calls.quiet_of (HSr _)))
        have HR2 : Hid (CoreW B K R C (wq.drewN nq) l rk cm k1 th1 left (.slice ad th1.length c) (.slice (some ⟨C, k1, none⟩) (l.length - k1) (l.length - k1)) ∧ Core l rk cm k1 th1 left ∧ (∀ p ∈ cm.take k1, (J l (RK rk p)).a ≤ t) ∧ Moved W (wq.drewN nq) K tv (.slice ad th1.length c) ∧ (∀ x ∈ th, x ∈ th1)) := ⟨HR1.out.1.drewN nq, HR1.out.2.1, HR1.out.2.2.1, HR1.out.2.2.2.1.trans (Moved.drewN wq K _ nq), HR1.out.2.2.2.2⟩
        have hS0 : (fun w' : World => w'.cell? ⟨K, 1, none⟩ = some (.slice (some ⟨C, k1, none⟩) (l.length - k1) (l.length - k1)) ∧ w'.cell? ⟨K, 2, none⟩ = some (.slice ad th1.length c) ∧ w'.cell? ⟨C, k1, none⟩ = some (.int .i64 (p : Int))) (wq.drewN nq).drew := ⟨e1, e2, eC⟩
        have hlk2 : K < (wq.drewN nq).heap.size := hlk1
        clear HR1 e1 e2 eC hlk1 HSr
        generalize wq.drewN nq = w5 at *
        have hIle : th1.countP (fun x => decide (x < p)) ≤ th1.length := List.countP_le_length
        generalize hI : th1.countP (fun x => decide (x < p)) = I at *
        have HI : Hid (th1.countP (fun x => decide (x < p)) = I) := hI
        clear hI
        go_wp2_with fail
        have hCo := HR2.out.1.alloc (.cells #[.int .i64 (p : Int)] 3)
        have hoL : ∀ g, (Value.slice ad th1.length c).ownBlock = some g → g < w5.heap.size := fun g e => (HR2.out.1.there.low e).2
        have HIn := Insert_own (w5.drew.alloc (.cells #[.int .i64 (p : Int)] 3)) B (.slice ad th1.length c) (zI th1) I w5.heap.size (p : Int) hCo.1.there (by rw [zI_len]; exact hIle) (by rw [zI_len]; have := HR2.out.2.1.len HK.out.2; omega) (heap_alloc_new _ _) (fun e => by have := hoL _ e; omega) hCo.1.bs
        have HCo : Hid (CoreW B K R C (w5.drew.alloc (.cells #[.int .i64 (p : Int)] 3)) l rk cm k1 th1 left (.slice ad th1.length c) (.slice (some ⟨C, k1, none⟩) (l.length - k1) (l.length - k1)) ∧ Moved w5 (w5.drew.alloc (.cells #[.int .i64 (p : Int)] 3)) K (.slice ad th1.length c) (.slice ad th1.length c)) := hCo
        clear hCo
        have hS1 : (fun w' : World => w'.cell? ⟨K, 1, none⟩ = some (.slice (some ⟨C, k1, none⟩) (l.length - k1) (l.length - k1)) ∧ w'.cell? ⟨K, 2, none⟩ = some (.slice ad th1.length c) ∧ w'.cell? ⟨C, k1, none⟩ = some (.int .i64 (p : Int))) (w5.drew.alloc (.cells #[.int .i64 (p : Int)] 3)) := by
          obtain ⟨s0, s1, s2⟩ := hS0
          exact ⟨below_cell (below_new _ _) s0, below_cell (below_new _ _) s1, below_cell (below_new _ _) s2⟩
        refine wp_region_noPanic ?_
        refine wp_region_last (S := fun w' => w'.cell? ⟨K, 1, none⟩ = some (.slice (some ⟨C, k1, none⟩) (l.length - k1) (l.length - k1)) ∧ w'.cell? ⟨K, 2, none⟩ = some (.slice ad th1.length c) ∧ w'.cell? ⟨C, k1, none⟩ = some (.int .i64 (p : Int))) (L := 16) (by kernel_rfl) ?_
        refine takeL_at (i := 0) (n := 44) (v := ?_) rfl rfl (by kernel_rfl) (by kernel_rfl) (by decide) (by kernel_rfl) (by kernel_rfl) (by kernel_rfl) (fun _ _ _ h => h) (Or.inl ⟨by rfl, ?_⟩) (by assumption) ?_
        rotate_left 1
        · intro wz hSw
          obtain ⟨s0, s1, s2⟩ := hSw
          first | (go_simp; done) | (go_simp; with_reducible rfl)
        simp only [List.set_cons_zero, List.set_cons_succ]
        refine takeL_at (i := 1) (n := 45) (v := ?_) rfl rfl (by kernel_rfl) (by kernel_rfl) (by decide) (by kernel_rfl) (by kernel_rfl) (by kernel_rfl) (fun _ _ _ h => h) (Or.inl ⟨by rfl, ?_⟩) (by assumption) ?_
        rotate_left 1
        · intro wz hSw
          obtain ⟨s0, s1, s2⟩ := hSw
          first | (go_simp; done) | (go_simp; with_reducible rfl)
        simp only [List.set_cons_zero, List.set_cons_succ]
        refine takeL_at (i := 2) (n := 46) (v := ?_) rfl rfl (by kernel_rfl) (by kernel_rfl) (by decide) (by kernel_rfl) (by kernel_rfl) (by kernel_rfl) (fun _ _ _ h => h) (Or.inl ⟨by rfl, ?_⟩) (by assumption) ?_
        rotate_left 1
        · intro wz hSw
          obtain ⟨s0, s1, s2⟩ := hSw
          first | (go_simp; done) | (go_simp; with_reducible rfl)
        simp only [List.set_cons_zero, List.set_cons_succ]
        refine takeL_at (i := 3) (n := 47) (v := ?_) rfl rfl (by kernel_rfl) (by kernel_rfl) (by decide) (by kernel_rfl) (by kernel_rfl) (by kernel_rfl) (fun _ _ _ h => h) (Or.inl ⟨by rfl, ?_⟩) (by assumption) ?_
        rotate_left 1
        · intro wz hSw
          obtain ⟨s0, s1, s2⟩ := hSw
          first | (go_simp; done) | (go_simp; with_reducible rfl)
        simp only [List.set_cons_zero, List.set_cons_succ]
        refine takeL_at (i := 4) (n := 48) (v := ?_) rfl rfl (by kernel_rfl) (by kernel_rfl) (by decide) (by kernel_rfl) (by kernel_rfl) (by kernel_rfl) (fun _ _ _ h => h) (Or.inl ⟨by rfl, ?_⟩) (by assumption) ?_
        rotate_left 1
        · intro wz hSw
          obtain ⟨s0, s1, s2⟩ := hSw
          first | (go_simp; done) | (go_simp; with_reducible rfl)
        simp only [List.set_cons_zero, List.set_cons_succ]
        refine takeL_at (i := 5) (n := 49) (v := ?_) rfl rfl (by kernel_rfl) (by kernel_rfl) (by decide) (by kernel_rfl) (by kernel_rfl) (by kernel_rfl) (fun _ _ _ h => h) (Or.inl ⟨by rfl, ?_⟩) (by assumption) ?_
        rotate_left 1
        · intro wz hSw
          obtain ⟨s0, s1, s2⟩ := hSw
          first | (go_simp; done) | (go_simp; with_reducible rfl)
        simp only [List.set_cons_zero, List.set_cons_succ]
        refine takeL_at (i := 6) (n := 50) (v := ?_) rfl rfl (by kernel_rfl) (by kernel_rfl) (by decide) (by kernel_rfl) (by kernel_rfl) (by kernel_rfl) (fun _ _ _ h => h) (Or.inl ⟨by rfl, ?_⟩) (by assumption) ?_
        rotate_left 1
        · intro wz hSw
          obtain ⟨s0, s1, s2⟩ := hSw
          first | (go_simp; done) | (go_simp; with_reducible rfl)
        simp only [List.set_cons_zero, List.set_cons_succ]
        refine takeL_at (i := 7) (n := 51) (v := ?_) rfl rfl (by kernel_rfl) (by kernel_rfl) (by decide) (by kernel_rfl) (by kernel_rfl) (by kernel_rfl) (fun _ _ _ h => h) (Or.inl ⟨by rfl, ?_⟩) (by assumption) ?_
        rotate_left 1
        · intro wz hSw
          obtain ⟨s0, s1, s2⟩ := hSw
          first | (go_simp; done) | (go_simp; with_reducible rfl)
        simp only [List.set_cons_zero, List.set_cons_succ]
        refine takeL_at (i := 8) (n := 52) (v := ?_) rfl rfl (by kernel_rfl) (by kernel_rfl) (by decide) (by kernel_rfl) (by kernel_rfl) (by kernel_rfl) (fun _ _ _ h => h) (Or.inl ⟨by rfl, ?_⟩) (by assumption) ?_
        rotate_left 1
        · intro wz hSw
          obtain ⟨s0, s1, s2⟩ := hSw
          first | (go_simp; done) | (go_simp; with_reducible rfl)
        simp only [List.set_cons_zero, List.set_cons_succ]
        refine takeL_at (i := 9) (n := 53) (v := ?_) rfl rfl (by kernel_rfl) (by kernel_rfl) (by decide) (by kernel_rfl) (by kernel_rfl) (by kernel_rfl) (fun _ _ _ h => h) (Or.inl ⟨by rfl, ?_⟩) (by assumption) ?_
        rotate_left 1
        · intro wz hSw
          obtain ⟨s0, s1, s2⟩ := hSw
          first | (go_simp; done) | (go_simp; with_reducible rfl)
        simp only [List.set_cons_zero, List.set_cons_succ]
        refine takeL_at (i := 10) (n := 54) (v := ?_) rfl rfl (by kernel_rfl) (by kernel_rfl) (by decide) (by kernel_rfl) (by kernel_rfl) (by kernel_rfl) (fun _ _ _ h => h) (Or.inl ⟨by rfl, ?_⟩) (by assumption) ?_
        rotate_left 1
        · intro wz hSw
          obtain ⟨s0, s1, s2⟩ := hSw
          first | (go_simp; done) | (go_simp; with_reducible rfl)
        simp only [List.set_cons_zero, List.set_cons_succ]
        refine takeL_at (i := 11) (n := 55) (v := ?_) rfl rfl (by kernel_rfl) (by kernel_rfl) (by decide) (by kernel_rfl) (by kernel_rfl) (by kernel_rfl) (fun _ _ _ h => h) (Or.inl ⟨by rfl, ?_⟩) (by assumption) ?_
        rotate_left 1
        · intro wz hSw
          obtain ⟨s0, s1, s2⟩ := hSw
          first | (go_simp; done) | (go_simp; with_reducible rfl)
        simp only [List.set_cons_zero, List.set_cons_succ]
        refine wpAnyL_one (i := 12) (by kernel_rfl) rfl (fun K' hK' => ?_)
        go_simp
        refine hK'.out _ _ (fun _ => hS1) ?_
        clear hK' K'
        refine wpAnyL_one (i := 13) (by kernel_rfl) rfl (fun K' hK' => ?_)
        go_simp
        go_wp2_with (go_at_call 51; refine HIn.mono ?_; rintro r w6 ⟨tv6, rfl, ho6, hg6, hv6⟩)
        have H6 : Hid (CoreW B K R C (w6.setCell ⟨K, 2, none⟩ tv6) l rk cm k1 (th1.take I ++ p :: th1.drop I) left tv6 (.slice (some ⟨C, k1, none⟩) (l.length - k1) (l.length - k1)) ∧ Moved w5 (w6.setCell ⟨K, 2, none⟩ tv6) K (.slice ad th1.length c) tv6) := by
          have hx := HCo.out.1.put (th' := th1.take I ++ p :: th1.drop I) (by rw [show zI (th1.take I ++ p :: th1.drop I) = (zI th1).take I ++ (p : Int) :: (zI th1).drop I by simp [zI, List.map_take, List.map_drop]]; exact ho6) hg6 hv6
          exact ⟨hx.1, HCo.out.2.trans hx.2⟩
        have hkeep : ∀ b, b < B → w6.heap[b]? = (w5.drew.alloc (.cells #[.int .i64 (p : Int)] 3)).heap[b]? := fun b hb => hg6.block b (by have := HCo.out.1.bs; omega) (fun e => by have := HCo.out.1.low b e.symm; omega)
        have hK6 := (hkeep K HCo.out.1.lK).trans HCo.out.1.core
        have hC6 := (hkeep C HCo.out.1.lC).trans HCo.out.1.comes
        obtain ⟨ks, kf, kl⟩ := cells_of (l := [_, _, _]) hK6
        have k1c := ks 1 _ rfl
        have k2c := ks 2 _ rfl
        have kf1 := kf 1
        have kf2 := kf 2
        obtain ⟨ad6, n6, c6, rfl⟩ := own_val ho6
        have hS2 : (fun w' : World => w'.cell? ⟨K, 1, none⟩ = some (.slice (some ⟨C, k1, none⟩) (l.length - k1) (l.length - k1)) ∧ w'.cell? ⟨K, 2, none⟩ = some (.slice ad th1.length c) ∧ w'.cell? ⟨C, k1, none⟩ = some (.int .i64 (p : Int))) w6 := ⟨k1c, k2c, (cells_of (l := (zI cm).map (Value.int .i64)) hC6).1 k1 _ (by simp [zI, HP.out])⟩
        clear ks kf hK6 hC6 hkeep hg6 hv6 ho6 HIn
        refine hK'.out _ _ (fun _ => hS2) ?_
        clear hK' K'
        refine takeL_at (i := 14) (n := 58) (v := ?_) rfl rfl (by kernel_rfl) (by kernel_rfl) (by decide) (by kernel_rfl) (by kernel_rfl) (by kernel_rfl) (fun _ _ _ h => h) (Or.inl ⟨by rfl, ?_⟩) (by assumption) ?_
        rotate_left 1
        · intro wz hSw
          obtain ⟨s0, s1, s2⟩ := hSw
          first | (go_simp; done) | (go_simp; with_reducible rfl)
        simp only [List.set_cons_zero, List.set_cons_succ]
        refine takeL_at (i := 15) (n := 59) (v := ?_) rfl rfl (by kernel_rfl) (by kernel_rfl) (by decide) (by kernel_rfl) (by kernel_rfl) (by kernel_rfl) (fun _ _ _ h => h) (Or.inl ⟨by rfl, ?_⟩) (by assumption) ?_
        rotate_left 1
        · intro wz hSw
          obtain ⟨s0, s1, s2⟩ := hSw
          first | (go_simp; done) | (go_simp; with_reducible rfl)
        simp only [List.set_cons_zero, List.set_cons_succ]
        refine wpAnyL_one (i := 16) (by kernel_rfl) rfl (fun K' hK' => ?_)
        go_simp
        refine hK'.out _ _ (fun h => absurd rfl h) ?_
        clear hK' K'
        refine wpAnyL_done (by kernel_rfl) ?_ _
        refine NoPanic.normal ?_
        obtain ⟨hs, hf, hlk6⟩ := cells_of (l := [_, _, _]) H6.out.1.core
        have m1 := hs 1 _ rfl
        have mf1 := hf 1
        clear hs hf hS0 hS1 hS2 k1c k2c kf1 kf2
        generalize w6.setCell ⟨K, 2, none⟩ (.slice ad6 n6 c6) = w7 at *
        go_wp2_with fail
        have hn := H6.out.1.next (.slice (if l.length - k1 = 1 then some ⟨C, k1, none⟩ else some ⟨C, k1 + 1, none⟩) (l.length - k1 - 1) (l.length - k1 - 1)) ⟨_, by rw [Nat.sub_sub], fun h => if_neg (by omega)⟩
        have hcm := HR2.out.2.1.come HK.out.2 HP.out
        rw [HI.out] at hcm
        refine ⟨⟨k1 + 1, _, _, _, hn.1, hcm.1, fun q hq => ?_, (HR2.out.2.2.2.1.trans H6.out.2).trans hn.2, fun x hx => ?_⟩, ?_⟩
        · rw [List.take_add_one, HP.out] at hq
          rcases List.mem_append.1 hq with hq | hq
          · exact HR2.out.2.2.1 q hq
          · simp at hq
            subst hq
            exact HAT.out
        · have hx1 := HR2.out.2.2.2.2 x hx
          rw [← List.take_append_drop I th1] at hx1
          rcases List.mem_append.1 hx1 with hx1 | hx1
          · exact List.mem_append_left _ hx1
          · exact List.mem_append_right _ (List.mem_cons_of_mem _ hx1)
        · rw [hn.1.comesLen, HL1.out]
          omega
      · have hat' : decide ((J l (RK rk p)).a ≤ t) = false := by simpa using hat
        have HAT : Hid (t < (J l (RK rk p)).a) := by have : t < (J l (RK rk p)).a := by omega
                                                     exact this
        clear hat
        obtain ⟨A, hA⟩ : ∃ A, (J l (RK rk p)).a = A := ⟨_, rfl⟩
        rw [hA] at dR hat'
        clear hA
        go_wp2_with fail
        go_quiet (fail)
        go_wp2_with fail
        go_end0
        exact ⟨rfl, k1, th1, _, _, HR.out.1.drewN nq, HR.out.2.1, ⟨HR.out.2.2.1, HK.out.2.wait HP.out HAT.out⟩, HR.out.2.2.2.1.trans (Moved.drewN wr K _ nq), HR.out.2.2.2.2⟩
    · have hz : l.length - k1 = 0 := by omega
      rw [hz] at c1
      have hdr : cm.drop k1 = [] := List.drop_of_length_le (by rw [HK.out.2.len]; omega)
      clear ha hw hco hb hmv hsub
      go_wp2_with fail
      go_quiet (fail)
      go_wp2_with fail
      go_end0
      exact ⟨rfl, k1, th1, _, _, HR.out.1.drewN nq, HR.out.2.1, ⟨HR.out.2.2.1, by rw [hdr]; simp⟩, HR.out.2.2.2.1.trans (Moved.drewN wr K _ nq), HR.out.2.2.2.2⟩
end Go.Proofs.Ythhkmgafacmjpag
