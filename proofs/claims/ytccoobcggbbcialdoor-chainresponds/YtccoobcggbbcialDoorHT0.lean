import Derived.Test.YtccoobcggbbcialDoorHR0
import Derived.Test.YtccoobcggbbcialDoorHS0
namespace Go.Proofs.YtccoobcggbbcialDoor
open Go.ChangeShapes Go.WideShapes Go.ChangeAt Go.RowKit

theorem PlaceD_ends {w : World} {g : Nat} {c k v : Value} {a : Act} (h : w.heap[g]? = some (.cells #[c, k] 30 (0, 0))) (h2 : a.tmps[4]?.getD undef = v) (h3 : a.tmps[5]?.getD undef = .pointer (some ⟨g, 0, none⟩)) :
    (results Tryd.f28 a.tmps).run Tryd.prog w = .ok (.tuple #[v, .agg #[c, k]]) w := by
  obtain ⟨c1, f1, l1⟩ := cells_of (l := [_, _]) h
  have c10 := c1 0 _ rfl
  have c11 := c1 1 _ rfl
  simp [results, Tryd.results28, go_sem, h2, h3, c10, c11]

/-- A copy of parts, in a row of one's own. -/
theorem copy_parts (w : World) (l : List Pa) (b o c : Nat) (hc : ∀ q u, (l.flatMap Pa.vals)[q]? = some u → w.cell? ⟨b, o + q, none⟩ = some u) (h0 : 0 < l.length) (h8 : l.length ≤ 8) : ∃ g cap ex w4, (Builtin.append_ #[51, 51] 51 #[.slice (some ⟨w.heap.size, 0, none⟩) 0 0, .slice (some ⟨b, o, none⟩) l.length c]).run Tryd.prog (w.alloc (.cells #[] 53)) = .ok (.slice (some ⟨g, 0, none⟩) l.length cap) w4 ∧ w4.heap[g]? = some (.cells (l.flatMap Pa.vals ++ ex).toArray 53 (0, 0)) ∧ l.length ≤ cap ∧ w.heap.size ≤ g ∧ Below w.heap.size w w4 := by
  obtain ⟨i0, hi0, hz0, hz1, hz2⟩ := info_parts infoPa
  have hown : (w.alloc (.cells #[] 53)).ownsRow w.heap.size 53 7 (.slice (some ⟨w.heap.size, 0, none⟩) 0 0) 0 [] := ⟨rfl, .inr ⟨w.heap.size, 0, #[], rfl, Nat.le_refl _, heap_alloc_new _ _, Nat.le_refl _, by unfold maxLen; omega, rfl, rfl⟩⟩
  obtain ⟨v4, w4, hrun, ho4, hg4, -, hv4⟩ := run_append_own_at (P := Tryd.prog) (w := w.alloc (.cells #[] 53)) w.heap.size 51 51 53 i0 _ 7 56 Tryd.underlying51 hi0 hz0 hz1 hz2 rfl (by omega) _ 0 [] hown ⟨b, o, none⟩ l.length c (l.flatMap Pa.vals) (flat_length Pa.vals 7 Pa.len l) (fun j u hj => by rw [Addr.add_lit]; exact below_cell (below_new _ _) (hc j u hj)) (fun u hu => pa_one' hu) (by unfold maxLen; omega) (by omega) (by rw [World.size_alloc]; omega)
  rw [Nat.zero_add, List.nil_append] at ho4
  obtain ⟨g, cap, ex, rfl, hB, hcap, hh⟩ := owns_ex ho4 h0
  exact ⟨g, cap, ex, w4, hrun, hh, hcap, hB, (below_new w _).grown hg4 (by rw [World.size_alloc]; omega) (fun k hk => by cases hk; exact Nat.le_refl _)⟩

/-- Cores, those of the first i parts as they were. -/
def mixC (l : List Pa) (cn way i : Nat) : List Int := (l.map (·.co)).take i ++ (dgF cn l.length way).drop i
theorem mixC_len {l : List Pa} {cn way i : Nat} (hi : i ≤ l.length) : (mixC l cn way i).length = l.length := by
  unfold mixC
  rw [List.length_append, List.length_take, List.length_map, List.length_drop, dgF_len]
  omega
theorem mixC_full (l : List Pa) (cn way : Nat) : mixC l cn way l.length = l.map (·.co) := by
  unfold mixC
  rw [List.drop_of_length_le (by rw [dgF_len]; exact Nat.le_refl _), List.append_nil, List.take_of_length_le (by rw [List.length_map]; exact Nat.le_refl _)]
theorem mixC_zero (l : List Pa) (cn way : Nat) : mixC l cn way 0 = dgF cn l.length way := by simp [mixC]
theorem mixC_set {l : List Pa} {cn way i : Nat} (hi : i < l.length) : (mixC l cn way (i + 1)).set i ((way / cn ^ (l.length - 1 - i) % cn : Nat) : Int) = mixC l cn way i := by
  unfold mixC
  have hl : i < (dgF cn l.length way).length := by rw [dgF_len]; exact hi
  have e : (dgF cn l.length way).drop i = ((way / cn ^ (l.length - 1 - i) % cn : Nat) : Int) :: (dgF cn l.length way).drop (i + 1) := by
    rw [List.drop_eq_getElem_cons hl]
    congr 1
    have h9 := dgF_at (cores := cn) (way := way) hi
    rw [List.getElem?_eq_getElem hl] at h9
    exact Option.some.inj h9
  have hm : i < (l.map (·.co)).length := by rw [List.length_map]; exact hi
  rw [e, List.take_add_one, List.getElem?_eq_getElem hm, List.append_assoc, List.set_append_right _ _ (by rw [List.length_take]; omega)]
  rw [show i - ((l.map (·.co)).take i).length = 0 by rw [List.length_take]; omega]
  rfl

/-- What the inner loop holds. -/
structure DX (w W : World) (l : List Pa) (ex : List Value) (gO gl gc cn way i : Nat) : Prop where
  fb : FB w W w.heap.size
  on_ : W.heap[gO]? = some (.cells ((dgUp cn l.length way i).map (Value.int .i64)).toArray 3 (0, 0))
  row : W.heap[gl]? = some (.cells ((onC l (mixC l cn way i)).flatMap Pa.vals ++ ex).toArray 53 (0, 0))
  ne : gO ≠ gl
  lo : w.heap.size < gO
  ll : w.heap.size < gl
  cap : l.length ≤ gc
theorem DX.grow {w W W' : World} {l : List Pa} {ex : List Value} {gO gl gc cn way i : Nat} (h : DX w W l ex gO gl gc cn way i) (hb : Below W.heap.size W W') : DX w W' l ex gO gl gc cn way i :=
  ⟨h.fb.grow hb, (hb.block _ (Array.getElem?_eq_some_iff.1 h.on_).1).trans h.on_, (hb.block _ (Array.getElem?_eq_some_iff.1 h.row).1).trans h.row, h.ne, h.lo, h.ll, h.cap⟩
theorem DX.step {w W : World} {l : List Pa} {ex : List Value} {gO gl gc cn way i : Nat} (h : DX w W l ex gO gl gc cn way (i + 1)) (hi : i < l.length) : DX w ((W.setCell ⟨gO, i, none⟩ (.int .i64 ((way / cn ^ (l.length - 1 - i) % cn : Nat) : Int))).setCell ⟨gl, i * 7, none⟩ (.int .i64 ((way / cn ^ (l.length - 1 - i) % cn : Nat) : Int))) l ex gO gl gc cn way i := by
  have h1 := h.lo
  have h2 := h.ll
  refine ⟨⟨(h.fb.bel.setCell (show w.heap.size ≤ gO by omega) _).setCell (show w.heap.size ≤ gl by omega) _, ?_, Nat.le_refl _⟩, ?_, ?_, h.ne, h.lo, h.ll, h.cap⟩
  · rw [Below.heap_setCell _ _ _ _ (show w.heap.size ≠ gl by omega), Below.heap_setCell _ _ _ _ (show w.heap.size ≠ gO by omega)]
    exact h.fb.res
  · rw [Below.heap_setCell _ _ _ _ h.ne, setCell_list h.on_, ← List.map_set, dgUp_set hi]
  · have h9 : (W.setCell ⟨gO, i, none⟩ (.int .i64 ((way / cn ^ (l.length - 1 - i) % cn : Nat) : Int))).heap[gl]? = some (.cells ((onC l (mixC l cn way (i + 1))).flatMap Pa.vals ++ ex).toArray 53 (0, 0)) := by
      rw [Below.heap_setCell _ _ _ _ (Ne.symm h.ne)]
      exact h.row
    rw [setCell_list h9, onC_set l _ i _ ex hi (mixC_len (by omega)), mixC_set hi]
theorem DX.rowSl {w W : World} {l : List Pa} {ex : List Value} {gO gl gc cn way i : Nat} (h : DX w W l ex gO gl gc cn way i) (hi : i ≤ l.length) : RowSl Pa.vals W (onC l (mixC l cn way i)) (.slice (some ⟨gl, 0, none⟩) l.length gc) := by
  have hl := onC_len l _ (mixC_len (cn := cn) (way := way) hi)
  refine ⟨some ⟨gl, 0, none⟩, gc, by rw [hl], (fun e => by cases e), by rw [hl]; exact h.cap, .inr ⟨gl, 0, rfl, fun q u hq => ?_⟩⟩
  rw [Nat.zero_add]
  exact (cells_of h.row).1 q u (by rw [List.getElem?_append_left (List.getElem?_eq_some_iff.1 hq).1]; exact hq)
theorem DX.rowOn {w W : World} {l : List Pa} {ex : List Value} {gO gl gc cn way : Nat} (h : DX w W l ex gO gl gc cn way 0) : RowSl nuV W (dgF cn l.length way) (.slice (some ⟨gO, 0, none⟩) l.length l.length) := by
  have h9 := h.on_
  rw [dgUp_zero] at h9
  have h8 := row_ints h9
  rwa [dgF_len] at h8
theorem DX.rowSet {w W : World} {l : List Pa} {ex : List Value} {gO gl gc cn way : Nat} (h : DX w W l ex gO gl gc cn way 0) (a b : Value) : RowSl nuV ((W.setCell ⟨w.heap.size, 0, none⟩ a).setCell ⟨w.heap.size, 1, none⟩ b) (dgF cn l.length way) (.slice (some ⟨gO, 0, none⟩) l.length l.length) := by
  have h1 := h.lo
  have h9 : ((W.setCell ⟨w.heap.size, 0, none⟩ a).setCell ⟨w.heap.size, 1, none⟩ b).heap[gO]? = some (.cells ((dgUp cn l.length way 0).map (Value.int .i64)).toArray 3 (0, 0)) := by
    rw [Below.heap_setCell _ _ _ _ (show gO ≠ w.heap.size by omega), Below.heap_setCell _ _ _ _ (show gO ≠ w.heap.size by omega)]
    exact h.on_
  rw [dgUp_zero] at h9
  have h8 := row_ints h9
  rwa [dgF_len] at h8
theorem DX.cells {w W : World} {l : List Pa} {ex : List Value} {gO gl gc cn way i : Nat} (h : DX w W l ex gO gl gc cn way (i + 1)) (hi : i < l.length) : (∃ u, W.cell? ⟨gO, i, none⟩ = some u) ∧ W.frozen? ⟨gO, i, none⟩ = false ∧ (∃ u, W.cell? ⟨gl, i * 7, none⟩ = some u) ∧ W.frozen? ⟨gl, i * 7, none⟩ = false := by
  have hl := onC_len l _ (mixC_len (cn := cn) (way := way) (show i + 1 ≤ l.length by omega))
  have h9 := flat_length Pa.vals 7 Pa.len (onC l (mixC l cn way (i + 1)))
  have h8 := dgUp_len (cores := cn) (way := way) (show i + 1 ≤ l.length by omega)
  exact ⟨⟨_, (cells_of h.on_).1 i _ (List.getElem?_eq_getElem (by rw [List.length_map, h8]; exact hi))⟩, (cells_of h.on_).2.1 _, ⟨_, (cells_of h.row).1 (i * 7) _ (List.getElem?_eq_getElem (by rw [List.length_append, h9, hl]; omega))⟩, (cells_of h.row).2.1 _⟩
theorem pow_le4 {cn k : Nat} (hc : cn ≤ 4) (hk : k ≤ 5) : cn ^ k ≤ 1024 := Nat.le_trans (Nat.pow_le_pow_left hc k) (Nat.le_trans (Nat.pow_le_pow_right (by omega) hk) (by decide))

set_option maxRecDepth 20000 in
set_option maxHeartbeats 8000000 in
theorem PlaceD_any (w : World) (l : List Pa) (v : Value) (cores : Int) (good : List Int → Bool) (hgood : ∀ ws ts e, RespsR (onC l ws) ts e → good ws = (e.1 == 0)) (hinv : ∀ cn : Nat, cn ≤ 4 → allF good cn l.length [] = layF good cn l.length [] 0) (hv : RowSl Pa.vals w l v) : Calls Tryd.prog 28 #[v, .int .i64 cores] w (PlacePost w (placeF good l cores)) := by
  have HC := CheckParts_any (w.alloc (.cells #[.int .i64 0, .int .i64 0] 30)) l v (hv.below (below_new _ _))
  obtain ⟨z1, z2, hz⟩ : ∃ z1 z2, chkP l = (z1, z2) := ⟨_, _, rfl⟩
  have HZ : Hid (chkP l = (z1, z2)) := hz
  rw [hz] at HC
  dsimp only at HC
  obtain ⟨ad, c, rfl⟩ := hv.len
  have HV : Hid (RowSl Pa.vals w l (.slice ad l.length c)) := hv
  obtain ⟨a, ha⟩ : ∃ a, placeF good l cores = a := ⟨_, rfl⟩
  have HA : Hid (placeF good l cores = a) := ha
  have HGood : Hid (∀ ws ts e, RespsR (onC l ws) ts e → good ws = (e.1 == 0)) := hgood
  have HInv : Hid (∀ cn : Nat, cn ≤ 4 → allF good cn l.length [] = layF good cn l.length [] 0) := hinv
  have hF : Hid (FB w (w.alloc (.cells #[.int .i64 0, .int .i64 0] 30)) w.heap.size) := FB.start w
  rw [ha]
  clear hv hz ha hgood hinv
  go_enter Tryd.func28, Tryd.ntmps28
  go_upto_region 2 with (go_at_call 24; refine HC.mono ?_; rintro r w1 ⟨rfl, hb1⟩; have H1 : Hid (FB w (w1.alloc (.cells #[.int .i64 z1, .int .i64 z2] 30)) w.heap.size) := (hF.out.grow hb1).grow (below_new _ _); have hl1 : w.heap.size < w1.heap.size := (hF.out.grow hb1).lt; clear hb1 HC)
  obtain ⟨fs, -, fl⟩ := cells_of (l := [_, _]) (heap_alloc_new w1 (.cells #[.int .i64 z1, .int .i64 z2] 30))
  have g0 := fs 0 _ rfl
  have g1 := fs 1 _ rfl
  clear fs hF
  generalize w1.alloc (.cells #[.int .i64 z1, .int .i64 z2] 30) = w2 at *
  generalize w1.heap.size = gf at *
  by_cases h0 : z1 = 0
  rotate_left 1
  · have hz1 : (z1 != 0) = true := by simpa using h0
    obtain ⟨q0, q1, qf0, qf1, ql⟩ := H1.out.res2
    have HN : Hid (a = ([], (z1, z2))) := (by rw [← HA.out]; unfold placeF; rw [if_pos (by rw [HZ.out]; exact h0), HZ.out] : a = ([], (z1, z2)))
    clear h0
    go_wp2_with fail
    go_region
    all_goals go_wp2_with fail
    all_goals
      refine bodyPost_ret (PlaceD_ends (g := w.heap.size) (c := .int .i64 z1) (k := .int .i64 z2) (v := .slice none 0 0) (set_two H1.out.res) rfl rfl) rfl ?_
      rw [HN.out]
      exact ⟨_, rfl, RowSl.nil _ _, (H1.out.set _ _).drew, NewSl.none _ _ _⟩
  subst h0
  have hok := chkP_ok (l := l) (by rw [HZ.out])
  have h1 := hok.one
  have h8 := hok.most
  have HZ0 : Hid (¬ (chkP l).1 ≠ 0) := (by rw [HZ.out]; simp : ¬ (chkP l).1 ≠ 0)
  clear hok
  by_cases hlo : cores < 1
  · have hw : within cores 1 4 = false := by unfold within; simp; omega
    have HN : Hid (a = ([], (3, 0))) := (by rw [← HA.out]; unfold placeF; rw [if_neg HZ0.out, if_pos hw] : a = ([], (3, 0)))
    have b1 : decide (cores < 1) = true := decide_eq_true hlo
    clear hw
    go_wp2_with (go_at_call 41; refine (F_any _ 3 0).mono ?_; rintro r w8 ⟨rfl, hb8⟩; have H8 : Hid (FB w w8 w.heap.size) := H1.out.grow hb8; obtain ⟨p0, p1, pf0, pf1, pl⟩ := H8.out.res2; clear hb8)
    refine bodyPost_ret (PlaceD_ends (g := w.heap.size) (c := .int .i64 3) (k := .int .i64 0) (v := .slice none 0 0) (set_two H8.out.res) rfl rfl) rfl ?_
    rw [HN.out]
    exact ⟨_, rfl, RowSl.nil _ _, H8.out.set _ _, NewSl.none _ _ _⟩
  have b1 : decide (cores < 1) = false := decide_eq_false hlo
  by_cases hhi : 4 < cores
  · have hw : within cores 1 4 = false := by unfold within; simp; omega
    have HN : Hid (a = ([], (3, 0))) := (by rw [← HA.out]; unfold placeF; rw [if_neg HZ0.out, if_pos hw] : a = ([], (3, 0)))
    have b2 : decide (4 < cores) = true := decide_eq_true hhi
    clear hw
    go_wp2_with (go_at_call 41; refine (F_any _ 3 0).mono ?_; rintro r w8 ⟨rfl, hb8⟩; have H8 : Hid (FB w w8 w.heap.size) := H1.out.grow hb8; obtain ⟨p0, p1, pf0, pf1, pl⟩ := H8.out.res2; clear hb8)
    refine bodyPost_ret (PlaceD_ends (g := w.heap.size) (c := .int .i64 3) (k := .int .i64 0) (v := .slice none 0 0) (set_two H8.out.res) rfl rfl) rfl ?_
    rw [HN.out]
    exact ⟨_, rfl, RowSl.nil _ _, H8.out.set _ _, NewSl.none _ _ _⟩
  have b2 : decide (4 < cores) = false := decide_eq_false hhi
  have hw : within cores 1 4 = true := by unfold within; simp; omega
  by_cases h5 : 5 < l.length
  · have HN : Hid (a = ([], (2, 0))) := (by rw [← HA.out]; unfold placeF; rw [if_neg HZ0.out, if_neg (by rw [hw]; simp), if_pos h5] : a = ([], (2, 0)))
    have h5i : (5 : Int) < (l.length : Int) := by omega
    clear hw
    go_wp2_with (go_at_call 41; refine (F_any _ 2 0).mono ?_; rintro r w8 ⟨rfl, hb8⟩; have H8 : Hid (FB w w8 w.heap.size) := H1.out.grow hb8; obtain ⟨p0, p1, pf0, pf1, pl⟩ := H8.out.res2; clear hb8)
    refine bodyPost_ret (PlaceD_ends (g := w.heap.size) (c := .int .i64 2) (k := .int .i64 0) (v := .slice none 0 0) (set_two H8.out.res) rfl rfl) rfl ?_
    rw [HN.out]
    exact ⟨_, rfl, RowSl.nil _ _, H8.out.set _ _, NewSl.none _ _ _⟩
  obtain ⟨cn, rfl⟩ : ∃ cn : Nat, cores = (cn : Int) := ⟨cores.toNat, by omega⟩
  have HN : Hid (a = match layF good cn l.length [] 0 with
    | none => ([], (13, 0))
    | some ws => (ws, (0, 0))) := by
    have h9 := HA.out
    unfold placeF at h9
    rw [if_neg HZ0.out, if_neg (by rw [hw]; simp), if_neg h5] at h9
    exact h9.symm
  have h5i : ¬ (5 : Int) < (l.length : Int) := by omega
  have hcn : 1 ≤ cn ∧ cn ≤ 4 := by omega
  have HCN : Hid (1 ≤ cn ∧ cn ≤ 4) := hcn
  have HI2 : Hid (allF good cn l.length [] = layF good cn l.length [] 0) := HInv.out cn hcn.2
  have hv := HV.out
  obtain ⟨ad', c', he, -, hcap, hrow⟩ := hv
  cases he
  rcases hrow with h | ⟨b, o, rfl, hrow⟩
  · rw [h] at h1; simp at h1
  have HRow : Hid (∀ q u, (l.flatMap Pa.vals)[q]? = some u → w.cell? ⟨b, o + q, none⟩ = some u) := hrow
  clear hrow hw hlo hhi HInv
  go_upto_region 9 with fail
  clear g0 g1 hl1 fl h5i b1 b2
  go_wp2_with fail
  go_loopw [7, 34] (fun av iv wr => ∃ (k P : Nat), k ≤ l.length ∧ P = cn ^ k ∧ P ≤ 1024 ∧ av = .int .i64 (P : Int) ∧ iv = .int .i64 (k : Int) ∧ Hid (FB w wr w.heap.size)) (fun _ iv _ => l.length - (intOf iv).toNat)
  case atStart => exact ⟨0, 1, Nat.zero_le _, rfl, by omega, rfl, rfl, H1.out⟩
  case round =>
    obtain ⟨k, P, hk, hP, hP2, rfl, rfl, HB⟩ := hrel
    have HP : Hid (P = cn ^ k) := hP
    clear hP H1
    by_cases hkl : k < l.length
    · have hki : (k : Int) < (l.length : Int) := by omega
      have hpc : P * cn ≤ 4096 := Nat.le_trans (Nat.mul_le_mul hP2 hcn.2) (by omega)
      have hnx : P * cn = cn ^ (k + 1) := by rw [HP.out, Nat.pow_succ]
      have hnx2 : P * cn ≤ 1024 := by rw [hnx]; exact pow_le4 hcn.2 (by omega)
      have hpw : IntKind.i64.wrap ((P : Int) * (cn : Int)) = ((P * cn : Nat) : Int) := by
        rw [← Int.natCast_mul, IntKind.wrap_i64]; omega
      have HNX : Hid (P * cn = cn ^ (k + 1) ∧ P * cn ≤ 1024) := ⟨hnx, hnx2⟩
      clear hpc hnx hnx2
      generalize P * cn = P2 at *
      go_wp2_with fail
      exact ⟨⟨k + 1, P2, by omega, HNX.out.1, HNX.out.2, rfl, by simp, HB⟩, by simp [intOf]; omega⟩
    · have hke : k = l.length := by omega
      subst hke
      have hki : ¬ ((l.length : Nat) : Int) < (l.length : Int) := by omega
      have HW0 : Hid (FB w wr w.heap.size ∧ ∀ u, u < 0 → good (dgF cn l.length u) = false) := ⟨HB.out, fun u hu => absurd hu (Nat.not_lt_zero _)⟩
      clear HB
      go_wp2_with fail
      clear hki
      go_loopw [8] (fun yv W => ∃ way : Nat, way ≤ P ∧ yv = .int .i64 (way : Int) ∧ Hid (FB w W w.heap.size ∧ ∀ u, u < way → good (dgF cn l.length u) = false)) (fun yv _ => P - (intOf yv).toNat)
      case atStart => exact ⟨0, Nat.zero_le _, rfl, HW0⟩
      case round =>
        obtain ⟨way, hway, rfl, HW⟩ := hrel
        generalize wr = wR at *
        clear HW0
        by_cases hyl : way < P
        rotate_left 1
        · have hye : way = P := by omega
          subst hye
          have hyi : ¬ ((way : Nat) : Int) < (way : Int) := by omega
          have HN2 : Hid (a = ([], (13, 0))) := by
            have h9 := HN.out
            rw [layF_none HI2.out (fun u hu => HW.out.2 u (by rw [HP.out]; exact hu))] at h9
            exact h9
          go_wp2_with (go_at_call 41; refine (F_any _ 13 0).mono ?_; rintro r w8 ⟨rfl, hb8⟩; have H8 : Hid (FB w w8 w.heap.size) := HW.out.1.grow hb8; obtain ⟨p0, p1, pf0, pf1, pl⟩ := H8.out.res2; clear hb8)
          refine bodyPost_ret (PlaceD_ends (g := w.heap.size) (c := .int .i64 13) (k := .int .i64 0) (v := .slice none 0 0) (set_two H8.out.res) rfl rfl) rfl ?_
          rw [HN2.out]
          exact ⟨_, rfl, RowSl.nil _ _, H8.out.set _ _, NewSl.none _ _ _⟩
        have hyi : (way : Int) < (P : Int) := by omega
        go_upto_region 16 with fail
        obtain ⟨w3, hmk, hb3, hh3⟩ := make_ints wR.drew l.length (by omega)
        have HM : Hid (Below wR.heap.size wR w3 ∧ w3.heap[wR.heap.size]? = some (.cells ((dgUp cn l.length way l.length).map (Value.int .i64)).toArray 3 (0, 0))) := by
          refine ⟨below_seq (Below.refl _ _).drew hb3, ?_⟩
          rw [dgUp_full]
          have h9 := hh3
          rw [show runCells l.length [] = (List.replicate l.length (0 : Int)).map (Value.int .i64) by simp [runCells]] at h9
          exact h9
        clear hb3 hh3
        refine wp_region_noPanic ?_
        refine wp_region_held_drew (S := fun w' => True) (by kernel_rfl) trivial (fun hHeld => ?_)
        refine take_at (i := 0) (n := 45) (v := ?_) rfl rfl (by kernel_rfl) (by kernel_rfl) (by kernel_rfl) (fun _ _ _ h => h) (Or.inl ⟨by rfl, ?_⟩) (by assumption) ?_
        rotate_left 1
        · intro wz hSw
          clear hSw
          first | (go_simp; done) | (go_simp; with_reducible rfl)
        simp only [List.set_cons_zero, List.set_cons_succ]
        refine take_at (i := 1) (n := 46) (v := ?_) rfl rfl (by kernel_rfl) (by kernel_rfl) (by kernel_rfl) (fun _ _ _ h => h) (Or.inl ⟨by rfl, ?_⟩) (by assumption) ?_
        rotate_left 1
        · intro wz hSw
          clear hSw
          first | (go_simp; done) | (go_simp; with_reducible rfl)
        simp only [List.set_cons_zero, List.set_cons_succ]
        refine take_at (i := 2) (n := 47) (v := ?_) rfl rfl (by kernel_rfl) (by kernel_rfl) (by kernel_rfl) (fun _ _ _ h => h) (Or.inl ⟨by rfl, ?_⟩) (by assumption) ?_
        rotate_left 1
        · intro wz hSw
          clear hSw
          first | (go_simp; done) | (go_simp; with_reducible rfl)
        simp only [List.set_cons_zero, List.set_cons_succ]
        refine take_at (i := 4) (n := 9) (v := ?_) rfl rfl (by kernel_rfl) (by kernel_rfl) (by kernel_rfl) (fun _ _ _ h => h) (Or.inl ⟨by rfl, ?_⟩) (by assumption) ?_
        rotate_left 1
        · intro wz hSw
          clear hSw
          first | (go_simp; done) | (go_simp; with_reducible rfl)
        simp only [List.set_cons_zero, List.set_cons_succ]
        refine wpAnyH_ready (rs := [3]) (by kernel_rfl) (by simp) ?_
        refine AllReadyH.cons rfl (fun K hK => ?_) AllReadyH.nil
        go_simp
        refine hK.out _ _ trivial (fun hHeld => ?_)
        clear hK K
        try simp only [List.set_cons_zero, List.set_cons_succ]
        refine take_at (i := 5) (n := 10) (v := ?_) rfl rfl (by kernel_rfl) (by kernel_rfl) (by kernel_rfl) (fun _ _ _ h => h) (Or.inl ⟨by rfl, ?_⟩) (by assumption) ?_
        rotate_left 1
        · intro wz hSw
          clear hSw
          first | (go_simp; done) | (go_simp; with_reducible rfl)
        simp only [List.set_cons_zero, List.set_cons_succ]
        refine wpAnyH_done (by kernel_rfl) ?_ _
        refine NoPanic.normal ?_
        clear hHeld
        clear hmk
        obtain ⟨gl, gc, ex, w5, hrun, hh5, hcap5, hlow5, hb5⟩ := copy_parts w3 l b o c (fun q u hq => below_cell (below_seq HW.out.1.bel HM.out.1) (HRow.out q u hq)) (by omega) h8
        have hO := (Array.getElem?_eq_some_iff.1 HM.out.2).1
        have hlt := HW.out.1.lt
        have HD : Hid (DX w w5 l ex wR.heap.size gl gc cn way l.length) := by
          refine ⟨(HW.out.1.grow HM.out.1).grow hb5, (hb5.block _ hO).trans HM.out.2, ?_, by omega, hlt, by omega, hcap5⟩
          rw [mixC_full, onC_self]
          exact hh5
        have hgO : w.heap.size < wR.heap.size := hlt
        clear hh5 hcap5 hlow5 hb5 hO hlt HM
        generalize wR.heap.size = gO at *
        go_upto_region 18 with (at_builtin; refine append_known rfl (.tmp 49) (.tmp 50) 51 rfl rfl rfl hrun ?_)
        clear hrun
        have hsub : IntKind.i64.wrap ((l.length : Int) - 1) = (l.length : Int) - 1 := by rw [IntKind.wrap_i64]; omega
        have HFin : Hid (way < cn ^ l.length) := by rw [← HP.out]; exact hyl
        have hcz : ¬ (cn : Int) = 0 := by omega
        go_wp2_with fail
        go_loopw [9, 12] (fun rv iv W => ∃ (i r : Nat) (z : Int), z = (i : Int) - 1 ∧ i ≤ l.length ∧ r ≤ 1024 ∧ rv = .int .i64 (r : Int) ∧ iv = .int .i64 z ∧ Hid (r = way / cn ^ (l.length - i) ∧ DX w W l ex gO gl gc cn way i)) (fun _ iv _ => (intOf iv + 1).toNat)
        case atStart => exact ⟨l.length, way, _, rfl, Nat.le_refl _, by omega, rfl, rfl, ⟨by simp, HD.out⟩⟩
        case round =>
          obtain ⟨i, r, z, hz, hi, hr2, rfl, rfl, HX⟩ := hrel
          generalize wr = wI at *
          clear HD
          rcases i with _ | i
          · have hzn : z = -1 := by omega
            subst hzn
            have HT := PartTimes_any wI (onC l (mixC l cn way 0)) _ (HX.out.2.rowSl (Nat.zero_le _))
            rw [mixC_zero] at HT
            have HY : Hid (DX w wI l ex gO gl gc cn way 0) := HX.out.2
            clear HX hsub hz
            go_upto_region 25 with (go_at_call 26; refine HT.mono ?_; rintro r w6 ⟨ts, e, tv, hr, rfl, hrow, hb6, hn6⟩; obtain ⟨y1, y2⟩ := e; dsimp only at *; have H6 : Hid (RespsR (onC l (dgF cn l.length way)) ts (y1, y2) ∧ DX w (w6.alloc (.cells #[.int .i64 y1, .int .i64 y2] 30)) l ex gO gl gc cn way 0) := ⟨hr, (HY.out.grow hb6).grow (below_new _ _)⟩; clear hr hrow hb6 hn6 HT HY)
            obtain ⟨ys, -, yl⟩ := cells_of (l := [_, _]) (heap_alloc_new w6 (.cells #[.int .i64 y1, .int .i64 y2] 30))
            have y0 := ys 0 _ rfl
            clear ys
            generalize w6.alloc (.cells #[.int .i64 y1, .int .i64 y2] 30) = w7 at *
            generalize w6.heap.size = g6 at *
            by_cases hy : y1 = 0
            · subst hy
              have hg : good (dgF cn l.length way) = true := by rw [HGood.out _ _ _ H6.out.1]; rfl
              have HN2 : Hid (a = (dgF cn l.length way, (0, 0))) := by
                have h9 := HN.out
                rw [layF_first HI2.out HFin.out HW.out.2 hg] at h9
                exact h9
              obtain ⟨q0, q1, qf0, qf1, ql⟩ := H6.out.2.fb.res2
              clear hg
              go_wp2_with fail
              refine bodyPost_ret (PlaceD_ends (g := w.heap.size) (c := .int .i64 0) (k := .int .i64 0) (v := .slice (some ⟨gO, 0, none⟩) l.length l.length) (set_two H6.out.2.fb.res) rfl rfl) rfl ?_
              rw [HN2.out]
              exact ⟨_, rfl, H6.out.2.rowSet _ _, H6.out.2.fb.set _ _, fun a n c e => by cases e; exact Nat.le_of_lt H6.out.2.lo⟩
            · have hyb : (y1 == 0) = false := by simpa using hy
              have HW2 : Hid (FB w w7 w.heap.size ∧ ∀ u, u < way + 1 → good (dgF cn l.length u) = false) := by
                refine ⟨H6.out.2.fb, fun u hu => ?_⟩
                by_cases hu2 : u < way
                · exact HW.out.2 u hu2
                · have : u = way := by omega
                  subst this
                  rw [HGood.out _ _ _ H6.out.1]
                  exact hyb
              clear hy
              go_wp2_with fail
              exact ⟨⟨way + 1, by omega, by simp, HW2⟩, by simp [intOf]; omega⟩
          · have hzi : z = (i : Int) := by omega
            subst hzi
            clear hz
            have hil : i < l.length := by omega
            have hii : (i : Int) < (l.length : Int) := by omega
            have hii0 : (0 : Int) ≤ (i : Int) := by omega
            have e1 : ((r : Int)).tmod (cn : Int) = ((r % cn : Nat) : Int) := by rw [Int.tmod_eq_emod_of_nonneg (by omega)]; rfl
            have e2 : ((r : Int)).tdiv (cn : Int) = ((r / cn : Nat) : Int) := by rw [Int.tdiv_eq_ediv_of_nonneg (by omega)]; rfl
            have hm := Nat.mod_lt r (show 0 < cn by omega)
            have hq := Nat.div_le_self r cn
            have HZ9 : Hid (r % cn = way / cn ^ (l.length - 1 - i) % cn ∧ r / cn = way / cn ^ (l.length - i)) := by
              have h9 := HX.out.1
              rw [show l.length - (i + 1) = l.length - 1 - i by omega] at h9
              rw [h9]
              exact ⟨rfl, dg_rest hil⟩
            obtain ⟨⟨u1, k1⟩, kf1, ⟨u2', k2⟩, kf2⟩ := HX.out.2.cells hil
            have l1 := World.block_lt_of_cell? _ _ k1
            have l2 := World.block_lt_of_cell? _ _ k2
            have hne := HX.out.2.ne
            have hcap9 := HX.out.2.cap
            have HS := HX.out.2.step hil
            rw [← HZ9.out.1] at HS
            have HS9 : Hid (DX w ((wI.setCell ⟨gO, i, none⟩ (.int .i64 ((r % cn : Nat) : Int))).setCell ⟨gl, i * 7, none⟩ (.int .i64 ((r % cn : Nat) : Int))) l ex gO gl gc cn way i) := HS
            have HR9 : Hid (r / cn = way / cn ^ (l.length - i)) := HZ9.out.2
            have w3' : IntKind.i64.wrap ((i : Int) - 1) = (i : Int) - 1 := by rw [IntKind.wrap_i64]; omega
            clear HS HX HZ9
            generalize r % cn = rm at *
            generalize r / cn = rd at *
            have w1' : IntKind.i64.wrap (rm : Int) = (rm : Int) := by rw [IntKind.wrap_i64]; omega
            have w2' : IntKind.i64.wrap (rd : Int) = (rd : Int) := by rw [IntKind.wrap_i64]; omega
            go_wp2_with fail
            exact ⟨⟨i, rd, _, rfl, by omega, by omega, rfl, rfl, ⟨HR9.out, HS9.out⟩⟩, by simp [intOf]⟩
end Go.Proofs.YtccoobcggbbcialDoor
