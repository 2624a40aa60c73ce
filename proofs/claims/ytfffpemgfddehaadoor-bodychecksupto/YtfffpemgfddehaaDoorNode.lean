import Derived.Test.YtfffpemgfddehaaDoorFirst
import Derived.Deep.CutRange
namespace Go.Proofs.YtfffpemgfddehaaDoor
open Go.ChangeShapes Go.WideShapes Go.ChangeAt Go.RowKit

mutual
def Ex.node : Ex → Nat → Int × Nat
  | .mk k n a, c => if 30 < c + 1 then (2, c + 1) else if (Ex.mk k n a).err ≠ 0 then ((Ex.mk k n a).err, c + 1) else Ex.nodeAll a (c + 1)
def Ex.nodeAll : List Ex → Nat → Int × Nat
  | [], c => (0, c)
  | x :: r, c => if (x.node c).1 ≠ 0 then x.node c else Ex.nodeAll r (x.node c).2
end

mutual
theorem Ex.node_le : ∀ (e : Ex) (c : Nat), (e.node c).1 = 0 → (e.node c).2 ≤ 30
  | .mk k n a, c, h => by
    unfold Ex.node at h ⊢
    by_cases h30 : 30 < c + 1
    · rw [if_pos h30] at h; simp at h
    · rw [if_neg h30] at h ⊢
      by_cases hE : (Ex.mk k n a).err ≠ 0
      · rw [if_pos hE] at h; exact absurd h hE
      · rw [if_neg hE] at h ⊢
        exact Ex.nodeAll_le a (c + 1) (by omega) h
theorem Ex.nodeAll_le : ∀ (a : List Ex) (c : Nat), c ≤ 30 → (Ex.nodeAll a c).1 = 0 → (Ex.nodeAll a c).2 ≤ 30
  | [], c, hc, _ => by unfold Ex.nodeAll; exact hc
  | x :: r, c, hc, h => by
    unfold Ex.nodeAll at h ⊢
    by_cases hx : (x.node c).1 ≠ 0
    · rw [if_pos hx] at h; exact absurd h hx
    · rw [if_neg hx] at h ⊢
      exact Ex.nodeAll_le r _ (Ex.node_le x c (by simpa using hx)) h
end

theorem Ex.nodeAll_at {a : List Ex} {j : Nat} (h : j < a.length) (c : Nat) : Ex.nodeAll (a.drop j) c = if ((a[j]).node c).1 ≠ 0 then (a[j]).node c else Ex.nodeAll (a.drop (j + 1)) ((a[j]).node c).2 := by
  rw [drop_at h, Ex.nodeAll]

/-- All blocks but q are as they were. -/
structure But (q : Nat) (w w' : World) : Prop where
  os : w'.os = w.os
  tape : w'.tape = w.tape
  output : w'.output = w.output
  size : w.heap.size ≤ w'.heap.size
  block : ∀ k, k < w.heap.size → k ≠ q → w'.heap[k]? = w.heap[k]?

theorem But.refl (q : Nat) (w : World) : But q w w := ⟨rfl, rfl, rfl, Nat.le_refl _, fun _ _ _ => rfl⟩
theorem But.trans {q : Nat} {a b c : World} (h : But q a b) (h' : But q b c) : But q a c :=
  ⟨h'.os.trans h.os, h'.tape.trans h.tape, h'.output.trans h.output, Nat.le_trans h.size h'.size, fun k hk hq => (h'.block k (by have := h.size; omega) hq).trans (h.block k hk hq)⟩
theorem But.of_below {q : Nat} {a b : World} (h : Below a.heap.size a b) : But q a b := ⟨h.os, h.tape, h.output, h.size, fun k hk _ => h.block k hk⟩
theorem But.setCell {q : Nat} {w : World} {o : Nat} {v : Value} : But q w (w.setCell ⟨q, o, none⟩ v) := ⟨rfl, rfl, rfl, by simp [World.setCell], fun k _ hq => Below.heap_setCell _ _ _ _ hq⟩
theorem But.cell {q : Nat} {w w' : World} (h : But q w w') {b o : Nat} {v : Value} (hb : b ≠ q) (hc : w.cell? ⟨b, o, none⟩ = some v) : w'.cell? ⟨b, o, none⟩ = some v :=
  (World.cell?_of_block (h.block b (World.block_lt_of_cell? _ _ hc) hb)).trans hc
theorem But.moves {q : Nat} {w w' : World} (h : But q w w') : Moves (fun b => b ≠ q) (fun b => b ≠ q) w w' := fun b hb hlt => ⟨hb, h.block b hlt hb⟩

/-- The table of expressions' forms. -/
def FormsIn (w : World) : Prop := ∀ m : Nat, 1 ≤ m → m < 8 → w.cell? ⟨1, m * 2, none⟩ = some (.int .i64 (mostN m)) ∧ w.cell? ⟨1, m * 2 + 1, none⟩ = some (.int .i64 (arity m))

theorem FormsIn.but {q : Nat} {w w' : World} (hq : q ≠ 1) (h : FormsIn w) (hb : But q w w') : FormsIn w' := fun m h1 h2 => ⟨hb.cell (by omega) (h m h1 h2).1, hb.cell (by omega) (h m h1 h2).2⟩

theorem node_head {w : World} {q c : Nat} (k n : Int) (ad : Option Addr) (m ca : Nat) (hq : w.heap[q]? = some (.cells #[.int .i64 c] 3 (0, 0))) :
    ∃ W, W = (w.setCell ⟨q, 0, none⟩ (.int .i64 (c + 1))).alloc (.cells #[.int .i64 k, .int .i64 n, .slice ad m ca] 30) ∧ W.heap[q]? = some (.cells #[.int .i64 ((c + 1 : Nat) : Int)] 3 (0, 0)) ∧ But q w W ∧ W.heap.size = w.heap.size + 1 ∧
    W.cell? ⟨w.heap.size, 0, none⟩ = some (.int .i64 k) ∧ W.cell? ⟨w.heap.size, 1, none⟩ = some (.int .i64 n) ∧ W.cell? ⟨w.heap.size, 2, none⟩ = some (.slice ad m ca) := by
  have hql : q < w.heap.size := lt_of_block hq
  have hs : (w.setCell ⟨q, 0, none⟩ (.int .i64 (c + 1))).heap.size = w.heap.size := by simp [World.setCell]
  have hc : ∀ (i : Nat) (u : Value), #[Value.int .i64 k, .int .i64 n, .slice ad m ca][i]? = some u → ((w.setCell ⟨q, 0, none⟩ (.int .i64 (c + 1))).alloc (.cells #[.int .i64 k, .int .i64 n, .slice ad m ca] 30)).cell? ⟨w.heap.size, i, none⟩ = some u := by
    intro i u hu
    rw [World.cell?_alloc_at _ _ _ _ hs.symm]
    exact hu
  refine ⟨_, rfl, ?_, But.setCell.trans (But.of_below ((Below.refl _ _).alloc (Nat.le_refl _) _)), by simp [World.setCell], hc 0 _ rfl, hc 1 _ rfl, hc 2 _ rfl⟩
  have := one_setCell (u := .int .i64 (c + 1)) hq
  refine (Below.heap_alloc _ _ _ (by rw [hs]; exact hql)).trans ?_
  simpa using this

set_option maxHeartbeats 2000000 in
theorem node_any (N : Nat) : ∀ (e : Ex) (w : World) (v : Value) (q c : Nat), e.nodes < N → N ≤ 1048577 → c ≤ 1000000 → q ≠ 1 → w.heap[q]? = some (.cells #[.int .i64 c] 3 (0, 0)) → FormsIn w → e.InP (fun b => b ≠ q) w v →
    Calls Tryd.prog 40 #[v, .pointer (some ⟨q, 0, none⟩)] w fun r w' => r = .returned (.int .i64 (e.node c).1) ∧ w'.heap[q]? = some (.cells #[.int .i64 (e.node c).2] 3 (0, 0)) ∧ But q w w' := by
  induction N with
  | zero => intro e w v q c h; omega
  | succ N ih =>
    intro e w v q c hN hle hc hq1 hq hfm hin
    obtain ⟨k, n, a⟩ := e
    unfold Ex.nodes at hN
    have hlen := length_le_nodesAll a
    have hin0 := hin
    unfold Ex.InP at hin
    obtain ⟨ad, ca, rfl, hrow⟩ := hin
    have hqc : w.cell? ⟨q, 0, none⟩ = some (.int .i64 c) := cell_of_one hq
    have hqf : w.frozen? ⟨q, 0, none⟩ = false := free_of_one hq
    have hql : q < w.heap.size := lt_of_block hq
    have HR : Hid (_ ∧ _ ∧ _ ∧ (a = [] ∨ ∃ b o, ad = some ⟨b, o, none⟩ ∧ b ≠ q ∧ Ex.RowP (fun b => b ≠ q) w a b o)) := ⟨hq, hfm, hin0, hrow⟩
    have IH : Hid _ := ih
    clear hrow hin0 ih hfm hq
    obtain ⟨W, hWe, hWq, hWb, hz, f0, f1, f2⟩ := node_head (w := w) (q := q) (c := c) k n ad a.length ca HR.out.1
    have hWc : W.cell? ⟨q, 0, none⟩ = some (.int .i64 (c + 1)) := by simpa using cell_of_one hWq
    have hWf : W.frozen? ⟨q, 0, none⟩ = false := free_of_one hWq
    have HW : Hid (_ ∧ _) := ⟨hWq, hWb⟩
    have hcn : c + 1 ≤ 1000001 := by omega
    clear hWq hWb
    by_cases h30 : 30 < c + 1
    · have hn : Hid ((Ex.mk k n a).node c = (2, c + 1)) := by unfold Hid Ex.node; rw [if_pos h30]
      go_enter Tryd.func40, Tryd.ntmps40
      go_upto_region 2 with fail
      rw [← hWe]
      clear hWe
      go_wp2_with fail
      go_ret
      exact ⟨ret_int (by rw [hn.out]), by rw [hn.out]; exact HW.out.1, HW.out.2⟩
    by_cases hE : (Ex.mk k n a).err ≠ 0
    · have hn : Hid ((Ex.mk k n a).node c = ((Ex.mk k n a).err, c + 1)) := by unfold Hid Ex.node; rw [if_neg h30, if_pos hE]
      by_cases hk : k < 1 ∨ 8 ≤ k
      · have he : Hid ((Ex.mk k n a).err = 6) := by
          have h1 : arity k = -1 := by unfold arity; rw [if_neg (by omega), if_neg (by omega), if_neg (by omega)]
          unfold Hid Ex.err
          rw [if_pos (by show (a.length : Int) ≠ arity k; omega)]
        clear hE
        go_enter Tryd.func40, Tryd.ntmps40
        go_upto_region 2 with fail
        rw [← hWe]
        clear hWe
        go_wp2_with fail
        rcases hk with hk | hk
        · go_quiet (fail)
          go_wp2_with fail
          go_ret
          exact ⟨ret_int (by rw [hn.out, he.out]), by rw [hn.out]; exact HW.out.1, HW.out.2.trans ⟨rfl, rfl, rfl, Nat.le_refl _, fun _ _ _ => rfl⟩⟩
        · have hd1 : decide (k < 1) = false := decide_eq_false (by omega)
          go_quiet (fail)
          go_wp2_with fail
          go_ret
          exact ⟨ret_int (by rw [hn.out, he.out]), by rw [hn.out]; exact HW.out.1, HW.out.2.trans ⟨rfl, rfl, rfl, Nat.le_refl _, fun _ _ _ => rfl⟩⟩
      · obtain ⟨m, rfl⟩ : ∃ m : Nat, k = m := ⟨k.toNat, by omega⟩
        have hm1 : 1 ≤ m := by omega
        have hm8 : m < 8 := by omega
        have hd1 : decide ((m : Int) < 1) = false := decide_eq_false (by omega)
        have hd2 : decide ((8 : Int) ≤ (m : Int)) = false := decide_eq_false (by omega)
        have hfm := HR.out.2.1 m hm1 hm8
        have q1 := HW.out.2.cell (by omega) hfm.1
        have q2 := HW.out.2.cell (by omega) hfm.2
        clear hfm
        by_cases hA : (a.length : Int) = arity m
        · have hA' : ((a.length : Int) == arity m) = true := by simpa using hA
          have he : Hid ((Ex.mk (m : Int) n a).err = 3) := by
            unfold Hid Ex.err at *
            rw [if_neg (by show ¬ (a.length : Int) ≠ arity m; omega)] at hE ⊢
            by_cases h : (Ex.mk (m : Int) n a).n < 0 ∨ (Ex.mk (m : Int) n a).n > mostN (Ex.mk (m : Int) n a).k
            · rw [if_pos h]
            · rw [if_neg h] at hE; exact absurd rfl hE
          have hr : n < 0 ∨ n > mostN m := by
            by_cases h : n < 0 ∨ n > mostN m
            · exact h
            · exfalso
              have := he.out
              unfold Ex.err at this
              rw [if_neg (by show ¬ (a.length : Int) ≠ arity m; omega), if_neg (by show ¬ (n < 0 ∨ n > mostN m); exact h)] at this
              omega
          clear hE
          rw [← hA] at q2
          generalize hmo : mostN (m : Int) = mo at *
          clear hmo
          go_enter Tryd.func40, Tryd.ntmps40
          go_upto_region 2 with fail
          rw [← hWe]
          clear hWe
          go_wp2_with fail
          go_quiet (fail)
          go_wp2_with fail
          by_cases hn0 : n < 0
          · go_quiet (fail)
            go_wp2_with fail
            go_ret
            exact ⟨ret_int (by rw [hn.out, he.out]), by rw [hn.out]; exact HW.out.1, HW.out.2.trans ⟨rfl, rfl, rfl, Nat.le_refl _, fun _ _ _ => rfl⟩⟩
          · have hd3 : decide (n < 0) = false := decide_eq_false hn0
            have hgt : mo < n := by omega
            go_quiet (fail)
            go_wp2_with fail
            go_ret
            exact ⟨ret_int (by rw [hn.out, he.out]), by rw [hn.out]; exact HW.out.1, HW.out.2.trans ⟨rfl, rfl, rfl, Nat.le_refl _, fun _ _ _ => rfl⟩⟩
        · have hA' : ((a.length : Int) == arity m) = false := by simpa using hA
          have he : Hid ((Ex.mk (m : Int) n a).err = 6) := by
            unfold Hid Ex.err
            rw [if_pos (by show (a.length : Int) ≠ arity m; exact hA)]
          clear hE
          generalize hmo : arity (m : Int) = ar at *
          clear hmo
          go_enter Tryd.func40, Tryd.ntmps40
          go_upto_region 2 with fail
          rw [← hWe]
          clear hWe
          go_wp2_with fail
          go_quiet (fail)
          go_wp2_with fail
          go_ret
          exact ⟨ret_int (by rw [hn.out, he.out]), by rw [hn.out]; exact HW.out.1, HW.out.2.trans ⟨rfl, rfl, rfl, Nat.le_refl _, fun _ _ _ => rfl⟩⟩
    · have hn : Hid ((Ex.mk k n a).node c = Ex.nodeAll a (c + 1)) := by unfold Hid Ex.node; rw [if_neg h30, if_neg hE]
      have hA : (a.length : Int) = arity k ∧ ¬ (n < 0 ∨ n > mostN k) := by
        unfold Ex.err at hE
        by_cases h1 : (a.length : Int) = arity k
        · refine ⟨h1, fun h2 => hE ?_⟩
          rw [if_neg (by show ¬ (a.length : Int) ≠ arity k; omega), if_pos (by show n < 0 ∨ n > mostN k; exact h2)]
          omega
        · exfalso
          apply hE
          rw [if_pos (by show (a.length : Int) ≠ arity k; exact h1)]
          omega
      have hk : 1 ≤ k ∧ k < 8 := by
        have h0 : 0 ≤ arity k := by omega
        unfold arity at h0
        by_cases h1 : k = 1 ∨ k = 2 ∨ k = 3
        · omega
        · rw [if_neg h1] at h0
          by_cases h2 : k = 4
          · omega
          · rw [if_neg h2] at h0
            by_cases h3 : k = 5 ∨ k = 6 ∨ k = 7
            · omega
            · rw [if_neg h3] at h0; omega
      obtain ⟨m, rfl⟩ : ∃ m : Nat, k = m := ⟨k.toNat, by omega⟩
      have hm1 : 1 ≤ m := by omega
      have hm8 : m < 8 := by omega
      have hd1 : decide ((m : Int) < 1) = false := decide_eq_false (by omega)
      have hd2 : decide ((8 : Int) ≤ (m : Int)) = false := decide_eq_false (by omega)
      have hfm := HR.out.2.1 m hm1 hm8
      have q1 := HW.out.2.cell (by omega) hfm.1
      have q2 := HW.out.2.cell (by omega) hfm.2
      obtain ⟨hA1, hA2⟩ := hA
      rw [← hA1] at q2
      generalize hmo : mostN (m : Int) = mo at *
      have hn0 : 0 ≤ n := by omega
      have hn1 : n ≤ mo := by omega
      have hd3 : decide (n < 0) = false := decide_eq_false (by omega)
      have hd4 : decide (mo < n) = false := decide_eq_false (by omega)
      clear hmo hA2 hA1 hE hfm hk
      go_enter Tryd.func40, Tryd.ntmps40
      go_upto_region 2 with fail
      rw [← hWe]
      clear hWe
      go_wp2_with fail
      go_quiet (fail)
      go_wp2_with fail
      go_quiet (fail)
      go_wp2_with fail
      go_loopw [4, 6, 7, 52] (fun _ _ _ i wr => ∃ (j c' : Nat), j ≤ a.length ∧ i = .int .i64 j ∧ c' ≤ 30 ∧ Ex.nodeAll (a.drop j) c' = Ex.nodeAll a (c + 1) ∧ wr.heap[q]? = some (.cells #[.int .i64 c'] 3 (0, 0)) ∧ But q w wr) (fun _ _ _ i _ => a.length - (intOf i).toNat)
      case atStart => exact ⟨0, c + 1, Nat.zero_le _, rfl, by omega, rfl, HW.out.1, HW.out.2.trans ⟨rfl, rfl, rfl, Nat.le_refl _, fun _ _ _ => rfl⟩⟩
      case round =>
        obtain ⟨j, c', hj, rfl, hc30, hna, hwq, hb⟩ := hrel
        by_cases hlt : j < a.length
        · rcases HR.out.2.2.2 with h | ⟨b, o, had, hbq, hrow⟩
          · subst h; simp at hlt
          subst had
          obtain ⟨xk, xn, xad, xm, xc, c0, c1, c2, hinx⟩ := (Ex.RowP.move hb.moves a hbq hrow).shape hlt
          have hnn := nodesAll_at a j a[j] (by simp [hlt])
          rw [Ex.nodeAll_at hlt] at hna
          have HX : Hid (_ ∧ _ ∧ _ ∧ _) := ⟨hinx, hna, hwq, hb⟩
          clear hinx hna hwq hb hrow
          generalize a[j] = x at *
          by_cases he0 : (x.node c').1 = 0
          · have HZ : Hid _ := he0
            go_wp2_with (first
              | (go_at_call 40; refine (IH.out x _ _ q c' (by omega) (by omega) (by omega) hq1 ?h1 ?h2 ?h3).mono ?_; rotate_left 3; rintro e w3 ⟨rfl, hq3, hb3⟩; have H3 : Hid (_ ∧ _) := ⟨hq3, hb3⟩; clear hq3 hb3))
            case h1 => exact (Below.heap_alloc _ _ _ (lt_of_block HX.out.2.2.1)).trans HX.out.2.2.1
            case h2 => exact FormsIn.but hq1 HR.out.2.1 (HX.out.2.2.2.trans (But.of_below ((Below.refl _ _).alloc (Nat.le_refl _) _)))
            case h3 => exact HX.out.1.move (But.of_below ((Below.refl _ _).alloc (Nat.le_refl _) _)).moves
            have hna := HX.out.2.1
            rw [if_neg (by simpa using HZ.out)] at hna
            go_roundw
            case rel => exact ⟨j + 1, (x.node c').2, by omega, by go_num, Ex.node_le x c' HZ.out, hna, H3.out.1, HX.out.2.2.2.trans ((But.of_below ((Below.refl _ _).alloc (Nat.le_refl _) _)).trans H3.out.2)⟩
            case measure => simp [intOf]; omega
          · have he1 : ((x.node c').1 == 0) = false := by simpa using he0
            have HZ : Hid (¬ (x.node c').1 = 0) := he0
            clear he0
            go_wp2_with (first
              | (go_at_call 40; refine (IH.out x _ _ q c' (by omega) (by omega) (by omega) hq1 ?h1 ?h2 ?h3).mono ?_; rotate_left 3; rintro e w3 ⟨rfl, hq3, hb3⟩; have H3 : Hid (_ ∧ _) := ⟨hq3, hb3⟩; clear hq3 hb3))
            case h1 => exact (Below.heap_alloc _ _ _ (lt_of_block HX.out.2.2.1)).trans HX.out.2.2.1
            case h2 => exact FormsIn.but hq1 HR.out.2.1 (HX.out.2.2.2.trans (But.of_below ((Below.refl _ _).alloc (Nat.le_refl _) _)))
            case h3 => exact HX.out.1.move (But.of_below ((Below.refl _ _).alloc (Nat.le_refl _) _)).moves
            have hna := HX.out.2.1
            rw [if_pos HZ.out] at hna
            go_ret
            exact ⟨ret_int (by rw [hn.out, ← hna]), by rw [hn.out, ← hna]; exact H3.out.1, HX.out.2.2.2.trans ((But.of_below ((Below.refl _ _).alloc (Nat.le_refl _) _)).trans H3.out.2)⟩
        · have hje : j = a.length := by omega
          subst hje
          rw [List.drop_length, Ex.nodeAll] at hna
          have HX : Hid (_ ∧ _ ∧ _) := ⟨hna, hwq, hb⟩
          clear hna hwq hb
          go_wp2_with fail
          go_ret
          exact ⟨ret_int (by rw [hn.out, ← HX.out.1]), by rw [hn.out, ← HX.out.1]; exact HX.out.2.1, HX.out.2.2⟩
end Go.Proofs.YtfffpemgfddehaaDoor
