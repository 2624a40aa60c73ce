import Derived.Test.YtikdidfgdiafoabDoorGFirst
import Derived.Deep.CutRange
namespace Go.Proofs.YtikdidfgdiafoabDoor
open Go.ChangeShapes Go.WideShapes Go.ChangeAt Go.RowKit

mutual
def Ex.node : Ex → Nat → Int × Nat
  | .mk k n a, c => if 30 < c + 1 then (2, c + 1) else if (Ex.mk k n a).err ≠ 0 then ((Ex.mk k n a).err, c + 1) else Ex.nodeAll a (c + 1)
def Ex.nodeAll : List Ex → Nat → Int × Nat
  | [], c => (0, c)
  | x :: r, c => if (x.node c).1 ≠ 0 then x.node c else Ex.nodeAll r (x.node c).2
end

mutual
theorem Ex.node_le : ∀ (e : Ex) (c : Nat), (e.node c).1 = 0 → (e.node c).2 ≤ 30
  | .mk k n a, c, h => by
    unfold Ex.node at h ⊢
    by_cases h30 : 30 < c + 1
    · rw [if_pos h30] at h; simp at h
    · rw [if_neg h30] at h ⊢
      by_cases hE : (Ex.mk k n a).err ≠ 0
      · rw [if_pos hE] at h; exact absurd h hE
      · rw [if_neg hE] at h ⊢
        exact Ex.nodeAll_le a (c + 1) (by omega) h
theorem Ex.nodeAll_le : ∀ (a : List Ex) (c : Nat), c ≤ 30 → (Ex.nodeAll a c).1 = 0 → (Ex.nodeAll a c).2 ≤ 30
  | [], c, hc, _ => by unfold Ex.nodeAll; exact hc
  | x :: r, c, hc, h => by
    unfold Ex.nodeAll at h ⊢
    by_cases hx : (x.node c).1 ≠ 0
    · rw [if_pos hx] at h; exact absurd h hx
    · rw [if_neg hx] at h ⊢
      exact Ex.nodeAll_le r _ (Ex.node_le x c (by simpa using hx)) h
end

theorem Ex.nodeAll_at {a : List Ex} {j : Nat} (h : j < a.length) (c : Nat) : Ex.nodeAll (a.drop j) c = if ((a[j]).node c).1 ≠ 0 then (a[j]).node c else Ex.nodeAll (a.drop (j + 1)) ((a[j]).node c).2 := by
  rw [drop_at h, Ex.nodeAll]

/-- All blocks but q are as they were. -/
structure But (q : Nat) (w w' : World) : Prop where
  os : w'.os = w.os
  tape : w'.tape = w.tape
  output : w'.output = w.output
  size : w.heap.size ≤ w'.heap.size
  block : ∀ k, k < w.heap.size → k ≠ q → w'.heap[k]? = w.heap[k]?

theorem But.refl (q : Nat) (w : World) : But q w w := ⟨rfl, rfl, rfl, Nat.le_refl _, fun _ _ _ => rfl⟩
theorem But.trans {q : Nat} {a b c : World} (h : But q a b) (h' : But q b c) : But q a c :=
  ⟨h'.os.trans h.os, h'.tape.trans h.tape, h'.output.trans h.output, Nat.le_trans h.size h'.size, fun k hk hq => (h'.block k (by have := h.size; omega) hq).trans (h.block k hk hq)⟩
theorem But.of_below {q : Nat} {a b : World} (h : Below a.heap.size a b) : But q a b := ⟨h.os, h.tape, h.output, h.size, fun k hk _ => h.block k hk⟩
theorem But.setCell {q : Nat} {w : World} {o : Nat} {v : Value} : But q w (w.setCell ⟨q, o, none⟩ v) := ⟨rfl, rfl, rfl, by simp [World.setCell], fun k _ hq => Below.heap_setCell _ _ _ _ hq⟩
theorem But.cell {q : Nat} {w w' : World} (h : But q w w') {b o : Nat} {v : Value} (hb : b ≠ q) (hc : w.cell? ⟨b, o, none⟩ = some v) : w'.cell? ⟨b, o, none⟩ = some v :=
  (World.cell?_of_block (h.block b (World.block_lt_of_cell? _ _ hc) hb)).trans hc
theorem But.moves {q : Nat} {w w' : World} (h : But q w w') : Moves (fun b => b ≠ q) (fun b => b ≠ q) w w' := fun b hb hlt => ⟨hb, h.block b hlt hb⟩

/-- The table of expressions' forms. -/
def FormsIn (w : World) : Prop := ∀ m : Nat, 1 ≤ m → m < 8 → w.cell? ⟨1, m * 2, none⟩ = some (.int .i64 (mostN m)) ∧ w.cell? ⟨1, m * 2 + 1, none⟩ = some (.int .i64 (arity m))

theorem FormsIn.but {q : Nat} {w w' : World} (hq : q ≠ 1) (h : FormsIn w) (hb : But q w w') : FormsIn w' := fun m h1 h2 => ⟨hb.cell (by omega) (h m h1 h2).1, hb.cell (by omega) (h m h1 h2).2⟩

theorem node_head {w : World} {q c : Nat} (k n : Int) (ad : Option Addr) (m ca : Nat) (hq : w.heap[q]? = some (.cells #[.int .i64 c] 3 (0, 0))) :
    ∃ W, W = (w.setCell ⟨q, 0, none⟩ (.int .i64 (c + 1))).alloc (.cells #[.int .i64 k, .int .i64 n, .slice ad m ca] 57) ∧ W.heap[q]? = some (.cells #[.int .i64 ((c + 1 : Nat) : Int)] 3 (0, 0)) ∧ But q w W ∧ W.heap.size = w.heap.size + 1 ∧
    W.cell? ⟨w.heap.size, 0, none⟩ = some (.int .i64 k) ∧ W.cell? ⟨w.heap.size, 1, none⟩ = some (.int .i64 n) ∧ W.cell? ⟨w.heap.size, 2, none⟩ = some (.slice ad m ca) := by
  have hql : q < w.heap.size := lt_of_block hq
  have hs : (w.setCell ⟨q, 0, none⟩ (.int .i64 (c + 1))).heap.size = w.heap.size := by simp [World.setCell]
  have hc : ∀ (i : Nat) (u : Value), #[Value.int .i64 k, .int .i64 n, .slice ad m ca][i]? = some u → ((w.setCell ⟨q, 0, none⟩ (.int .i64 (c + 1))).alloc (.cells #[.int .i64 k, .int .i64 n, .slice ad m ca] 57)).cell? ⟨w.heap.size, i, none⟩ = some u := by
    intro i u hu
    rw [World.cell?_alloc_at _ _ _ _ hs.symm]
    exact hu
  refine ⟨_, rfl, ?_, But.setCell.trans (But.of_below ((Below.refl _ _).alloc (Nat.le_refl _) _)), by simp [World.setCell], hc 0 _ rfl, hc 1 _ rfl, hc 2 _ rfl⟩
  have := one_setCell (u := .int .i64 (c + 1)) hq
  refine (Below.heap_alloc _ _ _ (by rw [hs]; exact hql)).trans ?_
  simpa using this

set_option maxHeartbeats 2000000 in
theorem node_any (N : Nat) : ∀ (e : Ex) (w : World) (v : Value) (q c : Nat), e.nodes < N → N ≤ 1048577 → c ≤ 1000000 → q ≠ 1 → w.heap[q]? = some (.cells #[.int .i64 c] 3 (0, 0)) → FormsIn w → e.InP (fun b => b ≠ q) w v →
    Calls Tryd.prog 64 #[v, .pointer (some ⟨q, 0, none⟩)] w fun r w' => r = .returned (.int .i64 (e.node c).1) ∧ w'.heap[q]? = some (.cells #[.int .i64 (e.node c).2] 3 (0, 0)) ∧ But q w w' := by
  induction N with
  | zero => intro e w v q c h; omega
  | succ N ih =>
    intro e w v q c hN hle hc hq1 hq hfm hin
    obtain ⟨k, n, a⟩ := e
    unfold Ex.nodes at hN
    have hlen := length_le_nodesAll a
    have hin0 := hin
    unfold Ex.InP at hin
    obtain ⟨ad, ca, rfl, hrow⟩ := hin
    have hqc : w.cell? ⟨q, 0, none⟩ = some (.int .i64 c) := cell_of_one hq
    have hqf : w.frozen? ⟨q, 0, none⟩ = false := free_of_one hq
    have hql : q < w.heap.size := lt_of_block hq
    have HR : Hid (_ ∧ _ ∧ _ ∧ (a = [] ∨ ∃ b o, ad = some ⟨b, o, none⟩ ∧ b ≠ q ∧ Ex.RowP (fun b => b ≠ q) w a b o)) := ⟨hq, hfm, hin0, hrow⟩
    have IH : Hid _ := ih
    clear hrow hin0 ih hfm hq
    obtain ⟨W, hWe, hWq, hWb, hz, f0, f1, f2⟩ := node_head (w := w) (q := q) (c := c) k n ad a.length ca HR.out.1
    have hWc : W.cell? ⟨q, 0, none⟩ = some (.int .i64 (c + 1)) := by simpa using cell_of_one hWq
    have hWf : W.frozen? ⟨q, 0, none⟩ = false := free_of_one hWq
    have HW : Hid (_ ∧ _) := ⟨hWq, hWb⟩
    have hcn : c + 1 ≤ 1000001 := by omega
    clear hWq hWb
    by_cases h30 : 30 < c + 1
    · have hn : Hid ((Ex.mk k n a).node c = (2, c + 1)) := by unfold Hid Ex.node; rw [if_pos h30]
      go_enter Tryd.func64, Tryd.ntmps64
      go_upto_region 2 with fail
      rw [← hWe]
      clear hWe
      go_wp2_with fail
      go_ret
      exact ⟨ret_int (by rw [hn.out]), by rw [hn.out]; exact HW.out.1, HW.out.2⟩
    by_cases hE : (Ex.mk k n a).err ≠ 0
    · have hn : Hid ((Ex.mk k n a).node c = ((Ex.mk k n a).err, c + 1)) := by unfold Hid Ex.node; rw [if_neg h30, if_pos hE]
      by_cases hk : k < 1 ∨ 8 ≤ k
      · have he : Hid ((Ex.mk k n a).err = 6) := by
          have h1 : arity k = -1 := by unfold arity; rw [if_neg (by omega), if_neg (by omega), if_neg (by omega)]
          unfold Hid Ex.err
          rw [if_pos (by show (a.length : Int) ≠ arity k; omega)]
        clear hE
        go_enter Tryd.func64, Tryd.ntmps64
        go_upto_region 2 with fail
        rw [← hWe]
        clear hWe
        go_wp2_with fail
        rcases hk with hk | hk
        · go_quiet (fail)
          go_wp2_with fail
          go_ret
          exact ⟨ret_int (by rw [hn.out, he.out]), by rw [hn.out]; exact HW.out.1, HW.out.2.trans ⟨rfl, rfl, rfl, Nat.le_refl _, fun _ _ _ => rfl⟩⟩
        · have hd1 : decide (k < 1) = false := decide_eq_false (by omega)
          go_quiet (fail)
          go_wp2_with fail
          go_ret
          exact ⟨ret_int (by rw [hn.out, he.out]), by rw [hn.out]; exact HW.out.1, HW.out.2.trans ⟨rfl, rfl, rfl, Nat.le_refl _, fun _ _ _ => rfl⟩⟩
      · obtain ⟨m, rfl⟩ : ∃ m : Nat, k = m := ⟨k.toNat, by omega⟩
        have hm1 : 1 ≤ m := by omega
        have hm8 : m < 8 := by omega
        have hd1 : decide ((m : Int) < 1) = false := decide_eq_false (by omega)
        have hd2 : decide ((8 : Int) ≤ (m : Int)) = false := decide_eq_false (by omega)
        have hfm := HR.out.2.1 m hm1 hm8
        have q1 := HW.out.2.cell (by omega) hfm.1
        have q2 := HW.out.2.cell (by omega) hfm.2
        clear hfm
        by_cases hA : (a.length : Int) = arity m
        · have hA' : ((a.length : Int) == arity m) = true := by simpa using hA
          have he : Hid ((Ex.mk (m : Int) n a).err = 3) := by
            unfold Hid Ex.err at *
            rw [if_neg (by show ¬ (a.length : Int) ≠ arity m; omega)] at hE ⊢
            by_cases h : (Ex.mk (m : Int) n a).n < 0 ∨ (Ex.mk (m : Int) n a).n > mostN (Ex.mk (m : Int) n a).k
            · rw [if_pos h]
            · rw [if_neg h] at hE; exact absurd rfl hE
          have hr : n < 0 ∨ n > mostN m := by
            by_cases h : n < 0 ∨ n > mostN m
            · exact h
            · exfalso
              have := he.out
              unfold Ex.err at this
              rw [if_neg (by show ¬ (a.length : Int) ≠ arity m; omega), if_neg (by show ¬ (n < 0 ∨ n > mostN m); exact h)] at this
              omega
          clear hE
          rw [← hA] at q2
          generalize hmo : mostN (m : Int) = mo at *
          clear hmo
          go_enter Tryd.func64, Tryd.ntmps64
          go_upto_region 2 with fail
          rw [← hWe]
          clear hWe
          go_wp2_with fail
          go_quiet (fail)
          go_wp2_with fail
          by_cases hn0 : n < 0
          · go_quiet (fail)
            go_wp2_with fail
            go_ret
            exact ⟨ret_int (by rw [hn.out, he.out]), by rw [hn.out]; exact HW.out.1, HW.out.2.trans ⟨rfl, rfl, rfl, Nat.le_refl _, fun _ _ _ => rfl⟩⟩
          · have hd3 : decide (n < 0) = false := decide_eq_false hn0
            have hgt : mo < n := by omega
            go_quiet (fail)
            go_wp2_with fail
            go_ret
            exact ⟨ret_int (by rw [hn.out, he.out]), by rw [hn.out]; exact HW.out.1, HW.out.2.trans ⟨rfl, rfl, rfl, Nat.le_refl _, fun _ _ _ => rfl⟩⟩
        · have hA' : ((a.length : Int) == arity m) = false := by simpa using hA
          have he : Hid ((Ex.mk (m : Int) n a).err = 6) := by
            unfold Hid Ex.err
            rw [if_pos (by show (a.length : Int) ≠ arity m; exact hA)]
          clear hE
          generalize hmo : arity (m : Int) = ar at *
          clear hmo
          go_enter Tryd.func64, Tryd.ntmps64
          go_upto_region 2 with fail
          rw [← hWe]
          clear hWe
          go_wp2_with fail
          go_quiet (fail)
          go_wp2_with fail
          go_ret
          exact ⟨ret_int (by rw [hn.out, he.out]), by rw [hn.out]; exact HW.out.1, HW.out.2.trans ⟨rfl, rfl, rfl, Nat.le_refl _, fun _ _ _ => rfl⟩⟩
    · have hn : Hid ((Ex.mk k n a).node c = Ex.nodeAll a (c + 1)) := by unfold Hid Ex.node; rw [if_neg h30, if_neg hE]
      have hA : (a.length : Int) = arity k ∧ ¬ (n < 0 ∨ n > mostN k) := by
        unfold Ex.err at hE
        by_cases h1 : (a.length : Int) = arity k
        · refine ⟨h1, fun h2 => hE ?_⟩
          rw [if_neg (by show ¬ (a.length : Int) ≠ arity k; omega), if_pos (by show n < 0 ∨ n > mostN k; exact h2)]
          omega
        · exfalso
          apply hE
          rw [if_pos (by show (a.length : Int) ≠ arity k; exact h1)]
          omega
      have hk : 1 ≤ k ∧ k < 8 := by
        have h0 : 0 ≤ arity k := by omega
        unfold arity at h0
        by_cases h1 : k = 1 ∨ k = 2 ∨ k = 3
        · omega
        · rw [if_neg h1] at h0
          by_cases h2 : k = 4
          · omega
          · rw [if_neg h2] at h0
            by_cases h3 : k = 5 ∨ k = 6 ∨ k = 7
            · omega
            · rw [if_neg h3] at h0; omega
      obtain ⟨m, rfl⟩ : ∃ m : Nat, k = m := ⟨k.toNat, by omega⟩
      have hm1 : 1 ≤ m := by omega
      have hm8 : m < 8 := by omega
      have hd1 : decide ((m : Int) < 1) = false := decide_eq_false (by omega)
      have hd2 : decide ((8 : Int) ≤ (m : Int)) = false := decide_eq_false (by omega)
      have hfm := HR.out.2.1 m hm1 hm8
      have q1 := HW.out.2.cell (by omega) hfm.1
      have q2 := HW.out.2.cell (by omega) hfm.2
      obtain ⟨hA1, hA2⟩ := hA
      rw [← hA1] at q2
      generalize hmo : mostN (m : Int) = mo at *
      have hn0 : 0 ≤ n := by omega
      have hn1 : n ≤ mo := by omega
      have hd3 : decide (n < 0) = false := decide_eq_false (by omega)
      have hd4 : decide (mo < n) = false := decide_eq_false (by omega)
      clear hmo hA2 hA1 hE hfm hk
      go_enter Tryd.func64, Tryd.ntmps64
      go_upto_region 2 with fail
      rw [← hWe]
      clear hWe
      go_wp2_with fail
      go_quiet (fail)
      go_wp2_with fail
      go_quiet (fail)
      go_wp2_with fail
      go_loopw [4, 6, 7, 52] (fun _ _ _ i wr => ∃ (j c' : Nat), j ≤ a.length ∧ i = .int .i64 j ∧ c' ≤ 30 ∧ Ex.nodeAll (a.drop j) c' = Ex.nodeAll a (c + 1) ∧ wr.heap[q]? = some (.cells #[.int .i64 c'] 3 (0, 0)) ∧ But q w wr) (fun _ _ _ i _ => a.length - (intOf i).toNat)
      case atStart => exact ⟨0, c + 1, Nat.zero_le _, rfl, by omega, rfl, HW.out.1, HW.out.2.trans ⟨rfl, rfl, rfl, Nat.le_refl _, fun _ _ _ => rfl⟩⟩
      case round =>
        obtain ⟨j, c', hj, rfl, hc30, hna, hwq, hb⟩ := hrel
        by_cases hlt : j < a.length
        · rcases HR.out.2.2.2 with h | ⟨b, o, had, hbq, hrow⟩
          · subst h; simp at hlt
          subst had
          obtain ⟨xk, xn, xad, xm, xc, c0, c1, c2, hinx⟩ := (Ex.RowP.move hb.moves a hbq hrow).shape hlt
          have hnn := nodesAll_at a j a[j] (by simp [hlt])
          rw [Ex.nodeAll_at hlt] at hna
          have HX : Hid (_ ∧ _ ∧ _ ∧ _) := ⟨hinx, hna, hwq, hb⟩
          clear hinx hna hwq hb hrow
          generalize a[j] = x at *
          by_cases he0 : (x.node c').1 = 0
          · have HZ : Hid _ := he0
            go_wp2_with (first
              | (go_at_call 64; refine (IH.out x _ _ q c' (by omega) (by omega) (by omega) hq1 ?h1 ?h2 ?h3).mono ?_; rotate_left 3; rintro e w3 ⟨rfl, hq3, hb3⟩; have H3 : Hid (_ ∧ _) := ⟨hq3, hb3⟩; clear hq3 hb3))
            case h1 => exact (Below.heap_alloc _ _ _ (lt_of_block HX.out.2.2.1)).trans HX.out.2.2.1
            case h2 => exact FormsIn.but hq1 HR.out.2.1 (HX.out.2.2.2.trans (But.of_below ((Below.refl _ _).alloc (Nat.le_refl _) _)))
            case h3 => exact HX.out.1.move (But.of_below ((Below.refl _ _).alloc (Nat.le_refl _) _)).moves
            have hna := HX.out.2.1
            rw [if_neg (by simpa using HZ.out)] at hna
            go_roundw
            case rel => exact ⟨j + 1, (x.node c').2, by omega, by go_num, Ex.node_le x c' HZ.out, hna, H3.out.1, HX.out.2.2.2.trans ((But.of_below ((Below.refl _ _).alloc (Nat.le_refl _) _)).trans H3.out.2)⟩
            case measure => simp [intOf]; omega
          · have he1 : ((x.node c').1 == 0) = false := by simpa using he0
            have HZ : Hid (¬ (x.node c').1 = 0) := he0
            clear he0
            go_wp2_with (first
              | (go_at_call 64; refine (IH.out x _ _ q c' (by omega) (by omega) (by omega) hq1 ?h1 ?h2 ?h3).mono ?_; rotate_left 3; rintro e w3 ⟨rfl, hq3, hb3⟩; have H3 : Hid (_ ∧ _) := ⟨hq3, hb3⟩; clear hq3 hb3))
            case h1 => exact (Below.heap_alloc _ _ _ (lt_of_block HX.out.2.2.1)).trans HX.out.2.2.1
            case h2 => exact FormsIn.but hq1 HR.out.2.1 (HX.out.2.2.2.trans (But.of_below ((Below.refl _ _).alloc (Nat.le_refl _) _)))
            case h3 => exact HX.out.1.move (But.of_below ((Below.refl _ _).alloc (Nat.le_refl _) _)).moves
            have hna := HX.out.2.1
            rw [if_pos HZ.out] at hna
            go_ret
            exact ⟨ret_int (by rw [hn.out, ← hna]), by rw [hn.out, ← hna]; exact H3.out.1, HX.out.2.2.2.trans ((But.of_below ((Below.refl _ _).alloc (Nat.le_refl _) _)).trans H3.out.2)⟩
        · have hje : j = a.length := by omega
          subst hje
          rw [List.drop_length, Ex.nodeAll] at hna
          have HX : Hid (_ ∧ _ ∧ _) := ⟨hna, hwq, hb⟩
          clear hna hwq hb
          go_wp2_with fail
          go_ret
          exact ⟨ret_int (by rw [hn.out, ← HX.out.1]), by rw [hn.out, ← HX.out.1]; exact HX.out.2.1, HX.out.2.2⟩
end Go.Proofs.YtikdidfgdiafoabDoor
namespace Go.Proofs.YtikdidfgdiafoabDoor
open Go.ChangeShapes Go.WideShapes Go.ChangeAt Go.RowKit

set_option maxHeartbeats 1000000 in
theorem expr1_any (e : Ex) (k n : Int) (ad : Option Addr) (m ca p : Nat) (w : World) (hN : e.nodes ≤ 1048576) (hfm : FormsIn w) (hin : e.In w (.agg #[.int .i64 k, .int .i64 n, .slice ad m ca]))
    (h0 : w.cell? ⟨p, 0, none⟩ = some (.int .i64 k)) (h1 : w.cell? ⟨p, 1, none⟩ = some (.int .i64 n)) (h2 : w.cell? ⟨p, 2, none⟩ = some (.slice ad m ca)) :
    Calls Tryd.prog 63 #[.pointer (some ⟨p, 0, none⟩)] w fun r w' => r = .returned (.int .i64 (e.node 0).1) ∧ Below w.heap.size w w' := by
  have h1s : 1 < w.heap.size := World.block_lt_of_cell? _ _ (hfm 1 (by omega) (by omega)).1
  have hp : p < w.heap.size := World.block_lt_of_cell? _ _ h0
  have HH : Hid (_ ∧ _) := ⟨hfm, hin⟩
  clear hfm hin
  go_enter Tryd.func63, Tryd.ntmps63
  go_wp2_with (first
    | (go_at_call 64; refine (node_any _ e _ _ w.heap.size 0 (Nat.lt_succ_self _) (by omega) (by omega) (by omega) ?q1 ?q2 ?q3).mono ?_; rotate_left 3; rintro r w' ⟨rfl, hq', hb'⟩; have HB : Hid _ := hb'; clear hq' hb'))
  case q1 => exact heap_alloc_new w _
  case q2 => exact HH.out.1.but (by omega) (But.of_below (q := w.heap.size) ((Below.refl _ _).alloc (Nat.le_refl _) _))
  case q3 => exact HH.out.2.old.move fun b hb _ => ⟨by omega, Below.heap_alloc _ _ _ hb⟩
  go_ret
  refine ⟨rfl, ?_⟩
  have hb := HB.out
  exact ⟨hb.os, hb.tape, hb.output, by have := hb.size; simp at this; omega, fun k hk => (hb.block k (by simp; omega) (by omega)).trans (Below.heap_alloc _ _ _ hk)⟩

theorem ent39 (cp : Array Value) (w : World) : (callFunc 63 cp).run Tryd.prog w = .ok (.enter 63 cp) w := run_enter Tryd.func63 (by kernel_rfl) (by kernel_rfl) cp w
theorem ent38 (cp : Array Value) (w : World) : (callFunc 62 cp).run Tryd.prog w = .ok (.enter 62 cp) w := run_enter Tryd.func62 (by kernel_rfl) (by kernel_rfl) cp w
theorem ent41 (cp : Array Value) (w : World) : (callFunc 65 cp).run Tryd.prog w = .ok (.enter 65 cp) w := run_enter Tryd.func65 (by kernel_rfl) (by kernel_rfl) cp w

def condErr (ck : Int) (ca cb : Ex) : Int := if ck < 1 ∨ 4 < ck then 6 else if (ca.node 0).1 ≠ 0 then (ca.node 0).1 else (cb.node 0).1

theorem FormsIn.below {w w' : World} (h : FormsIn w) (hb : Below w.heap.size w w') : FormsIn w' := fun m h1 h2 => ⟨below_cell hb (h m h1 h2).1, below_cell hb (h m h1 h2).2⟩

def condR (b : Bool) (ca cb : Ex) : Int := if b = false then 6 else if (ca.node 0).1 ≠ 0 then (ca.node 0).1 else (cb.node 0).1

/-- The three looks of a condition. -/
theorem cond_looks (W : World) (g p1 p2 p3 p4 cap : Nat) (b : Bool) (ak an bk bn : Int) (aad bad : Option Addr) (am ac bm bc : Nat) (ca cb : Ex) (hN : ca.nodes ≤ 1048576 ∧ cb.nodes ≤ 1048576) (hfm : FormsIn W)
    (hca : ca.In W (.agg #[.int .i64 ak, .int .i64 an, .slice aad am ac])) (hcb : cb.In W (.agg #[.int .i64 bk, .int .i64 bn, .slice bad bm bc]))
    (g0 : W.cell? ⟨g, 0, none⟩ = some (.func (.func 60) #[] #[.pointer (some ⟨p1, 0, none⟩), .pointer (some ⟨p2, 0, none⟩)])) (g1 : W.cell? ⟨g, 1, none⟩ = some (.func (.func 63) #[] #[.pointer (some ⟨p3, 0, none⟩)])) (g2 : W.cell? ⟨g, 2, none⟩ = some (.func (.func 63) #[] #[.pointer (some ⟨p4, 0, none⟩)]))
    (c1 : W.cell? ⟨p1, 0, none⟩ = some (.bool b)) (c2 : W.cell? ⟨p2, 0, none⟩ = some (.int .i64 6))
    (c3 : W.cell? ⟨p3, 0, none⟩ = some (.int .i64 ak)) (c4 : W.cell? ⟨p3, 1, none⟩ = some (.int .i64 an)) (c5 : W.cell? ⟨p3, 2, none⟩ = some (.slice aad am ac))
    (c6 : W.cell? ⟨p4, 0, none⟩ = some (.int .i64 bk)) (c7 : W.cell? ⟨p4, 1, none⟩ = some (.int .i64 bn)) (c8 : W.cell? ⟨p4, 2, none⟩ = some (.slice bad bm bc)) :
    Calls Tryd.prog 49 #[.slice (some ⟨g, 0, none⟩) 3 cap] W fun e w' => e = .returned (.int .i64 (condR b ca cb)) ∧ Below W.heap.size W w' := by
  refine (first_any 3 (by omega) g cap (fun i => if i = 0 then 60 else 63) (fun i => if i = 0 then #[.pointer (some ⟨p1, 0, none⟩), .pointer (some ⟨p2, 0, none⟩)] else if i = 1 then #[.pointer (some ⟨p3, 0, none⟩)] else #[.pointer (some ⟨p4, 0, none⟩)])
    (fun i w => Below W.heap.size W w ∧ (0 < i → b = true) ∧ (1 < i → (ca.node 0).1 = 0) ∧ (2 < i → (cb.node 0).1 = 0))
    (fun c w => Below W.heap.size W w ∧ c = (condR b ca cb)) ?_ ?_ ?_ W ⟨Below.refl _ _, by omega, by omega, by omega⟩).mono ?_
  · intro i hi w hP
    match i, hi with
    | 0, _ => exact below_cell hP.1 g0
    | 1, _ => exact below_cell hP.1 g1
    | 2, _ => exact below_cell hP.1 g2
  · intro i hi w ⟨hP, h1, h2, h3⟩
    match i, hi with
    | 0, _ =>
      refine (needs1_any p1 p2 b 6 w (below_cell hP c1) (below_cell hP c2)).mono ?_
      rintro e w' ⟨rfl, rfl⟩
      refine ⟨_, rfl, ?_⟩
      cases b
      · exact .inr ⟨by simp, hP, by simp [condR]⟩
      · exact .inl ⟨by simp, hP, fun _ => rfl, by omega, by omega⟩
    | 1, _ =>
      have hb := h1 (by omega)
      subst hb
      refine (expr1_any ca ak an aad am ac p3 w hN.1 (hfm.below hP) (Ex.In.below hP _ hca) (below_cell hP c3) (below_cell hP c4) (below_cell hP c5)).mono ?_
      rintro e w' ⟨rfl, hb'⟩
      refine ⟨_, rfl, ?_⟩
      by_cases h0 : (ca.node 0).1 = 0
      · exact .inl ⟨h0, below_seq hP hb', fun _ => rfl, fun _ => h0, by omega⟩
      · exact .inr ⟨h0, below_seq hP hb', by simp [condR, h0]⟩
    | 2, _ =>
      have hb := h1 (by omega)
      have ha := h2 (by omega)
      subst hb
      refine (expr1_any cb bk bn bad bm bc p4 w hN.2 (hfm.below hP) (Ex.In.below hP _ hcb) (below_cell hP c6) (below_cell hP c7) (below_cell hP c8)).mono ?_
      rintro e w' ⟨rfl, hb'⟩
      refine ⟨_, rfl, ?_⟩
      by_cases h0 : (cb.node 0).1 = 0
      · exact .inl ⟨h0, below_seq hP hb', fun _ => rfl, fun _ => ha, fun _ => h0⟩
      · exact .inr ⟨h0, below_seq hP hb', by simp [condR, ha]⟩
  · intro i hi cp w
    match i, hi with
    | 0, _ => exact ent36 cp w
    | 1, _ => exact ent39 cp w
    | 2, _ => exact ent39 cp w
  · rintro e w' ⟨c, rfl, h⟩
    rcases h with ⟨rfl, hP, h1, h2, h3⟩ | ⟨_, hP, rfl⟩
    · have e1 := h1 (by omega)
      have e2 := h2 (by omega)
      have e3 := h3 (by omega)
      exact ⟨ret_int (by simp [condR, e1, e2, e3]), hP⟩
    · exact ⟨rfl, hP⟩

theorem keep_alloc8 {w X : World} {o : Obj} {p : Nat} {x0 x1 x2 x3 x4 x5 x6 : Value} (h : Below w.heap.size w X ∧ X.cell? ⟨p, 0, none⟩ = some x0 ∧ X.cell? ⟨p, 1, none⟩ = some x1 ∧ X.cell? ⟨p, 2, none⟩ = some x2 ∧ X.cell? ⟨p, 3, none⟩ = some x3 ∧ X.cell? ⟨p, 4, none⟩ = some x4 ∧ X.cell? ⟨p, 5, none⟩ = some x5 ∧ X.cell? ⟨p, 6, none⟩ = some x6) :
    Below w.heap.size w (X.alloc o) ∧ (X.alloc o).cell? ⟨p, 0, none⟩ = some x0 ∧ (X.alloc o).cell? ⟨p, 1, none⟩ = some x1 ∧ (X.alloc o).cell? ⟨p, 2, none⟩ = some x2 ∧ (X.alloc o).cell? ⟨p, 3, none⟩ = some x3 ∧ (X.alloc o).cell? ⟨p, 4, none⟩ = some x4 ∧ (X.alloc o).cell? ⟨p, 5, none⟩ = some x5 ∧ (X.alloc o).cell? ⟨p, 6, none⟩ = some x6 := by
  have hb : Below X.heap.size X (X.alloc o) := (Below.refl _ _).alloc (Nat.le_refl _) o
  exact ⟨h.1.alloc h.1.size o, below_cell hb h.2.1, below_cell hb h.2.2.1, below_cell hb h.2.2.2.1, below_cell hb h.2.2.2.2.1, below_cell hb h.2.2.2.2.2.1, below_cell hb h.2.2.2.2.2.2.1, below_cell hb h.2.2.2.2.2.2.2⟩

theorem keep_below8 {w X Y : World} {p : Nat} {x0 x1 x2 x3 x4 x5 x6 : Value} (h : Below w.heap.size w X ∧ X.cell? ⟨p, 0, none⟩ = some x0 ∧ X.cell? ⟨p, 1, none⟩ = some x1 ∧ X.cell? ⟨p, 2, none⟩ = some x2 ∧ X.cell? ⟨p, 3, none⟩ = some x3 ∧ X.cell? ⟨p, 4, none⟩ = some x4 ∧ X.cell? ⟨p, 5, none⟩ = some x5 ∧ X.cell? ⟨p, 6, none⟩ = some x6) (hb : Below X.heap.size X Y) :
    Below w.heap.size w Y ∧ Y.cell? ⟨p, 0, none⟩ = some x0 ∧ Y.cell? ⟨p, 1, none⟩ = some x1 ∧ Y.cell? ⟨p, 2, none⟩ = some x2 ∧ Y.cell? ⟨p, 3, none⟩ = some x3 ∧ Y.cell? ⟨p, 4, none⟩ = some x4 ∧ Y.cell? ⟨p, 5, none⟩ = some x5 ∧ Y.cell? ⟨p, 6, none⟩ = some x6 :=
  ⟨below_seq h.1 hb, below_cell hb h.2.1, below_cell hb h.2.2.1, below_cell hb h.2.2.2.1, below_cell hb h.2.2.2.2.1, below_cell hb h.2.2.2.2.2.1, below_cell hb h.2.2.2.2.2.2.1, below_cell hb h.2.2.2.2.2.2.2⟩

/-- One operation of a region that is taken first, its slot written out. -/
theorem take_at {P : Program} {md : Region.Mode} {ops : Array Oper} {Q : Exit → Act → World → Prop} {S : World → Prop} {i n : Nat} {oi : Oper} {v : Value} {fuel : Nat} {listed : Array Bool} {l : List Value} {ds : List Deferred} {w : World}
    (hi : ops[i]? = some oi) (hd : oi.dst = some n) (hs : Region.noSelect ops = true) (hf : Region.free md ops listed i = true) (hr : (Region.ready md ops listed).contains i = true)
    (hQ : ∀ c a w, Q (.panic c) (a.put oi.dst v) w → Q (.panic c) a w) (hy : YieldsIf P ops S oi v ⟨l.toArray, ds⟩) (hS : S w)
    (h : wpAnyH P md ops Q S fuel (listed.setIfInBounds i true) ⟨(l.set n v).toArray, ds⟩ w) : wpAnyH P md ops Q S (fuel + 1) listed ⟨l.toArray, ds⟩ w := by
  refine wpAnyH_take hi hs hf hr hQ hy hS ?_
  have e : Act.put ⟨l.toArray, ds⟩ oi.dst v = ⟨(l.set n v).toArray, ds⟩ := by rw [hd]; simp [Act.put]
  rw [e]
  exact h

set_option maxRecDepth 20000 in
set_option maxHeartbeats 2000000 in
theorem cond1_any (ck ak an bk bn : Int) (aad bad : Option Addr) (am ac bm bc p : Nat) (ca cb : Ex) (w : World) (hN : ca.nodes ≤ 1048576 ∧ cb.nodes ≤ 1048576) (hfm : FormsIn w)
    (hca : ca.In w (.agg #[.int .i64 ak, .int .i64 an, .slice aad am ac])) (hcb : cb.In w (.agg #[.int .i64 bk, .int .i64 bn, .slice bad bm bc]))
    (h0 : w.cell? ⟨p, 0, none⟩ = some (.int .i64 ck)) (h1 : w.cell? ⟨p, 1, none⟩ = some (.int .i64 ak)) (h2 : w.cell? ⟨p, 2, none⟩ = some (.int .i64 an)) (h3 : w.cell? ⟨p, 3, none⟩ = some (.slice aad am ac))
    (h4 : w.cell? ⟨p, 4, none⟩ = some (.int .i64 bk)) (h5 : w.cell? ⟨p, 5, none⟩ = some (.int .i64 bn)) (h6 : w.cell? ⟨p, 6, none⟩ = some (.slice bad bm bc)) :
    Calls Tryd.prog 65 #[.pointer (some ⟨p, 0, none⟩)] w fun r w' => r = .returned (.int .i64 (condErr ck ca cb)) ∧ Below w.heap.size w w' := by
  have HH : Hid (_ ∧ _ ∧ _) := ⟨hfm, hca, hcb⟩
  clear hfm hca hcb
  have hp : p < w.heap.size := World.block_lt_of_cell? _ _ h0
  by_cases hg : 1 ≤ ck
  · have hd : decide (1 ≤ ck) = true := decide_eq_true hg
    go_enter Tryd.func65, Tryd.ntmps65
    go_wp2_with fail
    go_region_held3 (fun w' => Below w.heap.size w w' ∧ w'.cell? ⟨p, 0, none⟩ = some (.int .i64 ck) ∧ w'.cell? ⟨p, 1, none⟩ = some (.int .i64 ak) ∧ w'.cell? ⟨p, 2, none⟩ = some (.int .i64 an) ∧ w'.cell? ⟨p, 3, none⟩ = some (.slice aad am ac) ∧ w'.cell? ⟨p, 4, none⟩ = some (.int .i64 bk) ∧ w'.cell? ⟨p, 5, none⟩ = some (.int .i64 bn) ∧ w'.cell? ⟨p, 6, none⟩ = some (.slice bad bm bc))
      (first | assumption | exact ⟨(Below.refl _ _).drew, h0, h1, h2, h3, h4, h5, h6⟩ | exact keep_alloc8 ‹Below w.heap.size w _ ∧ _› | exact keep_alloc8 (keep_alloc8 ‹Below w.heap.size w _ ∧ _›))
      (first
        | (go_at_call 50; refine (needs_any _ _ _).mono ?_; rintro r w1 ⟨rfl, rfl⟩)
        | (go_at_call_of 53 ak; refine (expr_any _ _ _ _ _ _).mono ?_; rintro r w1 ⟨rfl, rfl⟩)
        | (go_at_call_of 53 bk; refine (expr_any _ _ _ _ _ _).mono ?_; rintro r w1 ⟨rfl, rfl⟩)
        | (go_at_call 49; refine (cond_looks _ _ w.heap.size (w.heap.size + 1) (w.heap.size + 1 + 1) (w.heap.size + 1 + 1 + 1) _ (decide (ck ≤ 4)) ak an bk bn aad bad am ac bm bc ca cb hN (HH.out.1.below (And.left ‹Below w.heap.size w _ ∧ _›)) (Ex.In.below (And.left ‹Below w.heap.size w _ ∧ _›) _ HH.out.2.1) (Ex.In.below (And.left ‹Below w.heap.size w _ ∧ _›) _ HH.out.2.2) (by simp [go_sem]) (by simp [go_sem]) (by simp [go_sem]) (by simp [go_sem]) (by simp [go_sem]) (by simp [go_sem]) (by simp [go_sem]) (by simp [go_sem]) (by simp [go_sem]) (by simp [go_sem]) (by simp [go_sem])).mono ?_; rintro r w9 ⟨rfl, hb9⟩; have hS9 := keep_below8 ‹Below w.heap.size w _ ∧ _› hb9; clear hb9))
    all_goals
      go_wp2_with fail
      go_ret
      refine ⟨ret_int ?_, And.left ‹Below w.heap.size w _ ∧ _›⟩
      unfold condErr condR
      by_cases h4' : ck ≤ 4
      · rw [if_neg (by simpa using h4'), if_neg (show ¬ (ck < 1 ∨ 4 < ck) by omega)]
      · rw [if_pos (by simpa using h4'), if_pos (show ck < 1 ∨ 4 < ck by omega)]
  · have hd : decide (1 ≤ ck) = false := decide_eq_false hg
    have HG : Hid (¬ 1 ≤ ck) := hg
    clear hg
    go_enter Tryd.func65, Tryd.ntmps65
    go_wp2_with fail
    refine wp_region_held_drew (S := (fun w' => Below w.heap.size w w' ∧ w'.cell? ⟨p, 0, none⟩ = some (.int .i64 ck) ∧ w'.cell? ⟨p, 1, none⟩ = some (.int .i64 ak) ∧ w'.cell? ⟨p, 2, none⟩ = some (.int .i64 an) ∧ w'.cell? ⟨p, 3, none⟩ = some (.slice aad am ac) ∧ w'.cell? ⟨p, 4, none⟩ = some (.int .i64 bk) ∧ w'.cell? ⟨p, 5, none⟩ = some (.int .i64 bn) ∧ w'.cell? ⟨p, 6, none⟩ = some (.slice bad bm bc))) (by kernel_rfl) ⟨(Below.refl _ _).drew, h0, h1, h2, h3, h4, h5, h6⟩ (fun hHeld => ?_)
    refine take_at (i := 0) (n := 2) (v := ?_) rfl rfl (by kernel_rfl) (by kernel_rfl) (by kernel_rfl) (fun _ _ _ h => h) (Or.inl ⟨by rfl, ?_⟩) (by assumption) ?_
    rotate_left 1
    · intro w hSw
      first | (go_simp; done) | (go_simp; with_reducible rfl)
    simp only [List.set_cons_zero, List.set_cons_succ]
    refine take_at (i := 1) (n := 3) (v := ?_) rfl rfl (by kernel_rfl) (by kernel_rfl) (by kernel_rfl) (fun _ _ _ h => h) (Or.inl ⟨by rfl, ?_⟩) (by assumption) ?_
    rotate_left 1
    · intro w hSw
      first | (go_simp; done) | (go_simp; with_reducible rfl)
    simp only [List.set_cons_zero, List.set_cons_succ]
    refine take_at (i := 2) (n := 4) (v := ?_) rfl rfl (by kernel_rfl) (by kernel_rfl) (by kernel_rfl) (fun _ _ _ h => h) (Or.inl ⟨by rfl, ?_⟩) (by assumption) ?_
    rotate_left 1
    · intro w hSw
      first | (go_simp; done) | (go_simp; with_reducible rfl)
    simp only [List.set_cons_zero, List.set_cons_succ]
    refine take_at (i := 3) (n := 5) (v := ?_) rfl rfl (by kernel_rfl) (by kernel_rfl) (by kernel_rfl) (fun _ _ _ h => h) (Or.inl ⟨by rfl, ?_⟩) (by assumption) ?_
    rotate_left 1
    · intro w hSw
      first | (go_simp; done) | (go_simp; with_reducible rfl)
    simp only [List.set_cons_zero, List.set_cons_succ]
    refine take_at (i := 4) (n := 6) (v := undef) rfl rfl (by kernel_rfl) (by kernel_rfl) (by kernel_rfl) (fun _ _ _ h => h) (Or.inr ⟨by rfl, rfl⟩) (by assumption) ?_
    simp only [List.set_cons_zero, List.set_cons_succ]
    refine take_at (i := 5) (n := 7) (v := undef) rfl rfl (by kernel_rfl) (by kernel_rfl) (by kernel_rfl) (fun _ _ _ h => h) (Or.inr ⟨by rfl, rfl⟩) (by assumption) ?_
    simp only [List.set_cons_zero, List.set_cons_succ]
    refine take_at (i := 6) (n := 8) (v := undef) rfl rfl (by kernel_rfl) (by kernel_rfl) (by kernel_rfl) (fun _ _ _ h => h) (Or.inr ⟨by rfl, rfl⟩) (by assumption) ?_
    simp only [List.set_cons_zero, List.set_cons_succ]
    refine take_at (i := 7) (n := 9) (v := ?_) rfl rfl (by kernel_rfl) (by kernel_rfl) (by kernel_rfl) (fun _ _ _ h => h) (Or.inl ⟨by rfl, ?_⟩) (by assumption) ?_
    rotate_left 1
    · intro w hSw
      first | (go_simp; done) | (go_simp; with_reducible rfl)
    simp only [List.set_cons_zero, List.set_cons_succ]
    refine take_at (i := 9) (n := 11) (v := ?_) rfl rfl (by kernel_rfl) (by kernel_rfl) (by kernel_rfl) (fun _ _ _ h => h) (Or.inl ⟨by rfl, ?_⟩) (by assumption) ?_
    rotate_left 1
    · intro w hSw
      first | (go_simp; done) | (go_simp; with_reducible rfl)
    simp only [List.set_cons_zero, List.set_cons_succ]
    refine take_at (i := 10) (n := 12) (v := ?_) rfl rfl (by kernel_rfl) (by kernel_rfl) (by kernel_rfl) (fun _ _ _ h => h) (Or.inl ⟨by rfl, ?_⟩) (by assumption) ?_
    rotate_left 1
    · intro w hSw
      first | (go_simp; done) | (go_simp; with_reducible rfl)
    simp only [List.set_cons_zero, List.set_cons_succ]
    refine take_at (i := 12) (n := 14) (v := ?_) rfl rfl (by kernel_rfl) (by kernel_rfl) (by kernel_rfl) (fun _ _ _ h => h) (Or.inl ⟨by rfl, ?_⟩) (by assumption) ?_
    rotate_left 1
    · intro w hSw
      first | (go_simp; done) | (go_simp; with_reducible rfl)
    simp only [List.set_cons_zero, List.set_cons_succ]
    refine take_at (i := 13) (n := 15) (v := ?_) rfl rfl (by kernel_rfl) (by kernel_rfl) (by kernel_rfl) (fun _ _ _ h => h) (Or.inl ⟨by rfl, ?_⟩) (by assumption) ?_
    rotate_left 1
    · intro w hSw
      first | (go_simp; done) | (go_simp; with_reducible rfl)
    simp only [List.set_cons_zero, List.set_cons_succ]
    refine wpAnyH_ready (rs := [8]) (by kernel_rfl) (by simp) ?_
    refine AllReadyH.cons rfl (fun K hK => ?_) AllReadyH.nil
    go_simp
    go_wp2_with (go_at_call 50; refine (needs_any _ _ _).mono ?_; rintro r w1 ⟨rfl, rfl⟩)
    refine hK.out _ _ ?_ (fun hHeld => ?_)
    · first | assumption | exact keep_alloc8 ‹Below w.heap.size w _ ∧ _› | exact keep_alloc8 (keep_alloc8 ‹Below w.heap.size w _ ∧ _›)
    clear hK K
    refine wpAnyH_ready (rs := [11]) (by kernel_rfl) (by simp) ?_
    refine AllReadyH.cons rfl (fun K hK => ?_) AllReadyH.nil
    go_simp
    go_wp2_with (go_at_call 53; refine (expr_any _ _ _ _ _ _).mono ?_; rintro r w1 ⟨rfl, rfl⟩)
    refine hK.out _ _ ?_ (fun hHeld => ?_)
    · first | assumption | exact keep_alloc8 ‹Below w.heap.size w _ ∧ _› | exact keep_alloc8 (keep_alloc8 ‹Below w.heap.size w _ ∧ _›)
    clear hK K
    refine wpAnyH_ready (rs := [14]) (by kernel_rfl) (by simp) ?_
    refine AllReadyH.cons rfl (fun K hK => ?_) AllReadyH.nil
    go_simp
    go_wp2_with (go_at_call 53; refine (expr_any _ _ _ _ _ _).mono ?_; rintro r w1 ⟨rfl, rfl⟩)
    refine hK.out _ _ ?_ (fun hHeld => ?_)
    · first | assumption | exact keep_alloc8 ‹Below w.heap.size w _ ∧ _› | exact keep_alloc8 (keep_alloc8 ‹Below w.heap.size w _ ∧ _›)
    clear hK K
    refine wpAnyH_ready (rs := [15]) (by kernel_rfl) (by simp) ?_
    refine AllReadyH.cons rfl (fun K hK => ?_) AllReadyH.nil
    go_simp
    refine hK.out _ _ ?_ (fun hHeld => ?_)
    · first | assumption | exact keep_alloc8 ‹Below w.heap.size w _ ∧ _› | exact keep_alloc8 (keep_alloc8 ‹Below w.heap.size w _ ∧ _›)
    clear hK K
    refine wpAnyH_ready (rs := [16]) (by kernel_rfl) (by simp) ?_
    refine AllReadyH.cons rfl (fun K hK => ?_) AllReadyH.nil
    go_simp
    go_wp2_with (go_at_call 49; refine (cond_looks _ _ w.heap.size (w.heap.size + 1) (w.heap.size + 1 + 1) (w.heap.size + 1 + 1 + 1) _ false ak an bk bn aad bad am ac bm bc ca cb hN (HH.out.1.below (And.left ‹Below w.heap.size w _ ∧ _›)) (Ex.In.below (And.left ‹Below w.heap.size w _ ∧ _›) _ HH.out.2.1) (Ex.In.below (And.left ‹Below w.heap.size w _ ∧ _›) _ HH.out.2.2) (by simp [go_sem]) (by simp [go_sem]) (by simp [go_sem]) (by simp [go_sem]) (by simp [go_sem]) (by simp [go_sem]) (by simp [go_sem]) (by simp [go_sem]) (by simp [go_sem]) (by simp [go_sem]) (by simp [go_sem])).mono ?_; rintro r w9 ⟨rfl, hb9⟩; have hS9 := keep_below8 ‹Below w.heap.size w _ ∧ _› hb9; clear hb9)
    refine hK.out _ _ ?_ (fun hHeld => ?_)
    · first | assumption | exact keep_alloc8 ‹Below w.heap.size w _ ∧ _› | exact keep_alloc8 (keep_alloc8 ‹Below w.heap.size w _ ∧ _›)
    clear hK K
    refine take_at (i := 17) (n := 1) (v := ?_) rfl rfl (by kernel_rfl) (by kernel_rfl) (by kernel_rfl) (fun _ _ _ h => h) (Or.inl ⟨by rfl, ?_⟩) (by assumption) ?_
    rotate_left 1
    · intro w hSw
      first | (go_simp; done) | (go_simp; with_reducible rfl)
    simp only [List.set_cons_zero, List.set_cons_succ]
    refine wpAnyH_done (by kernel_rfl) ?_ _
    all_goals
      go_wp2_with fail
      go_ret
      refine ⟨ret_int ?_, And.left ‹Below w.heap.size w _ ∧ _›⟩
      have hg := HG.out
      unfold condErr condR
      rw [if_pos rfl, if_pos (by omega)]
end Go.Proofs.YtikdidfgdiafoabDoor
