import Derived.Test.YtgemadoieielcacDoorGBFirst
import Derived.Deep.CutRange
import Derived.Test.YtgemadoieielcacDoorGBDeep
import Derived.Deep.RegionHeld3
namespace Go.Proofs.YtgemadoieielcacDoor.B
open Go.ChangeShapes Go.WideShapes Go.ChangeAt Go.RowKit

mutual
def Ex.node : Ex → Nat → Int × Nat
  | .mk k n a, c => if 30 < c + 1 then (2, c + 1) else if (Ex.mk k n a).err ≠ 0 then ((Ex.mk k n a).err, c + 1) else Ex.nodeAll a (c + 1)
def Ex.nodeAll : List Ex → Nat → Int × Nat
  | [], c => (0, c)
  | x :: r, c => if (x.node c).1 ≠ 0 then x.node c else Ex.nodeAll r (x.node c).2
end

mutual
theorem Ex.node_le : ∀ (e : Ex) (c : Nat), (e.node c).1 = 0 → (e.node c).2 ≤ 30
  | .mk k n a, c, h => by
    unfold Ex.node at h ⊢
    by_cases h30 : 30 < c + 1
    · rw [if_pos h30] at h; simp at h
    · rw [if_neg h30] at h ⊢
      by_cases hE : (Ex.mk k n a).err ≠ 0
      · rw [if_pos hE] at h; exact absurd h hE
      · rw [if_neg hE] at h ⊢
        exact Ex.nodeAll_le a (c + 1) (by omega) h
theorem Ex.nodeAll_le : ∀ (a : List Ex) (c : Nat), c ≤ 30 → (Ex.nodeAll a c).1 = 0 → (Ex.nodeAll a c).2 ≤ 30
  | [], c, hc, _ => by unfold Ex.nodeAll; exact hc
  | x :: r, c, hc, h => by
    unfold Ex.nodeAll at h ⊢
    by_cases hx : (x.node c).1 ≠ 0
    · rw [if_pos hx] at h; exact absurd h hx
    · rw [if_neg hx] at h ⊢
      exact Ex.nodeAll_le r _ (Ex.node_le x c (by simpa using hx)) h
end

theorem Ex.nodeAll_at {a : List Ex} {j : Nat} (h : j < a.length) (c : Nat) : Ex.nodeAll (a.drop j) c = if ((a[j]).node c).1 ≠ 0 then (a[j]).node c else Ex.nodeAll (a.drop (j + 1)) ((a[j]).node c).2 := by
  rw [drop_at h, Ex.nodeAll]

/-- All blocks but q are as they were. -/
structure But (q : Nat) (w w' : World) : Prop where
  os : w'.os = w.os
  tape : w'.tape = w.tape
  output : w'.output = w.output
  size : w.heap.size ≤ w'.heap.size
  block : ∀ k, k < w.heap.size → k ≠ q → w'.heap[k]? = w.heap[k]?

theorem But.refl (q : Nat) (w : World) : But q w w := ⟨rfl, rfl, rfl, Nat.le_refl _, fun _ _ _ => rfl⟩
theorem But.trans {q : Nat} {a b c : World} (h : But q a b) (h' : But q b c) : But q a c :=
  ⟨h'.os.trans h.os, h'.tape.trans h.tape, h'.output.trans h.output, Nat.le_trans h.size h'.size, fun k hk hq => (h'.block k (by have := h.size; omega) hq).trans (h.block k hk hq)⟩
theorem But.of_below {q : Nat} {a b : World} (h : Below a.heap.size a b) : But q a b := ⟨h.os, h.tape, h.output, h.size, fun k hk _ => h.block k hk⟩
theorem But.setCell {q : Nat} {w : World} {o : Nat} {v : Value} : But q w (w.setCell ⟨q, o, none⟩ v) := ⟨rfl, rfl, rfl, by simp [World.setCell], fun k _ hq => Below.heap_setCell _ _ _ _ hq⟩
theorem But.cell {q : Nat} {w w' : World} (h : But q w w') {b o : Nat} {v : Value} (hb : b ≠ q) (hc : w.cell? ⟨b, o, none⟩ = some v) : w'.cell? ⟨b, o, none⟩ = some v :=
  (World.cell?_of_block (h.block b (World.block_lt_of_cell? _ _ hc) hb)).trans hc
theorem But.moves {q : Nat} {w w' : World} (h : But q w w') : Moves (fun b => b ≠ q) (fun b => b ≠ q) w w' := fun b hb hlt => ⟨hb, h.block b hlt hb⟩

/-- The table of expressions' forms. -/
def FormsIn (w : World) : Prop := ∀ m : Nat, 1 ≤ m → m < 8 → w.cell? ⟨5, m * 2, none⟩ = some (.int .i64 (mostN m)) ∧ w.cell? ⟨5, m * 2 + 1, none⟩ = some (.int .i64 (arity m))

theorem FormsIn.but {q : Nat} {w w' : World} (hq : q ≠ 5) (h : FormsIn w) (hb : But q w w') : FormsIn w' := fun m h1 h2 => ⟨hb.cell (by omega) (h m h1 h2).1, hb.cell (by omega) (h m h1 h2).2⟩

theorem node_head {w : World} {q c : Nat} (k n : Int) (ad : Option Addr) (m ca : Nat) (hq : w.heap[q]? = some (.cells #[.int .i64 c] 3 (0, 0))) :
    ∃ W, W = (w.setCell ⟨q, 0, none⟩ (.int .i64 (c + 1))).alloc (.cells #[.int .i64 k, .int .i64 n, .slice ad m ca] 119) ∧ W.heap[q]? = some (.cells #[.int .i64 ((c + 1 : Nat) : Int)] 3 (0, 0)) ∧ But q w W ∧ W.heap.size = w.heap.size + 1 ∧
    W.cell? ⟨w.heap.size, 0, none⟩ = some (.int .i64 k) ∧ W.cell? ⟨w.heap.size, 1, none⟩ = some (.int .i64 n) ∧ W.cell? ⟨w.heap.size, 2, none⟩ = some (.slice ad m ca) := by
  have hql : q < w.heap.size := lt_of_block hq
  have hs : (w.setCell ⟨q, 0, none⟩ (.int .i64 (c + 1))).heap.size = w.heap.size := by simp [World.setCell]
  have hc : ∀ (i : Nat) (u : Value), #[Value.int .i64 k, .int .i64 n, .slice ad m ca][i]? = some u → ((w.setCell ⟨q, 0, none⟩ (.int .i64 (c + 1))).alloc (.cells #[.int .i64 k, .int .i64 n, .slice ad m ca] 119)).cell? ⟨w.heap.size, i, none⟩ = some u := by
    intro i u hu
    rw [World.cell?_alloc_at _ _ _ _ hs.symm]
    exact hu
  refine ⟨_, rfl, ?_, But.setCell.trans (But.of_below ((Below.refl _ _).alloc (Nat.le_refl _) _)), by simp [World.setCell], hc 0 _ rfl, hc 1 _ rfl, hc 2 _ rfl⟩
  have := one_setCell (u := .int .i64 (c + 1)) hq
  refine (Below.heap_alloc _ _ _ (by rw [hs]; exact hql)).trans ?_
  simpa using this

set_option maxHeartbeats 2000000 in
theorem node_any (N : Nat) : ∀ (e : Ex) (w : World) (v : Value) (q c : Nat), e.nodes < N → N ≤ 1048577 → c ≤ 1000000 → q ≠ 5 → w.heap[q]? = some (.cells #[.int .i64 c] 3 (0, 0)) → FormsIn w → e.InP (fun b => b ≠ q) w v →
    Calls Tryd.prog 155 #[v, .pointer (some ⟨q, 0, none⟩)] w fun r w' => r = .returned (.int .i64 (e.node c).1) ∧ w'.heap[q]? = some (.cells #[.int .i64 (e.node c).2] 3 (0, 0)) ∧ But q w w' := by
  induction N with
  | zero => intro e w v q c h; omega
  | succ N ih =>
    intro e w v q c hN hle hc hq1 hq hfm hin
    obtain ⟨k, n, a⟩ := e
    unfold Ex.nodes at hN
    have hlen := length_le_nodesAll a
    have hin0 := hin
    unfold Ex.InP at hin
    obtain ⟨ad, ca, rfl, hrow⟩ := hin
    have hqc : w.cell? ⟨q, 0, none⟩ = some (.int .i64 c) := cell_of_one hq
    have hqf : w.frozen? ⟨q, 0, none⟩ = false := free_of_one hq
    have hql : q < w.heap.size := lt_of_block hq
    have HR : Hid (_ ∧ _ ∧ _ ∧ (a = [] ∨ ∃ b o, ad = some ⟨b, o, none⟩ ∧ b ≠ q ∧ Ex.RowP (fun b => b ≠ q) w a b o)) := ⟨hq, hfm, hin0, hrow⟩
    have IH : Hid _ := ih
    clear hrow hin0 ih hfm hq
    obtain ⟨W, hWe, hWq, hWb, hz, f0, f1, f2⟩ := node_head (w := w) (q := q) (c := c) k n ad a.length ca HR.out.1
    have hWc : W.cell? ⟨q, 0, none⟩ = some (.int .i64 (c + 1)) := by simpa using cell_of_one hWq
    have hWf : W.frozen? ⟨q, 0, none⟩ = false := free_of_one hWq
    have HW : Hid (_ ∧ _) := ⟨hWq, hWb⟩
    have hcn : c + 1 ≤ 1000001 := by omega
    clear hWq hWb
    by_cases h30 : 30 < c + 1
    · have hn : Hid ((Ex.mk k n a).node c = (2, c + 1)) := by unfold Hid Ex.node; rw [if_pos h30]
      go_enter Tryd.func155, Tryd.ntmps155
      go_upto_region 2 with fail
      rw [← hWe]
      clear hWe
      go_wp2_with fail
      go_ret
      exact ⟨ret_int (by rw [hn.out]), by rw [hn.out]; exact HW.out.1, HW.out.2⟩
    by_cases hE : (Ex.mk k n a).err ≠ 0
    · have hn : Hid ((Ex.mk k n a).node c = ((Ex.mk k n a).err, c + 1)) := by unfold Hid Ex.node; rw [if_neg h30, if_pos hE]
      by_cases hk : k < 1 ∨ 8 ≤ k
      · have he : Hid ((Ex.mk k n a).err = 6) := by
          have h1 : arity k = -1 := by unfold arity; rw [if_neg (by omega), if_neg (by omega), if_neg (by omega)]
          unfold Hid Ex.err
          rw [if_pos (by show (a.length : Int) ≠ arity k; omega)]
        clear hE
        go_enter Tryd.func155, Tryd.ntmps155
        go_upto_region 2 with fail
        rw [← hWe]
        clear hWe
        go_wp2_with fail
        rcases hk with hk | hk
        · go_quiet (fail)
          go_wp2_with fail
          go_ret
          exact ⟨ret_int (by rw [hn.out, he.out]), by rw [hn.out]; exact HW.out.1, HW.out.2.trans ⟨rfl, rfl, rfl, Nat.le_refl _, fun _ _ _ => rfl⟩⟩
        · have hd1 : decide (k < 1) = false := decide_eq_false (by omega)
          go_quiet (fail)
          go_wp2_with fail
          go_ret
          exact ⟨ret_int (by rw [hn.out, he.out]), by rw [hn.out]; exact HW.out.1, HW.out.2.trans ⟨rfl, rfl, rfl, Nat.le_refl _, fun _ _ _ => rfl⟩⟩
      · obtain ⟨m, rfl⟩ : ∃ m : Nat, k = m := ⟨k.toNat, by omega⟩
        have hm1 : 1 ≤ m := by omega
        have hm8 : m < 8 := by omega
        have hd1 : decide ((m : Int) < 1) = false := decide_eq_false (by omega)
        have hd2 : decide ((8 : Int) ≤ (m : Int)) = false := decide_eq_false (by omega)
        have hfm := HR.out.2.1 m hm1 hm8
        have q1 := HW.out.2.cell (by omega) hfm.1
        have q2 := HW.out.2.cell (by omega) hfm.2
        clear hfm
        by_cases hA : (a.length : Int) = arity m
        · have hA' : ((a.length : Int) == arity m) = true := by simpa using hA
          have he : Hid ((Ex.mk (m : Int) n a).err = 3) := by
            unfold Hid Ex.err at *
            rw [if_neg (by show ¬ (a.length : Int) ≠ arity m; omega)] at hE ⊢
            by_cases h : (Ex.mk (m : Int) n a).n < 0 ∨ (Ex.mk (m : Int) n a).n > mostN (Ex.mk (m : Int) n a).k
            · rw [if_pos h]
            · rw [if_neg h] at hE; exact absurd rfl hE
          have hr : n < 0 ∨ n > mostN m := by
            by_cases h : n < 0 ∨ n > mostN m
            · exact h
            · exfalso
              have := he.out
              unfold Ex.err at this
              rw [if_neg (by show ¬ (a.length : Int) ≠ arity m; omega), if_neg (by show ¬ (n < 0 ∨ n > mostN m); exact h)] at this
              omega
          clear hE
          rw [← hA] at q2
          generalize hmo : mostN (m : Int) = mo at *
          clear hmo
          go_enter Tryd.func155, Tryd.ntmps155
          go_upto_region 2 with fail
          rw [← hWe]
          clear hWe
          go_wp2_with fail
          go_quiet (fail)
          go_wp2_with fail
          by_cases hn0 : n < 0
          · go_quiet (fail)
            go_wp2_with fail
            go_ret
            exact ⟨ret_int (by rw [hn.out, he.out]), by rw [hn.out]; exact HW.out.1, HW.out.2.trans ⟨rfl, rfl, rfl, Nat.le_refl _, fun _ _ _ => rfl⟩⟩
          · have hd3 : decide (n < 0) = false := decide_eq_false hn0
            have hgt : mo < n := by omega
            go_quiet (fail)
            go_wp2_with fail
            go_ret
            exact ⟨ret_int (by rw [hn.out, he.out]), by rw [hn.out]; exact HW.out.1, HW.out.2.trans ⟨rfl, rfl, rfl, Nat.le_refl _, fun _ _ _ => rfl⟩⟩
        · have hA' : ((a.length : Int) == arity m) = false := by simpa using hA
          have he : Hid ((Ex.mk (m : Int) n a).err = 6) := by
            unfold Hid Ex.err
            rw [if_pos (by show (a.length : Int) ≠ arity m; exact hA)]
          clear hE
          generalize hmo : arity (m : Int) = ar at *
          clear hmo
          go_enter Tryd.func155, Tryd.ntmps155
          go_upto_region 2 with fail
          rw [← hWe]
          clear hWe
          go_wp2_with fail
          go_quiet (fail)
          go_wp2_with fail
          go_ret
          exact ⟨ret_int (by rw [hn.out, he.out]), by rw [hn.out]; exact HW.out.1, HW.out.2.trans ⟨rfl, rfl, rfl, Nat.le_refl _, fun _ _ _ => rfl⟩⟩
    · have hn : Hid ((Ex.mk k n a).node c = Ex.nodeAll a (c + 1)) := by unfold Hid Ex.node; rw [if_neg h30, if_neg hE]
      have hA : (a.length : Int) = arity k ∧ ¬ (n < 0 ∨ n > mostN k) := by
        unfold Ex.err at hE
        by_cases h1 : (a.length : Int) = arity k
        · refine ⟨h1, fun h2 => hE ?_⟩
          rw [if_neg (by show ¬ (a.length : Int) ≠ arity k; omega), if_pos (by show n < 0 ∨ n > mostN k; exact h2)]
          omega
        · exfalso
          apply hE
          rw [if_pos (by show (a.length : Int) ≠ arity k; exact h1)]
          omega
      have hk : 1 ≤ k ∧ k < 8 := by
        have h0 : 0 ≤ arity k := by omega
        unfold arity at h0
        by_cases h1 : k = 1 ∨ k = 2 ∨ k = 3
        · omega
        · rw [if_neg h1] at h0
          by_cases h2 : k = 4
          · omega
          · rw [if_neg h2] at h0
            by_cases h3 : k = 5 ∨ k = 6 ∨ k = 7
            · omega
            · rw [if_neg h3] at h0; omega
      obtain ⟨m, rfl⟩ : ∃ m : Nat, k = m := ⟨k.toNat, by omega⟩
      have hm1 : 1 ≤ m := by omega
      have hm8 : m < 8 := by omega
      have hd1 : decide ((m : Int) < 1) = false := decide_eq_false (by omega)
      have hd2 : decide ((8 : Int) ≤ (m : Int)) = false := decide_eq_false (by omega)
      have hfm := HR.out.2.1 m hm1 hm8
      have q1 := HW.out.2.cell (by omega) hfm.1
      have q2 := HW.out.2.cell (by omega) hfm.2
      obtain ⟨hA1, hA2⟩ := hA
      rw [← hA1] at q2
      generalize hmo : mostN (m : Int) = mo at *
      have hn0 : 0 ≤ n := by omega
      have hn1 : n ≤ mo := by omega
      have hd3 : decide (n < 0) = false := decide_eq_false (by omega)
      have hd4 : decide (mo < n) = false := decide_eq_false (by omega)
      clear hmo hA2 hA1 hE hfm hk
      go_enter Tryd.func155, Tryd.ntmps155
      go_upto_region 2 with fail
      rw [← hWe]
      clear hWe
      go_wp2_with fail
      go_quiet (fail)
      go_wp2_with fail
      go_quiet (fail)
      go_wp2_with fail
      go_loopw [4, 6, 7, 52] (fun _ _ _ i wr => ∃ (j c' : Nat), j ≤ a.length ∧ i = .int .i64 j ∧ c' ≤ 30 ∧ Ex.nodeAll (a.drop j) c' = Ex.nodeAll a (c + 1) ∧ wr.heap[q]? = some (.cells #[.int .i64 c'] 3 (0, 0)) ∧ But q w wr) (fun _ _ _ i _ => a.length - (intOf i).toNat)
      case atStart => exact ⟨0, c + 1, Nat.zero_le _, rfl, by omega, rfl, HW.out.1, HW.out.2.trans ⟨rfl, rfl, rfl, Nat.le_refl _, fun _ _ _ => rfl⟩⟩
      case round =>
        obtain ⟨j, c', hj, rfl, hc30, hna, hwq, hb⟩ := hrel
        by_cases hlt : j < a.length
        · rcases HR.out.2.2.2 with h | ⟨b, o, had, hbq, hrow⟩
          · subst h; simp at hlt
          subst had
          obtain ⟨xk, xn, xad, xm, xc, c0, c1, c2, hinx⟩ := (Ex.RowP.move hb.moves a hbq hrow).shape hlt
          have hnn := nodesAll_at a j a[j] (by simp [hlt])
          rw [Ex.nodeAll_at hlt] at hna
          have HX : Hid (_ ∧ _ ∧ _ ∧ _) := ⟨hinx, hna, hwq, hb⟩
          clear hinx hna hwq hb hrow
          generalize a[j] = x at *
          by_cases he0 : (x.node c').1 = 0
          · have HZ : Hid _ := he0
            go_wp2_with (first
              | (go_at_call 155; refine (IH.out x _ _ q c' (by omega) (by omega) (by omega) hq1 ?h1 ?h2 ?h3).mono ?_; rotate_left 3; rintro e w3 ⟨rfl, hq3, hb3⟩; have H3 : Hid (_ ∧ _) := ⟨hq3, hb3⟩; clear hq3 hb3))
            case h1 => exact (Below.heap_alloc _ _ _ (lt_of_block HX.out.2.2.1)).trans HX.out.2.2.1
            case h2 => exact FormsIn.but hq1 HR.out.2.1 (HX.out.2.2.2.trans (But.of_below ((Below.refl _ _).alloc (Nat.le_refl _) _)))
            case h3 => exact HX.out.1.move (But.of_below ((Below.refl _ _).alloc (Nat.le_refl _) _)).moves
            have hna := HX.out.2.1
            rw [if_neg (by simpa using HZ.out)] at hna
            go_roundw
            case rel => exact ⟨j + 1, (x.node c').2, by omega, by go_num, Ex.node_le x c' HZ.out, hna, H3.out.1, HX.out.2.2.2.trans ((But.of_below ((Below.refl _ _).alloc (Nat.le_refl _) _)).trans H3.out.2)⟩
            case measure => simp [intOf]; omega
          · have he1 : ((x.node c').1 == 0) = false := by simpa using he0
            have HZ : Hid (¬ (x.node c').1 = 0) := he0
            clear he0
            go_wp2_with (first
              | (go_at_call 155; refine (IH.out x _ _ q c' (by omega) (by omega) (by omega) hq1 ?h1 ?h2 ?h3).mono ?_; rotate_left 3; rintro e w3 ⟨rfl, hq3, hb3⟩; have H3 : Hid (_ ∧ _) := ⟨hq3, hb3⟩; clear hq3 hb3))
            case h1 => exact (Below.heap_alloc _ _ _ (lt_of_block HX.out.2.2.1)).trans HX.out.2.2.1
            case h2 => exact FormsIn.but hq1 HR.out.2.1 (HX.out.2.2.2.trans (But.of_below ((Below.refl _ _).alloc (Nat.le_refl _) _)))
            case h3 => exact HX.out.1.move (But.of_below ((Below.refl _ _).alloc (Nat.le_refl _) _)).moves
            have hna := HX.out.2.1
            rw [if_pos HZ.out] at hna
            go_ret
            exact ⟨ret_int (by rw [hn.out, ← hna]), by rw [hn.out, ← hna]; exact H3.out.1, HX.out.2.2.2.trans ((But.of_below ((Below.refl _ _).alloc (Nat.le_refl _) _)).trans H3.out.2)⟩
        · have hje : j = a.length := by omega
          subst hje
          rw [List.drop_length, Ex.nodeAll] at hna
          have HX : Hid (_ ∧ _ ∧ _) := ⟨hna, hwq, hb⟩
          clear hna hwq hb
          go_wp2_with fail
          go_ret
          exact ⟨ret_int (by rw [hn.out, ← HX.out.1]), by rw [hn.out, ← HX.out.1]; exact HX.out.2.1, HX.out.2.2⟩
end Go.Proofs.YtgemadoieielcacDoor.B
namespace Go.Proofs.YtgemadoieielcacDoor
open Go.ChangeShapes Go.WideShapes Go.ChangeAt Go.RowKit

section
variable {P : Program} {ops : Array Oper} {Q : Exit → Act → World → Prop} {md : Region.Mode} {S : World → Prop} {L : Nat}

/-- What has come up has behind it what it waits for. -/
def shutB (md : Region.Mode) (ops : Array Oper) (l : Array Bool) : Bool :=
  (List.range ops.size).all fun k => !l.getD k false || match ops[k]? with
    | some o => o.after.all fun e => !Region.binds md e || l.getD e.on false
    | none => true
def ShutP (md : Region.Mode) (ops : Array Oper) (l : Array Bool) : Prop :=
  ∀ k o, ops[k]? = some o → l.getD k false = true → ∀ e ∈ o.after, Region.binds md e = true → l.getD e.on false = true
theorem shut_spec {l : Array Bool} (h : shutB md ops l = true) : ShutP md ops l := fun k o hk hl e he hb => by
  simp only [shutB, List.all_eq_true, List.mem_range] at h
  have h1 := h k (Array.getElem?_eq_some_iff.1 hk).1
  simp only [hk, hl, Bool.not_true, Bool.false_or] at h1
  have h2 := Array.all_eq_true_iff_forall_mem.1 h1 e he
  simpa [hb] using h2
theorem shut_set {l : Array Bool} {j : Nat} (h : ShutP md ops l) (hj : j ∈ Region.ready md ops l) : ShutP md ops (l.setIfInBounds j true) := fun k o hk hl e he hb => by
  by_cases hkj : j = k
  · subst hkj
    obtain ⟨-, o', ho', hall⟩ := mem_ready.1 hj
    rw [hk] at ho'; cases ho'
    exact getD_set_true (hall e he hb)
  · rw [getD_set_ne false hkj] at hl
    exact getD_set_true (h k o hk hl e he hb)

/-- All wait, one for the other, to be followed by number L, the last one. -/
def lastB (md : Region.Mode) (ops : Array Oper) (L : Nat) : Bool :=
  L + 1 == ops.size && (List.range L).all fun i => (List.range (L + 1)).any fun j => decide (i < j) && match ops[j]? with
    | some o => o.after.any fun e => Region.binds md e && e.on == i
    | none => false
theorem last_spec {l : Array Bool} (hL : lastB md ops L = true) (h : ShutP md ops l) (hr : L ∈ Region.ready md ops l) : ∀ (d i : Nat), i < L → L - i ≤ d → l.getD i false = true
  | 0, i, hi, hd => by omega
  | d + 1, i, hi, hd => by
    simp only [lastB, Bool.and_eq_true, List.all_eq_true, List.mem_range, List.any_eq_true, decide_eq_true_eq] at hL
    obtain ⟨j, hj, hij, hm⟩ := hL.2 i hi
    cases ho : ops[j]? with
    | none => simp [ho] at hm
    | some o =>
      simp only [ho] at hm
      obtain ⟨e, he, hb⟩ := Array.any_eq_true'.1 hm
      simp only [Bool.and_eq_true, beq_iff_eq] at hb
      rw [← hb.2]
      by_cases hjL : j = L
      · subst hjL
        obtain ⟨-, o', ho', hall⟩ := mem_ready.1 hr
        rw [ho] at ho'; cases ho'
        exact hall e he hb.1
      · exact h j o ho (last_spec (by simp only [lastB, Bool.and_eq_true, List.all_eq_true, List.mem_range, List.any_eq_true, decide_eq_true_eq]; exact hL) h hr d j (by omega) (by omega)) e he hb.1

/-- Whatever order is picked, and S holds behind each operation but the last. -/
def wpAnyL (P : Program) (md : Region.Mode) (ops : Array Oper) (Q : Exit → Act → World → Prop) (S : World → Prop) (L : Nat) : Nat → Array Bool → Act → World → Prop
  | 0, l, a, w => Region.ready md ops l = [] ∧ Q .normal a w
  | f + 1, l, a, w => (Region.ready md ops l = [] → Q .normal a w) ∧ ∀ i ∈ Region.ready md ops l, wpOp P ops Q i (fun a' w' => (i ≠ L → S w') ∧ wpAnyL P md ops Q S L f (l.setIfInBounds i true) a' w') a w

theorem wpAnyL.any : ∀ (f : Nat) (l : Array Bool) (a : Act) (w : World), wpAnyL P md ops Q S L f l a w → wpAny P md ops Q f l a w
  | 0, _, _, _, h => h
  | f + 1, _, _, _, h => ⟨h.1, fun i hi => wpOp_mono (fun a' w' h' => wpAnyL.any f _ a' w' h'.2) (h.2 i hi)⟩

theorem wpAnyL_first {i : Nat} {oi : Oper} {v : Value} (hi : ops[i]? = some oi) (hsel : ∀ (j : Nat) (o : Oper) cs b, ops[j]? = some o → o.op ≠ .select cs b)
    (hQ : ∀ c a w, Q (.panic c) (a.put oi.dst v) w → Q (.panic c) a w) (hL : lastB md ops L = true) (hiL : i < L) :
    ∀ (f : Nat) (l : Array Bool) (a : Act) (w : World), ShutP md ops l →
      (∀ j oj, ops[j]? = some oj → j ≠ i → l.getD j true = false → (∀ e ∈ oj.after, Region.binds md e = true → e.on ≠ i) → oi.apart ops oj = true) →
      i ∈ Region.ready md ops l → YieldsIf P ops S oi v a → S w →
      wpAnyL P md ops Q S L f (l.setIfInBounds i true) (a.put oi.dst v) w → wpAnyL P md ops Q S L (f + 1) l a w
  | f, l, a, w => fun hsh hfree hr hy hS H => by
    refine ⟨fun h => (by rw [h] at hr; cases hr), fun j hj => ?_⟩
    by_cases hji : j = i
    · subst hji; exact hy.wpOp hi hS ⟨fun _ => hS, H⟩
    have h0 := (mem_ready.1 hr).1
    have hjL : j ≠ L := fun e => by
      subst e
      have h1 := last_spec hL hsh hj (j - i) i hiL (Nat.le_refl _)
      rcases Nat.lt_or_ge i l.size with h' | h'
      · simp [h'] at h0 h1; rw [h0] at h1; cases h1
      · simp [Array.getElem?_eq_none h'] at h1
    cases f with
    | zero =>
      have := ready_mono hj hji
      rw [H.1] at this
      cases this
    | succ f =>
      obtain ⟨hjun, oj, hoj, hall⟩ := mem_ready.1 hj
      have hnot : ∀ e ∈ oj.after, Region.binds md e = true → e.on ≠ i := fun e he hb heq => by
        have h1 := hall e he hb
        rw [heq] at h1
        rcases Nat.lt_or_ge i l.size with h' | h'
        · simp [h'] at h0 h1; rw [h0] at h1; cases h1
        · simp [Array.getElem?_eq_none h'] at h1
      refine wpOp_mono (fun a' w' h3 => ?_) (wpOp_putIf hoj (hfree j oj hoj hji hjun hnot) (fun cs b => hsel i oi cs b hi) (fun cs b => hsel j oj cs b hoj) hQ hy (H.2 j (ready_mono hj hji)))
      refine ⟨h3.2.1, wpAnyL_first hi hsel hQ hL hiL f (l.setIfInBounds j true) a' w' (shut_set hsh hj) (fun k ok hk hki hun hno => ?_) (ready_mono hr (Ne.symm hji)) h3.1 (h3.2.1 hjL) (by rw [Array.setIfInBounds_comm _ _ hji]; exact h3.2.2)⟩
      refine hfree k ok hk hki ?_ hno
      by_cases hjk : j = k
      · subst hjk; exact hjun
      · rw [getD_set_ne true hjk] at hun; exact hun

/-- One that is taken first, its slot written out. -/
theorem takeL_at {i n : Nat} {oi : Oper} {v : Value} {f : Nat} {l : Array Bool} {xs : List Value} {ds : List Deferred} {w : World}
    (hi : ops[i]? = some oi) (hd : oi.dst = some n) (hs : Region.noSelect ops = true) (hL : lastB md ops L = true) (hiL : i < L) (hsh : shutB md ops l = true) (hf : Region.free md ops l i = true) (hr : (Region.ready md ops l).contains i = true)
    (hQ : ∀ c a w, Q (.panic c) (a.put oi.dst v) w → Q (.panic c) a w) (hy : YieldsIf P ops S oi v ⟨xs.toArray, ds⟩) (hS : S w)
    (h : wpAnyL P md ops Q S L f (l.setIfInBounds i true) ⟨(xs.set n v).toArray, ds⟩ w) : wpAnyL P md ops Q S L (f + 1) l ⟨xs.toArray, ds⟩ w := by
  refine wpAnyL_first hi (Region.noSelect_spec hs) hQ hL hiL f l _ w (shut_spec hsh) (Region.free_spec hi hf) (by simpa using hr) hy hS ?_
  have e : Act.put ⟨xs.toArray, ds⟩ oi.dst v = ⟨(xs.set n v).toArray, ds⟩ := by rw [hd]; simp [Act.put]
  rw [e]
  exact h

/-- One that is alone. -/
theorem wpAnyL_one {i : Nat} {o : Oper} {f : Nat} {l : Array Bool} {a : Act} {w : World} (hr : Region.ready md ops l = [i]) (ho : ops[i]? = some o)
    (h : ∀ K' : Act → World → Prop, Shut (∀ a w, (i ≠ L → S w) → wpAnyL P md ops Q S L f (l.setIfInBounds i true) a w → K' a w) → if Region.wanted o (yielded ops a.tmps) = true then Oper.wp P o a w K' Q else K' (a.put o.dst undef) w) : wpAnyL P md ops Q S L (f + 1) l a w :=
  ⟨(fun h0 => absurd (hr.symm.trans h0) (by simp)), fun j hj => by
    rw [hr, List.mem_singleton] at hj
    subst hj
    exact wpOp_step ho (fun K' hK => h K' (fun a w hS hW => hK a w ⟨hS, hW⟩))⟩

theorem wpAnyL_done {l : Array Bool} {a : Act} {w : World} (hr : Region.ready md ops l = []) (h : Q .normal a w) : ∀ f, wpAnyL P md ops Q S L f l a w
  | 0 => ⟨hr, h⟩
  | _ + 1 => ⟨fun _ => h, by rw [hr]; simp⟩

theorem wp_region_last {id : Nat} {a : Act} {w : World} (hm : P.follows .mixedOrders = true)
    (h : wpAnyL P .any ops Q S L ops.size (Array.replicate ops.size false) a w.drew) : (Code.region id ops true).wp P Q a w :=
  wp_region_any hm (h.any _ _ _ _)
end
end Go.Proofs.YtgemadoieielcacDoor
namespace Go.Proofs.YtgemadoieielcacDoor.B
open Go.ChangeShapes Go.WideShapes Go.ChangeAt Go.RowKit

set_option maxRecDepth 20000 in
set_option maxHeartbeats 400000 in
theorem negate_any (w0 w : World) (bb : Nat) (img : List Io) (loops : Int) (iv0 : Value) (hw : BW w0 w bb img loops iv0) (hl : img.length ≤ 900000) : Calls Tryd.prog 144 #[.pointer (some ⟨bb, 0, none⟩)] w fun r w' => r = .returned (.tuple #[]) ∧ ∃ iv', BW w0 w' bb (img ++ [⟨1, 0, 0⟩, ⟨1, 1, 0⟩, ⟨5, 0, 0⟩, ⟨6, 0, 0⟩]) loops iv' ∧ BG bb w w' iv0 iv' := by
  have HW0 : Hid (BW w0 w bb img loops iv0 ∧ BG bb w w iv0 iv0) := ⟨hw, BG.refl _ _ _⟩
  clear hw
  go_enter Tryd.func144, Tryd.ntmps144
  go_wp2_with (go_at_call 122; refine (put_any w0 w bb (img) loops iv0 1 0 HW0.out.1 (by first | omega | (simp; omega))).mono ?_; rintro r w1 ⟨rfl, iv1, hw1, hg1⟩; have HW1 : Hid (BW w0 w1 bb (img ++ [⟨1, 0, 0⟩]) loops iv1 ∧ BG bb w w1 iv0 iv1) := ⟨hw1, HW0.out.2.trans hg1⟩; clear hw1 hg1 HW0)
  go_wp2_with (go_at_call 122; refine (put_any w0 w1 bb (img ++ [⟨1, 0, 0⟩]) loops iv1 1 1 HW1.out.1 (by first | omega | (simp; omega))).mono ?_; rintro r w2 ⟨rfl, iv2, hw2, hg2⟩; have HW2 : Hid (BW w0 w2 bb (img ++ [⟨1, 0, 0⟩] ++ [⟨1, 1, 0⟩]) loops iv2 ∧ BG bb w w2 iv0 iv2) := ⟨hw2, HW1.out.2.trans hg2⟩; clear hw2 hg2 HW1)
  go_wp2_with (go_at_call 122; refine (put_any w0 w2 bb (img ++ [⟨1, 0, 0⟩] ++ [⟨1, 1, 0⟩]) loops iv2 5 0 HW2.out.1 (by first | omega | (simp; omega))).mono ?_; rintro r w3 ⟨rfl, iv3, hw3, hg3⟩; have HW3 : Hid (BW w0 w3 bb (img ++ [⟨1, 0, 0⟩] ++ [⟨1, 1, 0⟩] ++ [⟨5, 0, 0⟩]) loops iv3 ∧ BG bb w w3 iv0 iv3) := ⟨hw3, HW2.out.2.trans hg3⟩; clear hw3 hg3 HW2)
  go_wp2_with (go_at_call 122; refine (put_any w0 w3 bb (img ++ [⟨1, 0, 0⟩] ++ [⟨1, 1, 0⟩] ++ [⟨5, 0, 0⟩]) loops iv3 6 0 HW3.out.1 (by first | omega | (simp; omega))).mono ?_; rintro r w4 ⟨rfl, iv4, hw4, hg4⟩; have HW4 : Hid (BW w0 w4 bb (img ++ [⟨1, 0, 0⟩] ++ [⟨1, 1, 0⟩] ++ [⟨5, 0, 0⟩] ++ [⟨6, 0, 0⟩]) loops iv4 ∧ BG bb w w4 iv0 iv4) := ⟨hw4, HW3.out.2.trans hg4⟩; clear hw4 hg4 HW3)
  go_end0
  refine ⟨rfl, _, ?_, HW4.out.2⟩
  have := HW4.out.1
  simpa using this

/-- The table of what expressions end with. -/
def EndsIn (w : World) : Prop := w.cell? ⟨3, 1, none⟩ = some (.int .i64 1) ∧ w.cell? ⟨3, 2, none⟩ = some (.int .i64 2) ∧ w.cell? ⟨3, 3, none⟩ = some (.int .i64 9) ∧ w.cell? ⟨3, 5, none⟩ = some (.int .i64 4) ∧ w.cell? ⟨3, 6, none⟩ = some (.int .i64 5) ∧ w.cell? ⟨3, 7, none⟩ = some (.int .i64 6)

theorem EndsIn.below {w w' : World} (h : EndsIn w) (hb : Below w.heap.size w w') : EndsIn w' :=
  ⟨below_cell hb h.1, below_cell hb h.2.1, below_cell hb h.2.2.1, below_cell hb h.2.2.2.1, below_cell hb h.2.2.2.2.1, below_cell hb h.2.2.2.2.2⟩

mutual
/-- An expression that can be laid down. -/
def Ex.Lay : Ex → Prop
  | .mk k n a => ((k = 1 ∨ k = 2 ∨ k = 3) ∧ a = [] ∨ (k = 4 ∨ k = 5 ∨ k = 6 ∨ k = 7) ∧ n = 0) ∧ Ex.LayAll a
def Ex.LayAll : List Ex → Prop
  | [] => True
  | e :: r => e.Lay ∧ Ex.LayAll r
end

mutual
theorem Ex.pc_len : ∀ e : Ex, e.pc.length ≤ 4 * e.nodes
  | .mk k n a => by
    have := Ex.pcAll_len a
    rw [Ex.pc, Ex.nodes]
    split
    · simp; omega
    split
    · simp; omega
    split
    · simp; omega
    · simp; omega
theorem Ex.pcAll_len : ∀ a : List Ex, (Ex.pcAll a).length ≤ 4 * Ex.nodesAll a
  | [] => Nat.zero_le _
  | e :: r => by
    have := Ex.pc_len e
    have := Ex.pcAll_len r
    rw [Ex.pcAll, Ex.nodesAll]
    simp; omega
end

theorem Ex.LayAll.at {a : List Ex} (h : Ex.LayAll a) : ∀ j (hj : j < a.length), (a[j]).Lay := by
  induction a with
  | nil => intro j hj; simp at hj
  | cons e r ih =>
    intro j hj
    cases j with
    | zero => exact h.1
    | succ j => exact ih h.2 j (by simpa using hj)

theorem Ex.pcAll_take {a : List Ex} : ∀ j (hj : j < a.length), Ex.pcAll (a.take j) ++ (a[j]).pc = Ex.pcAll (a.take (j + 1)) := by
  induction a with
  | nil => intro j hj; simp at hj
  | cons e r ih =>
    intro j hj
    cases j with
    | zero => simp [Ex.pcAll]
    | succ j =>
      have := ih j (by simpa using hj)
      simp only [List.take_succ_cons, Ex.pcAll, List.getElem_cons_succ, List.append_assoc] at this ⊢
      rw [this]

theorem Ex.nodesAll_take {a : List Ex} : ∀ j (hj : j < a.length), Ex.nodesAll (a.take j) + (a[j]).nodes ≤ Ex.nodesAll a := by
  induction a with
  | nil => intro j hj; simp at hj
  | cons e r ih =>
    intro j hj
    cases j with
    | zero => simp [Ex.nodesAll]
    | succ j =>
      have := ih j (by simpa using hj)
      simp only [List.take_succ_cons, Ex.nodesAll, List.getElem_cons_succ] at this ⊢
      omega

set_option maxRecDepth 20000 in
set_option maxHeartbeats 400000 in
theorem bexpr_any (w0 : World) (bb : Nat) (loops : Int) (hE : EndsIn w0) (N : Nat) : ∀ (e : Ex) (w : World) (v : Value) (img : List Io) (iv : Value), e.nodes < N → N ≤ 1048577 → e.In w0 v → e.Lay → BW w0 w bb img loops iv → img.length + 4 * e.nodes ≤ 800000 →
    Calls Tryd.prog 121 #[.pointer (some ⟨bb, 0, none⟩), v] w fun r w' => r = .returned (.tuple #[]) ∧ ∃ iv', BW w0 w' bb (img ++ e.pc) loops iv' ∧ BG bb w w' iv iv' := by
  induction N with
  | zero => intro e w v img iv h; omega
  | succ N ih =>
    intro e w v img iv hN hNN hin hlay hw hlen
    rcases e with ⟨k, n, a⟩
    rw [Ex.In] at hin
    obtain ⟨ad, c, rfl, hrow⟩ := hin
    rw [Ex.nodes] at hN hlen
    rw [Ex.Lay] at hlay
    have hal := length_le_nodesAll a
    have HR : Hid ((a = [] ∨ ∃ b o, ad = some ⟨b, o, none⟩ ∧ Ex.Row w0 a b o) ∧ EndsIn w0 ∧ Ex.LayAll a) := ⟨hrow, hE, hlay.2⟩
    have HW : Hid (BW w0 w bb img loops iv) := hw
    have IH : Hid _ := ih
    have hk := hlay.1
    clear hrow hlay hw ih
    have HP : Hid (BW w0 (w.alloc (.cells #[.int .i64 k, .int .i64 n, .slice ad a.length c] 119)) bb img loops iv) := HW.out.below (below_new _ _)
    have x0 : (w.alloc (.cells #[.int .i64 k, .int .i64 n, .slice ad a.length c] 119)).heap[w.heap.size]? = some (.cells #[.int .i64 k, .int .i64 n, .slice ad a.length c] 119 (0, 0)) := heap_alloc_new _ _
    have hbw := HW.out.cells.2.2.2
    go_enter Tryd.func121, Tryd.ntmps121
    go_wp2_with fail
    obtain ⟨W1, hW1⟩ : ∃ W1, w.alloc (.cells #[.int .i64 k, .int .i64 n, .slice ad a.length c] 119) = W1 := ⟨_, rfl⟩
    rw [hW1] at HP x0 ⊢
    have HB1 : Hid (BG bb w W1 iv iv) := by rw [← hW1]; exact BG.of_below (below_new _ _)
    have HX : Hid (W1.heap[w.heap.size]? = some (.cells #[.int .i64 k, .int .i64 n, .slice ad a.length c] 119 (0, 0)) ∧ w.heap.size ≠ bb ∧ iv.ownBlock ≠ some w.heap.size) := ⟨x0, by omega, fun e => by have := (HW.out.own.lt _ e).2; omega⟩
    clear hW1 x0
    go_loopw [9] (fun i wr => ∃ (j : Nat) (iv' : Value), j ≤ a.length ∧ i = .int .i64 j ∧ BW w0 wr bb (img ++ Ex.pcAll (a.take j)) loops iv' ∧ BG bb W1 wr iv iv') (fun i _ => a.length - (intOf i).toNat)
    case atStart => exact ⟨0, iv, Nat.zero_le _, rfl, by simpa [Ex.pcAll] using HP.out, BG.refl _ _ _⟩
    case round =>
      obtain ⟨j, iv1, hj, rfl, hw1, hg1⟩ := hrel
      have H1 : Hid (BW w0 wr bb (img ++ Ex.pcAll (a.take j)) loops iv1 ∧ BG bb W1 wr iv iv1) := ⟨hw1, hg1⟩
      by_cases hjl : j < a.length
      · have hji : (j : Int) < (a.length : Int) := by omega
        rcases HR.out.1 with h | ⟨b, o, rfl, hrow⟩
        · rw [h] at hjl; simp at hjl
        obtain ⟨ek, en, ead, em, ec, r0, r1, r2, hin⟩ := hrow.shape hjl
        have r0' := below_cell hw1.bel r0
        have r1' := below_cell hw1.bel r1
        have r2' := below_cell hw1.bel r2
        have lb : b < wr.heap.size := World.block_lt_of_cell? _ _ r0'
        have hnt := Ex.nodesAll_take j hjl
        have hp1 := Ex.pcAll_len (a.take j)
        have HC := IH.out a[j] (wr.alloc (.cells #[.int .i64 ek, .int .i64 en, .slice ead em ec] 119)) _ (img ++ Ex.pcAll (a.take j)) iv1 (by have := hnt; omega) (by omega) hin (HR.out.2.2.at j hjl) (hw1.below (below_new _ _)) (by simp; omega)
        clear r0 r1 r2 hrow hw1 hg1 hin
        go_wp2_with (go_at_call 121; refine HC.mono ?_; rintro r w2 ⟨rfl, iv2, hw2, hg2⟩; have H2 : Hid (BW w0 w2 bb (img ++ Ex.pcAll (a.take j) ++ (a[j]).pc) loops iv2 ∧ BG bb W1 w2 iv iv2) := ⟨hw2, (H1.out.2.trans (BG.of_below (below_new _ _))).trans hg2⟩; clear hw2 hg2 HC)
        have hq := H2.out.1
        rw [List.append_assoc, Ex.pcAll_take j hjl] at hq
        exact ⟨⟨j + 1, iv2, by omega, by simp, hq, H2.out.2⟩, by simp [intOf]; omega⟩
      · have hje : j = a.length := by omega
        subst hje
        rw [List.take_length] at H1
        have hblk := (H1.out.2.oth w.heap.size (Array.getElem?_eq_some_iff.1 HX.out.1).1 HX.out.2.1 HX.out.2.2).trans HX.out.1
        obtain ⟨d1, e1, l1⟩ := cells_of (l := [_, _, _]) hblk
        have d10 := d1 0 _ rfl
        have d11 := d1 1 _ rfl
        have d12 := d1 2 _ rfl
        have hpl := Ex.pcAll_len a
        have hbel := hw1.bel
        have hE1 := HR.out.2.1.below hbel
        clear hw1 hg1 d1 e1 hblk hbel
        by_cases h4 : k = 4
        · subst h4
          have HC := negate_any w0 wr bb (img ++ Ex.pcAll a) loops iv1 H1.out.1 (by simp; omega)
          go_wp2_with (go_at_call 144; refine HC.mono ?_; rintro r w2 ⟨rfl, iv2, hw2, hg2⟩; have H2 : Hid (BW w0 w2 bb (img ++ Ex.pcAll a ++ [⟨1, 0, 0⟩, ⟨1, 1, 0⟩, ⟨5, 0, 0⟩, ⟨6, 0, 0⟩]) loops iv2 ∧ BG bb w w2 iv iv2) := ⟨hw2, (HB1.out.trans H1.out.2).trans hg2⟩; clear hw2 hg2 HC)
          refine bodyPost_ret (results_none rfl _ _ _) rfl ?_
          refine ⟨rfl, iv2, ?_, H2.out.2⟩
          have hq := H2.out.1
          rw [List.append_assoc] at hq
          simpa [Ex.pc] using hq
        · obtain ⟨op, hop, hc3, hpc⟩ : ∃ op : Int, (∀ m : Nat, k = m → wr.cell? ⟨3, m, none⟩ = some (.int .i64 op)) ∧ (1 ≤ k ∧ k ≤ 7) ∧ (Ex.mk k n a).pc = Ex.pcAll a ++ [⟨op, n, 0⟩] := by
            obtain ⟨t1, t2, t3, t5, t6, t7⟩ := hE1
            rcases hk with ⟨h | h | h, rfl⟩ | ⟨h | h | h | h, rfl⟩
            · subst h; exact ⟨1, fun m hm => by rw [show m = 1 by omega]; exact t1, by omega, by simp [Ex.pc, Ex.pcAll]⟩
            · subst h; exact ⟨2, fun m hm => by rw [show m = 2 by omega]; exact t2, by omega, by simp [Ex.pc, Ex.pcAll]⟩
            · subst h; exact ⟨9, fun m hm => by rw [show m = 3 by omega]; exact t3, by omega, by simp [Ex.pc, Ex.pcAll]⟩
            · exact absurd h h4
            · subst h; exact ⟨4, fun m hm => by rw [show m = 5 by omega]; exact t5, by omega, by simp [Ex.pc]⟩
            · subst h; exact ⟨5, fun m hm => by rw [show m = 6 by omega]; exact t6, by omega, by simp [Ex.pc]⟩
            · subst h; exact ⟨6, fun m hm => by rw [show m = 7 by omega]; exact t7, by omega, by simp [Ex.pc]⟩
          obtain ⟨m, rfl⟩ : ∃ m : Nat, k = m := ⟨k.toNat, by omega⟩
          have ho := hop m rfl
          have hm1 : (m : Int) < 8 := by omega
          have hkb : ((m : Int) == 4) = false := by simpa using h4
          have HPC : Hid ((Ex.mk (m : Int) n a).pc = Ex.pcAll a ++ [⟨op, n, 0⟩]) := hpc
          have HC := fun W (hW : Below wr.heap.size wr W) => put_any w0 W bb (img ++ Ex.pcAll a) loops iv1 op n (H1.out.1.below hW) (by simp; omega)
          have HC2 : Hid _ := HC
          clear HC hE1 hk hop hpc
          go_wp2_with fail
          refine wp_region_noPanic ?_
          refine wp_region_last (S := fun w' => w' = wr.drew) (L := 7) (by kernel_rfl) ?_
          refine takeL_at (i := 0) (n := 22) (v := ?_) rfl rfl (by kernel_rfl) (by kernel_rfl) (by decide) (by kernel_rfl) (by kernel_rfl) (by kernel_rfl) (fun _ _ _ h => h) (Or.inl ⟨by rfl, ?_⟩) (by first | rfl | assumption) ?_
          rotate_left 1
          · intro wz hSw
            subst hSw
            first | (go_simp; done) | (go_simp; with_reducible rfl)
          simp only [List.set_cons_zero, List.set_cons_succ]
          refine takeL_at (i := 1) (n := 23) (v := ?_) rfl rfl (by kernel_rfl) (by kernel_rfl) (by decide) (by kernel_rfl) (by kernel_rfl) (by kernel_rfl) (fun _ _ _ h => h) (Or.inl ⟨by rfl, ?_⟩) (by first | rfl | assumption) ?_
          rotate_left 1
          · intro wz hSw
            subst hSw
            first | (go_simp; done) | (go_simp; with_reducible rfl)
          simp only [List.set_cons_zero, List.set_cons_succ]
          refine takeL_at (i := 2) (n := 24) (v := ?_) rfl rfl (by kernel_rfl) (by kernel_rfl) (by decide) (by kernel_rfl) (by kernel_rfl) (by kernel_rfl) (fun _ _ _ h => h) (Or.inl ⟨by rfl, ?_⟩) (by first | rfl | assumption) ?_
          rotate_left 1
          · intro wz hSw
            subst hSw
            first | (go_simp; done) | (go_simp; with_reducible rfl)
          simp only [List.set_cons_zero, List.set_cons_succ]
          refine takeL_at (i := 3) (n := 25) (v := ?_) rfl rfl (by kernel_rfl) (by kernel_rfl) (by decide) (by kernel_rfl) (by kernel_rfl) (by kernel_rfl) (fun _ _ _ h => h) (Or.inl ⟨by rfl, ?_⟩) (by first | rfl | assumption) ?_
          rotate_left 1
          · intro wz hSw
            subst hSw
            first | (go_simp; done) | (go_simp; with_reducible rfl)
          simp only [List.set_cons_zero, List.set_cons_succ]
          refine takeL_at (i := 4) (n := 26) (v := ?_) rfl rfl (by kernel_rfl) (by kernel_rfl) (by decide) (by kernel_rfl) (by kernel_rfl) (by kernel_rfl) (fun _ _ _ h => h) (Or.inl ⟨by rfl, ?_⟩) (by first | rfl | assumption) ?_
          rotate_left 1
          · intro wz hSw
            subst hSw
            first | (go_simp; done) | (go_simp; with_reducible rfl)
          simp only [List.set_cons_zero, List.set_cons_succ]
          refine takeL_at (i := 5) (n := 27) (v := ?_) rfl rfl (by kernel_rfl) (by kernel_rfl) (by decide) (by kernel_rfl) (by kernel_rfl) (by kernel_rfl) (fun _ _ _ h => h) (Or.inl ⟨by rfl, ?_⟩) (by first | rfl | assumption) ?_
          rotate_left 1
          · intro wz hSw
            subst hSw
            first | (go_simp; done) | (go_simp; with_reducible rfl)
          simp only [List.set_cons_zero, List.set_cons_succ]
          refine takeL_at (i := 6) (n := 28) (v := ?_) rfl rfl (by kernel_rfl) (by kernel_rfl) (by decide) (by kernel_rfl) (by kernel_rfl) (by kernel_rfl) (fun _ _ _ h => h) (Or.inl ⟨by rfl, ?_⟩) (by first | rfl | assumption) ?_
          rotate_left 1
          · intro wz hSw
            subst hSw
            first | (go_simp; done) | (go_simp; with_reducible rfl)
          simp only [List.set_cons_zero, List.set_cons_succ]
          refine wpAnyL_one (i := 7) (by kernel_rfl) rfl (fun K' hK' => ?_)
          go_simp
          refine (HC2.out _ ((Below.refl _ _).drew)).mono ?_
          rintro r w2 ⟨rfl, iv2, hw2, hg2⟩
          refine hK'.out _ _ (fun h => absurd rfl h) ?_
          clear hK' K'
          refine wpAnyL_done (by kernel_rfl) ?_ _
          refine NoPanic.normal ?_
          have H2 : Hid (BW w0 w2 bb (img ++ Ex.pcAll a ++ [⟨op, n, 0⟩]) loops iv2 ∧ BG bb w w2 iv iv2) := ⟨hw2, (HB1.out.trans H1.out.2).trans ((BG.of_below (Below.refl _ _).drew).trans hg2)⟩
          clear hw2 hg2
          go_wp2_with fail
          go_end0
          refine ⟨rfl, iv2, ?_, H2.out.2⟩
          have hq := H2.out.1
          rw [List.append_assoc, ← HPC.out] at hq
          exact hq

end Go.Proofs.YtgemadoieielcacDoor.B
namespace Go.Proofs.YtgemadoieielcacDoor.B
open Go.ChangeShapes Go.WideShapes Go.ChangeAt Go.RowKit

/-- What a jump that has still to be told where it lands knows. -/
structure LpAt (w : World) (bb : Nat) (iv : Value) (q p at_ : Nat) : Prop where
  c0 : w.cell? ⟨q, 0, none⟩ = some (.pointer (some ⟨bb, 0, none⟩))
  c1 : w.cell? ⟨p, 0, none⟩ = some (.int .i64 at_)
  n0 : q ≠ bb ∧ p ≠ bb
  n1 : iv.ownBlock ≠ some q ∧ iv.ownBlock ≠ some p

theorem BG.cell {bb : Nat} {w w' : World} {v v' : Value} (h : BG bb w w' v v') {q o : Nat} {x : Value} (h1 : q ≠ bb) (h2 : v.ownBlock ≠ some q) (hc : w.cell? ⟨q, o, none⟩ = some x) : w'.cell? ⟨q, o, none⟩ = some x := by
  have e := h.oth q (World.block_lt_of_cell? _ _ hc) h1 h2
  unfold World.cell? at hc ⊢
  dsimp only at hc ⊢
  rw [e]
  exact hc

theorem BG.apart {bb : Nat} {w w' : World} {v v' : Value} (h : BG bb w w' v v') {q : Nat} (hq : q < w.heap.size) (h2 : v.ownBlock ≠ some q) : v'.ownBlock ≠ some q := by
  rcases h.own with ho | ho
  · rw [ho]; exact h2
  · intro e; have := ho q e; omega

theorem LpAt.go {bb : Nat} {w w' : World} {v v' : Value} {q p at_ : Nat} (h : LpAt w bb v q p at_) (hg : BG bb w w' v v') : LpAt w' bb v' q p at_ :=
  ⟨hg.cell h.n0.1 h.n1.1 h.c0, hg.cell h.n0.2 h.n1.2 h.c1, h.n0, hg.apart (World.block_lt_of_cell? _ _ h.c0) h.n1.1, hg.apart (World.block_lt_of_cell? _ _ h.c1) h.n1.2⟩

set_option maxRecDepth 20000 in
set_option maxHeartbeats 400000 in
theorem leap_any (w0 w : World) (bb : Nat) (img : List Io) (loops : Int) (iv : Value) (op : Int) (hw : BW w0 w bb img loops iv) (hl : img.length ≤ 900000) : Calls Tryd.prog 146 #[.pointer (some ⟨bb, 0, none⟩), .int .i64 op] w fun r w' => ∃ q p iv', r = .returned (.func (Fn.func 158) #[] #[.pointer (some ⟨q, 0, none⟩), .pointer (some ⟨p, 0, none⟩)]) ∧ LpAt w' bb iv' q p img.length ∧ BW w0 w' bb (img ++ [⟨op, 0, 0⟩]) loops iv' ∧ BG bb w w' iv iv' := by
  obtain ⟨ad, c, rfl⟩ := hw.shape
  obtain ⟨c0, c1, fz, hlt⟩ := hw.cells
  have HW : Hid (BW w0 w bb img loops (.slice ad img.length c)) := hw
  clear hw fz
  have hb1 : Below w.heap.size w ((w.alloc (.cells #[.pointer (some ⟨bb, 0, none⟩)] 163)).alloc (.cells #[.int .i64 img.length] 3)) := ((Below.refl _ _).alloc (Nat.le_refl _) _).alloc (by simp) _
  have x0 : ((w.alloc (.cells #[.pointer (some ⟨bb, 0, none⟩)] 163)).alloc (.cells #[.int .i64 img.length] 3)).cell? ⟨w.heap.size, 0, none⟩ = some (.pointer (some ⟨bb, 0, none⟩)) := by go_simp
  have x1 : ((w.alloc (.cells #[.pointer (some ⟨bb, 0, none⟩)] 163)).alloc (.cells #[.int .i64 img.length] 3)).cell? ⟨w.heap.size + 1, 0, none⟩ = some (.int .i64 img.length) := by go_simp
  have hL : LpAt ((w.alloc (.cells #[.pointer (some ⟨bb, 0, none⟩)] 163)).alloc (.cells #[.int .i64 img.length] 3)) bb (.slice ad img.length c) w.heap.size (w.heap.size + 1) img.length := ⟨x0, x1, ⟨by omega, by omega⟩, fun e => by have := (HW.out.own.lt _ e).2; omega, fun e => by have := (HW.out.own.lt _ e).2; omega⟩
  have HB1 : Hid (_ ∧ LpAt ((w.alloc (.cells #[.pointer (some ⟨bb, 0, none⟩)] 163)).alloc (.cells #[.int .i64 img.length] 3)) bb (.slice ad img.length c) w.heap.size (w.heap.size + 1) img.length) := ⟨hb1, hL⟩
  have HC := put_any w0 _ bb img loops _ op 0 (HW.out.below hb1) (by omega)
  clear hb1 x0 x1 hL
  go_enter Tryd.func146, Tryd.ntmps146
  go_wp2_with (go_at_call 122; refine HC.mono ?_; rintro r w2 ⟨rfl, iv2, hw2, hg2⟩; have H2 : Hid (BW w0 w2 bb (img ++ [⟨op, 0, 0⟩]) loops iv2 ∧ BG bb w w2 (.slice ad img.length c) iv2 ∧ LpAt w2 bb iv2 w.heap.size (w.heap.size + 1) img.length) := ⟨hw2, (BG.of_below HB1.out.1).trans hg2, HB1.out.2.go hg2⟩; clear hw2 hg2 HC)
  go_ret
  exact ⟨_, _, iv2, rfl, H2.out.2.2, H2.out.1, H2.out.2.1⟩

theorem insVs_set : ∀ (l : List Io) (j : Nat) (z : Int), j < l.length → (insVs l).set (j * 3 + 1) (.int .i64 z) = insVs (l.set j ⟨(l.getD j ⟨0, 0, 0⟩).op, z, (l.getD j ⟨0, 0, 0⟩).b⟩)
  | [], j, z, h => by simp at h
  | x :: t, 0, z, _ => by simp [insVs]
  | x :: t, j + 1, z, h => by
    have := insVs_set t j z (by simpa using h)
    rw [show (j + 1) * 3 + 1 = (j * 3 + 1) + 1 + 1 + 1 by omega]
    simp only [insVs, List.set_cons_succ, this]
    simp

theorem insVs_at : ∀ (l : List Io) (j : Nat), j < l.length → (insVs l)[j * 3 + 1]? = some (.int .i64 (l.getD j ⟨0, 0, 0⟩).a)
  | [], j, h => by simp at h
  | x :: t, 0, _ => by simp [insVs]
  | x :: t, j + 1, h => by
    have := insVs_at t j (by simpa using h)
    rw [show (j + 1) * 3 + 1 = (j * 3 + 1) + 1 + 1 + 1 by omega]
    simpa [insVs] using this

/-- Where a jump is told where it lands. -/
theorem BW.land {w0 w : World} {bb : Nat} {img : List Io} {loops : Int} {g c : Nat} (h : BW w0 w bb img loops (.slice (some ⟨g, 0, none⟩) img.length c)) {j : Nat} (hj : j < img.length) (z : Int) :
    w.cell? ⟨g, j * 3 + 1, none⟩ = some (.int .i64 (img.getD j ⟨0, 0, 0⟩).a) ∧ w.frozen? ⟨g, j * 3 + 1, none⟩ = false ∧ BW w0 (w.setCell ⟨g, j * 3 + 1, none⟩ (.int .i64 z)) bb (img.set j ⟨(img.getD j ⟨0, 0, 0⟩).op, z, (img.getD j ⟨0, 0, 0⟩).b⟩) loops (.slice (some ⟨g, 0, none⟩) img.length c) ∧ BG bb w (w.setCell ⟨g, j * 3 + 1, none⟩ (.int .i64 z)) (.slice (some ⟨g, 0, none⟩) img.length c) (.slice (some ⟨g, 0, none⟩) img.length c) := by
  have hold := h.old
  obtain ⟨hl, ⟨h1, h2⟩ | ⟨g', cap, cur, h1, hB, hg, hn, hm, hs, ht⟩⟩ := h.own
  · cases h1
  cases h1
  have hjc : j * 3 + 1 < cur.size := by rw [hs]; omega
  have hin : cur[j * 3 + 1]? = some (.int .i64 (img.getD j ⟨0, 0, 0⟩).a) := by
    have e := insVs_at img j hj
    rw [← ht, List.getElem?_take_of_lt (by omega)] at e
    simpa using e
  refine ⟨?_, ?_, ⟨?_, h.old, ?_, ?_⟩, ?_⟩
  · unfold World.cell?
    rw [hg]
    simpa using hin
  · unfold World.frozen?
    rw [hg]
    simp
  · exact h.bel.setCell (by show w0.heap.size ≤ g; omega) _
  · exact (Below.heap_setCell _ _ _ _ (by show bb ≠ g; omega)).trans h.blk
  · rw [show (img.set j ⟨(img.getD j ⟨0, 0, 0⟩).op, z, (img.getD j ⟨0, 0, 0⟩).b⟩).length = img.length by simp]
    refine ⟨by rw [insVs_len]; simp, .inr ⟨g, c, cur.setIfInBounds (j * 3 + 1) (.int .i64 z), rfl, hB, setCell_at hg, by simpa using hn, hm, by simpa using hs, ?_⟩⟩
    rw [← insVs_set img j z hj, ← ht]
    simp [List.take_set]
  · exact ⟨rfl, rfl, rfl, by simp, fun k _ _ h3 => Below.heap_setCell _ _ _ _ (fun e => h3 (by rw [e]; rfl)), .inl rfl⟩

set_option maxRecDepth 20000 in
set_option maxHeartbeats 400000 in
theorem land_any (w0 w : World) (bb : Nat) (img : List Io) (loops : Int) (iv : Value) (q p at_ : Nat) (hw : BW w0 w bb img loops iv) (hp : LpAt w bb iv q p at_) (ha : at_ < img.length) : Calls Tryd.prog 158 #[.pointer (some ⟨q, 0, none⟩), .pointer (some ⟨p, 0, none⟩)] w fun r w' => r = .returned (.tuple #[]) ∧ BW w0 w' bb (img.set at_ ⟨(img.getD at_ ⟨0, 0, 0⟩).op, img.length, (img.getD at_ ⟨0, 0, 0⟩).b⟩) loops iv ∧ BG bb w w' iv iv := by
  obtain ⟨g, c, rfl⟩ : ∃ g c, iv = .slice (some ⟨g, 0, none⟩) img.length c := by
    obtain ⟨hlen, ⟨h1, h2⟩ | ⟨g', cap, cur, h1, -⟩⟩ := hw.own
    · omega
    · exact ⟨g', cap, h1⟩
  obtain ⟨c0, c1, fz, hlt⟩ := hw.cells
  obtain ⟨x0, x1, -, -⟩ := hp
  obtain ⟨y1, y2, y3, y4⟩ := hw.land ha (img.length : Int)
  have HY : Hid (_ ∧ _) := ⟨y3, y4⟩
  have hai : (at_ : Int) < (img.length : Int) := by omega
  have lq : q < w.heap.size := World.block_lt_of_cell? _ _ x0
  have lp : p < w.heap.size := World.block_lt_of_cell? _ _ x1
  have lg : g < w.heap.size := World.block_lt_of_cell? _ _ y1
  clear hw fz y3 y4
  go_enter Tryd.func158, Tryd.ntmps158
  go_region
  all_goals
    go_end0
    exact ⟨rfl, HY.out.1.below (Below.refl _ _).drew, HY.out.2.trans (BG.of_below (Below.refl _ _).drew)⟩

/-- The table of comparisons. -/
def CompsIn (w : World) : Prop := ∀ m : Nat, 1 ≤ m → m ≤ 4 → w.cell? ⟨4, m * 2, none⟩ = some (.int .i64 (if m = 2 ∨ m = 3 then 8 else 7)) ∧ w.cell? ⟨4, m * 2 + 1, none⟩ = some (.bool (decide (3 ≤ m)))

theorem CompsIn.below {w w' : World} (h : CompsIn w) (hb : Below w.heap.size w w') : CompsIn w' := fun m h1 h2 => ⟨below_cell hb (h m h1 h2).1, below_cell hb (h m h1 h2).2⟩

theorem cdP_len (ck : Int) (ca cb : Ex) : (cdP ck ca cb).length ≤ 4 * (ca.nodes + cb.nodes) + 3 := by
  have := Ex.pc_len ca
  have := Ex.pc_len cb
  unfold cdP
  rw [List.length_append, List.length_append, List.length_append]
  by_cases h : 3 ≤ ck
  · rw [if_pos h]; simp; omega
  · rw [if_neg h]; simp; omega

set_option maxRecDepth 20000 in
set_option maxHeartbeats 400000 in
theorem bcond_any (w0 w : World) (bb : Nat) (img : List Io) (loops : Int) (iv : Value) (ck : Int) (ca cb : Ex) (ak an bk bn : Int) (aad bad : Option Addr) (am ac bm bc : Nat) (hE : EndsIn w0) (hK : CompsIn w0) (hck : 1 ≤ ck ∧ ck ≤ 4) (ha : ca.In w0 (.agg #[.int .i64 ak, .int .i64 an, .slice aad am ac])) (hb : cb.In w0 (.agg #[.int .i64 bk, .int .i64 bn, .slice bad bm bc])) (hla : ca.Lay) (hlb : cb.Lay) (hna : ca.nodes ≤ 1048576) (hnb : cb.nodes ≤ 1048576) (hw : BW w0 w bb img loops iv) (hl : img.length + 4 * (ca.nodes + cb.nodes) + 10 ≤ 700000) :
    Calls Tryd.prog 145 #[.pointer (some ⟨bb, 0, none⟩), .agg #[.int .i64 ck, .int .i64 ak, .int .i64 an, .slice aad am ac, .int .i64 bk, .int .i64 bn, .slice bad bm bc]] w fun r w' => ∃ q p iv', r = .returned (.func (Fn.func 158) #[] #[.pointer (some ⟨q, 0, none⟩), .pointer (some ⟨p, 0, none⟩)]) ∧ LpAt w' bb iv' q p (img ++ cdP ck ca cb).length ∧ BW w0 w' bb (img ++ cdP ck ca cb ++ [⟨12, 0, 0⟩]) loops iv' ∧ BG bb w w' iv iv' := by
  obtain ⟨m, rfl⟩ : ∃ m : Nat, ck = m := ⟨ck.toNat, by omega⟩
  obtain ⟨k1, k2⟩ := hK m (by omega) (by omega)
  obtain ⟨op, hop⟩ : ∃ op : Int, (if m = 2 ∨ m = 3 then (8 : Int) else 7) = op := ⟨_, rfl⟩
  obtain ⟨ob, hob⟩ : ∃ ob : Bool, decide (3 ≤ m) = ob := ⟨_, rfl⟩
  rw [hop] at k1
  rw [hob] at k2
  have HOP : Hid ((if (m : Int) = 2 ∨ (m : Int) = 3 then (8 : Int) else 7) = op) := by
    show _ = _
    rw [← hop]
    congr 1
    apply propext
    omega
  have HOB : Hid (decide (3 ≤ m) = ob) := hob
  clear hop hob
  have hpa := Ex.pc_len ca
  have hpb := Ex.pc_len cb
  have hmi : (m : Int) < 5 := by omega
  have hlt := hw.cells.2.2.2
  have hB1 := below_new w (.cells #[.int .i64 m, .int .i64 ak, .int .i64 an, .slice aad am ac, .int .i64 bk, .int .i64 bn, .slice bad bm bc] 121)
  have x0 := heap_alloc_new w (.cells #[.int .i64 m, .int .i64 ak, .int .i64 an, .slice aad am ac, .int .i64 bk, .int .i64 bn, .slice bad bm bc] 121)
  have HW : Hid (BW w0 w bb img loops iv) := hw
  have hn0 : w.heap.size ≠ bb := by omega
  have hn1 : iv.ownBlock ≠ some w.heap.size := fun e => by have := (hw.own.lt _ e).2; omega
  have HC1 := bexpr_any w0 bb loops hE 1048577 ca _ _ img iv (by omega) (by omega) ha hla (hw.below hB1) (by omega)
  have HI : Hid (cb.In w0 (.agg #[.int .i64 bk, .int .i64 bn, .slice bad bm bc]) ∧ cb.Lay ∧ EndsIn w0) := ⟨hb, hlb, hE⟩
  obtain ⟨W1, hW1⟩ : ∃ W1, w.alloc (.cells #[.int .i64 m, .int .i64 ak, .int .i64 an, .slice aad am ac, .int .i64 bk, .int .i64 bn, .slice bad bm bc] 121) = W1 := ⟨_, rfl⟩
  have HB1 : Hid (BG bb w W1 iv iv ∧ W1.heap[w.heap.size]? = some (.cells #[.int .i64 m, .int .i64 ak, .int .i64 an, .slice aad am ac, .int .i64 bk, .int .i64 bn, .slice bad bm bc] 121 (0, 0)) ∧ w.heap.size < W1.heap.size) := by rw [← hW1]; exact ⟨BG.of_below hB1, x0, by simp⟩
  have HWE : Hid (w.alloc (.cells #[.int .i64 m, .int .i64 ak, .int .i64 an, .slice aad am ac, .int .i64 bk, .int .i64 bn, .slice bad bm bc] 121) = W1) := hW1
  clear hB1 x0 hw ha hb hla hlb hE hW1
  go_enter Tryd.func145, Tryd.ntmps145
  go_wp2_with (go_at_call 121; refine HC1.mono ?_; rintro r w2 ⟨rfl, iv2, hw2, hg2⟩; rw [HWE.out] at hg2; have hk2 := (hg2.oth w.heap.size HB1.out.2.2 hn0 hn1).trans HB1.out.2.1; obtain ⟨d1, e1, l1⟩ := cells_of (l := [_, _, _, _, _, _, _]) hk2; have d0 := d1 0 _ rfl; have d4 := d1 4 _ rfl; have d5 := d1 5 _ rfl; have d6 := d1 6 _ rfl; have hn2 := hg2.apart HB1.out.2.2 hn1; have H2 : Hid (BW w0 w2 bb (img ++ ca.pc) loops iv2 ∧ BG bb w w2 iv iv2 ∧ w2.heap[w.heap.size]? = some (.cells #[.int .i64 m, .int .i64 ak, .int .i64 an, .slice aad am ac, .int .i64 bk, .int .i64 bn, .slice bad bm bc] 121 (0, 0))) := ⟨hw2, HB1.out.1.trans hg2, hk2⟩; have HC2 := bexpr_any w0 bb loops HI.out.2.2 1048577 cb w2 _ (img ++ ca.pc) iv2 (by omega) (by omega) HI.out.1 HI.out.2.1 hw2 (by simp; omega); clear hw2 hg2 HC1 d1 e1 hk2)
  go_wp2_with (go_at_call 121; refine HC2.mono ?_; rintro r w3 ⟨rfl, iv3, hw3, hg3⟩; have hk3 := (hg3.oth w.heap.size l1 hn0 hn2).trans H2.out.2.2; obtain ⟨d1, e1, l3⟩ := cells_of (l := [_, _, _, _, _, _, _]) hk3; have d0 := d1 0 _ rfl; have hn3 := hg3.apart l1 hn2; have k1' := below_cell hw3.bel k1; have k2' := below_cell hw3.bel k2; have H3 : Hid (BW w0 w3 bb (img ++ ca.pc ++ cb.pc) loops iv3 ∧ BG bb w w3 iv iv3 ∧ w3.heap[w.heap.size]? = some (.cells #[.int .i64 m, .int .i64 ak, .int .i64 an, .slice aad am ac, .int .i64 bk, .int .i64 bn, .slice bad bm bc] 121 (0, 0))) := ⟨hw3, H2.out.2.1.trans hg3, hk3⟩; have HC3 := put_any w0 w3 bb (img ++ ca.pc ++ cb.pc) loops iv3 op 0 hw3 (by simp; omega); clear hw3 hg3 HC2 d1 e1 hk3 d4 d5 d6)
  rcases ob with _ | _
  rotate_left 1
  · have h3 : 3 ≤ m := by have := HOB.out; simpa using this
    go_wp2_with (go_at_call 122; refine HC3.mono ?_; rintro r w4 ⟨rfl, iv4, hw4, hg4⟩; have hk4 := (hg4.oth w.heap.size l3 hn0 hn3).trans H3.out.2.2; obtain ⟨d1, e1, l4⟩ := cells_of (l := [_, _, _, _, _, _, _]) hk4; have d0 := d1 0 _ rfl; have k2' := below_cell hw4.bel k2; have H4 : Hid (BW w0 w4 bb (img ++ ca.pc ++ cb.pc ++ [⟨op, 0, 0⟩]) loops iv4 ∧ BG bb w w4 iv iv4) := ⟨hw4, H3.out.2.1.trans hg4⟩; clear hw4 hg4 HC3 d1 e1 hk4)
    have HC4 := put_any w0 w4 bb _ loops iv4 1 0 H4.out.1 (by simp; omega)
    go_wp2_with (go_at_call 122; refine HC4.mono ?_; rintro r w5 ⟨rfl, iv5, hw5, hg5⟩; have H5 : Hid (_ ∧ BG bb w w5 iv iv5) := ⟨hw5, H4.out.2.trans hg5⟩; have HC5 := put_any w0 w5 bb _ loops iv5 8 0 hw5 (by simp; omega); clear hw5 hg5 HC4)
    go_wp2_with (go_at_call 122; refine HC5.mono ?_; rintro r w6 ⟨rfl, iv6, hw6, hg6⟩; have H6 : Hid (_ ∧ BG bb w w6 iv iv6) := ⟨hw6, H5.out.2.trans hg6⟩; have HC6 := leap_any w0 w6 bb _ loops iv6 12 hw6 (by simp; omega); clear hw6 hg6 HC5)
    go_wp2_with (go_at_call 146; refine HC6.mono ?_; rintro r w7 ⟨q, p, iv7, rfl, hp7, hw7, hg7⟩; have H7 : Hid (_ ∧ _ ∧ BG bb w w7 iv iv7) := ⟨hp7, hw7, H6.out.2.trans hg7⟩; clear hp7 hw7 hg7 HC6)
    go_ret
    have e : img ++ ca.pc ++ cb.pc ++ [⟨op, 0, 0⟩] ++ [⟨1, 0, 0⟩] ++ [⟨8, 0, 0⟩] = img ++ cdP m ca cb := by
      unfold cdP
      rw [if_pos (show (3 : Int) ≤ (m : Int) by omega)]
      rw [HOP.out]
      simp
    have h7 := H7.out
    rw [e] at h7
    exact ⟨q, p, iv7, rfl, h7.1, h7.2.1, h7.2.2⟩
  · have h3 : ¬ 3 ≤ m := by have := HOB.out; simpa using this
    go_wp2_with (go_at_call 122; refine HC3.mono ?_; rintro r w4 ⟨rfl, iv4, hw4, hg4⟩; have hk4 := (hg4.oth w.heap.size l3 hn0 hn3).trans H3.out.2.2; obtain ⟨d1, e1, l4⟩ := cells_of (l := [_, _, _, _, _, _, _]) hk4; have d0 := d1 0 _ rfl; have k2' := below_cell hw4.bel k2; have H4 : Hid (BW w0 w4 bb (img ++ ca.pc ++ cb.pc ++ [⟨op, 0, 0⟩]) loops iv4 ∧ BG bb w w4 iv iv4) := ⟨hw4, H3.out.2.1.trans hg4⟩; clear hw4 hg4 HC3 d1 e1 hk4)
    have HC6 := leap_any w0 w4 bb _ loops iv4 12 H4.out.1 (by simp; omega)
    go_wp2_with (go_at_call 146; refine HC6.mono ?_; rintro r w7 ⟨q, p, iv7, rfl, hp7, hw7, hg7⟩; have H7 : Hid (_ ∧ _ ∧ BG bb w w7 iv iv7) := ⟨hp7, hw7, H4.out.2.trans hg7⟩; clear hp7 hw7 hg7 HC6)
    go_ret
    have e : img ++ ca.pc ++ cb.pc ++ [⟨op, 0, 0⟩] = img ++ cdP m ca cb := by
      unfold cdP
      rw [if_neg (show ¬ (3 : Int) ≤ (m : Int) by omega)]
      rw [HOP.out]
      simp
    have h7 := H7.out
    rw [e] at h7
    exact ⟨q, p, iv7, rfl, h7.1, h7.2.1, h7.2.2⟩

end Go.Proofs.YtgemadoieielcacDoor.B
