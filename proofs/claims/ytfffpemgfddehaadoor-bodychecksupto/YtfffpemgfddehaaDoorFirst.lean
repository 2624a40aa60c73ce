import Derived.Test.YtfffpemgfddehaaDoorSmall
namespace Go.Proofs.YtfffpemgfddehaaDoor
open Go.ChangeShapes Go.WideShapes Go.ChangeAt Go.RowKit

set_option maxHeartbeats 1000000 in
/-- The looks are taken one by one: P j holds when j have been taken and found nothing, Q c when one has found c. -/
theorem first_any (n : Nat) (hn : n ≤ 100) (g cap : Nat) (fid : Nat → FuncId) (caps : Nat → Array Value) (P : Nat → World → Prop) (Q : Int → World → Prop)
    (hcell : ∀ i, i < n → ∀ w, P i w → w.cell? ⟨g, i, none⟩ = some (.func (.func (fid i)) #[] (caps i)))
    (hcall : ∀ i, i < n → ∀ w, P i w → Calls Tryd.prog (fid i) (caps i) w fun e w' => ∃ c, e = .returned (.int .i64 c) ∧ ((c = 0 ∧ P (i + 1) w') ∨ (c ≠ 0 ∧ Q c w')))
    (hent : ∀ i, i < n → ∀ cp w, (callFunc (fid i) cp).run Tryd.prog w = .ok (.enter (fid i) cp) w) (w : World) (hP : P 0 w) :
    Calls Tryd.prog 27 #[.slice (some ⟨g, 0, none⟩) n cap] w fun e w' => ∃ c, e = .returned (.int .i64 c) ∧ ((c = 0 ∧ P n w') ∨ (c ≠ 0 ∧ Q c w')) := by
  have HH : Hid (_ ∧ _ ∧ _) := ⟨hcell, hcall, hent⟩
  clear hcell hcall hent
  go_enter Tryd.func27, Tryd.ntmps27
  go_wp2_with fail
  go_loopw [4, 5, 8] (fun _ _ i wr => ∃ j : Nat, j ≤ n ∧ i = .int .i64 j ∧ P j wr) (fun _ _ i _ => n - (intOf i).toNat)
  case atStart => exact ⟨0, Nat.zero_le _, rfl, hP⟩
  case round =>
    obtain ⟨j, hj, rfl, hPj⟩ := hrel
    by_cases hlt : j < n
    · have hc := HH.out.1 j hlt wr hPj
      have hcl := HH.out.2.1 j hlt wr hPj
      have HC : Hid (Calls Tryd.prog (fid j) (caps j) wr fun e w' => ∃ c, e = .returned (.int .i64 c) ∧ ((c = 0 ∧ P (j + 1) w') ∨ (c ≠ 0 ∧ Q c w'))) := hcl
      have hen := HH.out.2.2 j hlt
      clear hcl
      generalize caps j = cp at *
      generalize fid j = fd at *
      go_wp2_with fail
      refine HC.out.mono ?_
      rintro e w' ⟨c, rfl, hor⟩
      by_cases hc0 : c = 0
      · have HO : Hid (P (j + 1) w') := by
          rcases hor with ⟨_, h⟩ | ⟨h, _⟩
          · exact h
          · exact absurd hc0 h
        subst hc0
        clear hor
        go_wp2_with fail
        go_roundw
        case rel => exact ⟨j + 1, by omega, by go_num, HO.out⟩
        case measure => simp [intOf]; omega
      · have HO : Hid (Q c w') := by
          rcases hor with ⟨h, _⟩ | ⟨_, h⟩
          · exact absurd h hc0
          · exact h
        have hc0' : (c == 0) = false := by simpa using hc0
        clear hor
        go_wp2_with fail
        go_ret
        exact ⟨c, rfl, .inr ⟨hc0, HO.out⟩⟩
    · have hje : j = n := by omega
      subst hje
      have HP : Hid (P j wr) := hPj
      clear hPj
      go_wp2_with fail
      go_ret
      exact ⟨0, rfl, .inl ⟨rfl, HP.out⟩⟩

theorem run_enter {f : FuncId} {fn : Func} (hf : Tryd.prog.funcs[f]? = some fn) (hname : (fn.name == "runtime.NumGoroutine") = false) (hb : fn.body.isNone = false) (cp : Array Value) (w : World) : (callFunc f cp).run Tryd.prog w = .ok (.enter f cp) w := by
  have hn : ¬ fn.name = "runtime.NumGoroutine" := by simpa using hname
  have hb' : ¬ fn.body = none := by intro h; rw [h] at hb; cases hb
  unfold callFunc
  simp [hf, hn, hb']
theorem ent36 (cp : Array Value) (w : World) : (callFunc 36 cp).run Tryd.prog w = .ok (.enter 36 cp) w := run_enter Tryd.func36 (by kernel_rfl) (by kernel_rfl) cp w

theorem needs_any (b : Bool) (c : Int) (w : World) : Calls Tryd.prog 28 #[.bool b, .int .i64 c] w fun r w' => r = .returned (.func (.func 36) #[] #[.pointer (some ⟨w.heap.size, 0, none⟩), .pointer (some ⟨w.heap.size + 1, 0, none⟩)]) ∧
    w' = (w.alloc (.cells #[.bool b] 4)).alloc (.cells #[.int .i64 c] 23) := by
  go_enter Tryd.func28, Tryd.ntmps28
  go_wp2
  go_ret
  exact ⟨rfl, rfl⟩

theorem needs1_any (p q : Nat) (b : Bool) (c : Int) (w : World) (h1 : w.cell? ⟨p, 0, none⟩ = some (.bool b)) (h2 : w.cell? ⟨q, 0, none⟩ = some (.int .i64 c)) :
    Calls Tryd.prog 36 #[.pointer (some ⟨p, 0, none⟩), .pointer (some ⟨q, 0, none⟩)] w fun r w' => r = .returned (.int .i64 (if b then 0 else c)) ∧ w' = w := by
  cases b
  · go_enter Tryd.func36, Tryd.ntmps36
    go_wp2
    go_ret
    exact ⟨rfl, rfl⟩
  · go_enter Tryd.func36, Tryd.ntmps36
    go_wp2
    go_ret
    exact ⟨rfl, rfl⟩

theorem only_any (b : Bool) (f : FuncId) (cs : Array Value) (w : World) : Calls Tryd.prog 30 #[.bool b, .func (.func f) #[] cs] w fun r w' => r = .returned (if b then .func (.func f) #[] cs else .func (.func 38) #[] #[]) ∧ w' = w := by
  cases b
  · go_enter Tryd.func30, Tryd.ntmps30
    go_wp2
    go_ret
    exact ⟨rfl, rfl⟩
  · go_enter Tryd.func30, Tryd.ntmps30
    go_wp2
    go_ret
    exact ⟨rfl, rfl⟩

theorem only1_any (w : World) : Calls Tryd.prog 38 #[] w fun r w' => r = .returned (.int .i64 0) ∧ w' = w := by
  go_enter Tryd.func38, Tryd.ntmps38
  go_wp2
  go_ret
  exact ⟨rfl, rfl⟩

theorem expr_any (k n : Int) (ad : Option Addr) (m c : Nat) (w : World) : Calls Tryd.prog 31 #[.agg #[.int .i64 k, .int .i64 n, .slice ad m c]] w fun r w' => r = .returned (.func (.func 39) #[] #[.pointer (some ⟨w.heap.size, 0, none⟩)]) ∧
    w' = w.alloc (.cells #[.int .i64 k, .int .i64 n, .slice ad m c] 30) := by
  go_enter Tryd.func31, Tryd.ntmps31
  go_wp2
  go_ret
  exact ⟨rfl, rfl⟩

theorem cond_any (ck ak an bk bn : Int) (aad bad : Option Addr) (am ac bm bc : Nat) (w : World) : Calls Tryd.prog 32 #[.agg #[.int .i64 ck, .int .i64 ak, .int .i64 an, .slice aad am ac, .int .i64 bk, .int .i64 bn, .slice bad bm bc]] w fun r w' =>
    r = .returned (.func (.func 41) #[] #[.pointer (some ⟨w.heap.size, 0, none⟩)]) ∧ w' = w.alloc (.cells #[.int .i64 ck, .int .i64 ak, .int .i64 an, .slice aad am ac, .int .i64 bk, .int .i64 bn, .slice bad bm bc] 32) := by
  go_enter Tryd.func32, Tryd.ntmps32
  go_wp2
  go_ret
  exact ⟨rfl, rfl⟩
end Go.Proofs.YtfffpemgfddehaaDoor
