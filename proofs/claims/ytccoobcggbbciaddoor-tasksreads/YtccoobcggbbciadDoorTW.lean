import Derived.Test.YtccoobcggbbciadDoorTB
namespace Go.Proofs.YtccoobcggbbciadDoor
open Go.ChangeShapes Go.WideShapes Go.ChangeAt Go.RowKit

set_option maxRecDepth 20000 in
theorem within_any (w : World) (n a b : Int) : Calls Tryd.prog 49 #[.int .i64 n, .int .i64 a, .int .i64 b] w fun r w' => r = .returned (.bool (within n a b)) ∧ w' = w := by
  go_enter Tryd.func49, Tryd.ntmps49
  go_wp2_with fail
  all_goals
    go_ret
    refine ⟨?_, rfl⟩
    show Ending.returned (Value.bool _) = _
    congr 2
    unfold within
    first | (simp; done) | (simp; omega)

set_option maxRecDepth 20000 in
theorem few_any (w : World) (n : Int) : Calls Tryd.prog 22 #[.int .i64 n] w fun r w' => r = .returned (.bool (decide (n ≤ 5000))) ∧ w' = w := by
  go_enter Tryd.func22, Tryd.ntmps22
  go_wp2_with fail
  go_ret
  exact ⟨rfl, rfl⟩

theorem all_high {s : ByteArray} {pos : Nat} (h : pos < s.size) {P : UInt8 → Bool} (hb : P (s[pos]'h) = false) : s.data.toList.all P = false := by
  apply Bool.eq_false_iff.2
  intro ha
  have := List.all_eq_true.1 ha (s[pos]'h) (by
    have : s.data[pos]'h ∈ s.data.toList := Array.getElem_mem_toList h
    exact this)
  rw [hb] at this
  cases this

theorem all_done {s : ByteArray} {P : UInt8 → Bool} (ha : ∀ i (h : i < s.size), P (s[i]'h) = true) : s.data.toList.all P = true := by
  apply List.all_eq_true.2
  intro x hx
  obtain ⟨i, hi, rfl⟩ := List.getElem_of_mem hx
  exact ha i (by simpa using hi)

set_option maxRecDepth 20000 in
set_option maxHeartbeats 4000000 in
theorem allWithin_any (w : World) (s : ByteArray) : Calls Tryd.prog 113 #[.string s, .int .i32 97, .int .i32 122] w fun r w' => r = .returned (.bool (allLo s)) ∧ Below w.heap.size w w' := by
  go_enter Tryd.func113, Tryd.ntmps113
  go_wp2_with fail
  go_loopw [11] (fun _ w' => ∃ pos : Nat, w' = w.iter s pos ∧ pos ≤ s.size ∧ ∀ i (h : i < s.size), i < pos → (decide (97 ≤ (s[i]'h).toNat) && decide ((s[i]'h).toNat ≤ 122)) = true) (fun _ w' => s.size - w'.iterPos w.heap.size)
  case atStart => exact ⟨0, rfl, Nat.zero_le _, fun i _ h => by omega⟩
  case round =>
    obtain ⟨pos, rfl, hps, hok⟩ := hrel
    by_cases hp : pos < s.size
    · by_cases ha : (s[pos]'hp).toNat < 128
      · have hnx : ∀ ty, (Instr.next (.pointer (some ⟨w.heap.size, 0, none⟩)) true ty).run Tryd.prog (w.iter s pos) = .ok (.tuple #[.bool true, .int .i64 pos, .int .i32 (s[pos]'hp).toNat]) (w.iter s (pos + 1)) := fun ty => by rw [run_next_any w s pos ty hp, decode_ascii s pos hp ha]
        have hb : 0 ≤ ((s[pos]'hp).toNat : Int) := by omega
        by_cases hlo : 97 ≤ (s[pos]'hp).toNat
        · by_cases hhi : (s[pos]'hp).toNat ≤ 122
          · have g1 : ¬ ((s[pos]'hp).toNat : Int) < 97 := by omega
            have g2 : ¬ (122 : Int) < ((s[pos]'hp).toNat : Int) := by omega
            go_wp2_with fail
            go_roundw
            case rel =>
              refine ⟨pos + 1, rfl, by omega, fun i hi hlt => ?_⟩
              by_cases e : i = pos
              · subst e; simp [hlo, hhi]
              · exact hok i hi (by omega)
            case measure => simp; omega
          · have g1 : ¬ ((s[pos]'hp).toNat : Int) < 97 := by omega
            have g2 : (122 : Int) < ((s[pos]'hp).toNat : Int) := by omega
            have e : allLo s = false := all_high (P := fun b => decide (97 ≤ b.toNat) && decide (b.toNat ≤ 122)) hp (by simp; omega)
            go_wp2_with fail
            go_ret
            exact ⟨by first | rfl | (rw [e]; rfl), below_new _ _⟩
        · have g1 : ((s[pos]'hp).toNat : Int) < 97 := by omega
          have e : allLo s = false := all_high (P := fun b => decide (97 ≤ b.toNat) && decide (b.toNat ≤ 122)) hp (by simp; omega)
          go_wp2_with fail
          go_ret
          exact ⟨by first | rfl | (rw [e]; rfl), below_new _ _⟩
      · have hnx : ∀ ty, (Instr.next (.pointer (some ⟨w.heap.size, 0, none⟩)) true ty).run Tryd.prog (w.iter s pos) = _ := fun ty => run_next_any w s pos ty hp
        have hd := (decode_high s pos hp (by omega)).1
        have g1 : ¬ ((Utf8.decode s pos).1 : Int) < 97 := by omega
        have g2 : (122 : Int) < ((Utf8.decode s pos).1 : Int) := by omega
        have e : allLo s = false := all_high (P := fun b => decide (97 ≤ b.toNat) && decide (b.toNat ≤ 122)) hp (by simp; omega)
        go_wp2_with fail
        go_ret
        exact ⟨by first | rfl | (rw [e]; rfl), below_new _ _⟩
    · have hnx : ∀ ty, (Instr.next (.pointer (some ⟨w.heap.size, 0, none⟩)) true ty).run Tryd.prog (w.iter s pos) = _ := fun ty => run_next_end w s pos ty hp
      have e : allLo s = true := all_done (s := s) (P := fun b => decide (97 ≤ b.toNat) && decide (b.toNat ≤ 122)) (fun i hi => hok i hi (by omega))
      go_wp2_with fail
      go_ret
      exact ⟨by first | rfl | (rw [e]; rfl), below_new _ _⟩

set_option maxRecDepth 20000 in
theorem isName_any (w : World) (s : ByteArray) : Calls Tryd.prog 88 #[.string s] w fun r w' => r = .returned (.bool (isNm s)) ∧ Below w.heap.size w w' := by
  unfold isNm
  rcases hg : within (s.size : Int) 1 10 with _ | _
  · go_enter Tryd.func88, Tryd.ntmps88
    go_wp2_with (go_at_call 49; refine (within_any _ _ _ _).mono ?_; rintro r w1 ⟨rfl, rfl⟩; rw [hg])
    go_ret
    exact ⟨rfl, Below.refl _ _⟩
  · go_enter Tryd.func88, Tryd.ntmps88
    go_wp2_with (go_at_call 49; refine (within_any _ _ _ _).mono ?_; rintro r w1 ⟨rfl, rfl⟩; rw [hg])
    go_wp2_with (go_at_call 113; refine (allWithin_any _ _).mono ?_; rintro r w1 ⟨rfl, hb⟩)
    go_ret
    exact ⟨rfl, hb⟩

theorem F_ends {w : World} {g : Nat} {c k : Value} {a : Act} (h : w.heap[g]? = some (.cells #[c, k] 37 (0, 0))) (h3 : a.tmps[4]?.getD undef = .pointer (some ⟨g, 0, none⟩)) :
    (results Tryd.f21 a.tmps).run Tryd.prog w = .ok (.agg #[c, k]) w := by
  obtain ⟨c1, f1, l1⟩ := cells_of (l := [_, _]) h
  have c10 := c1 0 _ rfl
  have c11 := c1 1 _ rfl
  simp [results, Tryd.results21, go_sem, h3, c10, c11]

set_option maxRecDepth 20000 in
theorem F_any (w : World) (a b : Int) : Calls Tryd.prog 21 #[.int .i64 a, .int .i64 b] w fun r w' => r = .returned (.agg #[.int .i64 a, .int .i64 b]) ∧ Below w.heap.size w w' := by
  go_enter Tryd.func21, Tryd.ntmps21
  go_wp2_with fail
  refine bodyPost_ret (F_ends (heap_alloc_new _ _) rfl) rfl ?_
  exact ⟨rfl, below_new _ _⟩

set_option maxRecDepth 20000 in
theorem mayStand_any (w : World) (x : Ta) : Calls Tryd.prog 90 #[x.val] w fun r w' => r = .returned (.bool (stands x)) ∧ Below w.heap.size w w' := by
  obtain ⟨nm, c, t, d, j, o, p⟩ := x
  unfold stands Ta.val
  dsimp only
  have H1 := below_new w (.cells #[.string nm, .int .i64 c, .int .i64 t, .int .i64 d, .int .i64 j, .int .i64 o, .int .i64 p] 55)
  rcases h1 : within c 1 10000 with _ | _
  · go_enter Tryd.func90, Tryd.ntmps90
    go_wp2_with (go_at_call 49; refine (within_any _ _ _ _).mono ?_; rintro r w1 ⟨rfl, rfl⟩; first | rw [h1] | rw [h2] | rw [h3] | rw [h4] | rw [h5] | skip)
    go_ret
    exact ⟨rfl, H1⟩
  rcases h2 : within t 1 10000 with _ | _
  · go_enter Tryd.func90, Tryd.ntmps90
    go_wp2_with (go_at_call 49; refine (within_any _ _ _ _).mono ?_; rintro r w1 ⟨rfl, rfl⟩; first | rw [h1] | rw [h2] | rw [h3] | rw [h4] | rw [h5] | skip)
    go_ret
    exact ⟨rfl, H1⟩
  rcases h3 : within d 1 10000 with _ | _
  · go_enter Tryd.func90, Tryd.ntmps90
    go_wp2_with (go_at_call 49; refine (within_any _ _ _ _).mono ?_; rintro r w1 ⟨rfl, rfl⟩; first | rw [h1] | rw [h2] | rw [h3] | rw [h4] | rw [h5] | skip)
    go_ret
    exact ⟨rfl, H1⟩
  rcases h4 : within j 0 10000 with _ | _
  · go_enter Tryd.func90, Tryd.ntmps90
    go_wp2_with (go_at_call 49; refine (within_any _ _ _ _).mono ?_; rintro r w1 ⟨rfl, rfl⟩; first | rw [h1] | rw [h2] | rw [h3] | rw [h4] | rw [h5] | skip)
    go_ret
    exact ⟨rfl, H1⟩
  rcases h5 : within o 0 10000 with _ | _
  · go_enter Tryd.func90, Tryd.ntmps90
    go_wp2_with (go_at_call 49; refine (within_any _ _ _ _).mono ?_; rintro r w1 ⟨rfl, rfl⟩; first | rw [h1] | rw [h2] | rw [h3] | rw [h4] | rw [h5] | skip)
    go_ret
    exact ⟨rfl, H1⟩
  go_enter Tryd.func90, Tryd.ntmps90
  go_wp2_with (go_at_call 49; refine (within_any _ _ _ _).mono ?_; rintro r w1 ⟨rfl, rfl⟩; first | rw [h1] | rw [h2] | rw [h3] | rw [h4] | rw [h5] | skip)
  go_ret
  exact ⟨rfl, H1⟩
end Go.Proofs.YtccoobcggbbciadDoor
