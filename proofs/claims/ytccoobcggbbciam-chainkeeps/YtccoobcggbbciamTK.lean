import Derived.Test.YtccoobcggbbciamHA0
namespace Go.Proofs.Ytccoobcggbbciam
open Go.ChangeShapes Go.WideShapes Go.ChangeAt Go.RowKit

set_option maxRecDepth 20000 in
theorem within_any (w : World) (n a b : Int) : Calls Try.prog 75 #[.int .i64 n, .int .i64 a, .int .i64 b] w fun r w' => r = .returned (.bool (within n a b)) ∧ w' = w := by
  go_enter Try.func75, Try.ntmps75
  go_wp2_with fail
  all_goals
    go_ret
    refine ⟨?_, rfl⟩
    show Ending.returned (Value.bool _) = _
    congr 2
    unfold within
    first | (simp; done) | (simp; omega)

set_option maxRecDepth 20000 in
theorem few_any (w : World) (n : Int) : Calls Try.prog 5 #[.int .i64 n] w fun r w' => r = .returned (.bool (decide (n ≤ 5000))) ∧ w' = w := by
  go_enter Try.func5, Try.ntmps5
  go_wp2_with fail
  go_ret
  exact ⟨rfl, rfl⟩

theorem all_high {s : ByteArray} {pos : Nat} (h : pos < s.size) {P : UInt8 → Bool} (hb : P (s[pos]'h) = false) : s.data.toList.all P = false := by
  apply Bool.eq_false_iff.2
  intro ha
  have := List.all_eq_true.1 ha (s[pos]'h) (by
    have : s.data[pos]'h ∈ s.data.toList := Array.getElem_mem_toList h
    exact this)
  rw [hb] at this
  cases this

theorem all_done {s : ByteArray} {P : UInt8 → Bool} (ha : ∀ i (h : i < s.size), P (s[i]'h) = true) : s.data.toList.all P = true := by
  apply List.all_eq_true.2
  intro x hx
  obtain ⟨i, hi, rfl⟩ := List.getElem_of_mem hx
  exact ha i (by simpa using hi)

set_option maxRecDepth 20000 in
set_option maxHeartbeats 4000000 in
theorem allWithin_any (w : World) (s : ByteArray) : Calls Try.prog 83 #[.string s, .int .i32 97, .int .i32 122] w fun r w' => r = .returned (.bool (allLo s)) ∧ Below w.heap.size w w' := by
  go_enter Try.func83, Try.ntmps83
  go_wp2_with fail
  go_loopw [11] (fun _ w' => ∃ pos : Nat, w' = w.iter s pos ∧ pos ≤ s.size ∧ ∀ i (h : i < s.size), i < pos → (decide (97 ≤ (s[i]'h).toNat) && decide ((s[i]'h).toNat ≤ 122)) = true) (fun _ w' => s.size - w'.iterPos w.heap.size)
  case atStart => exact ⟨0, rfl, Nat.zero_le _, fun i _ h => by omega⟩
  case round =>
    obtain ⟨pos, rfl, hps, hok⟩ := hrel
    by_cases hp : pos < s.size
    · by_cases ha : (s[pos]'hp).toNat < 128
      · have hnx : ∀ ty, (Instr.next (.pointer (some ⟨w.heap.size, 0, none⟩)) true ty).run Try.prog (w.iter s pos) = .ok (.tuple #[.bool true, .int .i64 pos, .int .i32 (s[pos]'hp).toNat]) (w.iter s (pos + 1)) := fun ty => by rw [run_next_any w s pos ty hp, decode_ascii s pos hp ha]
        have hb : 0 ≤ ((s[pos]'hp).toNat : Int) := by omega
        by_cases hlo : 97 ≤ (s[pos]'hp).toNat
        · by_cases hhi : (s[pos]'hp).toNat ≤ 122
          · have g1 : ¬ ((s[pos]'hp).toNat : Int) < 97 := by omega
            have g2 : ¬ (122 : Int) < ((s[pos]'hp).toNat : Int) := by omega
            go_wp2_with fail
            go_roundw
            case rel =>
              refine ⟨pos + 1, rfl, by omega, fun i hi hlt => ?_⟩
              by_cases e : i = pos
              · subst e; simp [hlo, hhi]
              · exact hok i hi (by omega)
            case measure => simp; omega
          · have g1 : ¬ ((s[pos]'hp).toNat : Int) < 97 := by omega
            have g2 : (122 : Int) < ((s[pos]'hp).toNat : Int) := by omega
            have e : allLo s = false := all_high (P := fun b => decide (97 ≤ b.toNat) && decide (b.toNat ≤ 122)) hp (by simp; omega)
            go_wp2_with fail
            go_ret
            exact ⟨by first | rfl | (rw [e]; rfl), below_new _ _⟩
        · have g1 : ((s[pos]'hp).toNat : Int) < 97 := by omega
          have e : allLo s = false := all_high (P := fun b => decide (97 ≤ b.toNat) && decide (b.toNat ≤ 122)) hp (by simp; omega)
          go_wp2_with fail
          go_ret
          exact ⟨by first | rfl | (rw [e]; rfl), below_new _ _⟩
      · have hnx : ∀ ty, (Instr.next (.pointer (some ⟨w.heap.size, 0, none⟩)) true ty).run Try.prog (w.iter s pos) = _ := fun ty => run_next_any w s pos ty hp
        have hd := (decode_high s pos hp (by omega)).1
        have g1 : ¬ ((Utf8.decode s pos).1 : Int) < 97 := by omega
        have g2 : (122 : Int) < ((Utf8.decode s pos).1 : Int) := by omega
        have e : allLo s = false := all_high (P := fun b => decide (97 ≤ b.toNat) && decide (b.toNat ≤ 122)) hp (by simp; omega)
        go_wp2_with fail
        go_ret
        exact ⟨by first | rfl | (rw [e]; rfl), below_new _ _⟩
    · have hnx : ∀ ty, (Instr.next (.pointer (some ⟨w.heap.size, 0, none⟩)) true ty).run Try.prog (w.iter s pos) = _ := fun ty => run_next_end w s pos ty hp
      have e : allLo s = true := all_done (s := s) (P := fun b => decide (97 ≤ b.toNat) && decide (b.toNat ≤ 122)) (fun i hi => hok i hi (by omega))
      go_wp2_with fail
      go_ret
      exact ⟨by first | rfl | (rw [e]; rfl), below_new _ _⟩

set_option maxRecDepth 20000 in
theorem isName_any (w : World) (s : ByteArray) : Calls Try.prog 79 #[.string s] w fun r w' => r = .returned (.bool (isNm s)) ∧ Below w.heap.size w w' := by
  unfold isNm
  rcases hg : within (s.size : Int) 1 10 with _ | _
  · go_enter Try.func79, Try.ntmps79
    go_wp2_with (go_at_call 75; refine (within_any _ _ _ _).mono ?_; rintro r w1 ⟨rfl, rfl⟩; rw [hg])
    go_ret
    exact ⟨rfl, Below.refl _ _⟩
  · go_enter Try.func79, Try.ntmps79
    go_wp2_with (go_at_call 75; refine (within_any _ _ _ _).mono ?_; rintro r w1 ⟨rfl, rfl⟩; rw [hg])
    go_wp2_with (go_at_call 83; refine (allWithin_any _ _).mono ?_; rintro r w1 ⟨rfl, hb⟩)
    go_ret
    exact ⟨rfl, hb⟩

set_option maxRecDepth 20000 in
theorem mayStand_any (w : World) (x : Ta) : Calls Try.prog 81 #[x.val] w fun r w' => r = .returned (.bool (stands x)) ∧ Below w.heap.size w w' := by
  obtain ⟨nm, c, t, d, j, o, p⟩ := x
  unfold stands Ta.val
  dsimp only
  have H1 := below_new w (.cells #[.string nm, .int .i64 c, .int .i64 t, .int .i64 d, .int .i64 j, .int .i64 o, .int .i64 p] 85)
  rcases h1 : within c 1 10000 with _ | _
  · go_enter Try.func81, Try.ntmps81
    go_wp2_with (go_at_call 75; refine (within_any _ _ _ _).mono ?_; rintro r w1 ⟨rfl, rfl⟩; first | rw [h1] | rw [h2] | rw [h3] | rw [h4] | rw [h5] | skip)
    go_ret
    exact ⟨rfl, H1⟩
  rcases h2 : within t 1 10000 with _ | _
  · go_enter Try.func81, Try.ntmps81
    go_wp2_with (go_at_call 75; refine (within_any _ _ _ _).mono ?_; rintro r w1 ⟨rfl, rfl⟩; first | rw [h1] | rw [h2] | rw [h3] | rw [h4] | rw [h5] | skip)
    go_ret
    exact ⟨rfl, H1⟩
  rcases h3 : within d 1 10000 with _ | _
  · go_enter Try.func81, Try.ntmps81
    go_wp2_with (go_at_call 75; refine (within_any _ _ _ _).mono ?_; rintro r w1 ⟨rfl, rfl⟩; first | rw [h1] | rw [h2] | rw [h3] | rw [h4] | rw [h5] | skip)
    go_ret
    exact ⟨rfl, H1⟩
  rcases h4 : within j 0 10000 with _ | _
  · go_enter Try.func81, Try.ntmps81
    go_wp2_with (go_at_call 75; refine (within_any _ _ _ _).mono ?_; rintro r w1 ⟨rfl, rfl⟩; first | rw [h1] | rw [h2] | rw [h3] | rw [h4] | rw [h5] | skip)
    go_ret
    exact ⟨rfl, H1⟩
  rcases h5 : within o 0 10000 with _ | _
  · go_enter Try.func81, Try.ntmps81
    go_wp2_with (go_at_call 75; refine (within_any _ _ _ _).mono ?_; rintro r w1 ⟨rfl, rfl⟩; first | rw [h1] | rw [h2] | rw [h3] | rw [h4] | rw [h5] | skip)
    go_ret
    exact ⟨rfl, H1⟩
  go_enter Try.func81, Try.ntmps81
  go_wp2_with (go_at_call 75; refine (within_any _ _ _ _).mono ?_; rintro r w1 ⟨rfl, rfl⟩; first | rw [h1] | rw [h2] | rw [h3] | rw [h4] | rw [h5] | skip)
  go_ret
  exact ⟨rfl, H1⟩
end Go.Proofs.Ytccoobcggbbciam
namespace Go.Proofs.Ytccoobcggbbciam
open Go.ChangeShapes Go.WideShapes Go.ChangeAt Go.RowKit

set_option maxRecDepth 20000 in
theorem sameName_any (w : World) (y x : Ta) (g : Nat) (hx : w.cell? ⟨g, 0, none⟩ = some (.string x.nm)) : Calls Try.prog 78 #[y.val, .pointer (some ⟨g, 0, none⟩)] w fun r w' => r = .returned (.bool (sameNm y.nm x.nm)) ∧ Below w.heap.size w w' := by
  obtain ⟨nm, c, t, d, j, o, p⟩ := y
  unfold Ta.val
  dsimp only
  generalize x.nm = s at *
  have hlt : g < w.heap.size := World.block_lt_of_cell? _ _ hx
  go_enter Try.func78, Try.ntmps78
  go_wp2_with fail
  go_ret
  exact ⟨rfl, below_new _ _⟩

/-- A part of a slice, from its beginning. -/
theorem RowSl.take {α : Type} {f : α → List Value} {w : World} {l : List α} {ad : Option Addr} {n c : Nat} (h : RowSl f w l (.slice ad n c)) (k : Nat) (hk : k ≤ l.length) : RowSl f w (l.take k) (.slice ad k c) := by
  obtain ⟨ad', c', e, h1, h2, h3⟩ := h
  cases e
  have hl : (l.take k).length = k := by simp; omega
  refine ⟨ad, c, by rw [hl], fun e => ⟨by rw [hl]; have := (h1 e).1; omega, (h1 e).2⟩, by omega, ?_⟩
  rcases h3 with h3 | ⟨b, o, e, h3⟩
  · subst h3; exact .inl (by simp)
  · refine .inr ⟨b, o, e, fun q u hq => h3 q u ?_⟩
    have e2 : l.flatMap f = (l.take k).flatMap f ++ (l.drop k).flatMap f := by rw [← List.flatMap_append, List.take_append_drop]
    rw [e2, List.getElem?_append_left (List.getElem?_eq_some_iff.1 hq).1]
    exact hq

/-- The first that has that name. -/
def findNm (s : ByteArray) : List Ta → Nat → Int
  | [], _ => -1
  | y :: r, k => if sameNm y.nm s = true then (k : Int) else findNm s r (k + 1)

theorem findNm_any (s : ByteArray) : ∀ (l : List Ta) (k : Nat), decide (0 ≤ findNm s l k) = l.any (fun y => sameNm y.nm s)
  | [], k => by simp [findNm]
  | y :: r, k => by
    by_cases h : sameNm y.nm s = true
    · simp [findNm, h]
    · simp [findNm, h, ← findNm_any s r (k + 1)]

set_option maxRecDepth 20000 in
set_option maxHeartbeats 4000000 in
theorem indexFunc_any (w : World) (l : List Ta) (v : Value) (x : Ta) (g : Nat) (hl : l.length ≤ 1000000) (hv : RowSl Ta.vals w l v) (hx : w.cell? ⟨g, 0, none⟩ = some (.string x.nm)) : Calls Try.prog 65 #[v, .func (Fn.func 78) #[] #[.pointer (some ⟨g, 0, none⟩)]] w fun r w' => r = .returned (.int .i64 (findNm x.nm l 0)) ∧ Below w.heap.size w w' := by
  obtain ⟨ad, c, rfl, -, hcap, hrow⟩ := hv
  go_enter Try.func65, Try.ntmps65
  go_wp2_with fail
  have HR : Hid (_ ∧ _) := ⟨hrow, hx⟩
  clear hrow hx
  go_loopw [8] (fun i wr => ∃ j : Nat, j ≤ l.length ∧ i = .int .i64 j ∧ Below w.heap.size w wr ∧ findNm x.nm (l.drop j) j = findNm x.nm l 0) (fun i _ => l.length - (intOf i).toNat)
  case atStart => exact ⟨0, Nat.zero_le _, rfl, Below.refl _ _, rfl⟩
  case round =>
    obtain ⟨j, hj, rfl, hb, hf⟩ := hrel
    by_cases hlt : j < l.length
    · obtain ⟨y, hy, hd⟩ := drop_at hlt
      rw [hd, findNm] at hf
      rcases HR.out.1 with h | ⟨b, o, rfl, hrow⟩
      · rw [h] at hlt; simp at hlt
      have ha := ta_at (fun q u hq => below_cell hb (hrow q u hq)) hy
      have hx := below_cell hb HR.out.2
      obtain ⟨c0, c1, c2, c3, c4, c5, c6⟩ := ha
      have HY := sameName_any wr y x g hx
      unfold Ta.val at HY
      have HB : Hid (Below w.heap.size w wr) := hb
      have HF : Hid (_ = _) := hf
      clear hrow hb hf
      obtain ⟨nm, yc, yt, yd, yj, yo, yp⟩ := y
      dsimp only at *
      go_wp2_with (go_at_call 78; refine HY.mono ?_; rintro r w1 ⟨rfl, hb1⟩)
      · have e := HF.out
        rw [if_pos ‹_›] at e
        go_ret
        exact ⟨by rw [← e]; rfl, below_seq HB.out hb1⟩
      · have e := HF.out
        rw [if_neg (by simp [*])] at e
        exact ⟨⟨j + 1, by omega, by simp, below_seq HB.out hb1, e⟩, by simp [intOf]; omega⟩
    · have hje : j = l.length := by omega
      subst hje
      rw [List.drop_length, findNm] at hf
      go_wp2_with fail
      go_ret
      exact ⟨by rw [← hf]; rfl, hb⟩

set_option maxRecDepth 20000 in
theorem containsFunc_any (w : World) (l : List Ta) (v : Value) (x : Ta) (g : Nat) (hl : l.length ≤ 1000000) (hv : RowSl Ta.vals w l v) (hx : w.cell? ⟨g, 0, none⟩ = some (.string x.nm)) : Calls Try.prog 80 #[v, .func (Fn.func 78) #[] #[.pointer (some ⟨g, 0, none⟩)]] w fun r w' => r = .returned (.bool (l.any fun y => sameNm y.nm x.nm)) ∧ Below w.heap.size w w' := by
  rw [← findNm_any x.nm l 0]
  have HI := indexFunc_any w l v x g hl hv hx
  obtain ⟨ad, c, rfl, -⟩ := hv
  go_enter Try.func80, Try.ntmps80
  go_wp2_with (go_at_call 65; refine HI.mono ?_; rintro r w1 ⟨rfl, hb1⟩)
  go_ret
  exact ⟨rfl, hb1⟩

set_option maxRecDepth 20000 in
set_option maxHeartbeats 4000000 in
theorem wrong_any (w : World) (x : Ta) (l : List Ta) (v : Value) (hl : l.length ≤ 1000000) (hv : RowSl Ta.vals w l v) : Calls Try.prog 76 #[x.val, v] w fun r w' => r = .returned (.int .i64 (wrongF x l)) ∧ Below w.heap.size w w' := by
  have hv1 := hv.below (below_new w (.cells #[.string x.nm, .int .i64 x.c, .int .i64 x.t, .int .i64 x.d, .int .i64 x.j, .int .i64 x.o, .int .i64 x.p] 85))
  have HV : Hid (RowSl Ta.vals (w.alloc (.cells #[.string x.nm, .int .i64 x.c, .int .i64 x.t, .int .i64 x.d, .int .i64 x.j, .int .i64 x.o, .int .i64 x.p] 85)) l v) := hv1
  have H0 := below_new w (.cells #[.string x.nm, .int .i64 x.c, .int .i64 x.t, .int .i64 x.d, .int .i64 x.j, .int .i64 x.o, .int .i64 x.p] 85)
  obtain ⟨ad, c, rfl, -⟩ := hv
  clear hv1
  unfold wrongF
  have HM := mayStand_any
  unfold Ta.val at HM ⊢
  rcases h1 : isNm x.nm with _ | _
  · go_enter Try.func76, Try.ntmps76
    go_wp2_with (go_at_call 79; refine (isName_any _ _).mono ?_; rintro r w1 ⟨rfl, hb1⟩; rw [h1])
    go_ret
    exact ⟨rfl, below_seq H0 hb1⟩
  rcases h2 : l.any (fun y => sameNm y.nm x.nm) with _ | _
  · rcases h3 : stands x with _ | _
    · go_enter Try.func76, Try.ntmps76
      go_wp2_with (go_at_call 79; refine (isName_any _ _).mono ?_; rintro r w1 ⟨rfl, hb1⟩; rw [h1]; have hcx : w1.cell? ⟨w.heap.size, 0, none⟩ = some (.string x.nm) := below_cell hb1 (by go_simp); have HC := containsFunc_any w1 l (.slice ad l.length c) x w.heap.size hl (HV.out.below hb1) hcx; have H1 : Hid (Below (w.alloc (.cells #[.string x.nm, .int .i64 x.c, .int .i64 x.t, .int .i64 x.d, .int .i64 x.j, .int .i64 x.o, .int .i64 x.p] 85)).heap.size (w.alloc (.cells #[.string x.nm, .int .i64 x.c, .int .i64 x.t, .int .i64 x.d, .int .i64 x.j, .int .i64 x.o, .int .i64 x.p] 85)) w1) := hb1; clear hcx hb1)
      go_wp2_with (go_at_call 80; refine HC.mono ?_; rintro r w2 ⟨rfl, hb2⟩; rw [h2]; have H2 : Hid (Below (w.alloc (.cells #[.string x.nm, .int .i64 x.c, .int .i64 x.t, .int .i64 x.d, .int .i64 x.j, .int .i64 x.o, .int .i64 x.p] 85)).heap.size (w.alloc (.cells #[.string x.nm, .int .i64 x.c, .int .i64 x.t, .int .i64 x.d, .int .i64 x.j, .int .i64 x.o, .int .i64 x.p] 85)) w2) := below_seq H1.out hb2; have d0 : w2.cell? ⟨w.heap.size, 0, none⟩ = some (.string x.nm) := below_cell H2.out (by go_simp); have d1 : w2.cell? ⟨w.heap.size, 1, none⟩ = some (.int .i64 x.c) := below_cell H2.out (by go_simp); have d2 : w2.cell? ⟨w.heap.size, 2, none⟩ = some (.int .i64 x.t) := below_cell H2.out (by go_simp); have d3 : w2.cell? ⟨w.heap.size, 3, none⟩ = some (.int .i64 x.d) := below_cell H2.out (by go_simp); have d4 : w2.cell? ⟨w.heap.size, 4, none⟩ = some (.int .i64 x.j) := below_cell H2.out (by go_simp); have d5 : w2.cell? ⟨w.heap.size, 5, none⟩ = some (.int .i64 x.o) := below_cell H2.out (by go_simp); have d6 : w2.cell? ⟨w.heap.size, 6, none⟩ = some (.int .i64 x.p) := below_cell H2.out (by go_simp); clear HC hb2)
      go_wp2_with (go_at_call 81; refine (HM _ x).mono ?_; rintro r w3 ⟨rfl, hb3⟩; rw [h3])
      go_ret
      exact ⟨rfl, below_seq (below_seq H0 H2.out) hb3⟩
    · go_enter Try.func76, Try.ntmps76
      go_wp2_with (go_at_call 79; refine (isName_any _ _).mono ?_; rintro r w1 ⟨rfl, hb1⟩; rw [h1]; have hcx : w1.cell? ⟨w.heap.size, 0, none⟩ = some (.string x.nm) := below_cell hb1 (by go_simp); have HC := containsFunc_any w1 l (.slice ad l.length c) x w.heap.size hl (HV.out.below hb1) hcx; have H1 : Hid (Below (w.alloc (.cells #[.string x.nm, .int .i64 x.c, .int .i64 x.t, .int .i64 x.d, .int .i64 x.j, .int .i64 x.o, .int .i64 x.p] 85)).heap.size (w.alloc (.cells #[.string x.nm, .int .i64 x.c, .int .i64 x.t, .int .i64 x.d, .int .i64 x.j, .int .i64 x.o, .int .i64 x.p] 85)) w1) := hb1; clear hcx hb1)
      go_wp2_with (go_at_call 80; refine HC.mono ?_; rintro r w2 ⟨rfl, hb2⟩; rw [h2]; have H2 : Hid (Below (w.alloc (.cells #[.string x.nm, .int .i64 x.c, .int .i64 x.t, .int .i64 x.d, .int .i64 x.j, .int .i64 x.o, .int .i64 x.p] 85)).heap.size (w.alloc (.cells #[.string x.nm, .int .i64 x.c, .int .i64 x.t, .int .i64 x.d, .int .i64 x.j, .int .i64 x.o, .int .i64 x.p] 85)) w2) := below_seq H1.out hb2; have d0 : w2.cell? ⟨w.heap.size, 0, none⟩ = some (.string x.nm) := below_cell H2.out (by go_simp); have d1 : w2.cell? ⟨w.heap.size, 1, none⟩ = some (.int .i64 x.c) := below_cell H2.out (by go_simp); have d2 : w2.cell? ⟨w.heap.size, 2, none⟩ = some (.int .i64 x.t) := below_cell H2.out (by go_simp); have d3 : w2.cell? ⟨w.heap.size, 3, none⟩ = some (.int .i64 x.d) := below_cell H2.out (by go_simp); have d4 : w2.cell? ⟨w.heap.size, 4, none⟩ = some (.int .i64 x.j) := below_cell H2.out (by go_simp); have d5 : w2.cell? ⟨w.heap.size, 5, none⟩ = some (.int .i64 x.o) := below_cell H2.out (by go_simp); have d6 : w2.cell? ⟨w.heap.size, 6, none⟩ = some (.int .i64 x.p) := below_cell H2.out (by go_simp); clear HC hb2)
      go_wp2_with (go_at_call 81; refine (HM _ x).mono ?_; rintro r w3 ⟨rfl, hb3⟩; rw [h3]; have H3 : Hid (Below w2.heap.size w2 w3) := hb3; have e1 := below_cell hb3 d1; have e3 := below_cell hb3 d3; clear d0 d1 d2 d3 d4 d5 d6 hb3)
      all_goals
        go_ret
        refine ⟨?_, below_seq (below_seq H0 H2.out) H3.out⟩
        first
          | (rw [if_pos (by omega)]; rfl)
          | (rw [if_neg (by omega)]; rfl)
          | rfl
  · go_enter Try.func76, Try.ntmps76
    go_wp2_with (go_at_call 79; refine (isName_any _ _).mono ?_; rintro r w1 ⟨rfl, hb1⟩; rw [h1]; have hcx : w1.cell? ⟨w.heap.size, 0, none⟩ = some (.string x.nm) := below_cell hb1 (by go_simp); have HC := containsFunc_any w1 l (.slice ad l.length c) x w.heap.size hl (HV.out.below hb1) hcx; have H1 : Hid (Below (w.alloc (.cells #[.string x.nm, .int .i64 x.c, .int .i64 x.t, .int .i64 x.d, .int .i64 x.j, .int .i64 x.o, .int .i64 x.p] 85)).heap.size (w.alloc (.cells #[.string x.nm, .int .i64 x.c, .int .i64 x.t, .int .i64 x.d, .int .i64 x.j, .int .i64 x.o, .int .i64 x.p] 85)) w1) := hb1; clear hcx hb1)
    go_wp2_with (go_at_call 80; refine HC.mono ?_; rintro r w2 ⟨rfl, hb2⟩; rw [h2])
    go_ret
    exact ⟨rfl, below_seq (below_seq H0 H1.out) hb2⟩
end Go.Proofs.Ytccoobcggbbciam
namespace Go.Proofs.Ytccoobcggbbciam
open Go.ChangeShapes Go.WideShapes Go.ChangeAt Go.RowKit

theorem take_at {P : Program} {md : Region.Mode} {ops : Array Oper} {Q : Exit → Act → World → Prop} {S : World → Prop} {i n : Nat} {oi : Oper} {v : Value} {fuel : Nat} {listed : Array Bool} {l : List Value} {ds : List Deferred} {w : World}
    (hi : ops[i]? = some oi) (hd : oi.dst = some n) (hs : Region.noSelect ops = true) (hf : Region.free md ops listed i = true) (hr : (Region.ready md ops listed).contains i = true)
    (hQ : ∀ c a w, Q (.panic c) (a.put oi.dst v) w → Q (.panic c) a w) (hy : YieldsIf P ops S oi v ⟨l.toArray, ds⟩) (hS : S w)
    (h : wpAnyH P md ops Q S fuel (listed.setIfInBounds i true) ⟨(l.set n v).toArray, ds⟩ w) : wpAnyH P md ops Q S (fuel + 1) listed ⟨l.toArray, ds⟩ w := by
  refine wpAnyH_take hi hs hf hr hQ hy hS ?_
  have e : Act.put ⟨l.toArray, ds⟩ oi.dst v = ⟨(l.set n v).toArray, ds⟩ := by rw [hd]; simp [Act.put]
  rw [e]
  exact h

theorem setCell_at {w : World} {g i : Nat} {cs : Array Value} {t : TypeId} {fr : Nat × Nat} {u : Value} (h : w.heap[g]? = some (.cells cs t fr)) : (w.setCell ⟨g, i, none⟩ u).heap[g]? = some (.cells (cs.setIfInBounds i u) t fr) := by
  have hlt : g < w.heap.size := (Array.getElem?_eq_some_iff.1 h).1
  have h' : w.heap[g] = .cells cs t fr := by simpa [Array.getElem?_eq_getElem hlt] using h
  show (w.heap.modify g _)[g]? = _
  rw [Array.getElem?_eq_getElem (by simpa using hlt), Array.getElem_modify_self, h']
  rfl

theorem set_two {w9 : World} {g : Nat} {a b x y : Value} (h : w9.heap[g]? = some (.cells #[x, y] 29 (0, 0))) : ((w9.setCell ⟨g, 0, none⟩ a).setCell ⟨g, 1, none⟩ b).heap[g]? = some (.cells #[a, b] 29 (0, 0)) := by
  rw [setCell_at (setCell_at h)]
  rfl

/-- A block for a fault, and nothing else below it turned. -/
structure FB (w W : World) (g : Nat) : Prop where
  bel : Below w.heap.size w W
  res : W.heap[g]? = some (.cells #[.int .i64 0, .int .i64 0] 29 (0, 0))
  low : w.heap.size ≤ g

theorem FB.grow {w W W' : World} {g : Nat} (h : FB w W g) (hb : Below W.heap.size W W') : FB w W' g :=
  ⟨below_seq h.bel hb, (hb.block g (Array.getElem?_eq_some_iff.1 h.res).1).trans h.res, h.low⟩

theorem FB.start (w : World) : FB w (w.alloc (.cells #[.int .i64 0, .int .i64 0] 29)) w.heap.size := ⟨below_new _ _, heap_alloc_new _ _, Nat.le_refl _⟩

theorem FB.lt {w W : World} {g : Nat} (h : FB w W g) : g < W.heap.size := (Array.getElem?_eq_some_iff.1 h.res).1

theorem FB.set {w W : World} {g : Nat} (h : FB w W g) (a b : Value) : Below w.heap.size w ((W.setCell ⟨g, 0, none⟩ a).setCell ⟨g, 1, none⟩ b) := (h.bel.setCell h.low _).setCell h.low _

theorem Check_ends {w : World} {g : Nat} {c k : Value} {a : Act} (h : w.heap[g]? = some (.cells #[c, k] 29 (0, 0))) (h3 : a.tmps[2]?.getD undef = .pointer (some ⟨g, 0, none⟩)) :
    (results Try.f64 a.tmps).run Try.prog w = .ok (.agg #[c, k]) w := by
  obtain ⟨c1, f1, l1⟩ := cells_of (l := [_, _]) h
  have c10 := c1 0 _ rfl
  have c11 := c1 1 _ rfl
  simp [results, Try.results64, go_sem, h3, c10, c11]

set_option maxRecDepth 20000 in
theorem Check_many (w : World) (n c : Nat) (ad : Option Addr) (h : n = 0 ∨ 8 < n) : Calls Try.prog 64 #[.slice ad n c] w fun r w' => r = .returned (.agg #[.int .i64 2, .int .i64 0]) ∧ Below w.heap.size w w' := by
  have hw : within (n : Int) 1 8 = false := by unfold within; simp; omega
  go_enter Try.func64, Try.ntmps64
  go_wp2_with (go_at_call 75; refine (within_any _ _ _ _).mono ?_; rintro r w1 ⟨rfl, rfl⟩; rw [hw])
  refine bodyPost_ret (Check_ends (heap_alloc_new _ _) rfl) rfl ?_
  exact ⟨rfl, below_new _ _⟩

set_option maxRecDepth 20000 in
set_option maxHeartbeats 4000000 in
theorem Check_few (w : World) (l : List Ta) (ad : Option Addr) (c : Nat) (h1 : l.length ≠ 0) (h8 : l.length ≤ 8) (hv : RowSl Ta.vals w l (.slice ad l.length c)) : Calls Try.prog 64 #[.slice ad l.length c] w fun r w' => r = .returned (.agg #[.int .i64 (chkFrom l l 0).1, .int .i64 (chkFrom l l 0).2]) ∧ Below w.heap.size w w' := by
  have hw : within (l.length : Int) 1 8 = true := by unfold within; simp; omega
  have HV : Hid (RowSl Ta.vals w l (.slice ad l.length c)) := hv
  obtain ⟨_, _, e, -, hcap, hrow⟩ := hv
  cases e
  rcases hrow with h | ⟨b, o, rfl, hrow⟩
  · rw [h] at h1; simp at h1
  have HR : Hid (∀ q u, (l.flatMap Ta.vals)[q]? = some u → w.cell? ⟨b, o + q, none⟩ = some u) := hrow
  clear hrow
  go_enter Try.func64, Try.ntmps64
  go_wp2_with (go_at_call 75; refine (within_any _ _ _ _).mono ?_; rintro r w1 ⟨rfl, rfl⟩; rw [hw])
  go_loopw [13] (fun i wr => ∃ j : Nat, j ≤ l.length ∧ i = .int .i64 j ∧ FB w wr w.heap.size ∧ chkFrom l (l.drop j) j = chkFrom l l 0) (fun i _ => l.length - (intOf i).toNat)
  case atStart => exact ⟨0, Nat.zero_le _, rfl, FB.start _, rfl⟩
  case round =>
    obtain ⟨j, hj, rfl, hb, hf⟩ := hrel
    by_cases hlt : j < l.length
    · obtain ⟨x, hx, hd⟩ := drop_at hlt
      rw [chkFrom_at hd] at hf
      have ha := ta_at (fun q u hq => below_cell hb.bel (HR.out q u hq)) hx
      have hsl := (HV.out.below hb.bel).take j hj
      obtain ⟨c0, c1, c2, c3, c4, c5, c6⟩ := ha
      have lb : b < wr.heap.size := World.block_lt_of_cell? _ _ c0
      have hj' : (j : Int) ≤ (l.length : Int) := by omega
      have hjc : (j : Int) ≤ (c : Int) := by omega
      have HW := wrong_any ((wr.alloc (.cells #[.string x.nm, .int .i64 x.c, .int .i64 x.t, .int .i64 x.d, .int .i64 x.j, .int .i64 x.o, .int .i64 x.p] 85)).drew) x (l.take j) (.slice (some ⟨b, o, none⟩) j c) (by simp; omega) ((hsl.below (below_new _ _)).below (Below.refl _ _).drew)
      unfold Ta.val at HW
      have HB : Hid (FB w (wr.alloc (.cells #[.string x.nm, .int .i64 x.c, .int .i64 x.t, .int .i64 x.d, .int .i64 x.j, .int .i64 x.o, .int .i64 x.p] 85)).drew w.heap.size) := (hb.grow (below_new _ _)).grow (Below.refl _ _).drew
      have HF : Hid ((if wrongF x (List.take j l) = 0 then chkFrom l (List.drop (j + 1) l) (j + 1) else (wrongF x (List.take j l), (j : Int))) = chkFrom l l 0) := hf
      generalize wrongF x (l.take j) = z at *
      clear hsl hb hf
      go_wp2_with fail
      refine wp_region_noPanic ?_
      refine wp_region_held_drew (S := fun w' => w'.cell? ⟨wr.heap.size, 0, none⟩ = some (.string x.nm) ∧ w'.cell? ⟨wr.heap.size, 1, none⟩ = some (.int .i64 x.c) ∧ w'.cell? ⟨wr.heap.size, 2, none⟩ = some (.int .i64 x.t) ∧ w'.cell? ⟨wr.heap.size, 3, none⟩ = some (.int .i64 x.d) ∧ w'.cell? ⟨wr.heap.size, 4, none⟩ = some (.int .i64 x.j) ∧ w'.cell? ⟨wr.heap.size, 5, none⟩ = some (.int .i64 x.o) ∧ w'.cell? ⟨wr.heap.size, 6, none⟩ = some (.int .i64 x.p)) (by kernel_rfl) (by refine ⟨?_, ?_, ?_, ?_, ?_, ?_, ?_⟩ <;> go_simp) (fun hHeld => ?_)
      refine take_at (i := 0) (n := 18) (v := ?_) rfl rfl (by kernel_rfl) (by kernel_rfl) (by kernel_rfl) (fun _ _ _ h => h) (Or.inl ⟨by rfl, ?_⟩) (by assumption) ?_
      rotate_left 1
      · intro wz hSw
        obtain ⟨k0, k1, k2, k3, k4, k5, k6⟩ := hSw
        first | (go_simp; done) | (go_simp; with_reducible rfl)
      simp only [List.set_cons_zero, List.set_cons_succ]
      refine take_at (i := 1) (n := 19) (v := ?_) rfl rfl (by kernel_rfl) (by kernel_rfl) (by kernel_rfl) (fun _ _ _ h => h) (Or.inl ⟨by rfl, ?_⟩) (by assumption) ?_
      rotate_left 1
      · intro wz hSw
        first | (go_simp; done) | (go_simp; with_reducible rfl)
      simp only [List.set_cons_zero, List.set_cons_succ]
      refine take_at (i := 2) (n := 20) (v := ?_) rfl rfl (by kernel_rfl) (by kernel_rfl) (by kernel_rfl) (fun _ _ _ h => h) (Or.inl ⟨by rfl, ?_⟩) (by assumption) ?_
      rotate_left 1
      · intro wz hSw
        first | (go_simp; done) | (go_simp; with_reducible rfl)
      simp only [List.set_cons_zero, List.set_cons_succ]
      refine take_at (i := 3) (n := 21) (v := ?_) rfl rfl (by kernel_rfl) (by kernel_rfl) (by kernel_rfl) (fun _ _ _ h => h) (Or.inl ⟨by rfl, ?_⟩) (by assumption) ?_
      rotate_left 1
      · intro wz hSw
        first | (go_simp; done) | (go_simp; with_reducible rfl)
      simp only [List.set_cons_zero, List.set_cons_succ]
      refine wpAnyH_ready (rs := [4]) (by kernel_rfl) (by simp) ?_
      refine AllReadyH.cons rfl (fun K hK => ?_) AllReadyH.nil
      go_wp2_with (go_at_call 76; refine HW.mono ?_; rintro r w1 ⟨rfl, hb1⟩)
      have H1 : Hid (FB w w1 w.heap.size) := HB.out.grow hb1
      refine hK.out _ _ (by refine ⟨?_, ?_, ?_, ?_, ?_, ?_, ?_⟩ <;> exact below_cell hb1 (by go_simp)) (fun hHeld => ?_)
      clear hK K HW
      refine take_at (i := 5) (n := 5) (v := ?_) rfl rfl (by kernel_rfl) (by kernel_rfl) (by kernel_rfl) (fun _ _ _ h => h) (Or.inl ⟨by rfl, ?_⟩) (by assumption) ?_
      rotate_left 1
      · intro wz hSw
        first | (go_simp; done) | (go_simp; with_reducible rfl)
      simp only [List.set_cons_zero, List.set_cons_succ]
      refine wpAnyH_done (by kernel_rfl) ?_ _
      refine NoPanic.normal ?_
      obtain ⟨rs1, rf1, rl1⟩ := cells_of (l := [_, _]) H1.out.res
      have r10 := rs1 0 _ rfl
      have r11 := rs1 1 _ rfl
      have f10 := rf1 0
      have f11 := rf1 1
      clear rs1 rf1 hb1 hHeld
      by_cases hz : z = 0
      · subst hz
        have e := HF.out
        rw [if_pos rfl] at e
        go_wp2_with fail
        go_roundw
        case rel => exact ⟨j + 1, by omega, by go_num, H1.out, e⟩
        case measure => simp [intOf]; omega
      · have e := HF.out
        rw [if_neg hz] at e
        have hzb : (z != 0) = true := by simpa using hz
        go_wp2_with fail
        refine bodyPost_ret (Check_ends (set_two H1.out.res) rfl) rfl ?_
        exact ⟨by rw [← e], H1.out.set _ _⟩
    · have hje : j = l.length := by omega
      subst hje
      rw [List.drop_length, chkFrom] at hf
      have H1 : Hid (FB w wr w.heap.size) := hb
      obtain ⟨rs1, rf1, rl1⟩ := cells_of (l := [_, _]) hb.res
      have r10 := rs1 0 _ rfl
      have r11 := rs1 1 _ rfl
      have f10 := rf1 0
      have f11 := rf1 1
      clear rs1 rf1 hb
      have HF : Hid ((0, 0) = chkFrom l l 0) := hf
      clear hf
      go_wp2_with fail
      refine bodyPost_ret (Check_ends (set_two H1.out.res) rfl) rfl ?_
      exact ⟨by rw [← HF.out], H1.out.set _ _⟩

/-- tasks.Check. -/
theorem Check_any (w : World) (l : List Ta) (v : Value) (hv : RowSl Ta.vals w l v) : Calls Try.prog 64 #[v] w fun r w' => r = .returned (.agg #[.int .i64 (chkF l).1, .int .i64 (chkF l).2]) ∧ Below w.heap.size w w' := by
  obtain ⟨ad, c, rfl⟩ := hv.len
  unfold chkF
  by_cases h : l.length = 0 ∨ 8 < l.length
  · rw [if_pos h]
    exact Check_many w l.length c ad h
  · rw [if_neg h]
    exact Check_few w l ad c (by omega) (by omega) hv
end Go.Proofs.Ytccoobcggbbciam
