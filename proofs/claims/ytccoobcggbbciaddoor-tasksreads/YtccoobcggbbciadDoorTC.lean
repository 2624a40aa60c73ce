import Derived.Test.YtccoobcggbbciadDoorTW
namespace Go.Proofs.YtccoobcggbbciadDoor
open Go.ChangeShapes Go.WideShapes Go.ChangeAt Go.RowKit

set_option maxRecDepth 20000 in
theorem sameName_any (w : World) (y x : Ta) (g : Nat) (hx : w.cell? ⟨g, 0, none⟩ = some (.string x.nm)) : Calls Tryd.prog 87 #[y.val, .pointer (some ⟨g, 0, none⟩)] w fun r w' => r = .returned (.bool (sameNm y.nm x.nm)) ∧ Below w.heap.size w w' := by
  obtain ⟨nm, c, t, d, j, o, p⟩ := y
  unfold Ta.val
  dsimp only
  generalize x.nm = s at *
  have hlt : g < w.heap.size := World.block_lt_of_cell? _ _ hx
  go_enter Tryd.func87, Tryd.ntmps87
  go_wp2_with fail
  go_ret
  exact ⟨rfl, below_new _ _⟩

/-- A part of a slice, from its beginning. -/
theorem RowSl.take {α : Type} {f : α → List Value} {w : World} {l : List α} {ad : Option Addr} {n c : Nat} (h : RowSl f w l (.slice ad n c)) (k : Nat) (hk : k ≤ l.length) : RowSl f w (l.take k) (.slice ad k c) := by
  obtain ⟨ad', c', e, h1, h2, h3⟩ := h
  cases e
  have hl : (l.take k).length = k := by simp; omega
  refine ⟨ad, c, by rw [hl], fun e => ⟨by rw [hl]; have := (h1 e).1; omega, (h1 e).2⟩, by omega, ?_⟩
  rcases h3 with h3 | ⟨b, o, e, h3⟩
  · subst h3; exact .inl (by simp)
  · refine .inr ⟨b, o, e, fun q u hq => h3 q u ?_⟩
    have e2 : l.flatMap f = (l.take k).flatMap f ++ (l.drop k).flatMap f := by rw [← List.flatMap_append, List.take_append_drop]
    rw [e2, List.getElem?_append_left (List.getElem?_eq_some_iff.1 hq).1]
    exact hq

/-- The first that has that name. -/
def findNm (s : ByteArray) : List Ta → Nat → Int
  | [], _ => -1
  | y :: r, k => if sameNm y.nm s = true then (k : Int) else findNm s r (k + 1)

theorem findNm_any (s : ByteArray) : ∀ (l : List Ta) (k : Nat), decide (0 ≤ findNm s l k) = l.any (fun y => sameNm y.nm s)
  | [], k => by simp [findNm]
  | y :: r, k => by
    by_cases h : sameNm y.nm s = true
    · simp [findNm, h]
    · simp [findNm, h, ← findNm_any s r (k + 1)]

set_option maxRecDepth 20000 in
set_option maxHeartbeats 4000000 in
theorem indexFunc_any (w : World) (l : List Ta) (v : Value) (x : Ta) (g : Nat) (hl : l.length ≤ 1000000) (hv : RowSl Ta.vals w l v) (hx : w.cell? ⟨g, 0, none⟩ = some (.string x.nm)) : Calls Tryd.prog 114 #[v, .func (Fn.func 87) #[] #[.pointer (some ⟨g, 0, none⟩)]] w fun r w' => r = .returned (.int .i64 (findNm x.nm l 0)) ∧ Below w.heap.size w w' := by
  obtain ⟨ad, c, rfl, -, hcap, hrow⟩ := hv
  go_enter Tryd.func114, Tryd.ntmps114
  go_wp2_with fail
  have HR : Hid (_ ∧ _) := ⟨hrow, hx⟩
  clear hrow hx
  go_loopw [8] (fun i wr => ∃ j : Nat, j ≤ l.length ∧ i = .int .i64 j ∧ Below w.heap.size w wr ∧ findNm x.nm (l.drop j) j = findNm x.nm l 0) (fun i _ => l.length - (intOf i).toNat)
  case atStart => exact ⟨0, Nat.zero_le _, rfl, Below.refl _ _, rfl⟩
  case round =>
    obtain ⟨j, hj, rfl, hb, hf⟩ := hrel
    by_cases hlt : j < l.length
    · obtain ⟨y, hy, hd⟩ := drop_at hlt
      rw [hd, findNm] at hf
      rcases HR.out.1 with h | ⟨b, o, rfl, hrow⟩
      · rw [h] at hlt; simp at hlt
      have ha := ta_at (fun q u hq => below_cell hb (hrow q u hq)) hy
      have hx := below_cell hb HR.out.2
      obtain ⟨c0, c1, c2, c3, c4, c5, c6⟩ := ha
      have HY := sameName_any wr y x g hx
      unfold Ta.val at HY
      have HB : Hid (Below w.heap.size w wr) := hb
      have HF : Hid (_ = _) := hf
      clear hrow hb hf
      obtain ⟨nm, yc, yt, yd, yj, yo, yp⟩ := y
      dsimp only at *
      go_wp2_with (go_at_call 87; refine HY.mono ?_; rintro r w1 ⟨rfl, hb1⟩)
      · have e := HF.out
        rw [if_pos ‹_›] at e
        go_ret
        exact ⟨by rw [← e]; rfl, below_seq HB.out hb1⟩
      · have e := HF.out
        rw [if_neg (by simp [*])] at e
        exact ⟨⟨j + 1, by omega, by simp, below_seq HB.out hb1, e⟩, by simp [intOf]; omega⟩
    · have hje : j = l.length := by omega
      subst hje
      rw [List.drop_length, findNm] at hf
      go_wp2_with fail
      go_ret
      exact ⟨by rw [← hf]; rfl, hb⟩

set_option maxRecDepth 20000 in
theorem containsFunc_any (w : World) (l : List Ta) (v : Value) (x : Ta) (g : Nat) (hl : l.length ≤ 1000000) (hv : RowSl Ta.vals w l v) (hx : w.cell? ⟨g, 0, none⟩ = some (.string x.nm)) : Calls Tryd.prog 89 #[v, .func (Fn.func 87) #[] #[.pointer (some ⟨g, 0, none⟩)]] w fun r w' => r = .returned (.bool (l.any fun y => sameNm y.nm x.nm)) ∧ Below w.heap.size w w' := by
  rw [← findNm_any x.nm l 0]
  have HI := indexFunc_any w l v x g hl hv hx
  obtain ⟨ad, c, rfl, -⟩ := hv
  go_enter Tryd.func89, Tryd.ntmps89
  go_wp2_with (go_at_call 114; refine HI.mono ?_; rintro r w1 ⟨rfl, hb1⟩)
  go_ret
  exact ⟨rfl, hb1⟩

set_option maxRecDepth 20000 in
set_option maxHeartbeats 4000000 in
theorem wrong_any (w : World) (x : Ta) (l : List Ta) (v : Value) (hl : l.length ≤ 1000000) (hv : RowSl Ta.vals w l v) : Calls Tryd.prog 50 #[x.val, v] w fun r w' => r = .returned (.int .i64 (wrongF x l)) ∧ Below w.heap.size w w' := by
  have hv1 := hv.below (below_new w (.cells #[.string x.nm, .int .i64 x.c, .int .i64 x.t, .int .i64 x.d, .int .i64 x.j, .int .i64 x.o, .int .i64 x.p] 55))
  have HV : Hid (RowSl Ta.vals (w.alloc (.cells #[.string x.nm, .int .i64 x.c, .int .i64 x.t, .int .i64 x.d, .int .i64 x.j, .int .i64 x.o, .int .i64 x.p] 55)) l v) := hv1
  have H0 := below_new w (.cells #[.string x.nm, .int .i64 x.c, .int .i64 x.t, .int .i64 x.d, .int .i64 x.j, .int .i64 x.o, .int .i64 x.p] 55)
  obtain ⟨ad, c, rfl, -⟩ := hv
  clear hv1
  unfold wrongF
  have HM := mayStand_any
  unfold Ta.val at HM ⊢
  rcases h1 : isNm x.nm with _ | _
  · go_enter Tryd.func50, Tryd.ntmps50
    go_wp2_with (go_at_call 88; refine (isName_any _ _).mono ?_; rintro r w1 ⟨rfl, hb1⟩; rw [h1])
    go_ret
    exact ⟨rfl, below_seq H0 hb1⟩
  rcases h2 : l.any (fun y => sameNm y.nm x.nm) with _ | _
  · rcases h3 : stands x with _ | _
    · go_enter Tryd.func50, Tryd.ntmps50
      go_wp2_with (go_at_call 88; refine (isName_any _ _).mono ?_; rintro r w1 ⟨rfl, hb1⟩; rw [h1]; have hcx : w1.cell? ⟨w.heap.size, 0, none⟩ = some (.string x.nm) := below_cell hb1 (by go_simp); have HC := containsFunc_any w1 l (.slice ad l.length c) x w.heap.size hl (HV.out.below hb1) hcx; have H1 : Hid (Below (w.alloc (.cells #[.string x.nm, .int .i64 x.c, .int .i64 x.t, .int .i64 x.d, .int .i64 x.j, .int .i64 x.o, .int .i64 x.p] 55)).heap.size (w.alloc (.cells #[.string x.nm, .int .i64 x.c, .int .i64 x.t, .int .i64 x.d, .int .i64 x.j, .int .i64 x.o, .int .i64 x.p] 55)) w1) := hb1; clear hcx hb1)
      go_wp2_with (go_at_call 89; refine HC.mono ?_; rintro r w2 ⟨rfl, hb2⟩; rw [h2]; have H2 : Hid (Below (w.alloc (.cells #[.string x.nm, .int .i64 x.c, .int .i64 x.t, .int .i64 x.d, .int .i64 x.j, .int .i64 x.o, .int .i64 x.p] 55)).heap.size (w.alloc (.cells #[.string x.nm, .int .i64 x.c, .int .i64 x.t, .int .i64 x.d, .int .i64 x.j, .int .i64 x.o, .int .i64 x.p] 55)) w2) := below_seq H1.out hb2; have d0 : w2.cell? ⟨w.heap.size, 0, none⟩ = some (.string x.nm) := below_cell H2.out (by go_simp); have d1 : w2.cell? ⟨w.heap.size, 1, none⟩ = some (.int .i64 x.c) := below_cell H2.out (by go_simp); have d2 : w2.cell? ⟨w.heap.size, 2, none⟩ = some (.int .i64 x.t) := below_cell H2.out (by go_simp); have d3 : w2.cell? ⟨w.heap.size, 3, none⟩ = some (.int .i64 x.d) := below_cell H2.out (by go_simp); have d4 : w2.cell? ⟨w.heap.size, 4, none⟩ = some (.int .i64 x.j) := below_cell H2.out (by go_simp); have d5 : w2.cell? ⟨w.heap.size, 5, none⟩ = some (.int .i64 x.o) := below_cell H2.out (by go_simp); have d6 : w2.cell? ⟨w.heap.size, 6, none⟩ = some (.int .i64 x.p) := below_cell H2.out (by go_simp); clear HC hb2)
      go_wp2_with (go_at_call 90; refine (HM _ x).mono ?_; rintro r w3 ⟨rfl, hb3⟩; rw [h3])
      go_ret
      exact ⟨rfl, below_seq (below_seq H0 H2.out) hb3⟩
    · go_enter Tryd.func50, Tryd.ntmps50
      go_wp2_with (go_at_call 88; refine (isName_any _ _).mono ?_; rintro r w1 ⟨rfl, hb1⟩; rw [h1]; have hcx : w1.cell? ⟨w.heap.size, 0, none⟩ = some (.string x.nm) := below_cell hb1 (by go_simp); have HC := containsFunc_any w1 l (.slice ad l.length c) x w.heap.size hl (HV.out.below hb1) hcx; have H1 : Hid (Below (w.alloc (.cells #[.string x.nm, .int .i64 x.c, .int .i64 x.t, .int .i64 x.d, .int .i64 x.j, .int .i64 x.o, .int .i64 x.p] 55)).heap.size (w.alloc (.cells #[.string x.nm, .int .i64 x.c, .int .i64 x.t, .int .i64 x.d, .int .i64 x.j, .int .i64 x.o, .int .i64 x.p] 55)) w1) := hb1; clear hcx hb1)
      go_wp2_with (go_at_call 89; refine HC.mono ?_; rintro r w2 ⟨rfl, hb2⟩; rw [h2]; have H2 : Hid (Below (w.alloc (.cells #[.string x.nm, .int .i64 x.c, .int .i64 x.t, .int .i64 x.d, .int .i64 x.j, .int .i64 x.o, .int .i64 x.p] 55)).heap.size (w.alloc (.cells #[.string x.nm, .int .i64 x.c, .int .i64 x.t, .int .i64 x.d, .int .i64 x.j, .int .i64 x.o, .int .i64 x.p] 55)) w2) := below_seq H1.out hb2; have d0 : w2.cell? ⟨w.heap.size, 0, none⟩ = some (.string x.nm) := below_cell H2.out (by go_simp); have d1 : w2.cell? ⟨w.heap.size, 1, none⟩ = some (.int .i64 x.c) := below_cell H2.out (by go_simp); have d2 : w2.cell? ⟨w.heap.size, 2, none⟩ = some (.int .i64 x.t) := below_cell H2.out (by go_simp); have d3 : w2.cell? ⟨w.heap.size, 3, none⟩ = some (.int .i64 x.d) := below_cell H2.out (by go_simp); have d4 : w2.cell? ⟨w.heap.size, 4, none⟩ = some (.int .i64 x.j) := below_cell H2.out (by go_simp); have d5 : w2.cell? ⟨w.heap.size, 5, none⟩ = some (.int .i64 x.o) := below_cell H2.out (by go_simp); have d6 : w2.cell? ⟨w.heap.size, 6, none⟩ = some (.int .i64 x.p) := below_cell H2.out (by go_simp); clear HC hb2)
      go_wp2_with (go_at_call 90; refine (HM _ x).mono ?_; rintro r w3 ⟨rfl, hb3⟩; rw [h3]; have H3 : Hid (Below w2.heap.size w2 w3) := hb3; have e1 := below_cell hb3 d1; have e3 := below_cell hb3 d3; clear d0 d1 d2 d3 d4 d5 d6 hb3)
      all_goals
        go_ret
        refine ⟨?_, below_seq (below_seq H0 H2.out) H3.out⟩
        first
          | (rw [if_pos (by omega)]; rfl)
          | (rw [if_neg (by omega)]; rfl)
          | rfl
  · go_enter Tryd.func50, Tryd.ntmps50
    go_wp2_with (go_at_call 88; refine (isName_any _ _).mono ?_; rintro r w1 ⟨rfl, hb1⟩; rw [h1]; have hcx : w1.cell? ⟨w.heap.size, 0, none⟩ = some (.string x.nm) := below_cell hb1 (by go_simp); have HC := containsFunc_any w1 l (.slice ad l.length c) x w.heap.size hl (HV.out.below hb1) hcx; have H1 : Hid (Below (w.alloc (.cells #[.string x.nm, .int .i64 x.c, .int .i64 x.t, .int .i64 x.d, .int .i64 x.j, .int .i64 x.o, .int .i64 x.p] 55)).heap.size (w.alloc (.cells #[.string x.nm, .int .i64 x.c, .int .i64 x.t, .int .i64 x.d, .int .i64 x.j, .int .i64 x.o, .int .i64 x.p] 55)) w1) := hb1; clear hcx hb1)
    go_wp2_with (go_at_call 89; refine HC.mono ?_; rintro r w2 ⟨rfl, hb2⟩; rw [h2])
    go_ret
    exact ⟨rfl, below_seq (below_seq H0 H1.out) hb2⟩
end Go.Proofs.YtccoobcggbbciadDoor
