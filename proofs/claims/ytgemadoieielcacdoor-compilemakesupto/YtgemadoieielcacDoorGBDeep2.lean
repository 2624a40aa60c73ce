import Derived.Test.YtgemadoieielcacDoorGBDeep
namespace Go.Proofs.YtgemadoieielcacDoor.B
open Go.ChangeShapes Go.WideShapes Go.ChangeAt Go.RowKit

mutual
def St.deep : St → Int
  | .mk _ _ e _ ca cb b l => max (1 + max (St.deepAll 0 b) (St.deepAll 0 l)) (max e.deep (max ca.deep cb.deep))
def St.deepAll (d : Int) : List St → Int
  | [] => d
  | x :: r => St.deepAll (max d x.deep) r
end

mutual
theorem St.deep_le : ∀ e : St, 1 ≤ e.deep ∧ e.deep ≤ e.bulk
  | .mk _ _ e _ ca cb b l => by
    have := St.deepAll_le b 0
    have := St.deepAll_le l 0
    have := e.deep_le
    have := ca.deep_le
    have := cb.deep_le
    unfold St.deep St.bulk
    omega
theorem St.deepAll_le : ∀ (a : List St) (d : Int), d ≤ St.deepAll d a ∧ St.deepAll d a ≤ max d (St.bulkAll a)
  | [], d => by unfold St.deepAll; omega
  | x :: r, d => by
    have := St.deep_le x
    have := St.deepAll_le r (max d x.deep)
    unfold St.deepAll St.bulkAll
    omega
end

theorem St.deepAll_at {a : List St} {j : Nat} (h : j < a.length) (d : Int) : St.deepAll d (a.drop j) = St.deepAll (max d a[j].deep) (a.drop (j + 1)) := by
  rw [drop_at h, St.deepAll]

theorem keep12 {W1 w1 w2 : World} {p2 p3 p4 p6 p7 p8 p9 p10 p11 p12 p13 : Addr} {x2 x3 x4 x6 x7 x8 x9 x10 x11 x12 x13 : Value}
    (h : Below W1.heap.size W1 w1 ∧ w1.cell? p2 = some x2 ∧ w1.cell? p3 = some x3 ∧ w1.cell? p4 = some x4 ∧ w1.cell? p6 = some x6 ∧ w1.cell? p7 = some x7 ∧ w1.cell? p8 = some x8 ∧ w1.cell? p9 = some x9 ∧ w1.cell? p10 = some x10 ∧ w1.cell? p11 = some x11 ∧ w1.cell? p12 = some x12 ∧ w1.cell? p13 = some x13)
    (hb : Below w1.heap.size w1 w2) :
    Below W1.heap.size W1 w2 ∧ w2.cell? p2 = some x2 ∧ w2.cell? p3 = some x3 ∧ w2.cell? p4 = some x4 ∧ w2.cell? p6 = some x6 ∧ w2.cell? p7 = some x7 ∧ w2.cell? p8 = some x8 ∧ w2.cell? p9 = some x9 ∧ w2.cell? p10 = some x10 ∧ w2.cell? p11 = some x11 ∧ w2.cell? p12 = some x12 ∧ w2.cell? p13 = some x13 := by
  obtain ⟨h1, h2, h3, h4, h6, h7, h8, h9, h10, h11, h12, h13⟩ := h
  exact ⟨h1.trans (hb.mono h1.size), below_cell hb h2, below_cell hb h3, below_cell hb h4, below_cell hb h6, below_cell hb h7, below_cell hb h8, below_cell hb h9, below_cell hb h10, below_cell hb h11, below_cell hb h12, below_cell hb h13⟩

theorem below_seq {a b c : World} (h : Below a.heap.size a b) (h' : Below b.heap.size b c) : Below a.heap.size a c := h.trans (h'.mono h.size)
theorem Sl_keep {wr W1 w1 : World} {X : Prop} {b : List St} {v : Value} (h : St.Sl wr b v) (h1 : Below wr.heap.size wr W1) (h2 : Below W1.heap.size W1 w1 ∧ X) : St.Sl w1 b v := h.below (below_seq h1 h2.1)
theorem Ex_keep {wr W1 w1 : World} {X : Prop} {e : Ex} {v : Value} (h : e.In wr v) (h1 : Below wr.heap.size wr W1) (h2 : Below W1.heap.size W1 w1 ∧ X) : e.In w1 v := Ex.In.below (below_seq h1 h2.1) _ h

theorem wrap_in (n : Int) (h : -9223372036854775808 ≤ n ∧ n ≤ 9223372036854775807) : IntKind.i64.wrap n = n := by rw [IntKind.wrap_i64]; omega
theorem max5 (a b c d e : Int) (P : Program) (w : World) : (Builtin.max_ #[3, 3, 3, 3, 3] 3 #[.int .i64 a, .int .i64 b, .int .i64 c, .int .i64 d, .int .i64 e]).run P w =
    .ok (.int .i64 (if (if (if (if a < b then b else a) < c then c else (if a < b then b else a)) < d then d else (if (if a < b then b else a) < c then c else (if a < b then b else a))) < e then e else
      (if (if (if a < b then b else a) < c then c else (if a < b then b else a)) < d then d else (if (if a < b then b else a) < c then c else (if a < b then b else a))))) w := by
  simp [Builtin.max_, Builtin.max2]

theorem max_is (a b : Int) : ∃ m, (if a < b then b else a) = m ∧ Hid (m = max a b) ∧ (a ≤ m ∧ b ≤ m ∧ m ≤ max a b) := ⟨_, rfl, by unfold Hid; split <;> omega, by split <;> omega⟩

set_option maxHeartbeats 1000000 in
theorem Deep_any (N : Nat) : ∀ (a : List St) (w : World) (v : Value), St.bulkAll a ≤ N → N ≤ 1048576 → St.Sl w a v →
    Calls Tryd.prog 61 #[v] w fun r w' => r = .returned (.int .i64 (St.deepAll 0 a)) ∧ Below w.heap.size w w' := by
  induction N with
  | zero =>
    intro a w v hN hle hin
    have hlen := length_le_bulkAll a
    obtain ⟨ad, c, rfl, hrow⟩ := hin
    have h0 : a.length = 0 := by omega
    have ha : a = [] := List.eq_nil_of_length_eq_zero h0
    subst ha
    clear hrow
    go_enter Tryd.func61, Tryd.ntmps61
    go_wp2_with fail
    go_loopw [3, 5, 8] (fun x _ i wr => i = .int .i64 0 ∧ x = .int .i64 0 ∧ Below w.heap.size w wr) (fun _ _ _ _ => 0)
    case atStart => exact ⟨rfl, rfl, Below.refl _ _⟩
    case round =>
      obtain ⟨rfl, rfl, hb⟩ := hrel
      go_wp2_with fail
      go_ret
      exact ⟨ret_int (by rw [St.deepAll]), hb⟩
  | succ N ih =>
    intro a w v hN hle hin
    have hlen := length_le_bulkAll a
    obtain ⟨ad, c, rfl, hrow⟩ := hin
    have HR : Hid (a = [] ∨ ∃ b o, ad = some ⟨b, o, none⟩ ∧ St.Row w a b o) := hrow
    clear hrow
    have IH : Hid _ := ih
    clear ih
    go_enter Tryd.func61, Tryd.ntmps61
    go_wp2_with fail
    go_loopw [3, 5, 8] (fun x _ i wr => ∃ (j : Nat) (d : Int), j ≤ a.length ∧ i = .int .i64 j ∧ x = .int .i64 d ∧ 0 ≤ d ∧ d ≤ St.bulkAll a ∧ St.deepAll d (a.drop j) = St.deepAll 0 a ∧ Below w.heap.size w wr) (fun _ _ i _ => a.length - (intOf i).toNat)
    case atStart => exact ⟨0, 0, Nat.zero_le _, rfl, rfl, by omega, by omega, rfl, Below.refl _ _⟩
    case round =>
      obtain ⟨j, d, hj, rfl, rfl, hd1, hd2, hdd, hb⟩ := hrel
      by_cases hlt : j < a.length
      · rcases HR.out with h | ⟨b, o, had, hrow⟩
        · subst h; simp at hlt
        · subst had
          have hbk := bulkAll_at a j a[j] (by simp [hlt])
          have hdl := St.deep_le a[j]
          obtain ⟨sk, sn, se, sck, sca, scb, sy, sl, hs, ek, en, ead, em, ec, ak, an, aad, am, ac, bk, bn, bad, bm, bc, yad, yc, lad, lc, c0, c1, c2, c3, c4, c5, c6, c7, c8, c9, c10, c11, c12, c13, i1, i2, i3, i4, i5⟩ := (St.Row.below hb a hrow).shape hlt
          have hdd' : Hid (St.deepAll d (a.drop j) = St.deepAll 0 a) := hdd
          clear hdd hrow
          have HI : Hid (_ ∧ _ ∧ _ ∧ _ ∧ _) := ⟨i1, i2, i3, i4, i5⟩
          clear i1 i2 i3 i4 i5
          have HB : Hid _ := hb
          clear hb
          have HX : Hid _ := hs
          rw [hs] at hbk hdl
          unfold St.bulk at hbk
          clear hs
          go_wp2_with fail
          have hB1 : Below wr.heap.size wr (wr.alloc (.cells #[.int .i64 sk, .int .i64 sn, .int .i64 ek, .int .i64 en, .slice ead em ec, .int .i64 sck, .int .i64 ak, .int .i64 an, .slice aad am ac, .int .i64 bk, .int .i64 bn, .slice bad bm bc, .slice yad sy.length yc, .slice lad sl.length lc] 123)) := (Below.refl _ _).alloc (Nat.le_refl _) _
          have hC1 : ∀ i, i < 14 → (wr.alloc (.cells #[.int .i64 sk, .int .i64 sn, .int .i64 ek, .int .i64 en, .slice ead em ec, .int .i64 sck, .int .i64 ak, .int .i64 an, .slice aad am ac, .int .i64 bk, .int .i64 bn, .slice bad bm bc, .slice yad sy.length yc, .slice lad sl.length lc] 123)).cell? ⟨wr.heap.size, i, none⟩ = #[Value.int .i64 sk, .int .i64 sn, .int .i64 ek, .int .i64 en, .slice ead em ec, .int .i64 sck, .int .i64 ak, .int .i64 an, .slice aad am ac, .int .i64 bk, .int .i64 bn, .slice bad bm bc, .slice yad sy.length yc, .slice lad sl.length lc][i]? := fun i _ => World.cell?_alloc_at _ _ _ _ rfl
          generalize wr.alloc (.cells #[.int .i64 sk, .int .i64 sn, .int .i64 ek, .int .i64 en, .slice ead em ec, .int .i64 sck, .int .i64 ak, .int .i64 an, .slice aad am ac, .int .i64 bk, .int .i64 bn, .slice bad bm bc, .slice yad sy.length yc, .slice lad sl.length lc] 123) = W1 at *
          have d2 := hC1 2 (by omega)
          have d3 := hC1 3 (by omega)
          have d4 := hC1 4 (by omega)
          have d6 := hC1 6 (by omega)
          have d7 := hC1 7 (by omega)
          have d8 := hC1 8 (by omega)
          have d9 := hC1 9 (by omega)
          have d10 := hC1 10 (by omega)
          have d11 := hC1 11 (by omega)
          have d12 := hC1 12 (by omega)
          have d13 := hC1 13 (by omega)
          clear hC1
          simp at d2 d3 d4 d6 d7 d8 d9 d10 d11 d12 d13
          have HB1 : Hid _ := hB1
          clear hB1 c0 c1 c2 c3 c4 c5 c6 c7 c8 c9 c10 c11 c12 c13
          have q1 := se.deep_le
          have q2 := sca.deep_le
          have q3 := scb.deep_le
          have q4 := St.deepAll_le sy 0
          have q5 := St.deepAll_le sl 0
          obtain ⟨m1, e1, f1, b1⟩ := max_is (St.deepAll 0 sy) (St.deepAll 0 sl)
          obtain ⟨m2, e2, f2, b2⟩ := max_is d (1 + m1)
          obtain ⟨m3, e3, f3, b3⟩ := max_is m2 se.deep
          obtain ⟨m4, e4, f4, b4⟩ := max_is m3 sca.deep
          obtain ⟨m5, e5, f5, b5⟩ := max_is m4 scb.deep
          have hmx : ∀ w', (Builtin.max_ #[3, 3, 3, 3, 3] 3 #[.int .i64 d, .int .i64 (1 + m1), .int .i64 se.deep, .int .i64 sca.deep, .int .i64 scb.deep]).run Tryd.prog w' = .ok (.int .i64 m5) w' := by
            intro w'; rw [max5, e2, e3, e4, e5]
          have hwr : IntKind.i64.wrap (1 + m1) = 1 + m1 := wrap_in _ (by omega)
          go_region_held3 (fun w' => Below W1.heap.size W1 w' ∧ w'.cell? ⟨wr.heap.size, 2, none⟩ = some (.int .i64 ek) ∧ w'.cell? ⟨wr.heap.size, 3, none⟩ = some (.int .i64 en) ∧ w'.cell? ⟨wr.heap.size, 4, none⟩ = some (.slice ead em ec) ∧ w'.cell? ⟨wr.heap.size, 6, none⟩ = some (.int .i64 ak) ∧ w'.cell? ⟨wr.heap.size, 7, none⟩ = some (.int .i64 an) ∧ w'.cell? ⟨wr.heap.size, 8, none⟩ = some (.slice aad am ac) ∧ w'.cell? ⟨wr.heap.size, 9, none⟩ = some (.int .i64 bk) ∧ w'.cell? ⟨wr.heap.size, 10, none⟩ = some (.int .i64 bn) ∧ w'.cell? ⟨wr.heap.size, 11, none⟩ = some (.slice bad bm bc) ∧ w'.cell? ⟨wr.heap.size, 12, none⟩ = some (.slice yad sy.length yc) ∧ w'.cell? ⟨wr.heap.size, 13, none⟩ = some (.slice lad sl.length lc))
            (first | assumption | exact ⟨(Below.refl _ _).drew, d2, d3, d4, d6, d7, d8, d9, d10, d11, d12, d13⟩)
            (first
              | (go_at_call_of 61 sy.length; refine (IH.out sy _ _ (by omega) (by omega) (Sl_keep HI.out.2.2.2.1 HB1.out ‹Below W1.heap.size W1 _ ∧ _›)).mono ?_; rintro e w' ⟨rfl, hb'⟩; have hS' := keep12 ‹Below W1.heap.size W1 _ ∧ _› hb'; clear hb')
              | (go_at_call_of 61 sl.length; refine (IH.out sl _ _ (by omega) (by omega) (Sl_keep HI.out.2.2.2.2 HB1.out ‹Below W1.heap.size W1 _ ∧ _›)).mono ?_; rintro e w' ⟨rfl, hb'⟩; have hS' := keep12 ‹Below W1.heap.size W1 _ ∧ _› hb'; clear hb')
              | (go_at_call_of 96 ek; refine (deepExpr_any _ se _ _ (Nat.le_refl _) (by omega) (Ex_keep HI.out.1 HB1.out ‹Below W1.heap.size W1 _ ∧ _›)).mono ?_; rintro e w' ⟨rfl, hb'⟩; have hS' := keep12 ‹Below W1.heap.size W1 _ ∧ _› hb'; clear hb')
              | (go_at_call_of 96 ak; refine (deepExpr_any _ sca _ _ (Nat.le_refl _) (by omega) (Ex_keep HI.out.2.1 HB1.out ‹Below W1.heap.size W1 _ ∧ _›)).mono ?_; rintro e w' ⟨rfl, hb'⟩; have hS' := keep12 ‹Below W1.heap.size W1 _ ∧ _› hb'; clear hb')
              | (go_at_call_of 96 bk; refine (deepExpr_any _ scb _ _ (Nat.le_refl _) (by omega) (Ex_keep HI.out.2.2.1 HB1.out ‹Below W1.heap.size W1 _ ∧ _›)).mono ?_; rintro e w' ⟨rfl, hb'⟩; have hS' := keep12 ‹Below W1.heap.size W1 _ ∧ _› hb'; clear hb'))
          all_goals
            go_wp2_with fail
            go_roundw
            case rel =>
              refine ⟨j + 1, m5, by omega, by go_num, rfl, by omega, by omega, ?_, ?_⟩
              · rw [← hdd'.out, St.deepAll_at hlt, HX.out, f5.out, f4.out, f3.out, f2.out, f1.out, St.deep]
                congr 1
                omega
              · exact below_seq HB.out (below_seq HB1.out (And.left ‹Below W1.heap.size W1 _ ∧ _›))
            case measure => simp [intOf]; omega
      · go_wp2_with fail
        go_ret
        rw [List.drop_of_length_le (by omega), St.deepAll] at hdd
        exact ⟨ret_int (by rw [hdd]), hb⟩
end Go.Proofs.YtgemadoieielcacDoor.B
