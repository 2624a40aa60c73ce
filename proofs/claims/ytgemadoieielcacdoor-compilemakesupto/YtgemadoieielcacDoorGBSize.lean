import Derived.Test.YtgemadoieielcacDoorGBDeep2
namespace Go.Proofs.YtgemadoieielcacDoor.B
open Go.ChangeShapes Go.WideShapes Go.ChangeAt Go.RowKit

mutual
def St.count : St → Nat
  | .mk _ _ _ _ _ _ b l => 1 + St.countAll b + St.countAll l
def St.countAll : List St → Nat
  | [] => 0
  | x :: r => x.count + St.countAll r
end

mutual
theorem St.count_le : ∀ e : St, e.count ≤ e.bulk
  | .mk _ _ e _ ca cb b l => by
    have := St.countAll_le b
    have := St.countAll_le l
    unfold St.count St.bulk
    omega
theorem St.countAll_le : ∀ (a : List St), St.countAll a ≤ St.bulkAll a
  | [] => by unfold St.countAll; omega
  | x :: r => by
    have := St.count_le x
    have := St.countAll_le r
    unfold St.countAll St.bulkAll
    omega
end

theorem St.countAll_at {a : List St} {j : Nat} (h : j < a.length) : St.countAll (a.drop j) = a[j].count + St.countAll (a.drop (j + 1)) := by
  rw [drop_at h, St.countAll]

theorem copy14 (wr : World) (x0 x1 x2 x3 x4 x5 x6 x7 x8 x9 x10 x11 x12 x13 : Value) :
    Below wr.heap.size wr (wr.alloc (.cells #[x0, x1, x2, x3, x4, x5, x6, x7, x8, x9, x10, x11, x12, x13] 123)) ∧
    (wr.alloc (.cells #[x0, x1, x2, x3, x4, x5, x6, x7, x8, x9, x10, x11, x12, x13] 123)).cell? ⟨wr.heap.size, 0, none⟩ = some x0 ∧
    (wr.alloc (.cells #[x0, x1, x2, x3, x4, x5, x6, x7, x8, x9, x10, x11, x12, x13] 123)).cell? ⟨wr.heap.size, 1, none⟩ = some x1 ∧
    (wr.alloc (.cells #[x0, x1, x2, x3, x4, x5, x6, x7, x8, x9, x10, x11, x12, x13] 123)).cell? ⟨wr.heap.size, 2, none⟩ = some x2 ∧
    (wr.alloc (.cells #[x0, x1, x2, x3, x4, x5, x6, x7, x8, x9, x10, x11, x12, x13] 123)).cell? ⟨wr.heap.size, 3, none⟩ = some x3 ∧
    (wr.alloc (.cells #[x0, x1, x2, x3, x4, x5, x6, x7, x8, x9, x10, x11, x12, x13] 123)).cell? ⟨wr.heap.size, 4, none⟩ = some x4 ∧
    (wr.alloc (.cells #[x0, x1, x2, x3, x4, x5, x6, x7, x8, x9, x10, x11, x12, x13] 123)).cell? ⟨wr.heap.size, 5, none⟩ = some x5 ∧
    (wr.alloc (.cells #[x0, x1, x2, x3, x4, x5, x6, x7, x8, x9, x10, x11, x12, x13] 123)).cell? ⟨wr.heap.size, 6, none⟩ = some x6 ∧
    (wr.alloc (.cells #[x0, x1, x2, x3, x4, x5, x6, x7, x8, x9, x10, x11, x12, x13] 123)).cell? ⟨wr.heap.size, 7, none⟩ = some x7 ∧
    (wr.alloc (.cells #[x0, x1, x2, x3, x4, x5, x6, x7, x8, x9, x10, x11, x12, x13] 123)).cell? ⟨wr.heap.size, 8, none⟩ = some x8 ∧
    (wr.alloc (.cells #[x0, x1, x2, x3, x4, x5, x6, x7, x8, x9, x10, x11, x12, x13] 123)).cell? ⟨wr.heap.size, 9, none⟩ = some x9 ∧
    (wr.alloc (.cells #[x0, x1, x2, x3, x4, x5, x6, x7, x8, x9, x10, x11, x12, x13] 123)).cell? ⟨wr.heap.size, 10, none⟩ = some x10 ∧
    (wr.alloc (.cells #[x0, x1, x2, x3, x4, x5, x6, x7, x8, x9, x10, x11, x12, x13] 123)).cell? ⟨wr.heap.size, 11, none⟩ = some x11 ∧
    (wr.alloc (.cells #[x0, x1, x2, x3, x4, x5, x6, x7, x8, x9, x10, x11, x12, x13] 123)).cell? ⟨wr.heap.size, 12, none⟩ = some x12 ∧
    (wr.alloc (.cells #[x0, x1, x2, x3, x4, x5, x6, x7, x8, x9, x10, x11, x12, x13] 123)).cell? ⟨wr.heap.size, 13, none⟩ = some x13 := by
  refine ⟨(Below.refl _ _).alloc (Nat.le_refl _) _, ?_, ?_, ?_, ?_, ?_, ?_, ?_, ?_, ?_, ?_, ?_, ?_, ?_, ?_⟩ <;> (rw [World.cell?_alloc_at _ _ _ _ rfl]; rfl)

theorem keep2 {W1 w1 w2 : World} {p2 p3 : Addr} {x2 x3 : Value} (h : Below W1.heap.size W1 w1 ∧ w1.cell? p2 = some x2 ∧ w1.cell? p3 = some x3)
    (hb : Below w1.heap.size w1 w2) : Below W1.heap.size W1 w2 ∧ w2.cell? p2 = some x2 ∧ w2.cell? p3 = some x3 :=
  ⟨below_seq h.1 hb, below_cell hb h.2.1, below_cell hb h.2.2⟩

set_option maxHeartbeats 1000000 in
theorem Size_any (N : Nat) : ∀ (a : List St) (w : World) (v : Value), St.bulkAll a < N → N ≤ 1048577 → St.Sl w a v →
    Calls Tryd.prog 62 #[v] w fun r w' => r = .returned (.int .i64 (St.countAll a)) ∧ Below w.heap.size w w' := by
  induction N with
  | zero => intro a w v h; omega
  | succ N ih =>
    intro a w v hN hle hin
    have hlen := length_le_bulkAll a
    obtain ⟨ad, c, rfl, hrow⟩ := hin
    have HR : Hid (a = [] ∨ ∃ b o, ad = some ⟨b, o, none⟩ ∧ St.Row w a b o) := hrow
    clear hrow
    have IH : Hid _ := ih
    clear ih
    have hca := St.countAll_le a
    go_enter Tryd.func62, Tryd.ntmps62
    go_wp2_with fail
    go_loopw [3, 5, 8] (fun x _ i wr => ∃ (j : Nat) (d : Nat), j ≤ a.length ∧ i = .int .i64 j ∧ x = .int .i64 d ∧ d + St.countAll (a.drop j) = St.countAll a ∧ Below w.heap.size w wr) (fun _ _ i _ => a.length - (intOf i).toNat)
    case atStart => exact ⟨0, 0, Nat.zero_le _, rfl, rfl, by simp, Below.refl _ _⟩
    case round =>
      obtain ⟨j, d, hj, rfl, rfl, hdd, hb⟩ := hrel
      by_cases hlt : j < a.length
      · rcases HR.out with h | ⟨b, o, had, hrow⟩
        · subst h; simp at hlt
        · subst had
          have hbk := bulkAll_at a j a[j] (by simp [hlt])
          have hca2 := St.countAll_at hlt
          obtain ⟨sk, sn, se, sck, sca, scb, sy, sl, hs, ek, en, ead, em, ec, ak, an, aad, am, ac, bk, bn, bad, bm, bc, yad, yc, lad, lc, c0, c1, c2, c3, c4, c5, c6, c7, c8, c9, c10, c11, c12, c13, i1, i2, i3, i4, i5⟩ := (St.Row.below hb a hrow).shape hlt
          rw [hs] at hbk hca2
          unfold St.bulk at hbk
          unfold St.count at hca2
          have hdd' : Hid _ := And.intro hdd hca2
          have hd1 : d + (1 + St.countAll sy + St.countAll sl) ≤ St.countAll a := by omega
          clear hdd hca2 hs hrow i1 i2 i3
          have HI : Hid (_ ∧ _) := ⟨i4, i5⟩
          clear i4 i5
          have HB : Hid _ := hb
          clear hb
          go_wp2_with fail
          obtain ⟨hB1, d0, d1, d2, d3, d4, d5, d6, d7, d8, d9, d10, d11, d12, d13⟩ := copy14 wr (.int .i64 sk) (.int .i64 sn) (.int .i64 ek) (.int .i64 en) (.slice ead em ec) (.int .i64 sck) (.int .i64 ak) (.int .i64 an) (.slice aad am ac) (.int .i64 bk) (.int .i64 bn) (.slice bad bm bc) (.slice yad sy.length yc) (.slice lad sl.length lc)
          clear d0 d1 d2 d3 d4 d5 d6 d7 d8 d9 d10 d11 c0 c1 c2 c3 c4 c5 c6 c7 c8 c9 c10 c11 c12 c13
          generalize wr.alloc (.cells #[.int .i64 sk, .int .i64 sn, .int .i64 ek, .int .i64 en, .slice ead em ec, .int .i64 sck, .int .i64 ak, .int .i64 an, .slice aad am ac, .int .i64 bk, .int .i64 bn, .slice bad bm bc, .slice yad sy.length yc, .slice lad sl.length lc] 123) = W1 at *
          have HB1 : Hid _ := hB1
          clear hB1
          have r1 : IntKind.i64.wrap ((d : Int) + 1) = (d : Int) + 1 := wrap_in _ (by omega)
          have r2 : IntKind.i64.wrap ((d : Int) + 1 + (St.countAll sy : Int)) = (d : Int) + 1 + (St.countAll sy : Int) := wrap_in _ (by omega)
          have r3 : IntKind.i64.wrap ((d : Int) + 1 + (St.countAll sy : Int) + (St.countAll sl : Int)) = (d : Int) + 1 + (St.countAll sy : Int) + (St.countAll sl : Int) := wrap_in _ (by omega)
          go_region_held3 (fun w' => Below W1.heap.size W1 w' ∧ w'.cell? ⟨wr.heap.size, 12, none⟩ = some (.slice yad sy.length yc) ∧ w'.cell? ⟨wr.heap.size, 13, none⟩ = some (.slice lad sl.length lc))
            (first | assumption | exact ⟨(Below.refl _ _).drew, d12, d13⟩)
            (first
              | (go_at_call_of 62 sy.length; refine (IH.out sy _ _ (by omega) (by omega) (Sl_keep HI.out.1 HB1.out ‹Below W1.heap.size W1 _ ∧ _›)).mono ?_; rintro e w' ⟨rfl, hb'⟩; have hS' := keep2 ‹Below W1.heap.size W1 _ ∧ _› hb'; clear hb')
              | (go_at_call_of 62 sl.length; refine (IH.out sl _ _ (by omega) (by omega) (Sl_keep HI.out.2 HB1.out ‹Below W1.heap.size W1 _ ∧ _›)).mono ?_; rintro e w' ⟨rfl, hb'⟩; have hS' := keep2 ‹Below W1.heap.size W1 _ ∧ _› hb'; clear hb'))
          all_goals
            go_wp2_with fail
            go_roundw
            case rel =>
              have q := hdd'.out
              refine ⟨j + 1, d + 1 + St.countAll sy + St.countAll sl, by omega, by go_num, by go_num, by omega, ?_⟩
              exact below_seq HB.out (below_seq HB1.out (And.left ‹Below W1.heap.size W1 _ ∧ _›))
            case measure => simp [intOf]; omega
      · go_wp2_with fail
        go_ret
        rw [List.drop_of_length_le (by omega), St.countAll] at hdd
        exact ⟨ret_int (by omega), hb⟩

set_option maxHeartbeats 400000 in
theorem claims_any (a : List St) (w : World) (v : Value) (hN : St.bulkAll a ≤ 1048576) (hin : St.Sl w a v) :
    Calls Tryd.prog 33 #[v] w fun r w' => r = .returned (.bool (decide (St.deepAll 0 a ≤ 300) && decide ((St.countAll a : Int) ≤ 2000))) ∧ Below w.heap.size w w' := by
  have HI : Hid (St.Sl w a v) := hin
  clear hin
  by_cases h3 : St.deepAll 0 a ≤ 300
  · go_enter Tryd.func33, Tryd.ntmps33
    go_wp2_with (first
      | (go_at_call 61; refine (Deep_any _ a _ _ (Nat.le_refl _) hN HI.out).mono ?_; rintro e w1 ⟨rfl, hb1⟩; have HB1 : Hid _ := hb1; clear hb1)
      | (go_at_call 62; refine (Size_any _ a _ _ (Nat.lt_succ_self _) (by omega) (HI.out.below HB1.out)).mono ?_; rintro e w' ⟨rfl, hb'⟩))
    go_ret
    exact ⟨ret_bool (by rw [decide_eq_true h3]; rfl), below_seq HB1.out hb'⟩
  · go_enter Tryd.func33, Tryd.ntmps33
    go_wp2_with (first
      | (go_at_call 61; refine (Deep_any _ a _ _ (Nat.le_refl _) hN HI.out).mono ?_; rintro e w1 ⟨rfl, hb1⟩; have HB1 : Hid _ := hb1; clear hb1))
    go_ret
    exact ⟨ret_bool (by rw [decide_eq_false (by omega)]; rfl), HB1.out⟩
end Go.Proofs.YtgemadoieielcacDoor.B
