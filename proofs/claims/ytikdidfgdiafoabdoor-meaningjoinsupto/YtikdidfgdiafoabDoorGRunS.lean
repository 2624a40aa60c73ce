import Derived.Test.YtikdidfgdiafoabDoorGVal2
import Derived.Test.YtikdidfgdiafoabDoorGFirst
import Derived.Test.YtikdidfgdiafoabDoorGWsP
import Derived.Test.YtikdidfgdiafoabDoorGTwin
namespace Go.Proofs.YtikdidfgdiafoabDoor
open Go.ChangeShapes Go.WideShapes Go.ChangeAt Go.RowKit

theorem value_any (rb : Nat) (vs is : List Int) (N : Nat) : ValOk rb vs is N := by
  induction N with
  | zero => intro e w v h; omega
  | succ N ih =>
    intro e w v hn hN hok hv hin
    obtain ⟨k, n, a⟩ := e
    unfold Ex.Ok at hok
    unfold Ex.In at hin
    obtain ⟨hall, hok⟩ := hok
    obtain ⟨ad, c, rfl, hrow⟩ := hin
    have hN' : N ≤ 1048577 := by omega
    simp only [Ex.nodes] at hn
    rcases hok with ⟨rfl, rfl⟩ | ⟨rfl, h0, h7, rfl⟩ | ⟨rfl, h0, h7, rfl⟩ | ⟨rfl, hl⟩ | ⟨hk, hl⟩
    · refine (value_1 rb n ad _ c w).mono fun r w' ⟨h1, h2⟩ => ⟨h1.trans ?_, h2⟩
      simp [Ex.val, opVal]
    · obtain ⟨m, rfl⟩ : ∃ m : Nat, n = m := ⟨n.toNat, by omega⟩
      refine (value_2 rb m (by omega) ad _ c vs is w hv).mono fun r w' ⟨h1, h2⟩ => ⟨h1.trans ?_, h2⟩
      simp [Ex.val, opVal]
    · obtain ⟨m, rfl⟩ : ∃ m : Nat, n = m := ⟨n.toNat, by omega⟩
      refine (value_3 rb m (by omega) ad _ c vs is w hv).mono fun r w' ⟨h1, h2⟩ => ⟨h1.trans ?_, h2⟩
      simp [Ex.val, opVal]
    · match a, hl with
      | [x], _ =>
        rcases hrow with h | ⟨b, o, rfl, hr⟩
        · cases h
        simp only [Ex.nodesAll] at hn
        unfold Ex.OkAll at hall
        refine (value_4 rb vs is N ih n x b o c w (by omega) hN' hall.1 hv hr).mono fun r w' ⟨h1, h2⟩ => ⟨h1.trans ?_, h2⟩
        simp [Ex.val, Ex.vals, opVal]
    · match a, hl with
      | [x, y], _ =>
        rcases hrow with h | ⟨b, o, rfl, hr⟩
        · cases h
        simp only [Ex.nodesAll] at hn
        unfold Ex.OkAll Ex.OkAll at hall
        refine (value_5 rb vs is N ih k n hk x y b o c w (by omega) (by omega) hN' hall.1 hall.2.1 hv hr).mono fun r w' ⟨h1, h2⟩ => ⟨h1.trans ?_, h2⟩
        rcases hk with rfl | rfl | rfl <;> simp [Ex.val, Ex.vals, opVal]

theorem keepH {W X Y : World} {p : Nat} {x0 x1 x2 x3 x4 x5 x6 : Value} (hb : Below X.heap.size X Y) (h : Below W.heap.size W X ∧ X.cell? ⟨p, 0, none⟩ = some x0 ∧ X.cell? ⟨p, 1, none⟩ = some x1 ∧ X.cell? ⟨p, 2, none⟩ = some x2 ∧ X.cell? ⟨p, 3, none⟩ = some x3 ∧ X.cell? ⟨p, 4, none⟩ = some x4 ∧ X.cell? ⟨p, 5, none⟩ = some x5 ∧ X.cell? ⟨p, 6, none⟩ = some x6) :
    Below W.heap.size W Y ∧ Y.cell? ⟨p, 0, none⟩ = some x0 ∧ Y.cell? ⟨p, 1, none⟩ = some x1 ∧ Y.cell? ⟨p, 2, none⟩ = some x2 ∧ Y.cell? ⟨p, 3, none⟩ = some x3 ∧ Y.cell? ⟨p, 4, none⟩ = some x4 ∧ Y.cell? ⟨p, 5, none⟩ = some x5 ∧ Y.cell? ⟨p, 6, none⟩ = some x6 :=
  ⟨below_seq h.1 hb, below_cell hb h.2.1, below_cell hb h.2.2.1, below_cell hb h.2.2.2.1, below_cell hb h.2.2.2.2.1, below_cell hb h.2.2.2.2.2.1, below_cell hb h.2.2.2.2.2.2.1, below_cell hb h.2.2.2.2.2.2.2⟩

set_option maxRecDepth 20000 in
set_option maxHeartbeats 4000000 in
theorem holds_any (rb : Nat) (vs is : List Int) (ck ak an bk bn : Int) (hck : 1 ≤ ck ∧ ck ≤ 4) (ca cb : Ex) (aad bad : Option Addr) (am ac bm bc : Nat) (w : World) (hn : ca.nodes ≤ 1048576) (hn' : cb.nodes ≤ 1048576) (hok : ca.Ok) (hok' : cb.Ok) (hv : ValIs w rb vs is)
    (hin : ca.In w (.agg #[.int .i64 ak, .int .i64 an, .slice aad am ac])) (hin' : cb.In w (.agg #[.int .i64 bk, .int .i64 bn, .slice bad bm bc])) :
    Calls Tryd.prog 58 #[.pointer (some ⟨rb, 0, none⟩), .agg #[.int .i64 ck, .int .i64 ak, .int .i64 an, .slice aad am ac, .int .i64 bk, .int .i64 bn, .slice bad bm bc]] w fun r w' => r = .returned (.bool (condVal ck (ca.val vs is) (cb.val vs is))) ∧ Below w.heap.size w w' := by
  have HH : Hid (ca.Ok ∧ ValIs w rb vs is ∧ ca.In w (.agg #[.int .i64 ak, .int .i64 an, .slice aad am ac]) ∧ cb.Ok ∧ cb.In w (.agg #[.int .i64 bk, .int .i64 bn, .slice bad bm bc])) := ⟨hok, hv, hin, hok', hin'⟩
  clear hok hv hin hok' hin'
  have hc : ck = 1 ∨ ck = 2 ∨ ck = 3 ∨ ck = 4 := by omega
  clear hck
  rcases hc with rfl | rfl | rfl | rfl
  · go_enter Tryd.func58, Tryd.ntmps58
    go_wp2_with fail
    go_region_held3 (fun w' => Below w.heap.size w w' ∧ w'.cell? ⟨w.heap.size, 0, none⟩ = some (.int .i64 1) ∧ w'.cell? ⟨w.heap.size, 1, none⟩ = some (.int .i64 ak) ∧ w'.cell? ⟨w.heap.size, 2, none⟩ = some (.int .i64 an) ∧ w'.cell? ⟨w.heap.size, 3, none⟩ = some (.slice aad am ac) ∧ w'.cell? ⟨w.heap.size, 4, none⟩ = some (.int .i64 bk) ∧ w'.cell? ⟨w.heap.size, 5, none⟩ = some (.int .i64 bn) ∧ w'.cell? ⟨w.heap.size, 6, none⟩ = some (.slice bad bm bc))
      (first | assumption | (refine ⟨((Below.refl _ _).alloc (Nat.le_refl _) _).drew, ?_, ?_, ?_, ?_, ?_, ?_, ?_⟩ <;> simp [go_sem]))
      (first
        | (go_at_call_of 57 ak; refine (value_any rb vs is 1048577 ca _ _ (by omega) (by omega) HH.out.1 (HH.out.2.1.below (And.left ‹Below w.heap.size w _ ∧ _›)) (HH.out.2.2.1.below (And.left ‹Below w.heap.size w _ ∧ _›))).mono ?_; rintro r w1 ⟨rfl, hb1⟩; have hS1 := keepH hb1 ‹Below w.heap.size w _ ∧ _›; clear hb1)
        | (go_at_call_of 57 bk; refine (value_any rb vs is 1048577 cb _ _ (by omega) (by omega) HH.out.2.2.2.1 (HH.out.2.1.below (And.left ‹Below w.heap.size w _ ∧ _›)) (HH.out.2.2.2.2.below (And.left ‹Below w.heap.size w _ ∧ _›))).mono ?_; rintro r w2 ⟨rfl, hb2⟩; have hS2 := keepH hb2 ‹Below w.heap.size w _ ∧ _›; clear hb2))
    obtain ⟨hB, c0', -⟩ := ‹Below w.heap.size w _ ∧ _›
    have HB : Hid _ := hB
    clear hB
    go_wp2_with fail
    go_ret
    exact ⟨ret_bool (by simp [condVal]), HB.out⟩
  · go_enter Tryd.func58, Tryd.ntmps58
    go_wp2_with fail
    go_region_held3 (fun w' => Below w.heap.size w w' ∧ w'.cell? ⟨w.heap.size, 0, none⟩ = some (.int .i64 2) ∧ w'.cell? ⟨w.heap.size, 1, none⟩ = some (.int .i64 ak) ∧ w'.cell? ⟨w.heap.size, 2, none⟩ = some (.int .i64 an) ∧ w'.cell? ⟨w.heap.size, 3, none⟩ = some (.slice aad am ac) ∧ w'.cell? ⟨w.heap.size, 4, none⟩ = some (.int .i64 bk) ∧ w'.cell? ⟨w.heap.size, 5, none⟩ = some (.int .i64 bn) ∧ w'.cell? ⟨w.heap.size, 6, none⟩ = some (.slice bad bm bc))
      (first | assumption | (refine ⟨((Below.refl _ _).alloc (Nat.le_refl _) _).drew, ?_, ?_, ?_, ?_, ?_, ?_, ?_⟩ <;> simp [go_sem]))
      (first
        | (go_at_call_of 57 ak; refine (value_any rb vs is 1048577 ca _ _ (by omega) (by omega) HH.out.1 (HH.out.2.1.below (And.left ‹Below w.heap.size w _ ∧ _›)) (HH.out.2.2.1.below (And.left ‹Below w.heap.size w _ ∧ _›))).mono ?_; rintro r w1 ⟨rfl, hb1⟩; have hS1 := keepH hb1 ‹Below w.heap.size w _ ∧ _›; clear hb1)
        | (go_at_call_of 57 bk; refine (value_any rb vs is 1048577 cb _ _ (by omega) (by omega) HH.out.2.2.2.1 (HH.out.2.1.below (And.left ‹Below w.heap.size w _ ∧ _›)) (HH.out.2.2.2.2.below (And.left ‹Below w.heap.size w _ ∧ _›))).mono ?_; rintro r w2 ⟨rfl, hb2⟩; have hS2 := keepH hb2 ‹Below w.heap.size w _ ∧ _›; clear hb2))
    obtain ⟨hB, c0', -⟩ := ‹Below w.heap.size w _ ∧ _›
    have HB : Hid _ := hB
    clear hB
    go_wp2_with fail
    go_ret
    exact ⟨ret_bool (by simp [condVal]; rfl), HB.out⟩
  · go_enter Tryd.func58, Tryd.ntmps58
    go_wp2_with fail
    go_region_held3 (fun w' => Below w.heap.size w w' ∧ w'.cell? ⟨w.heap.size, 0, none⟩ = some (.int .i64 3) ∧ w'.cell? ⟨w.heap.size, 1, none⟩ = some (.int .i64 ak) ∧ w'.cell? ⟨w.heap.size, 2, none⟩ = some (.int .i64 an) ∧ w'.cell? ⟨w.heap.size, 3, none⟩ = some (.slice aad am ac) ∧ w'.cell? ⟨w.heap.size, 4, none⟩ = some (.int .i64 bk) ∧ w'.cell? ⟨w.heap.size, 5, none⟩ = some (.int .i64 bn) ∧ w'.cell? ⟨w.heap.size, 6, none⟩ = some (.slice bad bm bc))
      (first | assumption | (refine ⟨((Below.refl _ _).alloc (Nat.le_refl _) _).drew, ?_, ?_, ?_, ?_, ?_, ?_, ?_⟩ <;> simp [go_sem]))
      (first
        | (go_at_call_of 57 ak; refine (value_any rb vs is 1048577 ca _ _ (by omega) (by omega) HH.out.1 (HH.out.2.1.below (And.left ‹Below w.heap.size w _ ∧ _›)) (HH.out.2.2.1.below (And.left ‹Below w.heap.size w _ ∧ _›))).mono ?_; rintro r w1 ⟨rfl, hb1⟩; have hS1 := keepH hb1 ‹Below w.heap.size w _ ∧ _›; clear hb1)
        | (go_at_call_of 57 bk; refine (value_any rb vs is 1048577 cb _ _ (by omega) (by omega) HH.out.2.2.2.1 (HH.out.2.1.below (And.left ‹Below w.heap.size w _ ∧ _›)) (HH.out.2.2.2.2.below (And.left ‹Below w.heap.size w _ ∧ _›))).mono ?_; rintro r w2 ⟨rfl, hb2⟩; have hS2 := keepH hb2 ‹Below w.heap.size w _ ∧ _›; clear hb2))
    obtain ⟨hB, c0', -⟩ := ‹Below w.heap.size w _ ∧ _›
    have HB : Hid _ := hB
    clear hB
    go_wp2_with fail
    go_ret
    exact ⟨ret_bool (by simp [condVal]; rfl), HB.out⟩
  · go_enter Tryd.func58, Tryd.ntmps58
    go_wp2_with fail
    go_region_held3 (fun w' => Below w.heap.size w w' ∧ w'.cell? ⟨w.heap.size, 0, none⟩ = some (.int .i64 4) ∧ w'.cell? ⟨w.heap.size, 1, none⟩ = some (.int .i64 ak) ∧ w'.cell? ⟨w.heap.size, 2, none⟩ = some (.int .i64 an) ∧ w'.cell? ⟨w.heap.size, 3, none⟩ = some (.slice aad am ac) ∧ w'.cell? ⟨w.heap.size, 4, none⟩ = some (.int .i64 bk) ∧ w'.cell? ⟨w.heap.size, 5, none⟩ = some (.int .i64 bn) ∧ w'.cell? ⟨w.heap.size, 6, none⟩ = some (.slice bad bm bc))
      (first | assumption | (refine ⟨((Below.refl _ _).alloc (Nat.le_refl _) _).drew, ?_, ?_, ?_, ?_, ?_, ?_, ?_⟩ <;> simp [go_sem]))
      (first
        | (go_at_call_of 57 ak; refine (value_any rb vs is 1048577 ca _ _ (by omega) (by omega) HH.out.1 (HH.out.2.1.below (And.left ‹Below w.heap.size w _ ∧ _›)) (HH.out.2.2.1.below (And.left ‹Below w.heap.size w _ ∧ _›))).mono ?_; rintro r w1 ⟨rfl, hb1⟩; have hS1 := keepH hb1 ‹Below w.heap.size w _ ∧ _›; clear hb1)
        | (go_at_call_of 57 bk; refine (value_any rb vs is 1048577 cb _ _ (by omega) (by omega) HH.out.2.2.2.1 (HH.out.2.1.below (And.left ‹Below w.heap.size w _ ∧ _›)) (HH.out.2.2.2.2.below (And.left ‹Below w.heap.size w _ ∧ _›))).mono ?_; rintro r w2 ⟨rfl, hb2⟩; have hS2 := keepH hb2 ‹Below w.heap.size w _ ∧ _›; clear hb2))
    obtain ⟨hB, c0', -⟩ := ‹Below w.heap.size w _ ∧ _›
    have HB : Hid _ := hB
    clear hB
    go_wp2_with fail
    go_ret
    exact ⟨ret_bool (by simp [condVal]), HB.out⟩
end Go.Proofs.YtikdidfgdiafoabDoor
namespace Go.Proofs.YtikdidfgdiafoabDoor
open Go.ChangeShapes Go.WideShapes Go.ChangeAt Go.RowKit

/-- Numbers as cells. -/
def intVs (l : List Int) : List Value := l.map fun z => .int .i64 z

/-- What is known of the expressions that lie deeper: the document's side. -/
def WorthOk (rb : Nat) (vs is : List Int) (N : Nat) : Prop := ∀ (e : Ex) (w : World) (v : Value), e.nodes < N → N ≤ 1048577 → e.Ok → ValIs w rb vs is → e.In w v →
  Calls Tryd.prog 40 #[.pointer (some ⟨rb, 0, none⟩), v] w fun r w' => r = .returned (.int .i64 (e.val vs is)) ∧ Below w.heap.size w w'

theorem vals_take (vs is : List Int) : ∀ (a : List Ex) (j : Nat) (h : j < a.length), Ex.vals vs is (a.take (j + 1)) = Ex.vals vs is (a.take j) ++ [(a[j]).val vs is]
  | [], j, h => by simp at h
  | x :: r, 0, h => by simp [Ex.vals]
  | x :: r, j + 1, h => by
    have := vals_take vs is r j (by simpa using h)
    simp only [List.take_succ_cons, Ex.vals, List.getElem_cons_succ, List.cons_append]
    rw [this]

theorem OkAll_at : ∀ (a : List Ex) (j : Nat) (h : j < a.length), Ex.OkAll a → (a[j]).Ok
  | [], j, h, _ => by simp at h
  | x :: r, 0, h, ha => by unfold Ex.OkAll at ha; exact ha.1
  | x :: r, j + 1, h, ha => by unfold Ex.OkAll at ha; exact OkAll_at r j (by simpa using h) ha.2

theorem vals_length (vs is : List Int) : ∀ a : List Ex, (Ex.vals vs is a).length = a.length
  | [] => rfl
  | x :: r => by simp [Ex.vals, vals_length vs is r]

set_option maxRecDepth 20000 in
set_option maxHeartbeats 4000000 in
/-- The operands first, whatever the kind: up to the loop's end. -/
theorem worth_any (rb : Nat) (vs is : List Int) (N : Nat) : WorthOk rb vs is N := by
  induction N with
  | zero => intro e w v h; omega
  | succ N ih =>
    intro e w v hn hle hok hv hin
    obtain ⟨k, n, a⟩ := e
    unfold Ex.nodes at hn
    have hlen := length_le_nodesAll a
    unfold Ex.In at hin
    obtain ⟨ad, c, rfl, hrow⟩ := hin
    unfold Ex.Ok at hok
    obtain ⟨hall, hkind⟩ := hok
    have HR : Hid ((a = [] ∨ ∃ b o, ad = some ⟨b, o, none⟩ ∧ Ex.Row w a b o) ∧ Ex.OkAll a ∧ ValIs w rb vs is ∧ WorthOk rb vs is N) := ⟨hrow, hall, hv, ih⟩
    have HKind : Hid _ := hkind
    clear hrow hall hv ih hkind
    obtain ⟨i0, hi, hz0, hz1, hz2⟩ := info_parts info3
    go_enter Tryd.func40, Tryd.ntmps40
    go_wp2_with fail
    have hC : ∃ W2, W2 = w.alloc (.cells #[.int .i64 k, .int .i64 n, .slice ad a.length c] 57) := ⟨_, rfl⟩
    obtain ⟨W2, hW⟩ := hC
    have hsz : W2.heap.size = w.heap.size + 1 := by rw [hW]; simp
    have hB0 : Below w.heap.size w W2 := by rw [hW]; exact (Below.refl _ _).alloc (Nat.le_refl _) _
    have e0 : W2.cell? ⟨w.heap.size, 0, none⟩ = some (.int .i64 k) := by rw [hW, World.cell?_alloc_at _ _ _ _ rfl]; rfl
    have e1 : W2.cell? ⟨w.heap.size, 1, none⟩ = some (.int .i64 n) := by rw [hW, World.cell?_alloc_at _ _ _ _ rfl]; rfl
    rw [← hW]
    clear hW
    go_loopw [5, 7, 11] (fun x _ i wr' => ∃ (j : Nat), j ≤ a.length ∧ i = .int .i64 j ∧ wr'.ownsRow W2.heap.size 3 1 x j (intVs (Ex.vals vs is (a.take j))) ∧ Below W2.heap.size W2 wr') (fun _ _ i _ => a.length - (intOf i).toNat)
    case atStart => exact ⟨0, Nat.zero_le _, rfl, World.ownsRow_nil _ _ _ _, Below.refl _ _⟩
    case round =>
      obtain ⟨j, hj, rfl, hown, hb⟩ := hrel
      by_cases hlt : j < a.length
      · rcases HR.out.1 with h | ⟨b, o, had, hrow⟩
        · subst h; simp at hlt
        subst had
        have hb2 := below_seq hB0 hb
        obtain ⟨xk, xn, xad, xm, xc, c0, c1, c2, hin⟩ := (Ex.Row.below hb2 a hrow).shape hlt
        have hnd := nodesAll_at a j a[j] (by simp [hlt])
        have HI : Hid (_ ∧ _ ∧ _ ∧ _) := ⟨hin, hown, hb, hb2⟩
        clear hin hown hb hrow hb2 e0 e1 hB0
        go_wp2_with (first
          | (go_at_call 40; refine (HR.out.2.2.2 a[j] _ _ (by omega) (by omega) (OkAll_at a j hlt HR.out.2.1) (HR.out.2.2.1.below (below_seq HI.out.2.2.2 ((Below.refl _ _).alloc (Nat.le_refl _) _))) (Ex.In.below ((Below.refl _ _).alloc (Nat.le_refl _) _) _ HI.out.1)).mono ?_; rintro e w2 ⟨rfl, hb'⟩; have HI2 : Hid _ := hb'; clear hb')
          | (at_builtin; refine append_mine _ rfl (.tmp 15) (.tmp 19) 23 rfl W2.heap.size 3 i0 _ 1 8 Tryd.underlying23 hi hz0 hz1 hz2 rfl (by decide) _ j (intVs (Ex.vals vs is (a.take j))) rfl (ownsRow_below HI.out.2.1 (below_seq (below_seq ((Below.refl _ _).alloc (Nat.le_refl _) _) HI2.out) ((Below.refl _ _).alloc (Nat.le_refl _) _))) ⟨w2.heap.size, 0, none⟩ 1 1 [.int .i64 ((a[j]).val vs is)] rfl rfl ?qc ?q1 (by decide) ?q3 ?q4 ?q5 ?_; rotate_left 5; intro v3 w3 hown3 hg3 hv3; have HI3 : Hid (_ ∧ _ ∧ _) := ⟨hown3, hg3, hv3⟩; clear hown3 hg3 hv3))
        case qc => exact fresh_cells w2 _ 3
        case q1 => intro u hu; simp at hu; rcases hu with rfl; rfl
        case q3 => unfold maxLen; omega
        case q4 => omega
        case q5 => have := HI.out.2.2.1.size; have := HI2.out.size; simp at this; simp; omega
        have R1 : Below W2.heap.size W2 w3 := by
          have s1 := HI.out.2.2.1.size
          have s2 := HI2.out.size
          simp at s2
          exact ((HI.out.2.2.1.trans ((below_seq ((Below.refl _ _).alloc (Nat.le_refl _) _) HI2.out).mono s1)).alloc (by omega) _).grown HI3.out.2.1 (by simp; omega) fun k hk => (HI.out.2.1.lt k hk).1
        have R2 := HI3.out.1
        go_roundw
        case rel => exact ⟨j + 1, by omega, by go_num, by rw [vals_take vs is a j hlt, intVs, List.map_append]; exact R2, R1⟩
        case measure => simp [intOf]; omega
      · have hje : j = a.length := by omega
        subst hje
        rw [List.take_length] at hown
        have g0 := below_cell hb e0
        have g1 := below_cell hb e1
        have hv := HR.out.2.2.1.below (below_seq hB0 hb)
        have hgl : w.heap.size < wr.heap.size := World.block_lt_of_cell? _ _ g0
        have HE : Hid (Below w.heap.size w wr) := below_seq hB0 hb
        clear hb hB0 e0 e1
        rcases HKind.out with ⟨rfl, rfl⟩ | ⟨rfl, h0, h7, rfl⟩ | ⟨rfl, h0, h7, rfl⟩ | ⟨rfl, hl⟩ | ⟨hk, hl⟩
        · clear hown hv
          go_wp2_with fail
          go_ret
          exact ⟨ret_int (by simp [Ex.val, opVal]), HE.out⟩
        · obtain ⟨m, rfl⟩ : ∃ m : Nat, n = m := ⟨n.toNat, by omega⟩
          obtain ⟨vb, vc, h1, h2, h3⟩ := hv.vars
          have h4 := h3 m (by omega)
          have hr : rb < wr.heap.size := World.block_lt_of_cell? _ _ h1
          have hvb : vb < wr.heap.size := World.block_lt_of_cell? _ _ h4
          clear hown hv h3 h2
          go_wp2_with fail
          go_region
          all_goals
            go_wp2_with fail
            go_ret
            exact ⟨ret_int (by simp [Ex.val, opVal]), HE.out.drew⟩
        · obtain ⟨m, rfl⟩ : ∃ m : Nat, n = m := ⟨n.toNat, by omega⟩
          obtain ⟨ib, io, ic, h1, h3⟩ := hv.ins
          have h4 := h3 m (by omega)
          have hr : rb < wr.heap.size := World.block_lt_of_cell? _ _ h1
          have hvb : ib < wr.heap.size := World.block_lt_of_cell? _ _ h4
          clear hown hv h3
          go_wp2_with fail
          go_region
          all_goals
            go_wp2_with fail
            go_ret
            exact ⟨ret_int (by simp [Ex.val, opVal]), HE.out.drew⟩
        · obtain ⟨x, rfl⟩ := List.length_eq_one_iff.1 hl
          · skip
            obtain ⟨g, cap, rfl, -, hcell⟩ := getCell hown (by simp)
            have q0 := hcell 0 _ rfl
            simp only [Nat.add_zero] at q0
            clear hown hv hcell
            go_wp2_with fail
            go_ret
            exact ⟨ret_int (by simp [Ex.val, Ex.vals, opVal, Go.Proofs.YtikdidfgdiafoabDoor.wr]), HE.out⟩
        · obtain ⟨x, y, rfl⟩ : ∃ x y, a = [x, y] := by match a, hl with | [x, y], _ => exact ⟨x, y, rfl⟩
          · skip
            obtain ⟨g, cap, rfl, -, hcell⟩ := getCell hown (by simp)
            have q0 := hcell 0 _ rfl
            have q1 := hcell 1 _ rfl
            simp only [Nat.add_zero, Nat.zero_add] at q0 q1
            clear hown hv hcell
            rcases hk with rfl | rfl | rfl
            all_goals
              go_wp2_with fail
              go_region
              all_goals
                go_wp2_with fail
                go_ret
                exact ⟨ret_int (by simp [Ex.val, Ex.vals, opVal, Go.Proofs.YtikdidfgdiafoabDoor.wr]), HE.out.drew⟩
end Go.Proofs.YtikdidfgdiafoabDoor
namespace Go.Proofs.YtikdidfgdiafoabDoor
open Go.ChangeShapes Go.WideShapes Go.ChangeAt Go.RowKit

set_option maxRecDepth 20000 in
set_option maxHeartbeats 4000000 in
theorem true_any (rb : Nat) (vs is : List Int) (ck ak an bk bn : Int) (hck : 1 ≤ ck ∧ ck ≤ 4) (ca cb : Ex) (aad bad : Option Addr) (am ac bm bc : Nat) (w : World) (hn : ca.nodes ≤ 1048576) (hn' : cb.nodes ≤ 1048576) (hok : ca.Ok) (hok' : cb.Ok) (hv : ValIs w rb vs is)
    (hin : ca.In w (.agg #[.int .i64 ak, .int .i64 an, .slice aad am ac])) (hin' : cb.In w (.agg #[.int .i64 bk, .int .i64 bn, .slice bad bm bc])) :
    Calls Tryd.prog 41 #[.pointer (some ⟨rb, 0, none⟩), .agg #[.int .i64 ck, .int .i64 ak, .int .i64 an, .slice aad am ac, .int .i64 bk, .int .i64 bn, .slice bad bm bc]] w fun r w' => r = .returned (.bool (condVal ck (ca.val vs is) (cb.val vs is))) ∧ Below w.heap.size w w' := by
  have HH : Hid (ca.Ok ∧ ValIs w rb vs is ∧ ca.In w (.agg #[.int .i64 ak, .int .i64 an, .slice aad am ac]) ∧ cb.Ok ∧ cb.In w (.agg #[.int .i64 bk, .int .i64 bn, .slice bad bm bc])) := ⟨hok, hv, hin, hok', hin'⟩
  clear hok hv hin hok' hin'
  have hc : ck = 1 ∨ ck = 2 ∨ ck = 3 ∨ ck = 4 := by omega
  clear hck
  rcases hc with rfl | rfl | rfl | rfl
  · go_enter Tryd.func41, Tryd.ntmps41
    go_wp2_with fail
    go_region_held3 (fun w' => Below w.heap.size w w' ∧ w'.cell? ⟨w.heap.size, 0, none⟩ = some (.int .i64 1) ∧ w'.cell? ⟨w.heap.size, 1, none⟩ = some (.int .i64 ak) ∧ w'.cell? ⟨w.heap.size, 2, none⟩ = some (.int .i64 an) ∧ w'.cell? ⟨w.heap.size, 3, none⟩ = some (.slice aad am ac) ∧ w'.cell? ⟨w.heap.size, 4, none⟩ = some (.int .i64 bk) ∧ w'.cell? ⟨w.heap.size, 5, none⟩ = some (.int .i64 bn) ∧ w'.cell? ⟨w.heap.size, 6, none⟩ = some (.slice bad bm bc))
      (first | assumption | (refine ⟨((Below.refl _ _).alloc (Nat.le_refl _) _).drew, ?_, ?_, ?_, ?_, ?_, ?_, ?_⟩ <;> simp [go_sem]))
      (first
        | (go_at_call_of 40 ak; refine (worth_any rb vs is 1048577 ca _ _ (by omega) (by omega) HH.out.1 (HH.out.2.1.below (And.left ‹Below w.heap.size w _ ∧ _›)) (HH.out.2.2.1.below (And.left ‹Below w.heap.size w _ ∧ _›))).mono ?_; rintro r w1 ⟨rfl, hb1⟩; have hS1 := keepH hb1 ‹Below w.heap.size w _ ∧ _›; clear hb1)
        | (go_at_call_of 40 bk; refine (worth_any rb vs is 1048577 cb _ _ (by omega) (by omega) HH.out.2.2.2.1 (HH.out.2.1.below (And.left ‹Below w.heap.size w _ ∧ _›)) (HH.out.2.2.2.2.below (And.left ‹Below w.heap.size w _ ∧ _›))).mono ?_; rintro r w2 ⟨rfl, hb2⟩; have hS2 := keepH hb2 ‹Below w.heap.size w _ ∧ _›; clear hb2))
    obtain ⟨hB, c0', -⟩ := ‹Below w.heap.size w _ ∧ _›
    have hlt := World.block_lt_of_cell? _ _ c0'
    have HB : Hid (Below w.heap.size w _) := hB
    clear hB
    go_wp2_with fail
    go_ret
    exact ⟨ret_bool (by simp [condVal]), HB.out.alloc HB.out.size _⟩
  · go_enter Tryd.func41, Tryd.ntmps41
    go_wp2_with fail
    go_region_held3 (fun w' => Below w.heap.size w w' ∧ w'.cell? ⟨w.heap.size, 0, none⟩ = some (.int .i64 2) ∧ w'.cell? ⟨w.heap.size, 1, none⟩ = some (.int .i64 ak) ∧ w'.cell? ⟨w.heap.size, 2, none⟩ = some (.int .i64 an) ∧ w'.cell? ⟨w.heap.size, 3, none⟩ = some (.slice aad am ac) ∧ w'.cell? ⟨w.heap.size, 4, none⟩ = some (.int .i64 bk) ∧ w'.cell? ⟨w.heap.size, 5, none⟩ = some (.int .i64 bn) ∧ w'.cell? ⟨w.heap.size, 6, none⟩ = some (.slice bad bm bc))
      (first | assumption | (refine ⟨((Below.refl _ _).alloc (Nat.le_refl _) _).drew, ?_, ?_, ?_, ?_, ?_, ?_, ?_⟩ <;> simp [go_sem]))
      (first
        | (go_at_call_of 40 ak; refine (worth_any rb vs is 1048577 ca _ _ (by omega) (by omega) HH.out.1 (HH.out.2.1.below (And.left ‹Below w.heap.size w _ ∧ _›)) (HH.out.2.2.1.below (And.left ‹Below w.heap.size w _ ∧ _›))).mono ?_; rintro r w1 ⟨rfl, hb1⟩; have hS1 := keepH hb1 ‹Below w.heap.size w _ ∧ _›; clear hb1)
        | (go_at_call_of 40 bk; refine (worth_any rb vs is 1048577 cb _ _ (by omega) (by omega) HH.out.2.2.2.1 (HH.out.2.1.below (And.left ‹Below w.heap.size w _ ∧ _›)) (HH.out.2.2.2.2.below (And.left ‹Below w.heap.size w _ ∧ _›))).mono ?_; rintro r w2 ⟨rfl, hb2⟩; have hS2 := keepH hb2 ‹Below w.heap.size w _ ∧ _›; clear hb2))
    obtain ⟨hB, c0', -⟩ := ‹Below w.heap.size w _ ∧ _›
    have hlt := World.block_lt_of_cell? _ _ c0'
    have HB : Hid (Below w.heap.size w _) := hB
    clear hB
    go_wp2_with fail
    go_ret
    exact ⟨ret_bool (by simp [condVal]; rfl), HB.out.alloc HB.out.size _⟩
  · go_enter Tryd.func41, Tryd.ntmps41
    go_wp2_with fail
    go_region_held3 (fun w' => Below w.heap.size w w' ∧ w'.cell? ⟨w.heap.size, 0, none⟩ = some (.int .i64 3) ∧ w'.cell? ⟨w.heap.size, 1, none⟩ = some (.int .i64 ak) ∧ w'.cell? ⟨w.heap.size, 2, none⟩ = some (.int .i64 an) ∧ w'.cell? ⟨w.heap.size, 3, none⟩ = some (.slice aad am ac) ∧ w'.cell? ⟨w.heap.size, 4, none⟩ = some (.int .i64 bk) ∧ w'.cell? ⟨w.heap.size, 5, none⟩ = some (.int .i64 bn) ∧ w'.cell? ⟨w.heap.size, 6, none⟩ = some (.slice bad bm bc))
      (first | assumption | (refine ⟨((Below.refl _ _).alloc (Nat.le_refl _) _).drew, ?_, ?_, ?_, ?_, ?_, ?_, ?_⟩ <;> simp [go_sem]))
      (first
        | (go_at_call_of 40 ak; refine (worth_any rb vs is 1048577 ca _ _ (by omega) (by omega) HH.out.1 (HH.out.2.1.below (And.left ‹Below w.heap.size w _ ∧ _›)) (HH.out.2.2.1.below (And.left ‹Below w.heap.size w _ ∧ _›))).mono ?_; rintro r w1 ⟨rfl, hb1⟩; have hS1 := keepH hb1 ‹Below w.heap.size w _ ∧ _›; clear hb1)
        | (go_at_call_of 40 bk; refine (worth_any rb vs is 1048577 cb _ _ (by omega) (by omega) HH.out.2.2.2.1 (HH.out.2.1.below (And.left ‹Below w.heap.size w _ ∧ _›)) (HH.out.2.2.2.2.below (And.left ‹Below w.heap.size w _ ∧ _›))).mono ?_; rintro r w2 ⟨rfl, hb2⟩; have hS2 := keepH hb2 ‹Below w.heap.size w _ ∧ _›; clear hb2))
    obtain ⟨hB, c0', -⟩ := ‹Below w.heap.size w _ ∧ _›
    have hlt := World.block_lt_of_cell? _ _ c0'
    have HB : Hid (Below w.heap.size w _) := hB
    clear hB
    go_wp2_with fail
    go_ret
    exact ⟨ret_bool (by simp [condVal]; rfl), HB.out.alloc HB.out.size _⟩
  · go_enter Tryd.func41, Tryd.ntmps41
    go_wp2_with fail
    go_region_held3 (fun w' => Below w.heap.size w w' ∧ w'.cell? ⟨w.heap.size, 0, none⟩ = some (.int .i64 4) ∧ w'.cell? ⟨w.heap.size, 1, none⟩ = some (.int .i64 ak) ∧ w'.cell? ⟨w.heap.size, 2, none⟩ = some (.int .i64 an) ∧ w'.cell? ⟨w.heap.size, 3, none⟩ = some (.slice aad am ac) ∧ w'.cell? ⟨w.heap.size, 4, none⟩ = some (.int .i64 bk) ∧ w'.cell? ⟨w.heap.size, 5, none⟩ = some (.int .i64 bn) ∧ w'.cell? ⟨w.heap.size, 6, none⟩ = some (.slice bad bm bc))
      (first | assumption | (refine ⟨((Below.refl _ _).alloc (Nat.le_refl _) _).drew, ?_, ?_, ?_, ?_, ?_, ?_, ?_⟩ <;> simp [go_sem]))
      (first
        | (go_at_call_of 40 ak; refine (worth_any rb vs is 1048577 ca _ _ (by omega) (by omega) HH.out.1 (HH.out.2.1.below (And.left ‹Below w.heap.size w _ ∧ _›)) (HH.out.2.2.1.below (And.left ‹Below w.heap.size w _ ∧ _›))).mono ?_; rintro r w1 ⟨rfl, hb1⟩; have hS1 := keepH hb1 ‹Below w.heap.size w _ ∧ _›; clear hb1)
        | (go_at_call_of 40 bk; refine (worth_any rb vs is 1048577 cb _ _ (by omega) (by omega) HH.out.2.2.2.1 (HH.out.2.1.below (And.left ‹Below w.heap.size w _ ∧ _›)) (HH.out.2.2.2.2.below (And.left ‹Below w.heap.size w _ ∧ _›))).mono ?_; rintro r w2 ⟨rfl, hb2⟩; have hS2 := keepH hb2 ‹Below w.heap.size w _ ∧ _›; clear hb2))
    obtain ⟨hB, c0', -⟩ := ‹Below w.heap.size w _ ∧ _›
    have hlt := World.block_lt_of_cell? _ _ c0'
    have HB : Hid (Below w.heap.size w _) := hB
    clear hB
    go_wp2_with fail
    go_ret
    exact ⟨ret_bool (by simp [condVal]), HB.out.alloc HB.out.size _⟩
end Go.Proofs.YtikdidfgdiafoabDoor
namespace Go.Proofs.YtikdidfgdiafoabDoor
open Go.ChangeShapes Go.WideShapes Go.ChangeAt Go.RowKit

theorem set_size (w : World) (a : Addr) (u : Value) : (w.setCell a u).heap.size = w.heap.size := by
  show (w.heap.modify _ _).size = _
  simp

/-- What went out, as cells. -/
def putVs (l : List (Int × Int)) : List Value := l.flatMap fun p => [.int .i64 p.1, .int .i64 p.2]

theorem putVs_snoc (l : List (Int × Int)) (p : Int × Int) : putVs (l ++ [p]) = putVs l ++ [.int .i64 p.1, .int .i64 p.2] := by
  simp [putVs]

/-- The variables' block. -/
def VarBlk (w : World) (vb vc : Nat) (vs : List Int) : Prop := vs.length = 8 ∧ ∃ cs : Array Value, w.heap[vb]? = some (.cells cs 3 (0, 0)) ∧ (8 ≤ vc ∧ vc ≤ cs.size) ∧ ∀ j, j < 8 → cs[j]? = some (.int .i64 (vs.getD j 0))

/-- A run that is being done, on either side. -/
structure Rn (w : World) (rb vb B vc : Nat) (T : TypeId) (iv x4 pv : Value) (s : Ms) : Prop where
  blk : w.heap[rb]? = some (.cells #[.slice (some ⟨vb, 0, none⟩) 8 vc, pv, .int .i64 s.steps, iv, x4] T (0, 0))
  vars : VarBlk w vb vc s.vars
  puts : w.ownsRow B 42 2 pv s.puts.length (putVs s.puts)
  ltr : rb < B
  ltv : vb < B
  ne : rb ≠ vb
  le : B ≤ w.heap.size

/-- What a piece of a run leaves alone. -/
structure RR (rb vb : Nat) (w w' : World) (v v' : Value) : Prop where
  os : w'.os = w.os
  tape : w'.tape = w.tape
  output : w'.output = w.output
  size : w.heap.size ≤ w'.heap.size
  block : ∀ k, k < w.heap.size → k ≠ rb → k ≠ vb → some k ≠ v.ownBlock → w'.heap[k]? = w.heap[k]?
  own : v'.ownBlock = v.ownBlock ∨ ∀ k, v'.ownBlock = some k → w.heap.size ≤ k

theorem RR.refl (rb vb : Nat) (w : World) (v : Value) : RR rb vb w w v v := ⟨rfl, rfl, rfl, Nat.le_refl _, fun _ _ _ _ _ => rfl, .inl rfl⟩

theorem RR.trans {rb vb : Nat} {a b c : World} {u v x : Value} (h : RR rb vb a b u v) (h' : RR rb vb b c v x) : RR rb vb a c u x := by
  refine ⟨h'.os.trans h.os, h'.tape.trans h.tape, h'.output.trans h.output, Nat.le_trans h.size h'.size, fun k hk h1 h1' h2 => ?_, ?_⟩
  · refine (h'.block k (by have := h.size; omega) h1 h1' fun e => ?_).trans (h.block k hk h1 h1' h2)
    rcases h.own with ho | ho
    · exact h2 (e.trans ho)
    · have := ho k e.symm; omega
  · rcases h'.own with ho' | ho'
    · rw [ho']; exact h.own
    · right; intro k hk; have := ho' k hk; have := h.size; omega

theorem RR.of_below {rb vb : Nat} {a b : World} {v : Value} (h : Below a.heap.size a b) : RR rb vb a b v v := ⟨h.os, h.tape, h.output, h.size, fun k hk _ _ _ => h.block k hk, .inl rfl⟩

section
variable {w w' w0 : World} {rb vb B vc : Nat} {T : TypeId} {iv x4 pv pv' : Value} {s : Ms}

theorem Rn.own_lt (h : Rn w rb vb B vc T iv x4 pv s) : ∀ k, pv.ownBlock = some k → B ≤ k ∧ k < w.heap.size := h.puts.lt

theorem Rn.below (h : Rn w rb vb B vc T iv x4 pv s) (hb : Below w.heap.size w w') : Rn w' rb vb B vc T iv x4 pv s := by
  obtain ⟨hl, cs, h1, h2, h3⟩ := h.vars
  exact ⟨(hb.block rb (Array.getElem?_eq_some_iff.1 h.blk).1).trans h.blk, ⟨hl, cs, (hb.block vb (Array.getElem?_eq_some_iff.1 h1).1).trans h1, h2, h3⟩, ownsRow_below h.puts hb, h.ltr, h.ltv, h.ne, Nat.le_trans h.le hb.size⟩

theorem RR.low (h : RR rb vb w w' pv pv') (hk : Rn w rb vb B vc T iv x4 pv s) (hr : w0.heap.size ≤ rb) (hv : w0.heap.size ≤ vb) (hb : Below w0.heap.size w0 w) : Below w0.heap.size w0 w' := by
  refine hb.trans ⟨h.os, h.tape, h.output, h.size, fun k hk' => h.block k (by have := hb.size; omega) (by omega) (by omega) fun e => ?_⟩
  have := (hk.own_lt k e.symm).1
  have := hk.ltr
  omega

theorem RR.cell (h : RR rb vb w w' pv pv') {p o : Nat} {x : Value} (hp : p ≠ rb) (hp' : p ≠ vb) (hq : some p ≠ pv.ownBlock) (hc : w.cell? ⟨p, o, none⟩ = some x) : w'.cell? ⟨p, o, none⟩ = some x :=
  (World.cell?_of_block (h.block p (World.block_lt_of_cell? _ _ hc) hp hp' hq)).trans hc

/-- The inputs. -/
def InsIs (w : World) (iv : Value) (is : List Int) : Prop := ∃ ib io ic, iv = .slice (some ⟨ib, io, none⟩) 4 ic ∧ ∀ j, j < 4 → w.cell? ⟨ib, io + j, none⟩ = some (.int .i64 (is.getD j 0))

theorem Rn.val {is : List Int} (h : Rn w rb vb B vc T iv x4 pv s) (hi : InsIs w0 iv is) (hb : Below w0.heap.size w0 w) : ValIs w rb s.vars is := by
  obtain ⟨hl, cs, h1, h2, h3⟩ := h.vars
  obtain ⟨ib, io, ic, rfl, h4⟩ := hi
  refine ⟨⟨vb, vc, ?_, hl, fun j hj => ?_⟩, ⟨ib, io, ic, ?_, fun j hj => below_cell hb (h4 j hj)⟩⟩
  · unfold World.cell?; rw [h.blk]; rfl
  · unfold World.cell?; rw [h1]; simpa using h3 j hj
  · unfold World.cell?; rw [h.blk]; rfl

/-- The cells of the run. -/
theorem Rn.cells (h : Rn w rb vb B vc T iv x4 pv s) : w.cell? ⟨rb, 0, none⟩ = some (.slice (some ⟨vb, 0, none⟩) 8 vc) ∧ w.cell? ⟨rb, 1, none⟩ = some pv ∧ w.cell? ⟨rb, 2, none⟩ = some (.int .i64 s.steps) ∧ w.cell? ⟨rb, 3, none⟩ = some iv ∧ w.cell? ⟨rb, 4, none⟩ = some x4 ∧ (∀ j, w.frozen? ⟨rb, j, none⟩ = false) ∧ rb < w.heap.size := by
  refine ⟨?_, ?_, ?_, ?_, ?_, ?_, (Array.getElem?_eq_some_iff.1 h.blk).1⟩
  any_goals (unfold World.cell?; rw [h.blk]; rfl)
  intro j
  unfold World.frozen?
  rw [h.blk]
  simp

theorem Rn.vcells (h : Rn w rb vb B vc T iv x4 pv s) : (∀ j, j < 8 → w.cell? ⟨vb, j, none⟩ = some (.int .i64 (s.vars.getD j 0))) ∧ (∀ j, w.frozen? ⟨vb, j, none⟩ = false) ∧ vb < w.heap.size := by
  obtain ⟨hl, cs, h1, h2, h3⟩ := h.vars
  refine ⟨fun j hj => ?_, fun j => ?_, (Array.getElem?_eq_some_iff.1 h1).1⟩
  · unfold World.cell?; rw [h1]; simpa using h3 j hj
  · unfold World.frozen?; rw [h1]; simp

theorem VarBlk.other (h : VarBlk w vb vc s.vars) {a : Addr} {u : Value} (ha : vb ≠ a.block) : VarBlk (w.setCell a u) vb vc s.vars := by
  obtain ⟨hl, cs, h1, h2, h3⟩ := h
  exact ⟨hl, cs, (Below.heap_setCell _ _ _ _ ha).trans h1, h2, h3⟩

/-- A cell of the run itself is set: RR. -/
theorem RR.set (rb vb : Nat) (w : World) (pv : Value) (i : Nat) (u : Value) (pv' : Value) (ho : pv'.ownBlock = pv.ownBlock) : RR rb vb w (w.setCell ⟨rb, i, none⟩ u) pv pv' :=
  ⟨rfl, rfl, rfl, by rw [set_size]; exact Nat.le_refl _, fun k _ h1 _ _ => Below.heap_setCell _ _ _ _ (by simpa using h1), .inl ho⟩

/-- One step more. -/
theorem Rn.stepped (h : Rn w rb vb B vc T iv x4 pv s) (n : Nat) : Rn (w.setCell ⟨rb, 2, none⟩ (.int .i64 n)) rb vb B vc T iv x4 pv { s with steps := n } ∧ RR rb vb w (w.setCell ⟨rb, 2, none⟩ (.int .i64 n)) pv pv :=
  ⟨⟨by simpa using setCell_at (i := 2) (u := .int .i64 n) h.blk, h.vars.other (by simpa using h.ne.symm), ownsRow_setCell_below h.puts (by show rb < B; exact h.ltr) _, h.ltr, h.ltv, h.ne, by rw [set_size]; exact h.le⟩, RR.set rb vb w pv 2 _ pv rfl⟩

/-- What is told beside. -/
theorem Rn.told (h : Rn w rb vb B vc T iv x4 pv s) (u : Value) : Rn (w.setCell ⟨rb, 4, none⟩ u) rb vb B vc T iv u pv s ∧ RR rb vb w (w.setCell ⟨rb, 4, none⟩ u) pv pv :=
  ⟨⟨by simpa using setCell_at (i := 4) (u := u) h.blk, h.vars.other (by simpa using h.ne.symm), ownsRow_setCell_below h.puts (by show rb < B; exact h.ltr) _, h.ltr, h.ltv, h.ne, by rw [set_size]; exact h.le⟩, RR.set rb vb w pv 4 _ pv rfl⟩

/-- A variable is set. -/
theorem Rn.varSet (h : Rn w rb vb B vc T iv x4 pv s) (n : Nat) (hn : n < 8) (z : Int) : Rn (w.setCell ⟨vb, n, none⟩ (.int .i64 z)) rb vb B vc T iv x4 pv { s with vars := s.vars.set n z } ∧ RR rb vb w (w.setCell ⟨vb, n, none⟩ (.int .i64 z)) pv pv := by
  obtain ⟨hl, cs, h1, h2, h3⟩ := h.vars
  refine ⟨⟨(Below.heap_setCell _ _ _ _ (by simpa using h.ne)).trans h.blk, ⟨by simpa using hl, _, setCell_at (i := n) (u := .int .i64 z) h1, by simpa using h2, fun j hj => ?_⟩, ownsRow_setCell_below h.puts (by show vb < B; exact h.ltv) _, h.ltr, h.ltv, h.ne, by rw [set_size]; exact h.le⟩, ⟨rfl, rfl, rfl, by rw [set_size]; exact Nat.le_refl _, fun k _ _ h1 _ => Below.heap_setCell _ _ _ _ (by simpa using h1), .inl rfl⟩⟩
  by_cases hj' : j = n
  · subst hj'
    have : j < cs.size := by omega
    have h8 : j < s.vars.length := by omega
    simp [this, List.getD, h8]
  · have e1 : (cs.setIfInBounds n (.int .i64 z))[j]? = cs[j]? := by
      rw [Array.getElem?_setIfInBounds]
      simp [Ne.symm hj']
    have e2 : (s.vars.set n z).getD j 0 = s.vars.getD j 0 := by
      simp [List.getD, Ne.symm hj']
    show (cs.setIfInBounds n (.int .i64 z))[j]? = _
    rw [e1, e2]
    exact h3 j hj
end
end Go.Proofs.YtikdidfgdiafoabDoor
