import Derived.Test.YthhkmgafacmjpagPI
import Derived.Test.YthhkmgafacmjpagPZ
namespace Go.Proofs.Ythhkmgafacmjpag
open Go.ChangeShapes Go.WideShapes Go.ChangeAt Go.RowKit Go.Sort

/-- A core, as it lies. -/
structure CoreW (B K R C : Nat) (W : World) (l : List Jb) (rk cm : List Nat) (k : Nat) (th : List Nat) (left : List Int) (tv cv : Value) : Prop where
  core : W.heap[K]? = some (.cells #[.slice (some ⟨R, 0, none⟩) l.length l.length, cv, tv] 61 (0, 0))
  ranked : W.heap[R]? = some (.cells ((entsOf l rk left).flatMap En.vals).toArray 63 (0, 0))
  comes : W.heap[C]? = some (.cells ((zI cm).map (Value.int .i64)).toArray 3 (0, 0))
  there : Own W B tv (zI th)
  lK : K < B
  lR : R < B
  lC : C < B
  dR : R ≠ K
  dC : C ≠ K
  dRC : R ≠ C
  bs : B ≤ W.heap.size
  cval : ∃ a, cv = .slice a (l.length - k) (l.length - k) ∧ (k < l.length → a = some ⟨C, k, none⟩)

/-- All but the core, and the row of those that are there, stays. -/
structure Moved (W W' : World) (K : Nat) (tv tv' : Value) : Prop where
  os : W'.os = W.os
  tape : W'.tape = W.tape
  output : W'.output = W.output
  size : W.heap.size ≤ W'.heap.size
  block : ∀ b, b < W.heap.size → b ≠ K → tv.ownBlock ≠ some b → W'.heap[b]? = W.heap[b]? ∧ tv'.ownBlock ≠ some b

theorem Moved.refl (W : World) (K : Nat) (tv : Value) : Moved W W K tv tv := ⟨rfl, rfl, rfl, Nat.le_refl _, fun _ _ _ h => ⟨rfl, h⟩⟩

theorem Moved.trans {a b c : World} {K : Nat} {u v x : Value} (h : Moved a b K u v) (h' : Moved b c K v x) : Moved a c K u x :=
  ⟨h'.os.trans h.os, h'.tape.trans h.tape, h'.output.trans h.output, Nat.le_trans h.size h'.size, fun i hi hk hu => by
    obtain ⟨e1, e2⟩ := h.block i hi hk hu
    obtain ⟨f1, f2⟩ := h'.block i (Nat.lt_of_lt_of_le hi h.size) hk e2
    exact ⟨f1.trans e1, f2⟩⟩

theorem Moved.drewN (W : World) (K : Nat) (tv : Value) (n : Nat) : Moved W (W.drewN n) K tv tv := ⟨rfl, rfl, rfl, Nat.le_refl _, fun _ _ _ h => ⟨rfl, h⟩⟩

theorem Moved.below {B K : Nat} {w W W' : World} {tv tv' : Value} (h : Moved W W' K tv tv') (hb : Below w.heap.size w W) (hK : w.heap.size ≤ K) (hB : w.heap.size ≤ B) (ho : ∀ g, tv.ownBlock = some g → B ≤ g) : Below w.heap.size w W' :=
  ⟨h.os.trans hb.os, h.tape.trans hb.tape, h.output.trans hb.output, Nat.le_trans hb.size h.size, fun i hi => (h.block i (Nat.lt_of_lt_of_le hi hb.size) (by omega) (fun e => by have := ho i e; omega)).1.trans (hb.block i hi)⟩

theorem Own.low {W : World} {B : Nat} {tv : Value} {th : List Int} (h : Own W B tv th) {g : Nat} (hg : tv.ownBlock = some g) : B ≤ g ∧ g < W.heap.size := h.lt g hg

theorem CoreW.low {B K R C : Nat} {W : World} {l : List Jb} {rk cm : List Nat} {k : Nat} {th : List Nat} {left : List Int} {tv cv : Value} (h : CoreW B K R C W l rk cm k th left tv cv) : ∀ g, tv.ownBlock = some g → B ≤ g := fun _ hg => (h.there.low hg).1

theorem CoreW.drewN {B K R C : Nat} {W : World} {l : List Jb} {rk cm : List Nat} {k : Nat} {th : List Nat} {left : List Int} {tv cv : Value} (h : CoreW B K R C W l rk cm k th left tv cv) (n : Nat) : CoreW B K R C (W.drewN n) l rk cm k th left tv cv :=
  ⟨h.core, h.ranked, h.comes, h.there, h.lK, h.lR, h.lC, h.dR, h.dC, h.dRC, h.bs, h.cval⟩

theorem own_slice {W : World} {B : Nat} {tv : Value} {th : List Nat} (h : Own W B tv (zI th)) : ∃ ad c, tv = .slice ad th.length c := by
  obtain ⟨ad, c, e⟩ := owns_value h
  rw [zI_len] at e
  exact ⟨ad, c, e⟩

theorem own_val {W : World} {B : Nat} {tv : Value} {th : List Int} (h : Own W B tv th) : ∃ ad n c, tv = .slice ad n c := by
  obtain ⟨ad, c, e⟩ := owns_value h
  exact ⟨ad, _, c, e⟩

/-- The row of those that are there was changed, and is laid into the core. -/
theorem CoreW.put {B K R C : Nat} {W W' : World} {l : List Jb} {rk cm : List Nat} {k : Nat} {th th' : List Nat} {left : List Int} {tv cv tv' : Value} (h : CoreW B K R C W l rk cm k th left tv cv) (ho : Own W' B tv' (zI th')) (hg : W.grownBy W' tv.ownBlock) (hv : tv'.ownBlock = tv.ownBlock ∨ ∃ g, tv'.ownBlock = some g ∧ W.heap.size ≤ g) :
    CoreW B K R C (W'.setCell ⟨K, 2, none⟩ tv') l rk cm k th' left tv' cv ∧ Moved W (W'.setCell ⟨K, 2, none⟩ tv') K tv tv' := by
  have hne : ∀ b, b < B → tv.ownBlock ≠ some b := fun b hb e => by have := h.low b e; omega
  have hbs := h.bs
  have hlt : ∀ b, b < B → b < W.heap.size := fun b hb => by omega
  have keep : ∀ b, b < B → W'.heap[b]? = W.heap[b]? := fun b hb => hg.block b (hlt b hb) (fun e => hne b hb e.symm)
  have hK' := (keep K h.lK).trans h.core
  have hne' : ∀ g, tv'.ownBlock = some g → g ≠ K := fun g e => by have := (ho.low e).1; have := h.lK; omega
  refine ⟨⟨?_, ?_, ?_, ho.same (fun g e => Below.heap_setCell _ _ _ _ (hne' g e)), h.lK, h.lR, h.lC, h.dR, h.dC, h.dRC, ?_, h.cval⟩, ⟨hg.os, hg.tape, hg.output, ?_, fun b hb hbK hu => ?_⟩⟩
  · rw [setCell_at hK']; rfl
  · rw [Below.heap_setCell _ _ _ _ h.dR, keep R h.lR]; exact h.ranked
  · rw [Below.heap_setCell _ _ _ _ h.dC, keep C h.lC]; exact h.comes
  · have := hg.size; simp; omega
  · have := hg.size; simpa using this
  · refine ⟨(Below.heap_setCell _ _ _ _ hbK).trans (hg.block b hb (fun e => hu e.symm)), fun e => ?_⟩
    rcases hv with hv | ⟨g, hv, hl⟩
    · exact hu (hv ▸ e)
    · rw [hv] at e; cases e; omega

/-- The place of the foremost one. -/
def fore : List Nat → Int
  | [] => -1
  | p :: _ => (p : Int)

set_option maxRecDepth 20000 in
theorem foremost_any (B K R C : Nat) (W : World) (l : List Jb) (rk cm : List Nat) (k : Nat) (th : List Nat) (left : List Int) (tv cv : Value) (h : CoreW B K R C W l rk cm k th left tv cv) :
    Calls Try.prog 33 #[.pointer (some ⟨K, 0, none⟩)] W fun r W' => r = .returned (.int .i64 (fore th)) ∧ W' = W := by
  obtain ⟨hs, -, hlk⟩ := cells_of (l := [_, _, _]) h.core
  have c2 := hs 2 _ rfl
  clear hs
  rcases h.there.cases with ⟨rfl, e⟩ | ⟨g, cap, cur, rfl, hB, hg, hcap, hm, hcs, hcur⟩
  · have : th = [] := by simpa [zI] using e
    subst this
    clear h
    go_enter Try.func33, Try.ntmps33
    go_wp2_with fail
    go_ret
    exact ⟨rfl, rfl⟩
  · cases th with
    | nil =>
      clear h hcur
      go_enter Try.func33, Try.ntmps33
      go_wp2_with fail
      go_ret
      exact ⟨rfl, rfl⟩
    | cons p r =>
      have d0 : W.cell? ⟨g, 0, none⟩ = some (.int .i64 (p : Int)) := h.there.cell (j := 0) (by simp [zI])
      have hz : (zI (p :: r)).length = r.length + 1 := by simp [zI]
      rw [hz] at c2
      clear h hcur hcap hm hg hcs
      go_enter Try.func33, Try.ntmps33
      go_wp2_with fail
      go_ret
      exact ⟨rfl, rfl⟩

set_option maxRecDepth 20000 in
theorem leave_any (B K R C : Nat) (W : World) (l : List Jb) (rk cm : List Nat) (k p : Nat) (th : List Nat) (left : List Int) (tv cv : Value) (h : CoreW B K R C W l rk cm k th left tv cv) (ha : th.Pairwise (· < ·)) (hl : th.length ≤ 100000) (hp : p ∈ th) :
    Calls Try.prog 34 #[.pointer (some ⟨K, 0, none⟩), .int .i64 (p : Int)] W fun r W' => r = .returned (.tuple #[]) ∧ ∃ tv', CoreW B K R C W' l rk cm k (th.take (th.countP (· < p)) ++ th.drop (th.countP (· < p) + 1)) left tv' cv ∧ Moved W W' K tv tv' := by
  have hd := (del_asc p ha hp).1
  have HS := Search_any W B tv th p h.there ha hl
  obtain ⟨ad, c, rfl⟩ := own_slice h.there
  have HC : Hid (CoreW B K R C W l rk cm k th left (.slice ad th.length c) cv) := h
  obtain ⟨hs, hf, hlk⟩ := cells_of (l := [_, _, _]) h.core
  have c2 := hs 2 _ rfl
  generalize hi : th.countP (· < p) = i at *
  have e3 : zI (th.take i ++ th.drop (i + 1)) = (zI th).take i ++ (zI th).drop (i + 1) := by simp [zI, List.map_take, List.map_drop]
  have HE : Hid (zI (th.take i ++ th.drop (i + 1)) = (zI th).take i ++ (zI th).drop (i + 1)) := e3
  clear hs hf h hp ha hi e3
  go_enter Try.func34, Try.ntmps34
  go_wp2_with (first
    | (go_at_call 50; refine HS.mono ?_; rintro r w1 ⟨rfl, q, rfl⟩; clear HS)
    | (go_at_call 52; refine (Delete_own (W.drewN q) B (.slice ad th.length c) (zI th) i (HC.out.drewN q).there (by rw [zI_len]; exact hd)).mono ?_; rintro r w2 ⟨tv2, rfl, ho2, hg2, hv2⟩; have H2 : Hid (CoreW B K R C (w2.setCell ⟨K, 2, none⟩ tv2) l rk cm k (th.take i ++ th.drop (i + 1)) left tv2 cv ∧ Moved W (w2.setCell ⟨K, 2, none⟩ tv2) K (.slice ad th.length c) tv2) := (have hx := (HC.out.drewN q).put (th' := th.take i ++ th.drop (i + 1)) (by rw [HE.out]; exact ho2) hg2 (.inl hv2); ⟨hx.1, (Moved.drewN W K _ q).trans hx.2⟩); have hk2 := (hg2.block K hlk (fun e => by have h1 := HC.out.low K e.symm; have h2 := HC.out.lK; omega)).trans (HC.out.drewN q).core; obtain ⟨ks, kf, kl⟩ := cells_of (l := [_, _, _]) hk2; have k2 := ks 2 _ rfl; have kf2 := kf 2; obtain ⟨ad2, n2, cc2, rfl⟩ := own_val ho2; clear ks kf hk2 ho2 hg2 hv2))
  go_end0
  exact ⟨rfl, _, H2.out.1, H2.out.2⟩
end Go.Proofs.Ythhkmgafacmjpag
