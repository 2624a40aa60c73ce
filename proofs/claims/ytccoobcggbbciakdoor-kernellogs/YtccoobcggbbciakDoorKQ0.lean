import Derived.Test.YtccoobcggbbciakDoorKP0
import Derived.Lib.Builder
namespace Go.Proofs.YtccoobcggbbciakDoor
open Go.ChangeShapes Go.WideShapes Go.ChangeAt Go.RowKit

theorem bInfo : (Tryd.prog.info? 54).map (·.size) = some 2 := by kernel_rfl
theorem bLies : liesAt Tryd.prog Tryd.prog.depth 54 (2 / Tryd.prog.cellsOf 54) 0 54 1 = true := by kernel_rfl
theorem byteInfo : (Tryd.prog.info? 5).map (fun i => (i.zero, i.size, i.bytes)) = some (some (.int .u8 0), 1, 1) := by kernel_rfl

set_option maxHeartbeats 2000000 in
set_option maxRecDepth 100000 in
theorem cc_used (b : Nat) (w : World) (h0 : w.cell? ⟨b, 0, none⟩ = some (.pointer (some ⟨b, 0, none⟩))) : Calls Tryd.prog 47 #[.pointer (some ⟨b, 0, none⟩)] w fun e w' => e = .returned (.tuple #[]) ∧ w' = w := by
  obtain ⟨j, hj, -⟩ := Option.map_eq_some_iff.1 bInfo
  go_enter Tryd.func47, Tryd.ntmps47
  go_wp2
  rw [Lib.run_neq_ptr_same w _ Tryd.underlying51 hj]
  go_wp2
  go_end0
  exact ⟨rfl, rfl⟩

set_option maxHeartbeats 2000000 in
set_option maxRecDepth 100000 in
theorem cc_fresh (b : Nat) (w : World) (h0 : w.cell? ⟨b, 0, none⟩ = some (.pointer none)) (hs : w.shape? b = some (54, 2)) (hf : w.frozen? ⟨b, 0, none⟩ = false) : Calls Tryd.prog 47 #[.pointer (some ⟨b, 0, none⟩)] w fun e w' => e = .returned (.tuple #[]) ∧ w' = w.setCell ⟨b, 0, none⟩ (.pointer (some ⟨b, 0, none⟩)) := by
  obtain ⟨j, hj, hjs⟩ := Option.map_eq_some_iff.1 bInfo
  go_enter Tryd.func47, Tryd.ntmps47
  go_wp2
  rw [Lib.run_to_unsafe w ⟨b, 0, none⟩ Tryd.underlying51 Tryd.underlying130 hj (by rw [hjs]; decide) hs (Nat.zero_lt_succ 1)]
  simp only [Result.andThen]
  rw [Oper.upon_value]
  go_wp2
  rw [run_callFunc_extern Tryd.func71 (by kernel_rfl) (by kernel_rfl) (by kernel_rfl) (e := Extern.AbiNoEscape.same) (by kernel_rfl)]
  rw [Lib.run_noEscape]
  simp only [Result.andThen]
  rw [Oper.upon_value]
  go_wp2
  rw [Lib.run_from_unsafe w ⟨b, 0, none⟩ Tryd.underlying130 Tryd.underlying51 hj hs bLies]
  simp only [Result.andThen]
  rw [Oper.upon_value]
  go_wp2
  go_end0
  exact ⟨rfl, rfl⟩

theorem cc_any (B b : Nat) (bs : List Value) (w : World) (h : Lib.IsBuilder 54 5 B b bs w) : Calls Tryd.prog 47 #[.pointer (some ⟨b, 0, none⟩)] w fun e w' => e = .returned (.tuple #[]) ∧ Lib.BuilderAt 54 5 B b (.pointer (some ⟨b, 0, none⟩)) bs w' ∧ Below B w w' ∧ w.heap.size = w'.heap.size ∧ ∀ k, k ≠ b → w'.heap[k]? = w.heap[k]? := by
  rcases h with h | h
  · refine (cc_fresh b w h.cell0 h.shape h.frozen0).mono ?_
    rintro e w' ⟨rfl, rfl⟩
    exact ⟨rfl, h.used _, (Below.refl B w).setCell (p := ⟨b, 0, none⟩) h.1 _, by simp, fun k hk => Below.heap_setCell _ _ _ _ hk⟩
  · refine (cc_used b w h.cell0).mono ?_
    rintro e w' ⟨rfl, rfl⟩
    exact ⟨rfl, h, Below.refl B _, rfl, fun k _ => rfl⟩

set_option maxHeartbeats 2000000 in
set_option maxRecDepth 100000 in
theorem write_any (B b : Nat) (bs : List Value) (s : ByteArray) (w : World) (h : Lib.IsBuilder 54 5 B b bs w) (hlen : bs.length + s.size ≤ 140737488355328) (hBw : B ≤ w.heap.size) :
    Calls Tryd.prog 22 #[.pointer (some ⟨b, 0, none⟩), .string s] w fun e w' => e = .returned (.tuple #[.int .i64 s.size, .nilIface]) ∧ Lib.BuilderAt 54 5 B b (.pointer (some ⟨b, 0, none⟩)) (bs ++ Lib.strCells s) w' ∧ Below B w w' ∧ ∀ k cs t, k ≠ b → w.heap[k]? = some (.cells cs t (0, 0)) → t ≠ 5 → w'.heap[k]? = w.heap[k]? := by
  obtain ⟨i0, hi, hz0, hz1, hz2⟩ := info_parts byteInfo
  go_enter Tryd.func22, Tryd.ntmps22
  go_wp2_with (go_at_call 47; refine (cc_any B b bs _ h).mono ?_)
  rintro e w1 ⟨rfl, h1, hb1, hsz1, hk1⟩
  obtain ⟨hB, v, hbk, hown, hne⟩ := h1
  have c0 : w1.cell? ⟨b, 0, none⟩ = some (.pointer (some ⟨b, 0, none⟩)) := by rw [Lib.cell_of_heap hbk]; rfl
  have c1 : w1.cell? ⟨b, 1, none⟩ = some v := by rw [Lib.cell_of_heap hbk]; rfl
  go_wp2_with (at_builtin; refine Lib.wpList_append_own_string _ rfl _ _ 52 9 rfl B 5 i0 Tryd.underlying52 Tryd.underlying9 hi hz0 hz1 hz2 _ _ _ rfl hown s rfl ?c3 ?c4 ?c5 ?_)
  case c3 => unfold maxLen; omega
  case c4 => omega
  case c5 => have := hb1.size; omega
  intro v' w2 hown' hgrow _
  have hlt : b < w1.heap.size := (Array.getElem?_eq_some_iff.1 hbk).1
  have hb2 : w2.heap[b]? = some (.cells #[.pointer (some ⟨b, 0, none⟩), v] 54 (0, 0)) := by
    rw [hgrow.block b hlt (fun e => hne e.symm)]
    exact hbk
  have d0 : w2.cell? ⟨b, 0, none⟩ = some (.pointer (some ⟨b, 0, none⟩)) := by rw [Lib.cell_of_heap hb2]; rfl
  have d1 : w2.cell? ⟨b, 1, none⟩ = some v := by rw [Lib.cell_of_heap hb2]; rfl
  have f1 : w2.frozen? ⟨b, 1, none⟩ = false := Lib.frozen_of_heap hb2 1
  obtain ⟨ao, n', cap, rfl⟩ : ∃ ao n' cap, v' = .slice ao n' cap := by
    rcases hown'.2 with ⟨hv, _⟩ | ⟨g, cap, cur, hv, _⟩
    · exact ⟨_, _, _, hv⟩
    · exact ⟨_, _, _, hv⟩
  go_wp2
  go_ret2
  refine ⟨rfl, ?_, ?_, ?_⟩
  · exact Lib.BuilderAt.put (T := 54) (e := 5) hB hb2 (bs' := bs ++ Lib.strCells s) (by simpa [Lib.strCells_length] using hown') (by decide)
  · exact (hb1.grown hgrow (by have := hb1.size; omega) (fun k hk => (hown.lt k hk).1)).setCell (p := ⟨b, 1, none⟩) hB _
  · intro k cs t hkb hk ht
    have hk' : w1.heap[k]? = some (.cells cs t (0, 0)) := (hk1 k hkb).trans hk
    have hlk : k < w1.heap.size := (Array.getElem?_eq_some_iff.1 hk').1
    have hnv : some k ≠ v.ownBlock := by
      intro e
      obtain ⟨-, ⟨hv, -⟩ | ⟨g, cap, cur, hv, -, hg, -⟩⟩ := hown
      · rw [hv] at e; cases e
      · rw [hv] at e
        have hgk : k = g := by simpa [Value.ownBlock] using e
        rw [← hgk, hk'] at hg
        cases hg
        exact ht rfl
    rw [Below.heap_setCell _ _ _ _ hkb, hgrow.block k hlk hnv]
    exact hk1 k hkb

theorem builder_below {B b : Nat} {bs : List Value} {w w' : World} (h : Lib.IsBuilder 54 5 B b bs w) (hb : Below w.heap.size w w') : Lib.IsBuilder 54 5 B b bs w' := by
  have key : ∀ p, Lib.BuilderAt 54 5 B b p bs w → Lib.BuilderAt 54 5 B b p bs w' := fun p hp => by
    obtain ⟨h1, v, h2, h3, h4⟩ := hp
    exact ⟨h1, v, (hb.block _ (Array.getElem?_eq_some_iff.1 h2).1).trans h2, ownsRow_below h3 hb, h4⟩
  exact h.elim (fun x => .inl (key _ x)) (fun x => .inr (key _ x))

/-- What Print holds. -/
structure PW (w W : World) (b : Nat) (l : List UInt8) : Prop where
  bel : Below w.heap.size w W
  bd : Lib.IsBuilder 54 5 w.heap.size b (Lib.byteCells l) W

theorem PW.grow {w W W' : World} {b : Nat} {l : List UInt8} (h : PW w W b l) (hb : Below W.heap.size W W') : PW w W' b l := ⟨below_seq h.bel hb, builder_below h.bd hb⟩

theorem PW.start (w : World) (W : World) (hb : Below w.heap.size w W) : PW w (W.alloc (.cells #[.pointer none, .slice none 0 0] 54)) W.heap.size [] :=
  ⟨below_seq hb (below_new _ _), .inl ⟨hb.size, .slice none 0 0, heap_alloc_new _ _, ⟨rfl, .inl ⟨rfl, rfl⟩⟩, by simp [Value.ownBlock]⟩⟩

theorem PW.write {w W : World} {b : Nat} {l : List UInt8} (h : PW w W b l) (s : ByteArray) (hl : l.length + s.size ≤ 100000000) : Calls Tryd.prog 22 #[.pointer (some ⟨b, 0, none⟩), .string s] W fun e w' => e = .returned (.tuple #[.int .i64 s.size, .nilIface]) ∧ PW w w' b (l ++ s.data.toList) ∧ ∀ k cs t, k ≠ b → W.heap[k]? = some (.cells cs t (0, 0)) → t ≠ 5 → w'.heap[k]? = some (.cells cs t (0, 0)) := by
  refine (write_any w.heap.size b _ s W h.bd (by rw [Lib.byteCells_length]; omega) h.bel.size).mono ?_
  rintro e w' ⟨rfl, h1, h2, h3⟩
  refine ⟨rfl, ⟨h.bel.trans h2, .inr ?_⟩, fun k cs t hk hh ht => (h3 k cs t hk hh ht).trans hh⟩
  rw [Lib.byteCells_append, ← Lib.strCells_eq]
  exact h1

theorem PW.lt {w W : World} {b : Nat} {l : List UInt8} (h : PW w W b l) : b < W.heap.size := by
  rcases h.bd with ⟨-, v, h2, -⟩ | ⟨-, v, h2, -⟩
  · exact (Array.getElem?_eq_some_iff.1 h2).1
  · exact (Array.getElem?_eq_some_iff.1 h2).1


/-- An event's five numbers, as they lie. -/
theorem ev5_at {w : World} {l : List Ev} {b o j : Nat} {x : Ev} (h : ∀ q u, (l.flatMap Ev.vals)[q]? = some u → w.cell? ⟨b, o + q, none⟩ = some u) (hj : l[j]? = some x) : w.cell? ⟨b, o + j * 5, none⟩ = some (.int .i64 x.at_) ∧ w.cell? ⟨b, o + j * 5 + 1, none⟩ = some (.int .i64 x.k) ∧ w.cell? ⟨b, o + j * 5 + 2, none⟩ = some (.int .i64 x.t) ∧ w.cell? ⟨b, o + j * 5 + 3, none⟩ = some (.int .i64 x.m) ∧ w.cell? ⟨b, o + j * 5 + 4, none⟩ = some (.int .i64 x.n) := by
  have key : ∀ k u, k < 5 → x.vals[k]? = some u → w.cell? ⟨b, o + j * 5 + k, none⟩ = some u := fun k u hk hu => by
    rw [Nat.add_assoc]
    exact ev_at h hj hk hu
  exact ⟨key 0 _ (by omega) rfl, key 1 _ (by omega) rfl, key 2 _ (by omega) rfl, key 3 _ (by omega) rfl, key 4 _ (by omega) rfl⟩

theorem rowE_take {W : World} {l : List Ev} {ad : Option Addr} {c j : Nat} (h : RowSl Ev.vals W l (.slice ad l.length c)) (hj : j ≤ l.length) (hl : 0 < l.length) : RowSl Ev.vals W (l.take j) (.slice ad j c) := by
  obtain ⟨ad', c', he, hn, hcap, hrow⟩ := h
  cases he
  rcases hrow with h | ⟨b, o, rfl, hrow⟩
  · rw [h] at hl; simp at hl
  · have hlt : (l.take j).length = j := by rw [List.length_take]; omega
    refine ⟨_, c, by rw [hlt], (fun e => by cases e), by omega, .inr ⟨b, o, rfl, fun q u hq => hrow q u ?_⟩⟩
    have e1 : l.flatMap Ev.vals = (l.take j).flatMap Ev.vals ++ (l.drop j).flatMap Ev.vals := by rw [← List.flatMap_append, List.take_append_drop]
    rw [e1, List.getElem?_append_left (List.getElem?_eq_some_iff.1 hq).1]
    exact hq

set_option maxRecDepth 20000 in
set_option maxHeartbeats 8000000 in
theorem PrintK_any (w : World) (l : List Ev) (v : Value) (hv : RowSl Ev.vals w l v) (hG : Gr w) (hI : ∀ x ∈ l, inE x) (hl : l.length ≤ 100000) :
    Calls Tryd.prog 7 #[v] w fun r w' => r = .returned (.string ⟨(printE l).toArray⟩) ∧ Below w.heap.size w w' := by
  obtain ⟨ad, c, rfl⟩ := hv.len
  have HV : Hid (RowSl Ev.vals w l (.slice ad l.length c) ∧ Gr w ∧ ∀ x ∈ l, inE x) := ⟨hv, hG, hI⟩
  have HP0 : Hid (PW w (w.alloc (.cells #[.pointer none, .slice none 0 0] 54)) w.heap.size []) := PW.start w w (Below.refl _ _)
  clear hv hG hI
  go_enter Tryd.func7, Tryd.ntmps7
  go_wp2_with fail
  generalize w.alloc (.cells #[.pointer none, .slice none 0 0] 54) = w2 at *
  obtain ⟨gb, hgb⟩ : ∃ gb, w.heap.size = gb := ⟨_, rfl⟩
  rw [hgb] at HP0 ⊢
  clear hgb
  go_loopw [8] (fun iv wr => ∃ j : Nat, j ≤ l.length ∧ iv = .int .i64 (j : Int) ∧ PW w wr gb ((l.take j).flatMap lineE) ∧ okFrom 0 (l.take j)) (fun iv _ => l.length - (intOf iv).toNat)
  case atStart => exact ⟨0, Nat.zero_le _, rfl, HP0.out, trivial⟩
  case round =>
    obtain ⟨j, hj, rfl, hpw, hok⟩ := hrel
    have HP : Hid (PW w wr gb ((l.take j).flatMap lineE) ∧ okFrom 0 (l.take j)) := ⟨hpw, hok⟩
    clear hpw HP0 hok
    by_cases hjl : j < l.length
    · obtain ⟨x, hx, -⟩ := drop_at hjl
      have htk : l.take (j + 1) = l.take j ++ [x] := by rw [List.take_add_one, hx]; rfl
      have hxi := HV.out.2.2 x (List.mem_of_getElem? hx)
      have hvt := rowE_take HV.out.1 hj (by omega)
      obtain ⟨ad', c', he, -, hcap, hrow⟩ := HV.out.1
      cases he
      rcases hrow with h | ⟨b, o, rfl, hrow⟩
      · rw [h] at hjl; simp at hjl
      obtain ⟨y0, y1, y2, y3, y4⟩ := ev5_at (fun q u hq => below_cell HP.out.1.bel (hrow q u hq)) hx
      have HX : Hid (l[j]? = some x ∧ inE x ∧ l.take (j + 1) = l.take j ++ [x]) := ⟨hx, hxi, htk⟩
      have lb : b < wr.heap.size := World.block_lt_of_cell? _ _ y0
      have hji : (j : Int) < (l.length : Int) := by omega
      have hcj : j ≤ c := by omega
      have hjc : (j : Int) ≤ (c : Int) := by omega
      have HF0 : Hid (∀ W W', Below w.heap.size w W → Below W.heap.size W W' → Calls Tryd.prog 20 #[.slice (some ⟨b, o, none⟩) j c, x.val] W' fun r w' => r = .returned (.bool (followsB (l.take j) x)) ∧ Below W'.heap.size W' w') := fun W W' h1 h2 => follows_any W' (l.take j) _ x (by rw [List.length_take]; omega) ((hvt.below h1).below h2)
      have HLi : Hid (standsE x → ∀ W, Below w.heap.size w W → Calls Tryd.prog 21 #[x.val] W fun r w' => r = .returned (.string ⟨(bodyE x).toArray⟩) ∧ Below W.heap.size W w') := fun h W hb => lineK_any W x h hxi (HV.out.2.1.below hb)
      clear hrow hx htk hxi hvt
      obtain ⟨fb, hfb⟩ : ∃ fb, followsB (l.take j) x = fb := ⟨_, rfl⟩
      have HFB : Hid (followsB (l.take j) x = fb) := hfb
      rw [hfb] at HF0
      clear hfb
      obtain ⟨bd, hbd⟩ : ∃ bd, bodyE x = bd := ⟨_, rfl⟩
      have HBD : Hid (bodyE x = bd) := hbd
      rw [hbd] at HLi
      clear hbd
      obtain ⟨xa, xk, xt, xm, xn⟩ := x
      unfold Ev.val at HF0 HLi
      dsimp only at y0 y1 y2 y3 y4 HF0 HLi
      go_upto_region 5 with fail
      have H3 : Hid (PW w (wr.alloc (.cells #[.int .i64 xa, .int .i64 xk, .int .i64 xt, .int .i64 xm, .int .i64 xn] 24)) gb ((l.take j).flatMap lineE) ∧ (wr.alloc (.cells #[.int .i64 xa, .int .i64 xk, .int .i64 xt, .int .i64 xm, .int .i64 xn] 24)).heap[wr.heap.size]? = some (.cells #[.int .i64 xa, .int .i64 xk, .int .i64 xt, .int .i64 xm, .int .i64 xn] 24 (0, 0))) := ⟨HP.out.1.grow (below_new _ _), heap_alloc_new _ _⟩
      clear y0 y1 y2 y3 y4 lb
      generalize wr.alloc (.cells #[.int .i64 xa, .int .i64 xk, .int .i64 xt, .int .i64 xm, .int .i64 xn] 24) = w3 at *
      generalize wr.heap.size = gt at *
      obtain ⟨xs, -, xl⟩ := cells_of (l := [_, _, _, _, _]) H3.out.2
      have x0 := xs 0 _ rfl
      have x1 := xs 1 _ rfl
      have x2 := xs 2 _ rfl
      have x3 := xs 3 _ rfl
      have x4 := xs 4 _ rfl
      clear xs
      have HF : Hid (∀ W, Below w3.heap.size w3 W → Calls Tryd.prog 20 #[.slice (some ⟨b, o, none⟩) j c, .agg #[.int .i64 xa, .int .i64 xk, .int .i64 xt, .int .i64 xm, .int .i64 xn]] W fun r w' => r = .returned (.bool fb) ∧ Below W.heap.size W w') := fun W h => HF0.out w3 W H3.out.1.bel h
      refine wp_region_noPanic ?_
      refine wp_region_held_drew (S := fun w' => w'.cell? ⟨gt, 0, none⟩ = some (.int .i64 xa) ∧ w'.cell? ⟨gt, 1, none⟩ = some (.int .i64 xk) ∧ w'.cell? ⟨gt, 2, none⟩ = some (.int .i64 xt) ∧ w'.cell? ⟨gt, 3, none⟩ = some (.int .i64 xm) ∧ w'.cell? ⟨gt, 4, none⟩ = some (.int .i64 xn)) (by kernel_rfl) ⟨by go_simp, by go_simp, by go_simp, by go_simp, by go_simp⟩ (fun hHeld => ?_)
      refine take_at (i := 0) (n := 13) (v := ?_) rfl rfl (by kernel_rfl) (by kernel_rfl) (by kernel_rfl) (fun _ _ _ h => h) (Or.inl ⟨by rfl, ?_⟩) (by assumption) ?_
      rotate_left 1
      · intro wz hSw
        obtain ⟨s0, s1, s2, s3, s4⟩ := hSw
        first | (go_simp; done) | (go_simp; with_reducible rfl)
      simp only [List.set_cons_zero, List.set_cons_succ]
      refine take_at (i := 1) (n := 14) (v := ?_) rfl rfl (by kernel_rfl) (by kernel_rfl) (by kernel_rfl) (fun _ _ _ h => h) (Or.inl ⟨by rfl, ?_⟩) (by assumption) ?_
      rotate_left 1
      · intro wz hSw
        obtain ⟨s0, s1, s2, s3, s4⟩ := hSw
        first | (go_simp; done) | (go_simp; with_reducible rfl)
      simp only [List.set_cons_zero, List.set_cons_succ]
      refine take_at (i := 2) (n := 15) (v := ?_) rfl rfl (by kernel_rfl) (by kernel_rfl) (by kernel_rfl) (fun _ _ _ h => h) (Or.inl ⟨by rfl, ?_⟩) (by assumption) ?_
      rotate_left 1
      · intro wz hSw
        obtain ⟨s0, s1, s2, s3, s4⟩ := hSw
        first | (go_simp; done) | (go_simp; with_reducible rfl)
      simp only [List.set_cons_zero, List.set_cons_succ]
      refine take_at (i := 3) (n := 16) (v := ?_) rfl rfl (by kernel_rfl) (by kernel_rfl) (by kernel_rfl) (fun _ _ _ h => h) (Or.inl ⟨by rfl, ?_⟩) (by assumption) ?_
      rotate_left 1
      · intro wz hSw
        obtain ⟨s0, s1, s2, s3, s4⟩ := hSw
        first | (go_simp; done) | (go_simp; with_reducible rfl)
      simp only [List.set_cons_zero, List.set_cons_succ]
      refine wpAnyH_ready (rs := [4]) (by kernel_rfl) (by simp) ?_
      refine AllReadyH.cons rfl (fun K hK => ?_) AllReadyH.nil
      go_simp
      go_wp2_with (go_at_call 20; refine (HF.out _ (Below.refl _ _).drew).mono ?_; rintro r w4 ⟨rfl, hb4⟩)
      have H4 : Hid (Below w3.heap.size w3 w4) := below_seq (Below.refl _ _).drew hb4
      refine hK.out _ _ ⟨below_cell H4.out x0, below_cell H4.out x1, below_cell H4.out x2, below_cell H4.out x3, below_cell H4.out x4⟩ (fun hHeld => ?_)
      clear hb4
      clear hK K
      try simp only [List.set_cons_zero, List.set_cons_succ]
      refine take_at (i := 5) (n := 18) (v := ?_) rfl rfl (by kernel_rfl) (by kernel_rfl) (by kernel_rfl) (fun _ _ _ h => h) (Or.inl ⟨by rfl, ?_⟩) (by assumption) ?_
      rotate_left 1
      · intro wz hSw
        obtain ⟨s0, s1, s2, s3, s4⟩ := hSw
        first | (go_simp; done) | (go_simp; with_reducible rfl)
      simp only [List.set_cons_zero, List.set_cons_succ]
      refine wpAnyH_done (by kernel_rfl) ?_ _
      refine NoPanic.normal ?_
      clear hHeld
      have H5 : Hid (PW w w4 gb ((l.take j).flatMap lineE)) := H3.out.1.grow H4.out
      cases fb with
      | false =>
        go_wp2_with fail
        go_ret
        exact ⟨by rw [print_stop HX.out.1 HFB.out]; rfl, H5.out.bel⟩
      | true =>
        have HSt := follows_stands HFB.out
        have c0 := below_cell H4.out x0
        have c1 := below_cell H4.out x1
        have c2 := below_cell H4.out x2
        have c3 := below_cell H4.out x3
        have c4 := below_cell H4.out x4
        have lg : gt < w4.heap.size := World.block_lt_of_cell? _ _ c0
        have hbl := body_len HSt HX.out.2.1
        rw [HBD.out] at hbl
        have hll := lines_len (l.take j) (fun y hy => ⟨ok_stands HP.out.2 y hy, HV.out.2.2 y (List.mem_of_mem_take hy)⟩)
        have hlt : (l.take j).length ≤ 100000 := by rw [List.length_take]; omega
        have HL := HLi.out HSt w4 H5.out.bel
        have g1 : ¬ 9223372036854775807 < bd.length + 1 := by omega
        have HW := fun W (hp : PW w W gb ((l.take j).flatMap lineE)) => hp.write (⟨bd.toArray⟩ ++ ⟨#[10]⟩) (by rw [cat_size, back_size]; show _ + (_ + 1) ≤ _; omega)
        have HOk : Hid (okFrom 0 (l.take (j + 1))) := (by rw [HX.out.2.2]; exact (okFrom_next _ _).2 ⟨HP.out.2, HFB.out⟩ : okFrom 0 (l.take (j + 1)))
        clear x0 x1 x2 x3 x4 H3 HF HSt
        go_wp2_with (first
          | (go_at_call 21; refine HL.mono ?_; rintro r w5 ⟨rfl, hb5⟩; have H6 : Hid (PW w w5 gb ((l.take j).flatMap lineE)) := H5.out.grow hb5; clear hb5 HL)
          | (go_at_call 22; refine (HW w5 H6.out).mono ?_; rintro r w6 ⟨rfl, hp6, -⟩; have H7 : Hid (PW w w6 gb ((l.take (j + 1)).flatMap lineE)) := (by rw [HX.out.2.2, List.flatMap_append, List.flatMap_cons, List.flatMap_nil, List.append_nil]; unfold lineE; rw [HBD.out]; rw [cat_list, back_list] at hp6; exact hp6); clear hp6 HW))
        exact ⟨⟨j + 1, by omega, by simp, H7.out, HOk.out⟩, by simp [intOf]; omega⟩
    · have hje : j = l.length := by omega
      subst hje
      rw [List.take_length] at HP
      have HS := sh_Builder_String_any w.heap.size gb _ wr HP.out.1.bd HP.out.1.bel.size
      go_wp2_with (go_at_call 23; refine HS.mono ?_; rintro r w9 ⟨rfl, hb9⟩; have H9 : Hid (Below w.heap.size w w9) := HP.out.1.bel.trans hb9; clear hb9 HS)
      go_ret
      exact ⟨by rw [print_all HP.out.2]; rfl, H9.out⟩
end Go.Proofs.YtccoobcggbbciakDoor
