import Derived.Test.YtccoobcggbbciamHG0
namespace Go.Proofs.Ytccoobcggbbciam
open Go.ChangeShapes Go.WideShapes Go.ChangeAt Go.RowKit

/-- The name of part k, as a task. -/
def nmP (k : Nat) : ByteArray := Utf8.encode (97 + (k : Int))
def taP (k : Nat) (x : Pa) (lt : Int) : Ta := ⟨nmP k, x.c, x.t, x.d, lt, 0, x.p⟩
/-- The tasks of a core, and which part each is. -/
def liesF : List Pa → List Int → Int → Nat → List (Nat × Ta)
  | [], _, _, _ => []
  | x :: r, late, co, k => (if x.co = co then [(k, taP k x (late.getD k 0))] else []) ++ liesF r late co (k + 1)

theorem liesF_append : ∀ (a b : List Pa) (late : List Int) (co : Int) (k : Nat), liesF (a ++ b) late co k = liesF a late co k ++ liesF b late co (k + a.length)
  | [], b, late, co, k => by simp [liesF]
  | x :: r, b, late, co, k => by
    rw [List.cons_append, liesF, liesF, liesF_append r b late co (k + 1), List.append_assoc, List.length_cons, show k + 1 + r.length = k + (r.length + 1) by omega]

theorem liesF_snoc {l : List Pa} {late : List Int} {co : Int} {i : Nat} {x : Pa} (hx : l[i]? = some x) : liesF (l.take (i + 1)) late co 0 = liesF (l.take i) late co 0 ++ (if x.co = co then [(i, taP i x (late.getD i 0))] else []) := by
  have hi : i < l.length := (List.getElem?_eq_some_iff.1 hx).1
  rw [List.take_add_one, hx, liesF_append]
  simp [liesF, show min i l.length = i by omega]

theorem liesF_len : ∀ (l : List Pa) (late : List Int) (co : Int) (k : Nat), (liesF l late co k).length ≤ l.length
  | [], _, _, _ => by simp [liesF]
  | x :: r, late, co, k => by
    have := liesF_len r late co (k + 1)
    rw [liesF, List.length_append, List.length_cons]
    split <;> simp <;> omega

theorem liesF_idx : ∀ (l : List Pa) (late : List Int) (co : Int) (k : Nat), ∀ y ∈ liesF l late co k, k ≤ y.1 ∧ y.1 < k + l.length
  | [], _, _, _, y, hy => by simp [liesF] at hy
  | x :: r, late, co, k, y, hy => by
    rw [liesF, List.mem_append] at hy
    rcases hy with hy | hy
    · split at hy
      · rw [List.mem_singleton.1 hy]
        simp
      · simp at hy
    · have := liesF_idx r late co (k + 1) y hy
      rw [List.length_cons]
      omega

/-- What lies holds. -/
structure LZ2 (w W : World) (ns : Nat) (sx : List Value) (sv : Value) (nt : Nat) (tx : List Value) (tv : Value) : Prop where
  bel : Below w.heap.size w W
  st : W.ownsRow w.heap.size 85 7 sv ns sx
  tl : W.ownsRow w.heap.size 3 1 tv nt tx
abbrev LZ (w W : World) (n : Nat) (sx : List Value) (sv : Value) (tx : List Value) (tv : Value) : Prop := LZ2 w W n sx sv n tx tv

theorem LZ2.grow {w W W' : World} {ns nt : Nat} {sx tx : List Value} {sv tv : Value} (h : LZ2 w W ns sx sv nt tx tv) (hb : Below W.heap.size W W') : LZ2 w W' ns sx sv nt tx tv := ⟨below_seq h.bel hb, ownsRow_below h.st hb, ownsRow_below h.tl hb⟩

theorem LZ2.pushS {w W : World} {ns nt ge : Nat} {sx tx : List Value} {sv tv : Value} (h : LZ2 w W ns sx sv nt tx tv) (x : Ta) (hc : W.heap[ge]? = some (.cells #[.string x.nm, .int .i64 x.c, .int .i64 x.t, .int .i64 x.d, .int .i64 x.j, .int .i64 x.o, .int .i64 x.p] 85 (0, 0))) (hl : ns ≤ 100) : ∃ ad c w4, (Builtin.append_ #[66, 66] 66 #[sv, .slice (some ⟨ge, 0, none⟩) 1 1]).run Try.prog W = .ok (.slice ad (ns + 1) c) w4 ∧ LZ2 w w4 (ns + 1) (sx ++ x.vals) (.slice ad (ns + 1) c) nt tx tv ∧ ∀ (k : Nat) (cs : Array Value) (ty : TypeId), W.heap[k]? = some (.cells cs ty (0, 0)) → (ty ≠ 85 ∨ k < w.heap.size) → w4.heap[k]? = some (.cells cs ty (0, 0)) := by
  obtain ⟨ad, c, w4, h1, h2, h3, h4⟩ := own_pushA (T := 66) (E := 85) Try.underlying66 infoTa rfl (by omega) h.st x.vals rfl (cells_of (l := x.vals) hc).1 (fun u hu => Ta.one hu) (by omega) (by omega) h.bel.size
  exact ⟨ad, c, w4, h1, ⟨h.bel.trans h3, h2, ownsRow_keep3 h.tl (fun k cs _ hk => (h4 _ _ _ hk (.inl (by decide))).trans hk.symm)⟩, h4⟩

theorem LZ2.pushT {w W : World} {ns nt ge : Nat} {sx tx : List Value} {sv tv : Value} (h : LZ2 w W ns sx sv nt tx tv) (i : Int) (hc : W.heap[ge]? = some (.cells #[.int .i64 i] 3 (0, 0))) (hl : nt ≤ 100) : ∃ ad c w4, (Builtin.append_ #[24, 24] 24 #[tv, .slice (some ⟨ge, 0, none⟩) 1 1]).run Try.prog W = .ok (.slice ad (nt + 1) c) w4 ∧ LZ2 w w4 ns sx sv (nt + 1) (tx ++ [.int .i64 i]) (.slice ad (nt + 1) c) := by
  obtain ⟨ad, c, w4, h1, h2, h3, h4⟩ := own_pushA (T := 24) (E := 3) Try.underlying24 infoI3 rfl (by omega) h.tl [.int .i64 i] rfl (cells_of (l := [_]) hc).1 (fun u hu => by simp at hu; subst hu; rfl) (by omega) (by omega) h.bel.size
  exact ⟨ad, c, w4, h1, ⟨h.bel.trans h3, ownsRow_keep3 h.st (fun k cs _ hk => (h4 _ _ _ hk (.inl (by decide))).trans hk.symm), h2⟩⟩

theorem lies_ends {w : World} {p q : Value} {a : Act} (h2 : a.tmps[6]?.getD undef = p) (h3 : a.tmps[7]?.getD undef = q) :
    (results Try.f27 a.tmps).run Try.prog w = .ok (.tuple #[p, q]) w := by
  simp [results, Try.results27, go_sem, h2, h3]

def LiesAt (w W : World) (xs : List (Nat × Ta)) (sv tv : Value) : Prop := LZ w W xs.length ((xs.map (·.2)).flatMap Ta.vals) sv (xs.map (fun y => Value.int .i64 (y.1 : Int))) tv

set_option maxRecDepth 20000 in
set_option maxHeartbeats 16000000 in
theorem lies_any (w : World) (l : List Pa) (late : List Int) (v v2 : Value) (core : Int) (hv : RowSl Pa.vals w l v) (ht : RowSl nuV w late v2) (h1 : 1 ≤ l.length) (h8 : l.length ≤ 8) (hlen : late.length = l.length) : Calls Try.prog 27 #[v, v2, .int .i64 core] w fun r w' => ∃ sv tv, r = .returned (.tuple #[sv, tv]) ∧ LiesAt w w' (liesF l late core 0) sv tv := by
  obtain ⟨ad, c, rfl, -, hcap, hrow⟩ := hv
  rcases hrow with h | ⟨b, o, rfl, hrow⟩
  · rw [h] at h1; simp at h1
  obtain ⟨ad2, c2, rfl, -, hcap2, hrow2⟩ := ht
  rcases hrow2 with h | ⟨b2, o2, rfl, hrow2⟩
  · rw [h] at hlen; simp at hlen; omega
  rw [hlen] at hcap2 ⊢
  have HV0 : Hid ((∀ q u, (l.flatMap Pa.vals)[q]? = some u → w.cell? ⟨b, o + q, none⟩ = some u) ∧ (∀ q u, (late.flatMap nuV)[q]? = some u → w.cell? ⟨b2, o2 + q, none⟩ = some u) ∧ late.length = l.length) := ⟨hrow, hrow2, hlen⟩
  clear hrow hrow2 hlen
  have H3 : Hid (LiesAt w w [] (.slice none 0 0) (.slice none 0 0)) := ⟨Below.refl _ _, ⟨rfl, .inl ⟨rfl, rfl⟩⟩, ⟨rfl, .inl ⟨rfl, rfl⟩⟩⟩
  go_enter Try.func27, Try.ntmps27
  go_wp2_with fail
  go_loopw [6, 7, 13] (fun av bv iv wr => ∃ (j : Nat) (sv tv : Value), j ≤ l.length ∧ sv = av ∧ tv = bv ∧ iv = .int .i64 (j : Int) ∧ Hid (LiesAt w wr (liesF (l.take j) late core 0) sv tv)) (fun _ _ iv _ => l.length - (intOf iv).toNat)
  case atStart => exact ⟨0, _, _, Nat.zero_le _, rfl, rfl, rfl, H3.out⟩
  case round =>
    obtain ⟨j, sv, tv, hj, rfl, rfl, rfl, HS⟩ := hrel
    clear H3
    by_cases hjl : j < l.length
    · obtain ⟨x, hx, -⟩ := drop_at hjl
      obtain ⟨y0, y1, y2, y3, y4, y5, y6⟩ := pa7_at (fun q u hq => below_cell HS.out.bel (HV0.out.1 q u hq)) hx
      have lb : b < wr.heap.size := World.block_lt_of_cell? _ _ y0
      have hji : (j : Int) < (l.length : Int) := by omega
      have HX : Hid (l[j]? = some x) := hx
      clear hx
      obtain ⟨co, fr, se, cx, t, d, p⟩ := x
      dsimp only at y0 y1 y2 y3 y4 y5 y6
      by_cases hb : co = core
      · subst hb
        obtain ⟨lt, hlt⟩ : ∃ lt, late[j]? = some lt := ⟨late[j]'(by have := HV0.out.2.2; omega), List.getElem?_eq_getElem _⟩
        have cl0 := nu_at HV0.out.2.1 hlt
        have HV : Hid ((∀ q u, (l.flatMap Pa.vals)[q]? = some u → w.cell? ⟨b, o + q, none⟩ = some u) ∧ True ∧ late.getD j 0 = lt ∧ w.cell? ⟨b2, o2 + j, none⟩ = some (.int .i64 lt) ∧ b2 < w.heap.size) := ⟨HV0.out.1, trivial, by rw [List.getD_eq_getElem?_getD, hlt]; rfl, cl0, World.block_lt_of_cell? _ _ cl0⟩
        have hw1 : IntKind.i64.wrap (97 + (j : Int)) = 97 + (j : Int) := by rw [IntKind.wrap_i64]; omega
        have hw2 : IntKind.i32.wrap (97 + (j : Int)) = 97 + (j : Int) := by rw [IntKind.wrap_i32]; omega
        go_upto_region 6 with fail
        have HZ6 : Hid (LiesAt w (wr.alloc (.cells #[.int .i64 co, .int .i64 fr, .int .i64 se, .int .i64 cx, .int .i64 t, .int .i64 d, .int .i64 p] 35)) (liesF (l.take j) late co 0) sv tv) := HS.out.grow (below_new _ _)
        have HP6 : Hid ((wr.alloc (.cells #[.int .i64 co, .int .i64 fr, .int .i64 se, .int .i64 cx, .int .i64 t, .int .i64 d, .int .i64 p] 35)).heap[wr.heap.size]? = some (.cells #[.int .i64 co, .int .i64 fr, .int .i64 se, .int .i64 cx, .int .i64 t, .int .i64 d, .int .i64 p] 35 (0, 0))) := heap_alloc_new _ _
        obtain ⟨nmj, hnj⟩ : ∃ nmj, nmP j = nmj := ⟨_, rfl⟩
        have HNJ : Hid (nmP j = nmj) := hnj
        have hnm : Utf8.encode (97 + (j : Int)) = nmj := hnj
        rw [hnm]
        clear hnm hnj
        have HEnd : Hid (∀ W sv tv, LZ2 w W ((liesF (l.take j) late co 0).length + 1) (((liesF (l.take j) late co 0).map (·.2)).flatMap Ta.vals ++ [.string nmj, .int .i64 cx, .int .i64 t, .int .i64 d, .int .i64 lt, .int .i64 0, .int .i64 p]) sv ((liesF (l.take j) late co 0).length + 1) ((liesF (l.take j) late co 0).map (fun y => Value.int .i64 (y.1 : Int)) ++ [.int .i64 (j : Int)]) tv → LiesAt w W (liesF (l.take (j + 1)) late co 0) sv tv) := fun W sv tv h => by
          rw [liesF_snoc HX.out, if_pos rfl, HV.out.2.2.1]
          unfold LiesAt taP
          rw [HNJ.out]
          simpa [Ta.vals] using h
        have hnf : (liesF (l.take j) late co 0).length ≤ 8 := Nat.le_trans (liesF_len _ _ _ _) (by rw [List.length_take]; omega)
        have sl := below_cell (below_seq HS.out.bel (below_new wr (.cells #[.int .i64 co, .int .i64 fr, .int .i64 se, .int .i64 cx, .int .i64 t, .int .i64 d, .int .i64 p] 35))) cl0
        unfold LiesAt at HZ6
        clear HS y0 y1 y2 y3 y4 y5 y6 cl0 hlt
        generalize wr.alloc (.cells #[.int .i64 co, .int .i64 fr, .int .i64 se, .int .i64 cx, .int .i64 t, .int .i64 d, .int .i64 p] 35) = w6 at *
        generalize wr.heap.size = gt at *
        generalize (liesF (l.take j) late co 0).length = nf at *
        generalize ((liesF (l.take j) late co 0).map (·.2)).flatMap Ta.vals = sx at *
        generalize (liesF (l.take j) late co 0).map (fun y => Value.int .i64 (y.1 : Int)) = tx at *
        obtain ⟨as0, cs0, rfl⟩ := owns_value HZ6.out.st
        obtain ⟨aw0, cw0, rfl⟩ := owns_value HZ6.out.tl
        obtain ⟨xs, -, -⟩ := cells_of (l := [_, _, _, _, _, _, _]) HP6.out
        have s3 := xs 3 _ rfl
        have s4 := xs 4 _ rfl
        have s5 := xs 5 _ rfl
        have s6 := xs 6 _ rfl
        clear xs
        have lg := World.block_lt_of_cell? _ _ s3
        have lG := World.block_lt_of_cell? _ _ sl
        refine wp_region_noPanic ?_
        refine wp_region_held_drew (S := fun w' => w'.cell? ⟨gt, 3, none⟩ = some (.int .i64 cx) ∧ w'.cell? ⟨gt, 4, none⟩ = some (.int .i64 t) ∧ w'.cell? ⟨gt, 5, none⟩ = some (.int .i64 d) ∧ w'.cell? ⟨gt, 6, none⟩ = some (.int .i64 p) ∧ w'.cell? ⟨b2, o2 + j, none⟩ = some (.int .i64 lt)) (by kernel_rfl) ⟨by go_simp, by go_simp, by go_simp, by go_simp, by go_simp⟩ (fun hHeld => ?_)
        refine take_at (i := 0) (n := 26) (v := ?_) rfl rfl (by kernel_rfl) (by kernel_rfl) (by kernel_rfl) (fun _ _ _ h => h) (Or.inl ⟨by rfl, ?_⟩) (by assumption) ?_
        rotate_left 1
        · intro wz hSw
          obtain ⟨s3, s4, s5, s6, sl⟩ := hSw
          first | (go_simp; done) | (go_simp; with_reducible rfl)
        simp only [List.set_cons_zero, List.set_cons_succ]
        refine take_at (i := 1) (n := 27) (v := ?_) rfl rfl (by kernel_rfl) (by kernel_rfl) (by kernel_rfl) (fun _ _ _ h => h) (Or.inl ⟨by rfl, ?_⟩) (by assumption) ?_
        rotate_left 1
        · intro wz hSw
          obtain ⟨s3, s4, s5, s6, sl⟩ := hSw
          first | (go_simp; done) | (go_simp; with_reducible rfl)
        simp only [List.set_cons_zero, List.set_cons_succ]
        refine take_at (i := 2) (n := 28) (v := ?_) rfl rfl (by kernel_rfl) (by kernel_rfl) (by kernel_rfl) (fun _ _ _ h => h) (Or.inl ⟨by rfl, ?_⟩) (by assumption) ?_
        rotate_left 1
        · intro wz hSw
          obtain ⟨s3, s4, s5, s6, sl⟩ := hSw
          first | (go_simp; done) | (go_simp; with_reducible rfl)
        simp only [List.set_cons_zero, List.set_cons_succ]
        refine take_at (i := 3) (n := 29) (v := ?_) rfl rfl (by kernel_rfl) (by kernel_rfl) (by kernel_rfl) (fun _ _ _ h => h) (Or.inl ⟨by rfl, ?_⟩) (by assumption) ?_
        rotate_left 1
        · intro wz hSw
          obtain ⟨s3, s4, s5, s6, sl⟩ := hSw
          first | (go_simp; done) | (go_simp; with_reducible rfl)
        simp only [List.set_cons_zero, List.set_cons_succ]
        refine take_at (i := 4) (n := 30) (v := ?_) rfl rfl (by kernel_rfl) (by kernel_rfl) (by kernel_rfl) (fun _ _ _ h => h) (Or.inl ⟨by rfl, ?_⟩) (by assumption) ?_
        rotate_left 1
        · intro wz hSw
          obtain ⟨s3, s4, s5, s6, sl⟩ := hSw
          first | (go_simp; done) | (go_simp; with_reducible rfl)
        simp only [List.set_cons_zero, List.set_cons_succ]
        refine take_at (i := 5) (n := 31) (v := ?_) rfl rfl (by kernel_rfl) (by kernel_rfl) (by kernel_rfl) (fun _ _ _ h => h) (Or.inl ⟨by rfl, ?_⟩) (by assumption) ?_
        rotate_left 1
        · intro wz hSw
          obtain ⟨s3, s4, s5, s6, sl⟩ := hSw
          first | (go_simp; done) | (go_simp; with_reducible rfl)
        simp only [List.set_cons_zero, List.set_cons_succ]
        refine take_at (i := 6) (n := 32) (v := ?_) rfl rfl (by kernel_rfl) (by kernel_rfl) (by kernel_rfl) (fun _ _ _ h => h) (Or.inl ⟨by rfl, ?_⟩) (by assumption) ?_
        rotate_left 1
        · intro wz hSw
          obtain ⟨s3, s4, s5, s6, sl⟩ := hSw
          first | (go_simp; done) | (go_simp; with_reducible rfl)
        simp only [List.set_cons_zero, List.set_cons_succ]
        refine take_at (i := 7) (n := 33) (v := ?_) rfl rfl (by kernel_rfl) (by kernel_rfl) (by kernel_rfl) (fun _ _ _ h => h) (Or.inl ⟨by rfl, ?_⟩) (by assumption) ?_
        rotate_left 1
        · intro wz hSw
          obtain ⟨s3, s4, s5, s6, sl⟩ := hSw
          first | (go_simp; done) | (go_simp; with_reducible rfl)
        simp only [List.set_cons_zero, List.set_cons_succ]
        refine take_at (i := 8) (n := 34) (v := ?_) rfl rfl (by kernel_rfl) (by kernel_rfl) (by kernel_rfl) (fun _ _ _ h => h) (Or.inl ⟨by rfl, ?_⟩) (by assumption) ?_
        rotate_left 1
        · intro wz hSw
          obtain ⟨s3, s4, s5, s6, sl⟩ := hSw
          first | (go_simp; done) | (go_simp; with_reducible rfl)
        simp only [List.set_cons_zero, List.set_cons_succ]
        refine take_at (i := 9) (n := 35) (v := ?_) rfl rfl (by kernel_rfl) (by kernel_rfl) (by kernel_rfl) (fun _ _ _ h => h) (Or.inl ⟨by rfl, ?_⟩) (by assumption) ?_
        rotate_left 1
        · intro wz hSw
          obtain ⟨s3, s4, s5, s6, sl⟩ := hSw
          first | (go_simp; done) | (go_simp; with_reducible rfl)
        simp only [List.set_cons_zero, List.set_cons_succ]
        refine take_at (i := 10) (n := 36) (v := ?_) rfl rfl (by kernel_rfl) (by kernel_rfl) (by kernel_rfl) (fun _ _ _ h => h) (Or.inl ⟨by rfl, ?_⟩) (by assumption) ?_
        rotate_left 1
        · intro wz hSw
          obtain ⟨s3, s4, s5, s6, sl⟩ := hSw
          first | (go_simp; done) | (go_simp; with_reducible rfl)
        simp only [List.set_cons_zero, List.set_cons_succ]
        refine take_at (i := 11) (n := 37) (v := ?_) rfl rfl (by kernel_rfl) (by kernel_rfl) (by kernel_rfl) (fun _ _ _ h => h) (Or.inl ⟨by rfl, ?_⟩) (by assumption) ?_
        rotate_left 1
        · intro wz hSw
          obtain ⟨s3, s4, s5, s6, sl⟩ := hSw
          first | (go_simp; done) | (go_simp; with_reducible rfl)
        simp only [List.set_cons_zero, List.set_cons_succ]
        refine take_at (i := 12) (n := 38) (v := ?_) rfl rfl (by kernel_rfl) (by kernel_rfl) (by kernel_rfl) (fun _ _ _ h => h) (Or.inl ⟨by rfl, ?_⟩) (by assumption) ?_
        rotate_left 1
        · intro wz hSw
          obtain ⟨s3, s4, s5, s6, sl⟩ := hSw
          first | (go_simp; done) | (go_simp; with_reducible rfl)
        simp only [List.set_cons_zero, List.set_cons_succ]
        refine take_at (i := 13) (n := 39) (v := ?_) rfl rfl (by kernel_rfl) (by kernel_rfl) (by kernel_rfl) (fun _ _ _ h => h) (Or.inl ⟨by rfl, ?_⟩) (by assumption) ?_
        rotate_left 1
        · intro wz hSw
          obtain ⟨s3, s4, s5, s6, sl⟩ := hSw
          first | (go_simp; done) | (go_simp; with_reducible rfl)
        simp only [List.set_cons_zero, List.set_cons_succ]
        refine take_at (i := 14) (n := 40) (v := ?_) rfl rfl (by kernel_rfl) (by kernel_rfl) (by kernel_rfl) (fun _ _ _ h => h) (Or.inl ⟨by rfl, ?_⟩) (by assumption) ?_
        rotate_left 1
        · intro wz hSw
          obtain ⟨s3, s4, s5, s6, sl⟩ := hSw
          first | (go_simp; done) | (go_simp; with_reducible rfl)
        simp only [List.set_cons_zero, List.set_cons_succ]
        refine wpAnyH_ready (rs := [15]) (by kernel_rfl) (by simp) ?_
        refine AllReadyH.cons rfl (fun K hK => ?_) AllReadyH.nil
        go_simp
        have G1 : Hid (LZ w (w6.alloc (.cells #[.string nmj, .int .i64 cx, .int .i64 t, .int .i64 d, .int .i64 lt, .int .i64 0, .int .i64 p] 85)).drew nf sx (.slice as0 nf cs0) tx (.slice aw0 nf cw0)) := HZ6.out.grow (below_new _ _).drew
        have hk1 : Below w6.heap.size w6 (w6.alloc (.cells #[.string nmj, .int .i64 cx, .int .i64 t, .int .i64 d, .int .i64 lt, .int .i64 0, .int .i64 p] 85)).drew := (below_new _ _).drew
        have f1 : (w6.alloc (.cells #[.string nmj, .int .i64 cx, .int .i64 t, .int .i64 d, .int .i64 lt, .int .i64 0, .int .i64 p] 85)).drew.heap[w6.heap.size]? = some (.cells #[.string nmj, .int .i64 cx, .int .i64 t, .int .i64 d, .int .i64 lt, .int .i64 0, .int .i64 p] 85 (0, 0)) := heap_alloc_new _ _
        generalize (w6.alloc (.cells #[.string nmj, .int .i64 cx, .int .i64 t, .int .i64 d, .int .i64 lt, .int .i64 0, .int .i64 p] 85)).drew = v1 at G1 hk1 f1 ⊢
        have s3 := below_cell hk1 s3
        have s4 := below_cell hk1 s4
        have s5 := below_cell hk1 s5
        have s6 := below_cell hk1 s6
        have sl := below_cell hk1 sl
        refine hK.out _ _ ⟨s3, s4, s5, s6, sl⟩ (fun hHeld => ?_)
        clear hK K
        try simp only [List.set_cons_zero, List.set_cons_succ]
        obtain ⟨ad2, c2', v2, hrun, h9, k9⟩ := G1.out.pushS ⟨nmj, cx, t, d, lt, 0, p⟩ f1 (by omega)
        have P2 : v2.heap[gt]? = some (.cells #[.int .i64 co, .int .i64 fr, .int .i64 se, .int .i64 cx, .int .i64 t, .int .i64 d, .int .i64 p] 35 (0, 0)) := k9 _ _ _ ((hk1.block _ (Array.getElem?_eq_some_iff.1 HP6.out).1).trans HP6.out) (.inl (by decide))
        obtain ⟨xs2, -, -⟩ := cells_of (l := [_, _, _, _, _, _, _]) P2
        have sl2 : v2.cell? ⟨b2, o2 + j, none⟩ = some (.int .i64 lt) := by
          have hbl : b2 < w.heap.size := HV.out.2.2.2.2
          exact (h9.bel.cell hbl).trans HV.out.2.2.2.1
        refine wpAnyH_ready (rs := [16]) (by kernel_rfl) (by simp) ?_
        refine AllReadyH.cons rfl (fun K hK => ?_) AllReadyH.nil
        refine region_append2 rfl (.tmp 26) (.tmp 41) 66 42 rfl rfl rfl hrun rfl ?_
        refine hK.out _ _ ⟨xs2 3 _ rfl, xs2 4 _ rfl, xs2 5 _ rfl, xs2 6 _ rfl, sl2⟩ (fun hHeld => ?_)
        have HZ7 : Hid (LZ2 w v2 (nf + 1) (sx ++ [.string nmj, .int .i64 cx, .int .i64 t, .int .i64 d, .int .i64 lt, .int .i64 0, .int .i64 p]) (.slice ad2 (nf + 1) c2') nf tx (.slice aw0 nf cw0)) := h9
        clear hK K hrun k9 h9 xs2 sl2 P2
        simp only [Act.put, List.setIfInBounds_toArray]
        try simp only [List.set_cons_zero, List.set_cons_succ]
        refine take_at (i := 17) (n := 6) (v := ?_) rfl rfl (by kernel_rfl) (by kernel_rfl) (by kernel_rfl) (fun _ _ _ h => h) (Or.inl ⟨by rfl, ?_⟩) (by assumption) ?_
        rotate_left 1
        · intro wz hSw
          obtain ⟨s3, s4, s5, s6, sl⟩ := hSw
          first | (go_simp; done) | (go_simp; with_reducible rfl)
        simp only [List.set_cons_zero, List.set_cons_succ]
        refine wpAnyH_done (by kernel_rfl) ?_ _
        refine NoPanic.normal ?_
        clear hHeld
        clear s3 s4 s5 s6 sl lg lG
        obtain ⟨ad5, c5, v5, hrun5, h5⟩ := (HZ7.out.grow (below_new v2 (.cells #[.int .i64 (j : Int)] 3))).pushT (j : Int) (heap_alloc_new _ _) (by omega)
        have H9 : Hid (LiesAt w v5 (liesF (l.take (j + 1)) late co 0) (.slice ad2 (nf + 1) c2') (.slice ad5 (nf + 1) c5)) := HEnd.out _ _ _ h5
        clear h5 HZ7 HEnd
        go_wp2_with (at_builtin; refine append_known rfl (.tmp 43) (.tmp 45) 24 rfl rfl rfl hrun5 ?_)
        exact ⟨⟨j + 1, _, _, by omega, rfl, rfl, by simp, H9.out⟩, by simp [intOf]; omega⟩
      · have hbb : (co == core) = false := by simpa using hb
        have HB : Hid (LiesAt w (wr.alloc (.cells #[.int .i64 co, .int .i64 fr, .int .i64 se, .int .i64 cx, .int .i64 t, .int .i64 d, .int .i64 p] 35)) (liesF (l.take j) late core 0) sv tv) := HS.out.grow (below_new _ _)
        clear HS
        go_wp2_with fail
        refine ⟨⟨j + 1, _, _, by omega, rfl, rfl, by simp, ?_⟩, by simp [intOf]; omega⟩
        show LiesAt _ _ _ _ _
        rw [liesF_snoc HX.out, if_neg hb, List.append_nil]
        exact HB.out
    · have hje : j = l.length := by omega
      subst hje
      have hji : ¬ ((l.length : Nat) : Int) < (l.length : Int) := by omega
      have hS := HS.out
      rw [List.take_length] at hS
      have HS2 : Hid (LiesAt w wr (liesF l late core 0) sv tv) := hS
      clear hS HS
      go_wp2_with fail
      refine bodyPost_ret (lies_ends rfl rfl) rfl ?_
      exact ⟨_, _, rfl, HS2.out⟩
end Go.Proofs.Ytccoobcggbbciam
namespace Go.Proofs.Ytccoobcggbbciam
open Go.ChangeShapes Go.WideShapes Go.ChangeAt Go.RowKit

/-- One core's answers put where they belong; none: one is late. -/
def coreF (l : List Pa) (late : List Int) (c : Nat) (all : List Int) : Option (List Int) :=
  if liesF l late (c : Int) 0 = [] then some all
  else if (responsesF ((liesF l late (c : Int) 0).map (·.2)) (List.replicate (liesF l late (c : Int) 0).length 0)).2.1 = 0 then some (putAll all ((liesF l late (c : Int) 0).map (·.1)) (responsesF ((liesF l late (c : Int) 0).map (·.2)) (List.replicate (liesF l late (c : Int) 0).length 0)).1) else none
/-- The answers of the first so many cores. -/
def respC (l : List Pa) (late : List Int) : Nat → Option (List Int)
  | 0 => some (List.replicate l.length 0)
  | c + 1 => (respC l late c).bind (coreF l late c)

theorem respC_none {l : List Pa} {late : List Int} {n : Nat} (h : respC l late n = none) : ∀ k, respC l late (n + k) = none
  | 0 => h
  | k + 1 => by rw [show n + (k + 1) = (n + k) + 1 by omega, respC, respC_none h k]; rfl

theorem respsFrom_len {l : List Ta} : ∀ (bs : List Int) (k : Nat) (acc : List Int), (respsFrom l bs k acc).2.1 = 0 → (respsFrom l bs k acc).1.length = acc.length + bs.length
  | [], k, acc, _ => by simp [respsFrom]
  | b :: r, k, acc, h => by
    unfold respsFrom at h ⊢
    split at h
    · next h9 => exact absurd h h9
    · next h9 =>
      rw [if_neg h9, respsFrom_len r (k + 1) _ h]
      simp
      omega

theorem responsesF_len {l : List Ta} {bs : List Int} (h : (responsesF l bs).2.1 = 0) : (responsesF l bs).1.length = bs.length := by
  unfold responsesF at h ⊢
  split at h
  · next h9 => exact absurd h h9
  · next h9 =>
    rw [if_neg h9]
    split at h
    · cases h
    · next h10 =>
      rw [if_neg h10, respsFrom_len bs 0 [] h]
      simp

/-- What responses holds. -/
structure RA (w W : World) (G n : Nat) (all : List Int) : Prop where
  bel : Below w.heap.size w W
  row : W.heap[G]? = some (.cells (all.map (Value.int .i64)).toArray 3 (0, 0))
  len : all.length = n
  low : w.heap.size ≤ G
theorem RA.lt {w W : World} {G n : Nat} {all : List Int} (h : RA w W G n all) : G < W.heap.size := (Array.getElem?_eq_some_iff.1 h.row).1
theorem RA.grow {w W W' : World} {G n : Nat} {all : List Int} (h : RA w W G n all) (hb : Below W.heap.size W W') : RA w W' G n all := ⟨below_seq h.bel hb, (hb.block _ h.lt).trans h.row, h.len, h.low⟩

def fr0 (xs : List (Nat × Ta)) : List (Nat × Fr) := xs.map (fun y => (y.1, ⟨0, 0, 0, 0⟩))
theorem fr0_map (xs : List (Nat × Ta)) : (fr0 xs).map (fun y => Value.int .i64 (y.1 : Int)) = xs.map (fun y => Value.int .i64 (y.1 : Int)) := by unfold fr0; simp

theorem responses_ends {w : World} {p q : Value} {a : Act} (h2 : a.tmps[4]?.getD undef = p) (h3 : a.tmps[5]?.getD undef = q) :
    (results Try.f15 a.tmps).run Try.prog w = .ok (.tuple #[p, q]) w := by
  simp [results, Try.results15, go_sem, h2, h3]

theorem zeros_row {W : World} {g n : Nat} (h : W.heap[g]? = some (.cells (runCells n []).toArray 3 (0, 0))) : RowSl nuV W (List.replicate n 0) (.slice (some ⟨g, 0, none⟩) n n) := by
  have h9 := row_ints (W := W) (G := g) (ts := List.replicate n 0) (by rw [h]; simp [runCells])
  rwa [List.length_replicate] at h9

def RespCPost (w : World) (l : List Pa) (late : List Int) (r : Ending) (w' : World) : Prop := Below w.heap.size w w' ∧ ((respC l late 4 = none ∧ r = .returned (.tuple #[.slice none 0 0, .bool false])) ∨ ∃ all u, respC l late 4 = some all ∧ r = .returned (.tuple #[u, .bool true]) ∧ RowSl nuV w' all u ∧ NewSl w.heap.size u ∧ all.length = l.length)

set_option maxRecDepth 20000 in
set_option maxHeartbeats 16000000 in
theorem responsesC_any (w : World) (l : List Pa) (late : List Int) (v v2 : Value) (hv : RowSl Pa.vals w l v) (ht : RowSl nuV w late v2) (h1 : 1 ≤ l.length) (h8 : l.length ≤ 8) (hlen : late.length = l.length) : Calls Try.prog 15 #[v, v2] w (RespCPost w l late) := by
  have HL : Hid (∀ W (c : Nat), Below w.heap.size w W → Calls Try.prog 27 #[v, v2, .int .i64 (c : Int)] W fun r w' => ∃ sv tv, r = .returned (.tuple #[sv, tv]) ∧ LiesAt W w' (liesF l late (c : Int) 0) sv tv) := fun W c hb => lies_any W l late v v2 c (hv.below hb) (ht.below hb) h1 h8 hlen
  obtain ⟨ad, c, rfl⟩ := hv.len
  obtain ⟨ad2, c2, rfl⟩ := ht.len
  rw [hlen] at HL ⊢
  clear hv ht hlen
  obtain ⟨w3, hmk, hb3, hh3⟩ := make_ints w l.length (by omega)
  have H3 : Hid (RA w w3 w.heap.size l.length (List.replicate l.length 0)) := ⟨hb3, by rw [hh3]; simp [runCells], List.length_replicate, Nat.le_refl _⟩
  obtain ⟨G, hG⟩ : ∃ G, w.heap.size = G := ⟨_, rfl⟩
  rw [hG] at hmk H3
  clear hb3 hh3
  go_enter Try.func15, Try.ntmps15
  go_wp2_with fail
  clear hmk hG
  go_loopw [17] (fun iv wr => ∃ cn : Nat, cn ≤ 4 ∧ iv = .int .i64 (cn : Int) ∧ Hid (∃ all, respC l late cn = some all ∧ RA w wr G l.length all)) (fun iv _ => 4 - (intOf iv).toNat)
  case atStart => exact ⟨0, by omega, rfl, ⟨_, rfl, H3.out⟩⟩
  case round =>
    obtain ⟨cn, hcn, rfl, HR⟩ := hrel
    clear H3
    obtain ⟨all, hall, hra⟩ := HR.out
    by_cases hc4 : cn < 4
    · have hci : (cn : Int) < 4 := by omega
      have HA : Hid (respC l late cn = some all ∧ RA w wr G l.length all) := ⟨hall, hra⟩
      have HLc := HL.out wr cn hra.bel
      obtain ⟨xs, hxs⟩ : ∃ xs, liesF l late (cn : Int) 0 = xs := ⟨_, rfl⟩
      rw [hxs] at HLc
      obtain ⟨m, hm⟩ : ∃ m, xs.length = m := ⟨_, rfl⟩
      have hm8 : m ≤ 8 := by rw [← hm, ← hxs]; exact Nat.le_trans (liesF_len _ _ _ _) h8
      have HXS : Hid (liesF l late (cn : Int) 0 = xs ∧ xs.length = m ∧ respC l late (cn + 1) = coreF l late cn all) := ⟨hxs, hm, by rw [respC, hall]; rfl⟩
      clear hall hra HR hxs hm
      go_upto_region 6 with (go_at_call 27; refine HLc.mono ?_; rintro r w5 ⟨sv, tv, rfl, hla⟩; obtain ⟨as0, cs0, rfl⟩ := owns_value hla.st; obtain ⟨at0, ct0, rfl⟩ := owns_value hla.tl; rw [HXS.out.2.1]; have H5 : Hid (LiesAt wr w5 xs (.slice as0 m cs0) (.slice at0 m ct0)) := (by rw [← HXS.out.2.1]; exact hla); clear hla HLc)
      by_cases hm0 : m = 0
      · subst hm0
        go_wp2_with fail
        refine ⟨⟨cn + 1, by omega, by simp, ⟨all, ?_, HA.out.2.grow H5.out.bel⟩⟩, by simp [intOf]; omega⟩
        rw [HXS.out.2.2]
        unfold coreF
        rw [HXS.out.1, if_pos (List.eq_nil_of_length_eq_zero HXS.out.2.1)]
      have hmb : ((m : Int) == 0) = false := by simp; omega
      obtain ⟨w6, hmk6, hb6, hh6⟩ := make_ints w5 m (by omega)
      have hrs : RowSl Ta.vals w5 (xs.map (·.2)) (.slice as0 m cs0) := own_rowSl (by have h9 := H5.out.st; rw [HXS.out.2.1] at h9; rw [List.length_map, HXS.out.2.1]; exact h9)
      have HT := Responses_any w6 (xs.map (·.2)) (List.replicate m 0) _ _ (by rw [List.length_map, HXS.out.2.1]; omega) (hrs.below hb6) (zeros_row hh6)
      have hcel := H5.out.tl
      rw [HXS.out.2.1] at hcel
      obtain ⟨tg, tc, cur, he, hlow, -⟩ := own_cells hcel (by omega)
      cases he
      have HTL : Hid (∀ q u, (xs.map (fun y => Value.int .i64 (y.1 : Int)))[q]? = some u → w6.cell? ⟨tg, q, none⟩ = some u) := fun q u hq => by
        have h9 := hcel.cells (g := tg) rfl q u hq
        rw [Addr.add_lit, Nat.zero_add] at h9
        exact below_cell hb6 h9
      have H6 : Hid (RA w w6 G l.length all ∧ G < w6.heap.size ∧ G < tg) := ⟨(HA.out.2.grow H5.out.bel).grow hb6, (HA.out.2.grow (below_seq H5.out.bel hb6)).lt, Nat.lt_of_lt_of_le HA.out.2.lt hlow⟩
      have HN : Hid (respC l late cn = some all) := HA.out.1
      have HCF : Hid (respC l late (cn + 1) = if (responsesF (xs.map (·.2)) (List.replicate m 0)).2.1 = 0 then some (putAll all (xs.map (·.1)) (responsesF (xs.map (·.2)) (List.replicate m 0)).1) else none) := by
        have h9 := HXS.out.2.2
        unfold coreF at h9
        rw [HXS.out.1, HXS.out.2.1, if_neg (fun e => by have h10 := HXS.out.2.1; rw [e] at h10; simp at h10; omega)] at h9
        exact h9
      have HLen : Hid ((responsesF (xs.map (·.2)) (List.replicate m 0)).2.1 = 0 → (responsesF (xs.map (·.2)) (List.replicate m 0)).1.length = m) := fun h => by rw [responsesF_len h, List.length_replicate]
      generalize responsesF (xs.map (·.2)) (List.replicate m 0) = rf at *
      obtain ⟨ts, z1, z2⟩ := rf
      dsimp only at HT HCF HLen
      clear hcel hrs hb6 hh6 H5 HA
      go_upto_region 8 with (go_at_call 28; refine HT.mono ?_; rintro r w7 ⟨u7, rfl, hrow7, hb7, hn7⟩; have H7 : Hid (Below w6.heap.size w6 (w7.alloc (.cells #[.int .i64 z1, .int .i64 z2] 29)) ∧ RowSl nuV (w7.alloc (.cells #[.int .i64 z1, .int .i64 z2] 29)) ts u7 ∧ NewSl w6.heap.size u7) := ⟨below_seq hb7 (below_new _ _), hrow7.below (below_new _ _), hn7⟩; clear hb7 hrow7 hn7 HT)
      have hnb := heap_alloc_new w7 (.cells #[.int .i64 z1, .int .i64 z2] 29)
      generalize w7.alloc (.cells #[.int .i64 z1, .int .i64 z2] 29) = w8 at *
      generalize w7.heap.size = gf at *
      obtain ⟨qs, -, ql⟩ := cells_of (l := [_, _]) hnb
      have q0 := qs 0 _ rfl
      clear qs hnb hmk6
      by_cases hz : z1 = 0
      · subst hz
        obtain ⟨hb8, hrow8, hn8⟩ := H7.out
        have hlt := HLen.out rfl
        obtain ⟨ad5, c5, rfl, -, hc5, hr5⟩ := hrow8
        rcases hr5 with h9 | ⟨b5, o5, rfl, hr5⟩
        · rw [h9] at hlt; simp at hlt; omega
        have hb5 : G < b5 := Nat.lt_of_lt_of_le H6.out.2.1 (hn8 _ _ _ rfl)
        rw [hlt] at hc5 ⊢
        have hr8 := H6.out.1.grow hb8
        have hG := H6.out.2.2
        have H8 : Hid (L2 w w8 G tg b5 o5 l.length all (fr0 xs) ts) := ⟨hr8.bel, hr8.row, fun q u hq => by rw [fr0_map] at hq; exact below_cell hb8 (HTL.out q u hq), hr5, hr8.len⟩
        have HE : Hid (ts.length = m ∧ w.heap.size ≤ G) := ⟨hlt, hr8.low⟩
        clear hb8 hr5 H7 HTL H6 hr8 hn8
        go_wp2_with fail
        go_loopw [43] (fun iv wr => ∃ k : Nat, k ≤ m ∧ iv = .int .i64 (k : Int) ∧ Hid (∃ al, L2 w wr G tg b5 o5 l.length al (fr0 xs) ts ∧ putAll al ((xs.map (·.1)).drop k) (ts.drop k) = putAll all (xs.map (·.1)) ts)) (fun iv _ => m - (intOf iv).toNat)
        case atStart => exact ⟨0, Nat.zero_le _, rfl, ⟨_, H8.out, rfl⟩⟩
        case round =>
          obtain ⟨k, hk, rfl, HK⟩ := hrel
          clear H8
          by_cases hkm : k < m
          · obtain ⟨al, hL, hput⟩ := HK.out
            obtain ⟨y, hy, -⟩ := drop_at (l := xs) (k := k) (by have := HXS.out.2.1; omega)
            obtain ⟨tz, htz, hdz⟩ := drop_at (l := ts) (k := k) (by have := HE.out.1; omega)
            have hyl : y.1 < l.length := by
              have h9 := (liesF_idx l late (cn : Int) 0 y (by rw [HXS.out.1]; exact List.mem_of_getElem? hy)).2
              omega
            have ck := hL.tl k (.int .i64 (y.1 : Int)) (by rw [fr0_map, List.getElem?_map, hy]; rfl)
            have cz := nu_at hL.tm htz
            obtain ⟨rc, rf, rl⟩ := cells_of (l := al.map (Value.int .i64)) hL.row
            have r0 := rc y.1 _ (List.getElem?_eq_getElem (by rw [List.length_map, hL.len]; exact hyl))
            have rf0 := rf y.1
            generalize (al.map (Value.int .i64))[y.1]'_ = rold at r0
            have HP : Hid (L2 w (wr.setCell ⟨G, y.1, none⟩ (.int .i64 tz)) G tg b5 o5 l.length (al.set y.1 tz) (fr0 xs) ts ∧ putAll (al.set y.1 tz) ((xs.map (·.1)).drop (k + 1)) (ts.drop (k + 1)) = putAll all (xs.map (·.1)) ts) := by
              refine ⟨hL.put HE.out.2 hG hb5 _ _, ?_⟩
              rw [← hput]
              have hyk : (xs.map (·.1))[k]? = some y.1 := by rw [List.getElem?_map, hy]; rfl
              obtain ⟨hk1, hk2⟩ := List.getElem?_eq_some_iff.1 hyk
              rw [List.drop_eq_getElem_cons hk1, hk2, hdz, putAll]
            clear hL hput HK rc rf hy htz hdz
            generalize y.1 = yi at *
            have hki : (k : Int) < (m : Int) := by omega
            have hyi : (yi : Int) < (l.length : Int) := by omega
            have lg1 := World.block_lt_of_cell? _ _ ck
            have lg2 := World.block_lt_of_cell? _ _ cz
            go_wp2_with fail
            exact ⟨⟨k + 1, by omega, by simp, ⟨_, HP.out.1, HP.out.2⟩⟩, by simp [intOf]; omega⟩
          · have hke : k = m := by omega
            subst hke
            have hki : ¬ ((k : Nat) : Int) < (k : Int) := by omega
            have H9 : Hid (∃ al, respC l late (cn + 1) = some al ∧ RA w wr G l.length al) := by
              obtain ⟨al, hL, hput⟩ := HK.out
              rw [List.drop_eq_nil_of_le (by rw [List.length_map, HXS.out.2.1]; omega)] at hput
              refine ⟨al, ?_, ⟨hL.bel, hL.row, hL.len, HE.out.2⟩⟩
              rw [HCF.out, if_pos (by trivial), ← hput]
              simp [putAll]
            clear HK
            go_wp2_with fail
            exact ⟨⟨cn + 1, by omega, by simp, H9.out⟩, by simp [intOf]; omega⟩
      · have hzb : (z1 != 0) = true := by simpa using hz
        go_wp2_with fail
        refine bodyPost_ret (responses_ends rfl rfl) rfl ?_
        refine ⟨(H6.out.1.grow H7.out.1).bel, .inl ⟨?_, rfl⟩⟩
        have h9 := HCF.out
        rw [if_neg hz] at h9
        have h10 := respC_none h9 (3 - cn)
        rwa [show cn + 1 + (3 - cn) = 4 by omega] at h10
    · have hce : cn = 4 := by omega
      subst hce
      clear HR
      have HA : Hid (respC l late 4 = some all ∧ RA w wr G l.length all) := ⟨hall, hra⟩
      clear hall hra
      go_wp2_with fail
      refine bodyPost_ret (responses_ends rfl rfl) rfl ?_
      refine ⟨HA.out.2.bel, .inr ⟨all, _, HA.out.1, rfl, ?_, ?_, HA.out.2.len⟩⟩
      · have h9 := row_ints HA.out.2.row
        rw [HA.out.2.len] at h9
        exact h9
      · intro a n c e
        cases e
        exact HA.out.2.low
end Go.Proofs.Ytccoobcggbbciam
