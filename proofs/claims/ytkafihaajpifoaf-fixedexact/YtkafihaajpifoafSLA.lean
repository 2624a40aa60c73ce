import Derived.Test.YtkafihaajpifoafSSL
import Derived.Test.YtkafihaajpifoafSSN
namespace Go.Proofs.Ytkafihaajpifoaf.S8
open Go.ChangeShapes Go.WideShapes Go.ChangeAt Go.RowKit

/- Who is late. -/
def isLate (R : Nat) (x : Jb) (e : Int) : Prop := x.d < e ∨ (e < 0 ∧ x.d ≤ (R : Int))

abbrev lateDec (R : Nat) (x : Jb) (e : Int) : Decidable (isLate R x e) := by unfold isLate; exact inferInstance

def lateFrom (R : Nat) : List Jb → List Int → Nat → List Int
  | x :: js, e :: es, i => if x.d < e ∨ (e < 0 ∧ x.d ≤ (R : Int)) then (i : Int) :: lateFrom R js es (i + 1) else lateFrom R js es (i + 1)
  | _, _, _ => []

def lateF (l : List Jb) (R : Nat) (es : List Int) : (Int × Int) × List Int := if es.length ≠ l.length then ((2, 0), []) else ((0, 0), lateFrom R l es 0)

theorem lateFrom_len (R : Nat) : ∀ (l : List Jb) (es : List Int) (i : Nat), (lateFrom R l es i).length ≤ l.length
  | [], _, _ => by simp [lateFrom]
  | x :: l, [], _ => by simp [lateFrom]
  | x :: l, e :: es, i => by
    have := lateFrom_len R l es (i + 1)
    rw [lateFrom]
    split <;> simp <;> omega

theorem lateFrom_end (R : Nat) (es : List Int) (i : Nat) : lateFrom R [] es i = [] := by cases es <;> rfl

theorem Late_ends {w : World} {g : Nat} {c k p : Value} {a : Act} (h : w.heap[g]? = some (.cells #[c, k] 29 (0, 0))) (h2 : a.tmps[4]?.getD undef = p) (h3 : a.tmps[5]?.getD undef = .pointer (some ⟨g, 0, none⟩)) :
    (results Try.f13 a.tmps).run Try.prog w = .ok (.tuple #[p, .agg #[c, k]]) w := by
  obtain ⟨c1, f1, l1⟩ := cells_of (l := [_, _]) h
  have c10 := c1 0 _ rfl
  have c11 := c1 1 _ rfl
  subst h2
  simp [results, Try.results13, go_sem, h3, c10, c11]

theorem nums_nil (w : World) (B : Nat) : w.ownsRow B 3 1 (.slice none 0 0) ([] : List Int).length (([] : List Int).flatMap nuV) := ⟨rfl, .inl ⟨rfl, rfl⟩⟩

/-- What was played, in a box; a fault's block; a row of numbers of one's own. -/
structure LO (w wr : World) (pr pe : Value) (acc : List Int) (av : Value) : Prop where
  bel : Below w.heap.size w wr
  box : wr.heap[w.heap.size]? = some (.cells #[pr, pe] 37 (0, 0))
  res : wr.heap[w.heap.size + 1]? = some (.cells #[.int .i64 0, .int .i64 0] 29 (0, 0))
  row : wr.ownsRow (w.heap.size + 2) 3 1 av acc.length (acc.flatMap nuV)

theorem LO.grow {w wr wr' : World} {pr pe : Value} {acc : List Int} {av : Value} (h : LO w wr pr pe acc av) (hb : Below wr.heap.size wr wr') : LO w wr' pr pe acc av :=
  ⟨below_seq h.bel hb, (hb.block _ (Array.getElem?_eq_some_iff.1 h.box).1).trans h.box, (hb.block _ (Array.getElem?_eq_some_iff.1 h.res).1).trans h.res, ownsRow_below h.row hb⟩

theorem LO.start (w : World) (pr pe : Value) : LO w ((w.alloc (.cells #[pr, pe] 37)).alloc (.cells #[.int .i64 0, .int .i64 0] 29)) pr pe [] (.slice none 0 0) :=
  ⟨below_seq (below_new _ _) (below_new _ _), (Below.heap_alloc _ _ _ (by simp)).trans (heap_alloc_new _ _), by have := heap_alloc_new (w.alloc (.cells #[pr, pe] 37)) (.cells #[.int .i64 0, .int .i64 0] 29); simpa using this, nums_nil _ _⟩

/-- One number more. -/
theorem LO.push {w wr : World} {pr pe : Value} {acc : List Int} {av : Value} (h : LO w wr pr pe acc av) (x : Int) (hl : acc.length ≤ 100000) :
    ∃ ad c w4, (Builtin.append_ #[24, 24] 24 #[av, .slice (some ⟨wr.heap.size, 0, none⟩) 1 1]).run Try.prog (wr.alloc (.cells #[.int .i64 x] 3)) = .ok (.slice ad (acc.length + 1) c) w4 ∧ LO w w4 pr pe (acc ++ [x]) (.slice ad (acc.length + 1) c) := by
  obtain ⟨i0, hi0, hz0, hz1, hz2⟩ := info_parts info3
  have h1 := h.grow (below_new wr (.cells #[.int .i64 x] 3))
  have hlt := (Array.getElem?_eq_some_iff.1 h.res).1
  obtain ⟨v4, w4, hrun, ho4, hg4, -, hv4⟩ := run_append_own_at (P := Try.prog) (w := wr.alloc (.cells #[.int .i64 x] 3)) (w.heap.size + 2) 24 24 3 i0 _ 1 8 Try.underlying24 hi0 hz0 hz1 hz2 rfl (by decide) av acc.length (acc.flatMap nuV) h1.row ⟨wr.heap.size, 0, none⟩ 1 1 (nuV x) rfl (fun j u hj => by rw [Addr.add_lit]; have := (cells_of (l := nuV x) (heap_alloc_new wr (.cells #[.int .i64 x] 3))).1 j u hj; simpa using this) (fun u hu => by simp [nuV] at hu; subst hu; rfl) (by unfold maxLen; omega) (by omega) (by simp; omega)
  obtain ⟨ad, c, rfl⟩ := owns_value ho4
  have hne : ∀ k, k < w.heap.size + 2 → some k ≠ av.ownBlock := fun k hk e => by have := (h.row.lt k e.symm).1; omega
  have hold : ∀ k, k < wr.heap.size → some k ≠ av.ownBlock → w4.heap[k]? = wr.heap[k]? := fun k hk hn => (hg4.block k (by simp; omega) hn).trans (Below.heap_alloc _ _ _ hk)
  have hbel : Below (w.heap.size + 2) wr w4 := ((below_new wr _).mono (by omega)).grown hg4 (by simp; omega) (fun k hk => (h.row.lt k hk).1)
  refine ⟨ad, c, w4, hrun, h.bel.trans (hbel.mono (by omega)), (hold _ (by omega) (hne _ (by omega))).trans h.box, (hold _ hlt (hne _ (by omega))).trans h.res, ?_⟩
  rw [List.length_append, show (acc ++ [x]).flatMap nuV = acc.flatMap nuV ++ nuV x by simp]
  exact ho4

theorem rowOfN_own {w : World} {B : Nat} {cs : List Int} {v : Value} (h : w.ownsRow B 3 1 v cs.length (cs.flatMap nuV)) : RowSl nuV w cs v := by
  have h' := h
  obtain ⟨hl, ⟨h1, h2⟩ | ⟨g, cap, cur, he, hb, hg, hr⟩⟩ := h
  · subst h1
    have : cs = [] := by
      cases cs with
      | nil => rfl
      | cons x r => simp_all
    subst this
    exact RowSl.nil _ _
  · subst he
    refine ⟨_, cap, rfl, (fun e => by cases e), by omega, .inr ⟨g, 0, rfl, fun q u hq => ?_⟩⟩
    have hql := (List.getElem?_eq_some_iff.1 hq).1
    rw [flat_length nuV 1 nuV_len] at hql
    rw [Nat.zero_add]
    exact (h'.cellAt q (by omega)).trans hq

theorem LO.end2 {w wr : World} {pr pe : Value} {acc : List Int} {av : Value} (h : LO w wr pr pe acc av) (a b : Value) : ((wr.setCell ⟨w.heap.size + 1, 0, none⟩ a).setCell ⟨w.heap.size + 1, 1, none⟩ b).ownsRow (w.heap.size + 2) 3 1 av acc.length (acc.flatMap nuV) ∧ Below w.heap.size w ((wr.setCell ⟨w.heap.size + 1, 0, none⟩ a).setCell ⟨w.heap.size + 1, 1, none⟩ b) := by
  refine ⟨ownsRow_keep2 h.row (fun q hq => ?_), (h.bel.setCell (by simp) _).setCell (by simp) _⟩
  have hq1 := (h.row.lt q hq).1
  rw [Below.heap_setCell _ _ _ _ (by show q ≠ w.heap.size + 1; omega), Below.heap_setCell _ _ _ _ (by show q ≠ w.heap.size + 1; omega)]

theorem lateFrom_at {R : Nat} {l : List Jb} {es : List Int} {j : Nat} {x : Jb} {e : Int} (h : l.drop j = x :: l.drop (j + 1)) (h' : es.drop j = e :: es.drop (j + 1)) : lateFrom R (l.drop j) (es.drop j) j = if x.d < e ∨ (e < 0 ∧ x.d ≤ (R : Int)) then (j : Int) :: lateFrom R (l.drop (j + 1)) (es.drop (j + 1)) (j + 1) else lateFrom R (l.drop (j + 1)) (es.drop (j + 1)) (j + 1) := by
  rw [h, h', lateFrom]

set_option maxRecDepth 20000 in
set_option maxHeartbeats 4000000 in
theorem Late_bad (w : World) (l : List Jb) (es : List Int) (v ve : Value) (ra : Option Addr) (R rc : Nat) (hv : RowSl Jb.vals w l v) (he : RowSl nuV w es ve) (hne : es.length ≠ l.length) :
    Calls Try.prog 13 #[v, .agg #[.slice ra R rc, ve]] w fun r w' => r = .returned (.tuple #[.slice none 0 0, .agg #[.int .i64 2, .int .i64 0]]) ∧ Below w.heap.size w w' := by
  obtain ⟨ad, c, rfl⟩ := hv.len
  obtain ⟨ad2, c2, rfl⟩ := he.len
  have hn : ((es.length : Int) != (l.length : Int)) = true := by simp; omega
  clear hv he
  go_enter Try.func13, Try.ntmps13
  go_wp2_with fail
  refine bodyPost_ret (Late_ends (g := w.heap.size + 1) (c := .int .i64 2) (k := .int .i64 0) (by have := heap_alloc_new (w.alloc (.cells #[.slice ra R rc, .slice ad2 es.length c2] 37)) (.cells #[.int .i64 2, .int .i64 0] 29); simpa using this) rfl rfl) rfl ?_
  exact ⟨rfl, below_seq (below_new _ _) (below_new _ _)⟩

set_option maxRecDepth 20000 in
set_option maxHeartbeats 4000000 in
theorem Late_good (w : World) (l : List Jb) (es : List Int) (v ve : Value) (ra : Option Addr) (R rc : Nat) (hv : RowSl Jb.vals w l v) (he : RowSl nuV w es ve) (hne : es.length = l.length) (hl : l.length ≤ 5000) :
    Calls Try.prog 13 #[v, .agg #[.slice ra R rc, ve]] w fun r w' => ∃ u, r = .returned (.tuple #[u, .agg #[.int .i64 0, .int .i64 0]]) ∧ w'.ownsRow (w.heap.size + 2) 3 1 u (lateFrom R l es 0).length ((lateFrom R l es 0).flatMap nuV) ∧ Below w.heap.size w w' := by
  obtain ⟨ad, c, rfl, -, hcap, hrow⟩ := hv
  obtain ⟨ad2, c2, rfl, -, hcap2, hrow2⟩ := he
  have HR : Hid ((l = [] ∨ ∃ b o, ad = some ⟨b, o, none⟩ ∧ ∀ q u, (l.flatMap Jb.vals)[q]? = some u → w.cell? ⟨b, o + q, none⟩ = some u) ∧ (es = [] ∨ ∃ b o, ad2 = some ⟨b, o, none⟩ ∧ ∀ q u, (es.flatMap nuV)[q]? = some u → w.cell? ⟨b, o + q, none⟩ = some u) ∧ es.length = l.length) := ⟨hrow, hrow2, hne⟩
  rw [hne] at hcap2 ⊢
  clear hrow hrow2 hne
  have H0 := LO.start w (.slice ra R rc) (.slice ad2 l.length c2)
  have HL : Hid (LO w ((w.alloc (.cells #[.slice ra R rc, .slice ad2 l.length c2] 37)).alloc (.cells #[.int .i64 0, .int .i64 0] 29)) (.slice ra R rc) (.slice ad2 l.length c2) [] (.slice none 0 0)) := H0
  clear H0
  go_enter Try.func13, Try.ntmps13
  go_wp2_with fail
  go_loopw [6, 20] (fun av i wr => ∃ (j : Nat) (acc : List Int), j ≤ l.length ∧ i = .int .i64 j ∧ LO w wr (.slice ra R rc) (.slice ad2 l.length c2) acc av ∧ acc ++ lateFrom R (l.drop j) (es.drop j) j = lateFrom R l es 0 ∧ acc.length ≤ j) (fun _ i _ => l.length - (intOf i).toNat)
  case atStart => exact ⟨0, [], Nat.zero_le _, rfl, HL.out, rfl, Nat.le_refl _⟩
  case round =>
    obtain ⟨j, acc, hj, rfl, hg, hac, hal⟩ := hrel
    obtain ⟨cad, cc, rfl⟩ := owns_value hg.row
    obtain ⟨bs, bf, bl⟩ := cells_of (l := [_, _]) hg.box
    have b0 := bs 0 _ rfl
    have b1 := bs 1 _ rfl
    have HG : Hid (LO w wr (.slice ra R rc) (.slice ad2 l.length c2) acc (.slice cad acc.length cc)) := hg
    by_cases hjl : j < l.length
    · obtain ⟨x, hx, hd⟩ := drop_at hjl
      obtain ⟨e, he, hd2⟩ := drop_at (l := es) (show j < es.length by rw [HR.out.2.2]; omega)
      rcases HR.out.1 with h | ⟨gb, go, rfl, hr1⟩
      · rw [h] at hjl; simp at hjl
      rcases HR.out.2.1 with h | ⟨eb, eo, rfl, hr2⟩
      · rw [h] at he; simp at he
      obtain ⟨y0, y1, y2, y3, y4⟩ := jb_at (fun q u hq => below_cell hg.bel (hr1 q u hq)) hx
      have z0 := nu_at (fun q u hq => below_cell hg.bel (hr2 q u hq)) he
      rw [lateFrom_at hd hd2] at hac
      have HA : Hid ((acc ++ if x.d < e ∨ (e < 0 ∧ x.d ≤ (R : Int)) then (j : Int) :: lateFrom R (l.drop (j + 1)) (es.drop (j + 1)) (j + 1) else lateFrom R (l.drop (j + 1)) (es.drop (j + 1)) (j + 1)) = lateFrom R l es 0) := hac
      clear hac hd hd2 hr1 hr2 bs bf hx he
      by_cases q1 : x.d < e
      · have e9 := HA.out
        rw [if_pos (by omega)] at e9
        obtain ⟨ad9, c9, w9, hrun, ho9⟩ := HG.out.push (j : Int) (by omega)
        have HE : Hid ((acc ++ [(j : Int)]) ++ lateFrom R (l.drop (j + 1)) (es.drop (j + 1)) (j + 1) = lateFrom R l es 0 ∧ LO w w9 (.slice ra R rc) (.slice (some ⟨eb, eo, none⟩) l.length c2) (acc ++ [(j : Int)]) (.slice ad9 (acc.length + 1) c9)) := ⟨by rw [List.append_assoc]; exact e9, ho9⟩
        clear e9 ho9 hg HA
        go_wp2_with (at_builtin; refine append_known rfl (.tmp 44) (.tmp 46) 24 rfl rfl rfl hrun ?_)
        exact ⟨⟨j + 1, _, by omega, by simp, HE.out.2, HE.out.1, by simp; omega⟩, by simp [intOf]; omega⟩
      · by_cases q2 : e < 0
        · by_cases q3 : x.d ≤ (R : Int)
          · have e9 := HA.out
            rw [if_pos (by omega)] at e9
            obtain ⟨ad9, c9, w9, hrun, ho9⟩ := HG.out.push (j : Int) (by omega)
            have HE : Hid ((acc ++ [(j : Int)]) ++ lateFrom R (l.drop (j + 1)) (es.drop (j + 1)) (j + 1) = lateFrom R l es 0 ∧ LO w w9 (.slice ra R rc) (.slice (some ⟨eb, eo, none⟩) l.length c2) (acc ++ [(j : Int)]) (.slice ad9 (acc.length + 1) c9)) := ⟨by rw [List.append_assoc]; exact e9, ho9⟩
            clear e9 ho9 hg HA
            go_wp2_with (at_builtin; refine append_known rfl (.tmp 44) (.tmp 46) 24 rfl rfl rfl hrun ?_)
            exact ⟨⟨j + 1, _, by omega, by simp, HE.out.2, HE.out.1, by simp; omega⟩, by simp [intOf]; omega⟩
          · have e9 := HA.out
            rw [if_neg (by omega)] at e9
            have HE : Hid (acc ++ lateFrom R (l.drop (j + 1)) (es.drop (j + 1)) (j + 1) = lateFrom R l es 0) := e9
            clear e9 hg HA
            go_wp2_with fail
            exact ⟨⟨j + 1, acc, by omega, by simp, HG.out, HE.out, by omega⟩, by simp [intOf]; omega⟩
        · have e9 := HA.out
          rw [if_neg (by omega)] at e9
          have HE : Hid (acc ++ lateFrom R (l.drop (j + 1)) (es.drop (j + 1)) (j + 1) = lateFrom R l es 0) := e9
          clear e9 hg HA
          go_wp2_with fail
          exact ⟨⟨j + 1, acc, by omega, by simp, HG.out, HE.out, by omega⟩, by simp [intOf]; omega⟩
    · have hje : j = l.length := by omega
      subst hje
      obtain ⟨rs1, rf1, rl1⟩ := cells_of (l := [_, _]) hg.res
      have r10 := rs1 0 _ rfl
      have r11 := rs1 1 _ rfl
      have f10 := rf1 0
      have f11 := rf1 1
      clear rs1 rf1 bs bf hg
      have hac' : acc = lateFrom R l es 0 := by rw [List.drop_length, lateFrom_end, List.append_nil] at hac; exact hac
      have HE : Hid (acc = lateFrom R l es 0) := hac'
      clear hac hac'
      go_wp2_with fail
      refine bodyPost_ret (Late_ends (g := w.heap.size + 1) (c := .int .i64 0) (k := .int .i64 0) (p := .slice cad acc.length cc) (set_two HG.out.res) rfl rfl) rfl ?_
      rw [← HE.out]
      exact ⟨_, rfl, HG.out.end2 _ _⟩
end Go.Proofs.Ytkafihaajpifoaf.S8
