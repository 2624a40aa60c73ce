import Derived.Test.YtkafihaajpifoajNN
import Derived.Test.YtkafihaajpifoajQI
namespace Go.Proofs.Ytkafihaajpifoaj
open Go.ChangeShapes Go.WideShapes Go.ChangeAt Go.RowKit

def sndJ1 (l : List Fr) (p : Co × Int) : Jb := ⟨p.1.k, p.1.a + p.2, (Fk l p.1.k).c, p.1.a + (Fk l p.1.k).d, (l.length : Int) - p.1.k⟩

/-- The jobs of what is sent. -/
def sndJ (l : List Fr) (cs : List Co) (la : List Int) : List Jb := (cs.zip la).map (sndJ1 l)

/-- What Send answers. -/
def SndRes (l : List Fr) (cs : List Co) (la : List Int) (n z1 z2 : Int) (rs es : List Int) : Prop :=
  ((chkS l cs la).1 ≠ 0 ∧ z1 = (chkS l cs la).1 ∧ z2 = (chkS l cs la).2 ∧ rs = [] ∧ es = []) ∨ ((chkS l cs la).1 = 0 ∧ PlRes (sndJ l cs la) 1 false n z1 z2 rs es)

theorem SndRes.one {l : List Fr} {cs : List Co} {la : List Int} {n z1 z2 y1 y2 : Int} {rs es rs' es' : List Int} (h : SndRes l cs la n z1 z2 rs es) (h' : SndRes l cs la n y1 y2 rs' es') : z1 = y1 ∧ z2 = y2 ∧ rs = rs' ∧ es = es' := by
  rcases h with ⟨h0, rfl, rfl, rfl, rfl⟩ | ⟨h0, h1⟩
  · rcases h' with ⟨g0, rfl, rfl, rfl, rfl⟩ | ⟨g0, -⟩
    · exact ⟨rfl, rfl, rfl, rfl⟩
    · exact absurd g0 h0
  · rcases h' with ⟨g0, -⟩ | ⟨-, g1⟩
    · exact absurd h0 g0
    · exact plRes_unique h1 g1

theorem chkS_ok {l : List Fr} {cs : List Co} {la : List Int} (h : (chkS l cs la).1 = 0) : (chkN l).1 = 0 ∧ cs.length ≤ 4000 ∧ la.length = cs.length ∧ (∀ p ∈ cs.zip la, sndOne l p.1 p.2 = 0) ∧ chkS l cs la = (0, 0) := by
  unfold chkS at h ⊢
  by_cases h1 : (chkN l).1 ≠ 0
  · rw [if_pos h1] at h; exact absurd h h1
  · rw [if_neg h1] at h ⊢
    by_cases h2 : 4000 < cs.length ∨ la.length ≠ cs.length
    · rw [if_pos h2] at h; cases h
    · rw [if_neg h2] at h ⊢
      obtain ⟨h3, h4⟩ := sndF_ok _ _ h
      exact ⟨by simpa using h1, by omega, by omega, h3, h4⟩

theorem Res.base {w w1 W : World} {rs es : List Int} {v1 v2 : Value} (h : Res w1 W rs es v1 v2) (hb : Below w.heap.size w w1) : Res w W rs es v1 v2 := by
  obtain ⟨h1, h2, h3, o1, o2, h4, h5, h6⟩ := h
  have hs := hb.size
  refine ⟨below_seq hb h1, h2, h3, o1, o2, ?_, ?_, h6⟩
  · rcases h4 with h4 | ⟨g, e, e2, h, hB, hl⟩
    · exact .inl h4
    · exact .inr ⟨g, e, e2, h, by omega, hl⟩
  · rcases h5 with h5 | ⟨g, e, e2, h, hB, hl⟩
    · exact .inl h5
    · exact .inr ⟨g, e, e2, h, by omega, hl⟩

/-- What lies below the rows may be changed. -/
theorem Res.turn {w w1 W W' : World} {rs es : List Int} {v1 v2 : Value} (h : Res w1 W rs es v1 v2) (hb : Below w.heap.size w W') (hle : w.heap.size ≤ w1.heap.size) (hk : ∀ q, w1.heap.size ≤ q → W'.heap[q]? = W.heap[q]?) : Res w W' rs es v1 v2 := by
  obtain ⟨h1, h2, h3, o1, o2, h4, h5, h6⟩ := h
  refine ⟨hb, h2, h3, o1, o2, ?_, ?_, h6⟩
  · rcases h4 with h4 | ⟨g, e, e2, h, hB, hl⟩
    · exact .inl h4
    · exact .inr ⟨g, e, e2, (hk g hB).trans h, by omega, hl⟩
  · rcases h5 with h5 | ⟨g, e, e2, h, hB, hl⟩
    · exact .inl h5
    · exact .inr ⟨g, e, e2, (hk g hB).trans h, by omega, hl⟩

/-- So many jobs are laid, and room. -/
def jbCells (n : Nat) (js : List Jb) : List Value := js.flatMap Jb.vals ++ List.replicate ((n - js.length) * 5) (.int .i64 0)

theorem jbCells_full (js : List Jb) : jbCells js.length js = js.flatMap Jb.vals := by simp [jbCells]

theorem jbCells_split {n : Nat} {js : List Jb} (h : js.length < n) : jbCells n js = js.flatMap Jb.vals ++ (.int .i64 0 :: .int .i64 0 :: .int .i64 0 :: .int .i64 0 :: .int .i64 0 :: List.replicate ((n - (js.length + 1)) * 5) (.int .i64 0)) := by
  unfold jbCells
  obtain ⟨m, hm⟩ : ∃ m, n - js.length = m + 1 := ⟨n - js.length - 1, by omega⟩
  rw [hm, show n - (js.length + 1) = m by omega, show (m + 1) * 5 = m * 5 + 5 by omega]
  simp [List.replicate_succ]

theorem jbCells_put {n : Nat} {js : List Jb} (h : js.length < n) (x : Jb) : ((((((jbCells n js).set (js.length * 5) (.int .i64 x.k)).set (js.length * 5 + 1) (.int .i64 x.a)).set (js.length * 5 + 2) (.int .i64 x.c)).set (js.length * 5 + 3) (.int .i64 x.d)).set (js.length * 5 + 4) (.int .i64 x.p)) = jbCells n (js ++ [x]) := by
  rw [jbCells_split h]
  have hl := flat_length Jb.vals 5 Jb.len js
  generalize hA : js.flatMap Jb.vals = A at *
  rw [← hl]
  have key : ∀ (B : List Value) (i : Nat) (v : Value), (A ++ B).set (A.length + i) v = A ++ B.set i v := fun B i v => by
    rw [List.set_append_right _ _ (by omega)]
    congr 1
    rw [Nat.add_sub_cancel_left]
  have key0 : ∀ (B : List Value) (v : Value), (A ++ B).set A.length v = A ++ B.set 0 v := fun B v => key B 0 v
  rw [key0, key, key, key, key]
  simp only [List.set_cons_zero, List.set_cons_succ]
  unfold jbCells
  rw [List.flatMap_append, hA, List.length_append]
  simp [Jb.vals]

theorem jbCells_len {n : Nat} {js : List Jb} (h : js.length ≤ n) : (jbCells n js).length = n * 5 := by
  unfold jbCells
  rw [List.length_append, flat_length Jb.vals 5 Jb.len, List.length_replicate]
  omega

theorem made_jb (n : Nat) : madeCells (Value.agg #[.int .i64 0, .int .i64 0, .int .i64 0, .int .i64 0, .int .i64 0]).cells (n * 5) = (jbCells n []).toArray := by
  apply Array.ext
  · simp [madeCells, jbCells]
  · intro i h1 h2
    have hm : i % 5 < 5 := Nat.mod_lt _ (by omega)
    simp only [madeCells, jbCells, Value.cells, List.flatMap_nil, List.nil_append, List.getElem_toArray, List.getElem_replicate]
    rcases (show i % 5 = 0 ∨ i % 5 = 1 ∨ i % 5 = 2 ∨ i % 5 = 3 ∨ i % 5 = 4 by omega) with e | e | e | e | e <;> simp [e]

theorem make_jobs (W : World) (n : Nat) (hn : n ≤ 4000) : ∃ W', (Instr.makeSlice 56 (.int .i64 (n : Int)) (.int .i64 (n : Int))).run Try.prog W = .ok (.slice (some ⟨W.heap.size, 0, none⟩) n n) W' ∧ Below W.heap.size W W' ∧ W'.heap[W.heap.size]? = some (.cells (jbCells n []).toArray 58 (0, 0)) := by
  obtain ⟨i0, hi0, hz0, hz1, hz2⟩ := info_parts infoJb
  have h := run_make (P := Try.prog) W 56 58 i0 _ Try.underlying56 hi0 hz0 .i64 .i64 (n : Int) (n : Int) (by omega) (by omega) (by rw [hz2]; omega) (by omega)
  rw [Int.toNat_natCast, hz1, made_jb] at h
  exact ⟨_, h, below_new _ _, heap_alloc_new _ _⟩

/-- Both results' blocks, and the row of jobs. -/
structure JW (w W : World) (n g : Nat) (js : List Jb) : Prop where
  tb : TB w W
  row : W.heap[g]? = some (.cells (jbCells n js).toArray 58 (0, 0))
  low : w.heap.size + 1 < g

theorem JW.grow {w W W' : World} {n g : Nat} {js : List Jb} (h : JW w W n g js) (hb : Below W.heap.size W W') : JW w W' n g js :=
  ⟨h.tb.grow hb, (hb.block _ (ltH h.row)).trans h.row, h.low⟩

theorem JW.put {w W : World} {n g : Nat} {js : List Jb} (h : JW w W n g js) (hn : js.length < n) (x : Jb) : JW w (((((W.setCell ⟨g, js.length * 5, none⟩ (.int .i64 x.k)).setCell ⟨g, js.length * 5 + 1, none⟩ (.int .i64 x.a)).setCell ⟨g, js.length * 5 + 2, none⟩ (.int .i64 x.c)).setCell ⟨g, js.length * 5 + 3, none⟩ (.int .i64 x.d)).setCell ⟨g, js.length * 5 + 4, none⟩ (.int .i64 x.p)) n g (js ++ [x]) := by
  have hl := h.low
  have hg : w.heap.size ≤ g := by omega
  have keep : ∀ q, q ≠ g → (((((W.setCell ⟨g, js.length * 5, none⟩ (.int .i64 x.k)).setCell ⟨g, js.length * 5 + 1, none⟩ (.int .i64 x.a)).setCell ⟨g, js.length * 5 + 2, none⟩ (.int .i64 x.c)).setCell ⟨g, js.length * 5 + 3, none⟩ (.int .i64 x.d)).setCell ⟨g, js.length * 5 + 4, none⟩ (.int .i64 x.p)).heap[q]? = W.heap[q]? := fun q hq => by
    rw [Below.heap_setCell _ _ _ _ hq, Below.heap_setCell _ _ _ _ hq, Below.heap_setCell _ _ _ _ hq, Below.heap_setCell _ _ _ _ hq, Below.heap_setCell _ _ _ _ hq]
  refine ⟨⟨((((h.tb.bel.setCell hg _).setCell hg _).setCell hg _).setCell hg _).setCell hg _, (keep _ (by omega)).trans h.tb.r1, (keep _ (by omega)).trans h.tb.r2⟩, ?_, h.low⟩
  rw [setCell_list (setCell_list (setCell_list (setCell_list (setCell_list h.row)))), jbCells_put hn]

theorem JW.jobs {w W : World} {g : Nat} {js : List Jb} (h : JW w W js.length g js) : RowSl Jb.vals W js (.slice (some ⟨g, 0, none⟩) js.length js.length) := by
  have hr := h.row
  rw [jbCells_full] at hr
  refine ⟨some ⟨g, 0, none⟩, js.length, rfl, (fun e => by cases e), Nat.le_refl _, Or.inr ⟨g, 0, rfl, fun q u hq => ?_⟩⟩
  rw [Nat.zero_add]
  exact (cells_of hr).1 q u hq

theorem Send_ends {w : World} {g1 g2 : Nat} {a b c k : Value} {ac : Act} (h : w.heap[g1]? = some (.cells #[a, b] 37 (0, 0))) (h' : w.heap[g2]? = some (.cells #[c, k] 29 (0, 0))) (h2 : ac.tmps[8]?.getD undef = .pointer (some ⟨g1, 0, none⟩)) (h3 : ac.tmps[9]?.getD undef = .pointer (some ⟨g2, 0, none⟩)) :
    (results Try.f8 ac.tmps).run Try.prog w = .ok (.tuple #[.agg #[a, b], .agg #[c, k]]) w := by
  obtain ⟨c1, f1, l1⟩ := cells_of (l := [_, _]) h
  have c10 := c1 0 _ rfl
  have c11 := c1 1 _ rfl
  obtain ⟨d1, f2, l2⟩ := cells_of (l := [_, _]) h'
  have d10 := d1 0 _ rfl
  have d11 := d1 1 _ rfl
  simp [results, Try.results8, go_sem, h2, h3, c10, c11, d10, d11]

def SendPost (w : World) (l : List Fr) (cs : List Co) (la : List Int) (n : Int) (r : Ending) (W : World) : Prop := ∃ v1 v2 z1 z2 rs es, r = .returned (.tuple #[.agg #[v1, v2], .agg #[.int .i64 z1, .int .i64 z2]]) ∧ SndRes l cs la n z1 z2 rs es ∧ Res w W rs es v1 v2

set_option maxRecDepth 20000 in
set_option maxHeartbeats 2000000 in
theorem Send_any (w : World) (l : List Fr) (cs : List Co) (la : List Int) (v v1 v2 : Value) (n : Int) (hv : RowSl Fr.vals w l v) (hv1 : RowSl Co.vals w cs v1) (hv2 : RowSl nuV w la v2) : Calls Try.prog 8 #[v, v1, v2, .int .i64 n] w (SendPost w l cs la n) := by
  have HC := fun W (hb : Below w.heap.size w W) => CheckS_any W l cs la v v1 v2 (hv.below hb) (hv1.below hb) (hv2.below hb)
  obtain ⟨ad, c, rfl, -, hcap, hrw⟩ := hv
  obtain ⟨ad1, c1, rfl, -, hcap1, hrw1⟩ := hv1
  obtain ⟨ad2, c2, rfl, -, hcap2, hrw2⟩ := hv2
  by_cases h0 : (chkS l cs la).1 = 0
  rotate_left 1
  · obtain ⟨z1, z2, hz⟩ : ∃ z1 z2, chkS l cs la = (z1, z2) := ⟨_, _, rfl⟩
    have HZ : Hid (chkS l cs la = (z1, z2) ∧ (chkS l cs la).1 ≠ 0) := ⟨hz, h0⟩
    rw [hz] at HC h0
    dsimp only at HC h0
    have hz1 : (z1 != 0) = true := by simpa using h0
    clear hz h0 hrw hrw1 hrw2
    go_enter Try.func8, Try.ntmps8
    go_upto_region 3 with (go_at_call 22; refine (HC _ (TB.start w).bel).mono ?_; rintro r w1 ⟨rfl, hb1⟩; have H1 : Hid (TB w (w1.alloc (.cells #[.int .i64 z1, .int .i64 z2] 29))) := ((TB.start w).grow hb1).grow (below_new _ _); have hl1 : w.heap.size < w1.heap.size := lt_of_heap ((TB.start w).grow hb1).r1; have hl2 : w.heap.size + 1 < w1.heap.size := lt_of_heap ((TB.start w).grow hb1).r2; clear hb1 HC)
    obtain ⟨fs, -, fl⟩ := cells_of (l := [_, _]) (heap_alloc_new w1 (.cells #[.int .i64 z1, .int .i64 z2] 29))
    have g0 := fs 0 _ rfl
    have g1 := fs 1 _ rfl
    clear fs
    generalize w1.alloc (.cells #[.int .i64 z1, .int .i64 z2] 29) = w2 at *
    obtain ⟨qs, qf, ql⟩ := cells_of (l := [_, _]) H1.out.r1
    have q0 := qs 0 _ rfl
    have q1 := qs 1 _ rfl
    have qf0 := qf 0
    have qf1 := qf 1
    obtain ⟨rs, rf, rl⟩ := cells_of (l := [_, _]) H1.out.r2
    have r0 := rs 0 _ rfl
    have r1 := rs 1 _ rfl
    have rf0 := rf 0
    have rf1 := rf 1
    clear qs qf rs rf
    go_region
    all_goals go_wp2_with fail
    all_goals
      have hx := H1.out.put (.slice none 0 0) (.slice none 0 0) (.int .i64 z1) (.int .i64 z2)
      refine bodyPost_ret (Send_ends (g1 := w.heap.size) (g2 := w.heap.size + 1) (a := .slice none 0 0) (b := .slice none 0 0) (c := .int .i64 z1) (k := .int .i64 z2) hx.1 hx.2.1 rfl rfl) rfl ?_
      exact ⟨_, _, z1, z2, [], [], rfl, .inl ⟨HZ.out.2, by rw [HZ.out.1], by rw [HZ.out.1], rfl, rfl⟩, res_nil hx.2.2.1.drew⟩
  · obtain ⟨hn0, hm1, hm2, hone, hce⟩ := chkS_ok h0
    obtain ⟨hl1, hl8, hok, -⟩ := chkN_ok hn0
    rw [hce] at HC
    dsimp only at HC
    rcases hrw with hnil | ⟨ab, ao, rfl, hrow⟩
    · rw [hnil] at hl1; simp at hl1
    have HV : Hid ((∀ x ∈ l, okFr x) ∧ (∀ q u, (l.flatMap Fr.vals)[q]? = some u → w.cell? ⟨ab, ao + q, none⟩ = some u) ∧ (chkS l cs la).1 = 0 ∧ (∀ p ∈ cs.zip la, sndOne l p.1 p.2 = 0)) := ⟨hok, hrow, h0, hone⟩
    have HR : Hid ((cs = [] ∨ ∃ b o, ad1 = some ⟨b, o, none⟩ ∧ ∀ q u, (cs.flatMap Co.vals)[q]? = some u → w.cell? ⟨b, o + q, none⟩ = some u) ∧ (la = [] ∨ ∃ b o, ad2 = some ⟨b, o, none⟩ ∧ ∀ q u, (la.flatMap nuV)[q]? = some u → w.cell? ⟨b, o + q, none⟩ = some u)) := ⟨hrw1, hrw2⟩
    rw [hm2] at hcap2 ⊢
    rw [hm2] at HC
    have HL : Hid (la.length = cs.length) := hm2
    clear hok hrow h0 hce hrw1 hrw2 hone hn0 hm2
    go_enter Try.func8, Try.ntmps8
    go_upto_region 2 with (go_at_call 22; refine (HC _ (TB.start w).bel).mono ?_; rintro r w1 ⟨rfl, hb1⟩; have H1 : Hid (TB w (w1.alloc (.cells #[.int .i64 0, .int .i64 0] 29))) := ((TB.start w).grow hb1).grow (below_new _ _); clear hb1 HC)
    obtain ⟨fs, -, fl⟩ := cells_of (l := [_, _]) (heap_alloc_new w1 (.cells #[.int .i64 0, .int .i64 0] 29))
    have g0 := fs 0 _ rfl
    clear fs
    generalize w1.alloc (.cells #[.int .i64 0, .int .i64 0] 29) = w2 at *
    obtain ⟨w3, hmk, hb3, hh3⟩ := make_jobs w2 cs.length hm1
    have H3 : Hid (JW w w3 cs.length w2.heap.size []) := ⟨H1.out.grow hb3, hh3, lt_of_heap H1.out.r2⟩
    generalize w2.heap.size = G at *
    clear H1 hb3 hh3
    go_wp2_with fail
    clear g0 fl hmk
    go_loopw [29] (fun i4 wr => ∃ js : List Jb, js.length ≤ cs.length ∧ i4 = .int .i64 (js.length : Nat) ∧ JW w wr cs.length G js ∧ Hid (js ++ ((cs.zip la).drop js.length).map (sndJ1 l) = sndJ l cs la)) (fun i4 _ => cs.length - (intOf i4).toNat)
    case atStart => exact ⟨[], Nat.zero_le _, rfl, H3.out, by show [] ++ _ = _; simp [sndJ]⟩
    case round =>
      obtain ⟨js, hjs, rfl, hjw, HS⟩ := hrel
      have HG : Hid (JW w wr cs.length G js) := hjw
      by_cases hjl : js.length < cs.length
      · obtain ⟨x, hx, -⟩ := drop_at hjl
        obtain ⟨y, hy, -⟩ := drop_at (l := la) (k := js.length) (by have := HL.out; omega)
        have hp : (cs.zip la)[js.length]? = some (x, y) := by rw [List.getElem?_zip_eq_some]; exact ⟨hx, hy⟩
        have hso := HV.out.2.2.2 _ (List.mem_of_getElem? hp)
        have hdr : ((cs.zip la).drop js.length).map (sndJ1 l) = sndJ1 l (x, y) :: ((cs.zip la).drop (js.length + 1)).map (sndJ1 l) := by
          obtain ⟨hl', he'⟩ := List.getElem?_eq_some_iff.1 hp
          rw [List.drop_eq_getElem_cons hl', he', List.map_cons]
        rcases HR.out.1 with h | ⟨b1, o1, rfl, hr1⟩
        · rw [h] at hjl; simp at hjl
        rcases HR.out.2 with h | ⟨b2, o2, rfl, hr2⟩
        · have := HL.out; rw [h] at this; simp at this; omega
        obtain ⟨y0, y1⟩ := co_at (fun q u hq => below_cell hjw.tb.bel (hr1 q u hq)) hx
        have n0 := nu_at (fun q u hq => below_cell hjw.tb.bel (hr2 q u hq)) hy
        obtain ⟨xk, xa⟩ := x
        dsimp only at y0 y1 hso
        have hkk : ¬ (xk < 0 ∨ (l.length : Int) ≤ xk) := fun h => by unfold sndOne at hso; rw [if_pos h] at hso; cases hso
        obtain ⟨kn, rfl⟩ : ∃ kn : Nat, xk = (kn : Int) := ⟨xk.toNat, by omega⟩
        have hkn : kn < l.length := by omega
        obtain ⟨m, hm, -⟩ := drop_at hkn
        have hFk : Fk l (kn : Int) = m := by unfold Fk; rw [Int.toNat_natCast, List.getD_eq_getElem?_getD, hm]; rfl
        have hmo := HV.out.1 m (List.mem_of_getElem? hm)
        have hrg : 0 ≤ xa ∧ xa ≤ 20000 ∧ 0 ≤ y ∧ y ≤ m.j := by
          unfold sndOne at hso
          rw [if_neg hkk, hFk] at hso
          by_cases hq : xa < 0 ∨ 20000 < xa ∨ y < 0 ∨ m.j < y
          · rw [if_pos hq] at hso; cases hso
          · omega
        obtain ⟨m0, m1, m2, m3⟩ := fr_at (fun q u hq => below_cell hjw.tb.bel (HV.out.2.1 q u hq)) hm
        have HSJ : Hid (sndJ1 l (⟨(kn : Int), xa⟩, y) = ⟨(kn : Int), xa + y, m.c, xa + m.d, (l.length : Int) - (kn : Int)⟩ ∧ ((cs.zip la).drop js.length).map (sndJ1 l) = sndJ1 l (⟨(kn : Int), xa⟩, y) :: ((cs.zip la).drop (js.length + 1)).map (sndJ1 l)) := ⟨by unfold sndJ1; dsimp only; rw [hFk], hdr⟩
        obtain ⟨mc, mt, md, mj⟩ := m
        obtain ⟨g1, g2, g3, g4, g5, g6, g7, g8⟩ := hmo
        dsimp only at m0 m1 m2 m3 g1 g2 g3 g4 g5 g6 g7 g8 hrg
        have hlj : ∀ k, k < 5 → js.length * 5 + k < (jbCells cs.length js).length := fun k hk => by rw [jbCells_len hjs]; omega
        have HLJ : Hid (∀ k, k < 5 → js.length * 5 + k < (jbCells cs.length js).length) := hlj
        clear hr1 hr2 hx hy hp hso hkk hm hFk hdr hjw hlj
        generalize hj : js.length = j at *
        have HJ : Hid (js.length = j) := hj
        clear hj
        have hji : (j : Int) < (cs.length : Int) := by omega
        have hkni : (kn : Int) < (l.length : Int) := by omega
        have w1e : IntKind.i64.wrap (xa + y) = xa + y := by rw [IntKind.wrap_i64]; omega
        have w2e : IntKind.i64.wrap (xa + md) = xa + md := by rw [IntKind.wrap_i64]; omega
        have w3e : IntKind.i64.wrap ((l.length : Int) - (kn : Int)) = (l.length : Int) - (kn : Int) := by rw [IntKind.wrap_i64]; omega
        have hb1l : b1 < wr.heap.size := World.block_lt_of_cell? _ _ y0
        have hb2l : b2 < wr.heap.size := World.block_lt_of_cell? _ _ n0
        have habl : ab < wr.heap.size := World.block_lt_of_cell? _ _ m0
        go_upto_region 9 with fail
        have HB2 : Hid (JW w ((wr.alloc (.cells #[.int .i64 (kn : Int), .int .i64 xa] 33)).alloc (.cells #[.int .i64 mc, .int .i64 mt, .int .i64 md, .int .i64 mj] 35)) cs.length G js) := (HG.out.grow (below_new _ _)).grow (below_new _ _)
        have hbb : Below wr.heap.size wr ((wr.alloc (.cells #[.int .i64 (kn : Int), .int .i64 xa] 33)).alloc (.cells #[.int .i64 mc, .int .i64 mt, .int .i64 md, .int .i64 mj] 35)) := below_seq (below_new _ _) (below_new _ _)
        have z13 := cells_of (l := [_, _]) ((Below.heap_alloc _ (.cells #[.int .i64 mc, .int .i64 mt, .int .i64 md, .int .i64 mj] 35) _ (by simp)).trans (heap_alloc_new wr (.cells #[.int .i64 (kn : Int), .int .i64 xa] 33)))
        have z14 := cells_of (l := [_, _, _, _]) (heap_alloc_new (wr.alloc (.cells #[.int .i64 (kn : Int), .int .i64 xa] 33)) (.cells #[.int .i64 mc, .int .i64 mt, .int .i64 md, .int .i64 mj] 35))
        rw [World.size_alloc] at z14
        have a0 := z13.1 0 _ rfl
        have a1 := z13.1 1 _ rfl
        have b0 := z14.1 0 _ rfl
        have b2' := z14.1 2 _ rfl
        have nn := below_cell hbb n0
        obtain ⟨js1, jf, jl⟩ := cells_of (l := jbCells cs.length js) HB2.out.row
        obtain ⟨t0, k0⟩ : ∃ t0, ((wr.alloc (.cells #[.int .i64 (kn : Int), .int .i64 xa] 33)).alloc (.cells #[.int .i64 mc, .int .i64 mt, .int .i64 md, .int .i64 mj] 35)).cell? ⟨G, j * 5, none⟩ = some t0 := ⟨_, js1 (j * 5) _ (List.getElem?_eq_getElem (HLJ.out 0 (by omega)))⟩
        obtain ⟨t1, k1⟩ : ∃ t1, ((wr.alloc (.cells #[.int .i64 (kn : Int), .int .i64 xa] 33)).alloc (.cells #[.int .i64 mc, .int .i64 mt, .int .i64 md, .int .i64 mj] 35)).cell? ⟨G, j * 5 + 1, none⟩ = some t1 := ⟨_, js1 (j * 5 + 1) _ (List.getElem?_eq_getElem (HLJ.out 1 (by omega)))⟩
        obtain ⟨t2, k2⟩ : ∃ t2, ((wr.alloc (.cells #[.int .i64 (kn : Int), .int .i64 xa] 33)).alloc (.cells #[.int .i64 mc, .int .i64 mt, .int .i64 md, .int .i64 mj] 35)).cell? ⟨G, j * 5 + 2, none⟩ = some t2 := ⟨_, js1 (j * 5 + 2) _ (List.getElem?_eq_getElem (HLJ.out 2 (by omega)))⟩
        obtain ⟨t3, k3⟩ : ∃ t3, ((wr.alloc (.cells #[.int .i64 (kn : Int), .int .i64 xa] 33)).alloc (.cells #[.int .i64 mc, .int .i64 mt, .int .i64 md, .int .i64 mj] 35)).cell? ⟨G, j * 5 + 3, none⟩ = some t3 := ⟨_, js1 (j * 5 + 3) _ (List.getElem?_eq_getElem (HLJ.out 3 (by omega)))⟩
        obtain ⟨t4, k4⟩ : ∃ t4, ((wr.alloc (.cells #[.int .i64 (kn : Int), .int .i64 xa] 33)).alloc (.cells #[.int .i64 mc, .int .i64 mt, .int .i64 md, .int .i64 mj] 35)).cell? ⟨G, j * 5 + 4, none⟩ = some t4 := ⟨_, js1 (j * 5 + 4) _ (List.getElem?_eq_getElem (HLJ.out 4 (by omega)))⟩
        have kf0 := jf (j * 5)
        have kf1 := jf (j * 5 + 1)
        have kf2 := jf (j * 5 + 2)
        have kf3 := jf (j * 5 + 3)
        have kf4 := jf (j * 5 + 4)
        clear js1 jf z13 z14 y0 y1 n0 m0 m1 m2 m3 hbb
        generalize ((wr.alloc (.cells #[.int .i64 (kn : Int), .int .i64 xa] 33)).alloc (.cells #[.int .i64 mc, .int .i64 mt, .int .i64 md, .int .i64 mj] 35)) = wz at *
        generalize wr.heap.size = B13 at *
        generalize hB14 : B13 + 1 = B14 at *
        have hS0 : (fun w' : World => w'.cell? ⟨B13, 0, none⟩ = some (.int .i64 (kn : Int)) ∧ w'.cell? ⟨B13, 1, none⟩ = some (.int .i64 xa) ∧ w'.cell? ⟨b2, o2 + j, none⟩ = some (.int .i64 y) ∧ w'.cell? ⟨B14, 0, none⟩ = some (.int .i64 mc) ∧ w'.cell? ⟨B14, 2, none⟩ = some (.int .i64 md)) wz.drew := ⟨a0, a1, nn, b0, b2'⟩
        refine wp_region_noPanic ?_
        refine wp_region_last (S := fun w' : World => w'.cell? ⟨B13, 0, none⟩ = some (.int .i64 (kn : Int)) ∧ w'.cell? ⟨B13, 1, none⟩ = some (.int .i64 xa) ∧ w'.cell? ⟨b2, o2 + j, none⟩ = some (.int .i64 y) ∧ w'.cell? ⟨B14, 0, none⟩ = some (.int .i64 mc) ∧ w'.cell? ⟨B14, 2, none⟩ = some (.int .i64 md)) (L := 25) (by kernel_rfl) ?_
        refine takeL_at (i := 0) (n := 39) (v := ?_) rfl rfl (by kernel_rfl) (by kernel_rfl) (by decide) (by kernel_rfl) (by kernel_rfl) (by kernel_rfl) (fun _ _ _ h => h) (Or.inl ⟨by rfl, ?_⟩) (by assumption) ?_
        rotate_left 1
        · intro wz hSw
          obtain ⟨s0, s1, s2, s3, s4⟩ := hSw
          first | (go_simp; done) | (go_simp; with_reducible rfl)
        simp only [List.set_cons_zero, List.set_cons_succ]
        refine takeL_at (i := 1) (n := 40) (v := ?_) rfl rfl (by kernel_rfl) (by kernel_rfl) (by decide) (by kernel_rfl) (by kernel_rfl) (by kernel_rfl) (fun _ _ _ h => h) (Or.inl ⟨by rfl, ?_⟩) (by assumption) ?_
        rotate_left 1
        · intro wz hSw
          obtain ⟨s0, s1, s2, s3, s4⟩ := hSw
          first | (go_simp; done) | (go_simp; with_reducible rfl)
        simp only [List.set_cons_zero, List.set_cons_succ]
        refine takeL_at (i := 2) (n := 41) (v := ?_) rfl rfl (by kernel_rfl) (by kernel_rfl) (by decide) (by kernel_rfl) (by kernel_rfl) (by kernel_rfl) (fun _ _ _ h => h) (Or.inl ⟨by rfl, ?_⟩) (by assumption) ?_
        rotate_left 1
        · intro wz hSw
          obtain ⟨s0, s1, s2, s3, s4⟩ := hSw
          first | (go_simp; done) | (go_simp; with_reducible rfl)
        simp only [List.set_cons_zero, List.set_cons_succ]
        refine takeL_at (i := 3) (n := 42) (v := ?_) rfl rfl (by kernel_rfl) (by kernel_rfl) (by decide) (by kernel_rfl) (by kernel_rfl) (by kernel_rfl) (fun _ _ _ h => h) (Or.inl ⟨by rfl, ?_⟩) (by assumption) ?_
        rotate_left 1
        · intro wz hSw
          obtain ⟨s0, s1, s2, s3, s4⟩ := hSw
          first | (go_simp; done) | (go_simp; with_reducible rfl)
        simp only [List.set_cons_zero, List.set_cons_succ]
        refine takeL_at (i := 4) (n := 43) (v := ?_) rfl rfl (by kernel_rfl) (by kernel_rfl) (by decide) (by kernel_rfl) (by kernel_rfl) (by kernel_rfl) (fun _ _ _ h => h) (Or.inl ⟨by rfl, ?_⟩) (by assumption) ?_
        rotate_left 1
        · intro wz hSw
          obtain ⟨s0, s1, s2, s3, s4⟩ := hSw
          first | (go_simp; done) | (go_simp; with_reducible rfl)
        simp only [List.set_cons_zero, List.set_cons_succ]
        refine takeL_at (i := 5) (n := 44) (v := ?_) rfl rfl (by kernel_rfl) (by kernel_rfl) (by decide) (by kernel_rfl) (by kernel_rfl) (by kernel_rfl) (fun _ _ _ h => h) (Or.inl ⟨by rfl, ?_⟩) (by assumption) ?_
        rotate_left 1
        · intro wz hSw
          obtain ⟨s0, s1, s2, s3, s4⟩ := hSw
          first | (go_simp; done) | (go_simp; with_reducible rfl)
        simp only [List.set_cons_zero, List.set_cons_succ]
        refine takeL_at (i := 6) (n := 45) (v := ?_) rfl rfl (by kernel_rfl) (by kernel_rfl) (by decide) (by kernel_rfl) (by kernel_rfl) (by kernel_rfl) (fun _ _ _ h => h) (Or.inl ⟨by rfl, ?_⟩) (by assumption) ?_
        rotate_left 1
        · intro wz hSw
          obtain ⟨s0, s1, s2, s3, s4⟩ := hSw
          first | (go_simp; done) | (go_simp; with_reducible rfl)
        simp only [List.set_cons_zero, List.set_cons_succ]
        refine takeL_at (i := 7) (n := 46) (v := ?_) rfl rfl (by kernel_rfl) (by kernel_rfl) (by decide) (by kernel_rfl) (by kernel_rfl) (by kernel_rfl) (fun _ _ _ h => h) (Or.inl ⟨by rfl, ?_⟩) (by assumption) ?_
        rotate_left 1
        · intro wz hSw
          obtain ⟨s0, s1, s2, s3, s4⟩ := hSw
          first | (go_simp; done) | (go_simp; with_reducible rfl)
        simp only [List.set_cons_zero, List.set_cons_succ]
        refine takeL_at (i := 8) (n := 47) (v := ?_) rfl rfl (by kernel_rfl) (by kernel_rfl) (by decide) (by kernel_rfl) (by kernel_rfl) (by kernel_rfl) (fun _ _ _ h => h) (Or.inl ⟨by rfl, ?_⟩) (by assumption) ?_
        rotate_left 1
        · intro wz hSw
          obtain ⟨s0, s1, s2, s3, s4⟩ := hSw
          first | (go_simp; done) | (go_simp; with_reducible rfl)
        simp only [List.set_cons_zero, List.set_cons_succ]
        refine takeL_at (i := 9) (n := 48) (v := ?_) rfl rfl (by kernel_rfl) (by kernel_rfl) (by decide) (by kernel_rfl) (by kernel_rfl) (by kernel_rfl) (fun _ _ _ h => h) (Or.inl ⟨by rfl, ?_⟩) (by assumption) ?_
        rotate_left 1
        · intro wz hSw
          obtain ⟨s0, s1, s2, s3, s4⟩ := hSw
          first | (go_simp; done) | (go_simp; with_reducible rfl)
        simp only [List.set_cons_zero, List.set_cons_succ]
        refine takeL_at (i := 10) (n := 49) (v := ?_) rfl rfl (by kernel_rfl) (by kernel_rfl) (by decide) (by kernel_rfl) (by kernel_rfl) (by kernel_rfl) (fun _ _ _ h => h) (Or.inl ⟨by rfl, ?_⟩) (by assumption) ?_
        rotate_left 1
        · intro wz hSw
          obtain ⟨s0, s1, s2, s3, s4⟩ := hSw
          first | (go_simp; done) | (go_simp; with_reducible rfl)
        simp only [List.set_cons_zero, List.set_cons_succ]
        refine takeL_at (i := 11) (n := 50) (v := ?_) rfl rfl (by kernel_rfl) (by kernel_rfl) (by decide) (by kernel_rfl) (by kernel_rfl) (by kernel_rfl) (fun _ _ _ h => h) (Or.inl ⟨by rfl, ?_⟩) (by assumption) ?_
        rotate_left 1
        · intro wz hSw
          obtain ⟨s0, s1, s2, s3, s4⟩ := hSw
          first | (go_simp; done) | (go_simp; with_reducible rfl)
        simp only [List.set_cons_zero, List.set_cons_succ]
        refine takeL_at (i := 12) (n := 51) (v := ?_) rfl rfl (by kernel_rfl) (by kernel_rfl) (by decide) (by kernel_rfl) (by kernel_rfl) (by kernel_rfl) (fun _ _ _ h => h) (Or.inl ⟨by rfl, ?_⟩) (by assumption) ?_
        rotate_left 1
        · intro wz hSw
          obtain ⟨s0, s1, s2, s3, s4⟩ := hSw
          first | (go_simp; done) | (go_simp; with_reducible rfl)
        simp only [List.set_cons_zero, List.set_cons_succ]
        refine takeL_at (i := 13) (n := 52) (v := ?_) rfl rfl (by kernel_rfl) (by kernel_rfl) (by decide) (by kernel_rfl) (by kernel_rfl) (by kernel_rfl) (fun _ _ _ h => h) (Or.inl ⟨by rfl, ?_⟩) (by assumption) ?_
        rotate_left 1
        · intro wz hSw
          obtain ⟨s0, s1, s2, s3, s4⟩ := hSw
          first | (go_simp; done) | (go_simp; with_reducible rfl)
        simp only [List.set_cons_zero, List.set_cons_succ]
        refine takeL_at (i := 14) (n := 53) (v := ?_) rfl rfl (by kernel_rfl) (by kernel_rfl) (by decide) (by kernel_rfl) (by kernel_rfl) (by kernel_rfl) (fun _ _ _ h => h) (Or.inl ⟨by rfl, ?_⟩) (by assumption) ?_
        rotate_left 1
        · intro wz hSw
          obtain ⟨s0, s1, s2, s3, s4⟩ := hSw
          first | (go_simp; done) | (go_simp; with_reducible rfl)
        simp only [List.set_cons_zero, List.set_cons_succ]
        refine takeL_at (i := 15) (n := 54) (v := ?_) rfl rfl (by kernel_rfl) (by kernel_rfl) (by decide) (by kernel_rfl) (by kernel_rfl) (by kernel_rfl) (fun _ _ _ h => h) (Or.inl ⟨by rfl, ?_⟩) (by assumption) ?_
        rotate_left 1
        · intro wz hSw
          obtain ⟨s0, s1, s2, s3, s4⟩ := hSw
          first | (go_simp; done) | (go_simp; with_reducible rfl)
        simp only [List.set_cons_zero, List.set_cons_succ]
        refine takeL_at (i := 16) (n := 55) (v := ?_) rfl rfl (by kernel_rfl) (by kernel_rfl) (by decide) (by kernel_rfl) (by kernel_rfl) (by kernel_rfl) (fun _ _ _ h => h) (Or.inl ⟨by rfl, ?_⟩) (by assumption) ?_
        rotate_left 1
        · intro wz hSw
          obtain ⟨s0, s1, s2, s3, s4⟩ := hSw
          first | (go_simp; done) | (go_simp; with_reducible rfl)
        simp only [List.set_cons_zero, List.set_cons_succ]
        refine takeL_at (i := 17) (n := 56) (v := ?_) rfl rfl (by kernel_rfl) (by kernel_rfl) (by decide) (by kernel_rfl) (by kernel_rfl) (by kernel_rfl) (fun _ _ _ h => h) (Or.inl ⟨by rfl, ?_⟩) (by assumption) ?_
        rotate_left 1
        · intro wz hSw
          obtain ⟨s0, s1, s2, s3, s4⟩ := hSw
          first | (go_simp; done) | (go_simp; with_reducible rfl)
        simp only [List.set_cons_zero, List.set_cons_succ]
        refine takeL_at (i := 18) (n := 57) (v := ?_) rfl rfl (by kernel_rfl) (by kernel_rfl) (by decide) (by kernel_rfl) (by kernel_rfl) (by kernel_rfl) (fun _ _ _ h => h) (Or.inl ⟨by rfl, ?_⟩) (by assumption) ?_
        rotate_left 1
        · intro wz hSw
          obtain ⟨s0, s1, s2, s3, s4⟩ := hSw
          first | (go_simp; done) | (go_simp; with_reducible rfl)
        simp only [List.set_cons_zero, List.set_cons_succ]
        refine takeL_at (i := 19) (n := 58) (v := ?_) rfl rfl (by kernel_rfl) (by kernel_rfl) (by decide) (by kernel_rfl) (by kernel_rfl) (by kernel_rfl) (fun _ _ _ h => h) (Or.inl ⟨by rfl, ?_⟩) (by assumption) ?_
        rotate_left 1
        · intro wz hSw
          obtain ⟨s0, s1, s2, s3, s4⟩ := hSw
          first | (go_simp; done) | (go_simp; with_reducible rfl)
        simp only [List.set_cons_zero, List.set_cons_succ]
        refine takeL_at (i := 20) (n := 59) (v := ?_) rfl rfl (by kernel_rfl) (by kernel_rfl) (by decide) (by kernel_rfl) (by kernel_rfl) (by kernel_rfl) (fun _ _ _ h => h) (Or.inl ⟨by rfl, ?_⟩) (by assumption) ?_
        rotate_left 1
        · intro wz hSw
          obtain ⟨s0, s1, s2, s3, s4⟩ := hSw
          first | (go_simp; done) | (go_simp; with_reducible rfl)
        simp only [List.set_cons_zero, List.set_cons_succ]
        refine takeL_at (i := 21) (n := 60) (v := ?_) rfl rfl (by kernel_rfl) (by kernel_rfl) (by decide) (by kernel_rfl) (by kernel_rfl) (by kernel_rfl) (fun _ _ _ h => h) (Or.inl ⟨by rfl, ?_⟩) (by assumption) ?_
        rotate_left 1
        · intro wz hSw
          obtain ⟨s0, s1, s2, s3, s4⟩ := hSw
          first | (go_simp; done) | (go_simp; with_reducible rfl)
        simp only [List.set_cons_zero, List.set_cons_succ]
        refine takeL_at (i := 22) (n := 61) (v := ?_) rfl rfl (by kernel_rfl) (by kernel_rfl) (by decide) (by kernel_rfl) (by kernel_rfl) (by kernel_rfl) (fun _ _ _ h => h) (Or.inl ⟨by rfl, ?_⟩) (by assumption) ?_
        rotate_left 1
        · intro wz hSw
          obtain ⟨s0, s1, s2, s3, s4⟩ := hSw
          first | (go_simp; done) | (go_simp; with_reducible rfl)
        simp only [List.set_cons_zero, List.set_cons_succ]
        refine takeL_at (i := 23) (n := 62) (v := ?_) rfl rfl (by kernel_rfl) (by kernel_rfl) (by decide) (by kernel_rfl) (by kernel_rfl) (by kernel_rfl) (fun _ _ _ h => h) (Or.inl ⟨by rfl, ?_⟩) (by assumption) ?_
        rotate_left 1
        · intro wz hSw
          obtain ⟨s0, s1, s2, s3, s4⟩ := hSw
          first | (go_simp; done) | (go_simp; with_reducible rfl)
        simp only [List.set_cons_zero, List.set_cons_succ]
        refine takeL_at (i := 24) (n := 63) (v := ?_) rfl rfl (by kernel_rfl) (by kernel_rfl) (by decide) (by kernel_rfl) (by kernel_rfl) (by kernel_rfl) (fun _ _ _ h => h) (Or.inl ⟨by rfl, ?_⟩) (by assumption) ?_
        rotate_left 1
        · intro wz hSw
          obtain ⟨s0, s1, s2, s3, s4⟩ := hSw
          first | (go_simp; done) | (go_simp; with_reducible rfl)
        simp only [List.set_cons_zero, List.set_cons_succ]
        refine wpAnyL_one (i := 25) (by kernel_rfl) rfl (fun K' hK' => ?_)
        go_simp
        refine hK'.out _ _ (fun h => absurd rfl h) ?_
        clear hK' K'
        refine wpAnyL_done (by kernel_rfl) ?_ _
        refine NoPanic.normal ?_
        have hput := (HB2.out.put (by rw [HJ.out]; exact hjl) ⟨(kn : Int), xa + y, mc, xa + md, (l.length : Int) - (kn : Int)⟩)
        rw [HJ.out] at hput
        have HP9 : Hid (JW w (((((wz.setCell ⟨G, j * 5, none⟩ (.int .i64 (kn : Int))).setCell ⟨G, j * 5 + 1, none⟩ (.int .i64 (xa + y))).setCell ⟨G, j * 5 + 2, none⟩ (.int .i64 mc)).setCell ⟨G, j * 5 + 3, none⟩ (.int .i64 (xa + md))).setCell ⟨G, j * 5 + 4, none⟩ (.int .i64 ((l.length : Int) - (kn : Int)))) cs.length G (js ++ [⟨(kn : Int), xa + y, mc, xa + md, (l.length : Int) - (kn : Int)⟩])) := hput
        clear hput
        go_wp2_with fail
        refine ⟨⟨js ++ [⟨(kn : Int), xa + y, mc, xa + md, (l.length : Int) - (kn : Int)⟩], by simp; have := HJ.out; omega, by have := HJ.out; simp; omega, by first | exact HP9.out | exact HP9.out.grow below_drewN', ?_⟩, by have := HJ.out; simp [intOf]; omega⟩
        have e : js ++ [⟨(kn : Int), xa + y, mc, xa + md, (l.length : Int) - (kn : Int)⟩] ++ ((cs.zip la).drop (js ++ [(⟨(kn : Int), xa + y, mc, xa + md, (l.length : Int) - (kn : Int)⟩ : Jb)]).length).map (sndJ1 l) = sndJ l cs la := by
          rw [← HS.out, List.length_append, HJ.out, HSJ.out.2, HSJ.out.1]
          simp
        exact e
      · have hje : js.length = cs.length := by omega
        have hjn : js = sndJ l cs la := by
          have := HS.out
          rw [List.drop_of_length_le (by rw [List.length_zip]; omega)] at this
          simpa using this
        have HJS : Hid (js = sndJ l cs la ∧ js.length = cs.length) := ⟨hjn, hje⟩
        have hjw2 := hjw
        rw [← hje] at hjw2
        have HPl := Play_res wr js _ 1 n false hjw2.jobs
        rw [hje] at HPl
        have hji : ¬ ((js.length : Nat) : Int) < (cs.length : Int) := by omega
        clear hjw hjw2 HS hjn hje
        go_wp2_with (go_at_call 23; refine HPl.mono ?_; rintro r w5 ⟨u1, u2, z1, z2, rs, es, rfl, hpr, hres⟩; have H5 : Hid (TB w w5 ∧ PlRes js 1 false n z1 z2 rs es ∧ Res wr w5 rs es u1 u2) := ⟨HG.out.tb.grow hres.1, hpr, hres⟩; obtain ⟨a1, cc1, a2, cc2, rfl, rfl⟩ := hres.slices; obtain ⟨qs, qf, ql⟩ := cells_of (l := [_, _]) H5.out.1.r1; have q0 := qs 0 _ rfl; have q1 := qs 1 _ rfl; have qf0 := qf 0; have qf1 := qf 1; obtain ⟨ss, sf, sl⟩ := cells_of (l := [_, _]) H5.out.1.r2; have s0 := ss 0 _ rfl; have s1 := ss 1 _ rfl; have sf0 := sf 0; have sf1 := sf 1; clear qs qf ss sf hpr hres HPl)
        have hx := H5.out.1.put (.slice a1 rs.length cc1) (.slice a2 es.length cc2) (.int .i64 z1) (.int .i64 z2)
        refine bodyPost_ret (Send_ends (g1 := w.heap.size) (g2 := w.heap.size + 1) (a := .slice a1 rs.length cc1) (b := .slice a2 es.length cc2) (c := .int .i64 z1) (k := .int .i64 z2) hx.1 hx.2.1 rfl rfl) rfl ?_
        have hsz : w.heap.size + 1 < wr.heap.size := lt_of_heap HG.out.tb.r2
        exact ⟨_, _, z1, z2, rs, es, rfl, .inr ⟨HV.out.2.2.1, by rw [← HJS.out.1]; exact H5.out.2.1⟩, H5.out.2.2.turn hx.2.2.1 (by omega) (fun q hq => hx.2.2.2 q (by omega))⟩
end Go.Proofs.Ytkafihaajpifoaj
