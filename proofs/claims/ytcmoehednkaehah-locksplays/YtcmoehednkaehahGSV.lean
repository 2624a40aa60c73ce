import Derived.Test.YtcmoehednkaehahGSE
import Derived.Lib.SliceRun
import Derived.Test.YtcmoehednkaehahGLX
import Derived.Laws.AppendOwnNone
namespace Go.Proofs.Ytcmoehednkaehah
open Go.ChangeShapes Go.WideShapes Go.ChangeAt Go.RowKit

/-- A row that lies in a block of its own, from B on, with all that it may hold. -/
def Sp (W : World) (B : Nat) (v : Value) (og : Option Nat) : Prop :=
  (og = none ∧ v = .slice none 0 0) ∨ ∃ g n cap cur, og = some g ∧ v = .slice (some ⟨g, 0, none⟩) n cap ∧ B ≤ g ∧ W.heap[g]? = some (.cells cur 3 (0, 0)) ∧ cur.size = cap ∧ n ≤ cap ∧ cap ≤ maxLen

theorem Sp.keep {W W' : World} {B : Nat} {v : Value} {og : Option Nat} (h : Sp W B v og) (hk : ∀ g, og = some g → W'.heap[g]? = W.heap[g]?) : Sp W' B v og := by
  rcases h with h | ⟨g, n, cap, cur, e, e2, hB, hg, h⟩
  · exact .inl h
  · exact .inr ⟨g, n, cap, cur, e, e2, hB, (hk g e).trans hg, h⟩

theorem Sp.low {W : World} {B : Nat} {v : Value} {og : Option Nat} (h : Sp W B v og) {g : Nat} (e : og = some g) : B ≤ g ∧ g < W.heap.size := by
  rcases h with ⟨e2, -⟩ | ⟨g', n, cap, cur, e2, -, hB, hg, -⟩
  · rw [e] at e2; cases e2
  · rw [e] at e2; cases e2; exact ⟨hB, (Array.getElem?_eq_some_iff.1 hg).1⟩

/-- Rows that are new, each apart. -/
def Fr (w w' : World) (rv ev tv : Value) : Prop :=
  ∃ o1 o2 o3, Sp w' w.heap.size rv o1 ∧ Sp w' w.heap.size ev o2 ∧ Sp w' w.heap.size tv o3 ∧ (∀ g, o1 = some g → o2 ≠ some g ∧ o3 ≠ some g) ∧ ∀ g, o2 = some g → o3 ≠ some g

theorem Fr.of {w Wn wr W' : World} {A : Ad} {B : Nat} {pr : Int} {tp : List Int} {n : Nat} {rv : Value} {runs : List Int} {x : Rs} (hst : Stk wr B rv runs) (hlow : Lows Wn A B) (hr : RunW Wn wr A pr tp n rv x) (hk : ∀ k, k ≠ A.R → k ≠ w.heap.size → k ≠ w.heap.size + 1 → W'.heap[k]? = wr.heap[k]?) (hs : w.heap.size + 2 ≤ Wn.heap.size) (hn : n ≤ 100) : Fr w W' rv (.slice (some ⟨A.E, 0, none⟩) n n) (.slice (some ⟨A.T, 0, none⟩) n n) := by
  have h1 := hr.lo
  have h2 := hr.ne
  have h3 := hlow.bs
  have h4 := hlow.w
  have hE : Sp W' w.heap.size (.slice (some ⟨A.E, 0, none⟩) n n) (some A.E) := .inr ⟨A.E, n, n, _, rfl, rfl, by omega, (hk A.E (Ne.symm hr.ne.1.2.1) (by omega) (by omega)).trans hr.hE, by simp [inV, hr.ln.2.1], Nat.le_refl _, by unfold maxLen; omega⟩
  have hT : Sp W' w.heap.size (.slice (some ⟨A.T, 0, none⟩) n n) (some A.T) := .inr ⟨A.T, n, n, _, rfl, rfl, by omega, (hk A.T (Ne.symm hr.ne.1.2.2.1) (by omega) (by omega)).trans hr.hT, by simp [inV, hr.ln.2.2.1], Nat.le_refl _, by unfold maxLen; omega⟩
  rcases hst.cases with ⟨rfl, -⟩ | ⟨g, cap, cur, rfl, hB, hg, hc, hm, hz, -⟩
  · refine ⟨none, some A.E, some A.T, .inl ⟨rfl, rfl⟩, hE, hT, (fun g e => by cases e), fun g e e2 => ?_⟩
    cases e
    have := Option.some.inj e2
    omega
  · refine ⟨some g, some A.E, some A.T, .inr ⟨g, _, cap, cur, rfl, rfl, by omega, (hk g (by omega) (by omega) (by omega)).trans hg, hz, hc, hm⟩, hE, hT, fun g' e => ⟨fun e2 => ?_, fun e2 => ?_⟩, fun g e e2 => ?_⟩
    · have := Option.some.inj e2
      have := Option.some.inj e
      omega
    · have := Option.some.inj e2
      have := Option.some.inj e
      omega
    · cases e
      have := Option.some.inj e2
      omega


set_option maxRecDepth 20000 in
set_option maxHeartbeats 4000000 in
theorem PlayF_good3 (I : Nat → List Int → Rs → Prop) (w : World) (l : List Lj) (v : Value) (hv : LkSl w l v) (hok : chkLk l = (0, 0)) (U : Nat) (hU : U ≤ 20000) (h0 : I 0 [] (x0 l))
    (HT : ∀ (w0 w' : World) (A : Ad) (B now : Nat) (runs : List Int), (∀ y ∈ l, RowSl Ac.vals w0 y.acts y.v) → now < U → runs.length = now → TI I 3 (topsF l) l.length w0 w' A B now runs → Calls Try.prog 22 #[.pointer (some ⟨A.R, 0, none⟩), .int .i64 (now : Int)] w' fun r w'' => r = .returned (.tuple #[]) ∧ ∃ f, TI I 3 (topsF l) l.length w0 w'' A B (now + 1) (runs ++ [f])) :
    Calls Try.prog 9 #[v, .int .i64 3, .int .i64 (U : Int)] w fun r w' => ∃ rv ev tv runs x, r = .returned (.tuple #[.agg #[rv, ev, tv, .bool (stuckF U x.es x.en false)], .agg #[.int .i64 0, .int .i64 0]]) ∧ (PlayW w w' l.length rv ev tv runs x ∧ Fr w w' rv ev tv) ∧ runs.length = U ∧ I U runs x := by
  have hck := chkLk_right (l := l) (by rw [hok])
  have HNew := fun W (hb : Below w.heap.size w W) => newRun_any W l v (hv.below hb) hck.1 (fun x hx => (hck.2 x hx).1) 3
  have HCk := fun W (hb : Below w.heap.size w W) => checkJobs_any W l v (hv.below hb)
  rw [hok] at HCk
  have HA : Hid (∀ W, Below w.heap.size w W → ∀ y ∈ l, RowSl Ac.vals W y.acts y.v) := fun W hb y hy => (hv.2 y hy).below hb
  have hn : l.length ≤ 100 := hck.1
  have H0 : Hid (I 0 [] (x0 l)) := h0
  have hUi : (U : Int) ≤ 20000 := by omega
  have hUw : within (U : Int) 0 20000 = true := by simp [within]; omega
  have HC0 := HCk ((w.alloc (.cells #[.slice none 0 0, .slice none 0 0, .slice none 0 0, .bool false] 37)).alloc (.cells #[.int .i64 0, .int .i64 0] 31)) (below_seq (below_new _ _) (below_new _ _))
  clear hck hok hv h0 HCk
  go_enter Try.func9, Try.ntmps9
  go_wp2_with (go_at_call 19; refine HC0.mono ?_; rintro r w1 ⟨rfl, hb1⟩; have H1 : Hid (Below ((w.alloc (.cells #[.slice none 0 0, .slice none 0 0, .slice none 0 0, .bool false] 37)).alloc (.cells #[.int .i64 0, .int .i64 0] 31)).heap.size ((w.alloc (.cells #[.slice none 0 0, .slice none 0 0, .slice none 0 0, .bool false] 37)).alloc (.cells #[.int .i64 0, .int .i64 0] 31)) w1) := hb1; clear hb1 HC0)
  go_wp2_with (go_at_call 20; refine (within_any _ _ _ _).mono ?_; rintro r w2 ⟨rfl, rfl⟩; rw [hUw])
  obtain ⟨Wn, hWn⟩ : ∃ Wn, w1.alloc (.cells #[.int .i64 0, .int .i64 0] 31) = Wn := ⟨_, rfl⟩
  rw [hWn]
  have hbn : Below w.heap.size w Wn := by
    rw [← hWn]
    exact below_seq (below_seq (below_seq (below_new _ _) (below_new _ _)) H1.out) (below_new _ _)
  have hs1 : w.heap.size + 2 ≤ w1.heap.size := by have := H1.out.size; simp at this; omega
  have P6 : Wn.heap[w.heap.size]? = some (.cells #[.slice none 0 0, .slice none 0 0, .slice none 0 0, .bool false] 37 (0, 0)) := by
    rw [← hWn, (below_new w1 _).block _ (by omega), H1.out.block _ (by simp <;> omega), (below_new _ _).block _ (by simp <;> omega)]
    exact heap_alloc_new w _
  have P7 : Wn.heap[w.heap.size + 1]? = some (.cells #[.int .i64 0, .int .i64 0] 31 (0, 0)) := by
    rw [← hWn, (below_new w1 _).block _ (by omega), H1.out.block _ (by simp <;> omega)]
    have := heap_alloc_new (w.alloc (.cells #[.slice none 0 0, .slice none 0 0, .slice none 0 0, .bool false] 37)) (.cells #[.int .i64 0, .int .i64 0] 31)
    simpa using this
  have HN := HNew Wn hbn
  have HP : Hid (Below w.heap.size w Wn ∧ Wn.heap[w.heap.size]? = some (.cells #[.slice none 0 0, .slice none 0 0, .slice none 0 0, .bool false] 37 (0, 0)) ∧ Wn.heap[w.heap.size + 1]? = some (.cells #[.int .i64 0, .int .i64 0] 31 (0, 0)) ∧ w.heap.size + 2 ≤ Wn.heap.size) := ⟨hbn, P6, P7, by rw [← hWn]; simp; omega⟩
  have HTt : Hid (∀ (w0 w' : World) (A : Ad) (B now : Nat) (runs : List Int), (∀ y ∈ l, RowSl Ac.vals w0 y.acts y.v) → now < U → runs.length = now → TI I 3 (topsF l) l.length w0 w' A B now runs → Calls Try.prog 22 #[.pointer (some ⟨A.R, 0, none⟩), .int .i64 (now : Int)] w' fun r w'' => r = .returned (.tuple #[]) ∧ ∃ f, TI I 3 (topsF l) l.length w0 w'' A B (now + 1) (runs ++ [f])) := HT
  clear hWn hbn hs1 P6 P7 HNew H1 HT
  go_wp2_with (go_at_call 21; refine HN.mono ?_; rintro r w2 ⟨A, B, rfl, hr2, hl2⟩; have H2 : Hid (RunW Wn w2 A 3 (topsF l) l.length (.slice none 0 0) (x0 l) ∧ Lows Wn A B) := ⟨hr2, hl2⟩; clear hr2 hl2 HN)
  go_loopw [42] (fun i wr => ∃ (now : Nat) (runs : List Int), now ≤ U ∧ i = .int .i64 now ∧ runs.length = now ∧ TI I 3 (topsF l) l.length Wn wr A B now runs) (fun i _ => U - (intOf i).toNat)
  case atStart => exact ⟨0, [], Nat.zero_le _, rfl, rfl, ⟨⟨_, _, H2.out.1, ⟨rfl, .inl ⟨rfl, rfl⟩⟩, H0.out⟩, H2.out.2⟩⟩
  case round =>
    obtain ⟨now, runs, hnow, rfl, hlen, hti⟩ := hrel
    by_cases hlt : now < U
    · have HTk := HTt.out Wn wr A B now runs (HA.out Wn HP.out.1) hlt hlen hti
      have hni : (now : Int) < (U : Int) := by omega
      have HLn : Hid (runs.length = now) := hlen
      clear hti hlen
      go_wp2_with (go_at_call 22; refine HTk.mono ?_; rintro r w3 ⟨rfl, f, ht3⟩; have H3 : Hid (TI I 3 (topsF l) l.length Wn w3 A B (now + 1) (runs ++ [f])) := ht3; clear ht3 HTk)
      exact ⟨⟨now + 1, runs ++ [f], by omega, by simp, by rw [List.length_append, HLn.out]; rfl, H3.out⟩, by simp [intOf]; omega⟩
    · have hne : now = U := by omega
      subst hne
      obtain ⟨⟨rv, x, hr, hst, g⟩, hlow⟩ := hti
      obtain ⟨ad, c, rfl⟩ := owns_value hst
      have HSt := stuck_any Wn wr A 3 (topsF l) l.length (.slice ad runs.length c) x hr hn now
      generalize hsk : stuckF now x.es x.en false = sk at HSt
      obtain ⟨rc, rf, rl⟩ := cells_of hr.hR
      have r0 : wr.cell? ⟨A.R, 0, none⟩ = some (.slice ad runs.length c) := rc 0 _ rfl
      have r1 : wr.cell? ⟨A.R, 1, none⟩ = some (.slice (some ⟨A.E, 0, none⟩) l.length l.length) := rc 1 _ rfl
      have r2 : wr.cell? ⟨A.R, 2, none⟩ = some (.slice (some ⟨A.T, 0, none⟩) l.length l.length) := rc 2 _ rfl
      have r3 : wr.cell? ⟨A.R, 3, none⟩ = some (.bool false) := rc 3 _ rfl
      have rf3 := rf 3
      have q6 := (hr.bel.block _ (by have := HP.out.2.2.2; omega)).trans HP.out.2.1
      have q7 := (hr.bel.block _ (by have := HP.out.2.2.2; omega)).trans HP.out.2.2.1
      obtain ⟨xc, xf, xl⟩ := cells_of (l := [_, _, _, _]) q6
      obtain ⟨yc, yf, yl⟩ := cells_of (l := [_, _]) q7
      have x0' := xc 0 _ rfl
      have x1' := xc 1 _ rfl
      have x2' := xc 2 _ rfl
      have x3' := xc 3 _ rfl
      have y0' := yc 0 _ rfl
      have y1' := yc 1 _ rfl
      have xf0 := xf 0
      have xf1 := xf 1
      have xf2 := xf 2
      have xf3 := xf 3
      have yf0 := yf 0
      have yf1 := yf 1
      have hRl := hr.lo.1
      have hWl := HP.out.2.2.2
      have n6 : w.heap.size ≠ A.R := by omega
      have n7 : w.heap.size + 1 ≠ A.R := by omega
      have HE : Hid (RunW Wn wr A 3 (topsF l) l.length (.slice ad runs.length c) x ∧ Stk wr B (.slice ad runs.length c) runs ∧ I now runs x ∧ Lows Wn A B ∧ runs.length = now ∧ stuckF now x.es x.en false = sk) := ⟨hr, hst, g, hlow, hlen, hsk⟩
      have HQ : Hid (wr.heap[w.heap.size]? = some (.cells #[.slice none 0 0, .slice none 0 0, .slice none 0 0, .bool false] 37 (0, 0)) ∧ wr.heap[w.heap.size + 1]? = some (.cells #[.int .i64 0, .int .i64 0] 31 (0, 0))) := ⟨q6, q7⟩
      clear hr hst g hlow hlen hsk rc rf xc xf yc yf q6 q7
      go_wp2_with (go_at_call 23; refine HSt.mono ?_; rintro r w4 ⟨rfl, rfl⟩; clear HSt)
      obtain ⟨s6, s7, sk6, sb⟩ := play_store (W5 := w4.setCell ⟨A.R, 3, none⟩ (.bool sk)) (s := w.heap.size) (.slice ad runs.length c) (.slice (some ⟨A.E, 0, none⟩) l.length l.length) (.slice (some ⟨A.T, 0, none⟩) l.length l.length) (.bool sk) ((Below.heap_setCell _ _ _ _ n6).trans HQ.out.1) ((Below.heap_setCell _ _ _ _ n7).trans HQ.out.2)
      refine bodyPost_ret (Play_ends s6 s7 rfl rfl) rfl ?_
      obtain ⟨hr, hst, g, hlow, hlen, hsk⟩ := HE.out
      have hkeep : ∀ k, k ≠ A.R → k ≠ w.heap.size → k ≠ w.heap.size + 1 → _ := fun k h1 h2 h3 => (sk6 k h2 h3).trans (Below.heap_setCell w4 ⟨A.R, 3, none⟩ (.bool sk) k h1)
      have hE := hr.lo.2.2.1
      have hT := hr.lo.2.2.2.1
      refine ⟨_, _, _, runs, x, by rw [hsk], ⟨⟨?_, ?_, ?_, ?_, hr.ln.2.1, hr.ln.2.2.1⟩, Fr.of hst hlow hr hkeep HP.out.2.2.2 hn⟩, hlen, g⟩
      · exact ((HP.out.1.trans (hr.bel.mono HP.out.1.size)).setCell (by show w.heap.size ≤ A.R; omega) _).trans sb
      · refine (hst.keep (fun k hk => hkeep k ?_ ?_ ?_)).row
        · have := hst.low hk; have := hlow.bs.1; omega
        · have := hst.low hk; have := hlow.w; omega
        · have := hst.low hk; have := hlow.w; omega
      · exact row_block ((hkeep A.E (Ne.symm hr.ne.1.2.1) (by omega) (by omega)).trans hr.hE) hr.ln.2.1
      · exact row_block ((hkeep A.T (Ne.symm hr.ne.1.2.2.1) (by omega) (by omega)).trans hr.hT) hr.ln.2.2.1

set_option maxRecDepth 20000 in
set_option maxHeartbeats 4000000 in
theorem PlayF_good1 (I : Nat → List Int → Rs → Prop) (w : World) (l : List Lj) (v : Value) (hv : LkSl w l v) (hok : chkLk l = (0, 0)) (U : Nat) (hU : U ≤ 20000) (h0 : I 0 [] (x0 l))
    (HT : ∀ (w0 w' : World) (A : Ad) (B now : Nat) (runs : List Int), (∀ y ∈ l, RowSl Ac.vals w0 y.acts y.v) → now < U → runs.length = now → TI I 1 (topsF l) l.length w0 w' A B now runs → Calls Try.prog 22 #[.pointer (some ⟨A.R, 0, none⟩), .int .i64 (now : Int)] w' fun r w'' => r = .returned (.tuple #[]) ∧ ∃ f, TI I 1 (topsF l) l.length w0 w'' A B (now + 1) (runs ++ [f])) :
    Calls Try.prog 9 #[v, .int .i64 1, .int .i64 (U : Int)] w fun r w' => ∃ rv ev tv runs x, r = .returned (.tuple #[.agg #[rv, ev, tv, .bool (stuckF U x.es x.en false)], .agg #[.int .i64 0, .int .i64 0]]) ∧ (PlayW w w' l.length rv ev tv runs x ∧ Fr w w' rv ev tv) ∧ runs.length = U ∧ I U runs x := by
  have hck := chkLk_right (l := l) (by rw [hok])
  have HNew := fun W (hb : Below w.heap.size w W) => newRun_any W l v (hv.below hb) hck.1 (fun x hx => (hck.2 x hx).1) 1
  have HCk := fun W (hb : Below w.heap.size w W) => checkJobs_any W l v (hv.below hb)
  rw [hok] at HCk
  have HA : Hid (∀ W, Below w.heap.size w W → ∀ y ∈ l, RowSl Ac.vals W y.acts y.v) := fun W hb y hy => (hv.2 y hy).below hb
  have hn : l.length ≤ 100 := hck.1
  have H0 : Hid (I 0 [] (x0 l)) := h0
  have hUi : (U : Int) ≤ 20000 := by omega
  have hUw : within (U : Int) 0 20000 = true := by simp [within]; omega
  have HC0 := HCk ((w.alloc (.cells #[.slice none 0 0, .slice none 0 0, .slice none 0 0, .bool false] 37)).alloc (.cells #[.int .i64 0, .int .i64 0] 31)) (below_seq (below_new _ _) (below_new _ _))
  clear hck hok hv h0 HCk
  go_enter Try.func9, Try.ntmps9
  go_wp2_with (go_at_call 19; refine HC0.mono ?_; rintro r w1 ⟨rfl, hb1⟩; have H1 : Hid (Below ((w.alloc (.cells #[.slice none 0 0, .slice none 0 0, .slice none 0 0, .bool false] 37)).alloc (.cells #[.int .i64 0, .int .i64 0] 31)).heap.size ((w.alloc (.cells #[.slice none 0 0, .slice none 0 0, .slice none 0 0, .bool false] 37)).alloc (.cells #[.int .i64 0, .int .i64 0] 31)) w1) := hb1; clear hb1 HC0)
  go_wp2_with (go_at_call 20; refine (within_any _ _ _ _).mono ?_; rintro r w2 ⟨rfl, rfl⟩; rw [hUw])
  obtain ⟨Wn, hWn⟩ : ∃ Wn, w1.alloc (.cells #[.int .i64 0, .int .i64 0] 31) = Wn := ⟨_, rfl⟩
  rw [hWn]
  have hbn : Below w.heap.size w Wn := by
    rw [← hWn]
    exact below_seq (below_seq (below_seq (below_new _ _) (below_new _ _)) H1.out) (below_new _ _)
  have hs1 : w.heap.size + 2 ≤ w1.heap.size := by have := H1.out.size; simp at this; omega
  have P6 : Wn.heap[w.heap.size]? = some (.cells #[.slice none 0 0, .slice none 0 0, .slice none 0 0, .bool false] 37 (0, 0)) := by
    rw [← hWn, (below_new w1 _).block _ (by omega), H1.out.block _ (by simp <;> omega), (below_new _ _).block _ (by simp <;> omega)]
    exact heap_alloc_new w _
  have P7 : Wn.heap[w.heap.size + 1]? = some (.cells #[.int .i64 0, .int .i64 0] 31 (0, 0)) := by
    rw [← hWn, (below_new w1 _).block _ (by omega), H1.out.block _ (by simp <;> omega)]
    have := heap_alloc_new (w.alloc (.cells #[.slice none 0 0, .slice none 0 0, .slice none 0 0, .bool false] 37)) (.cells #[.int .i64 0, .int .i64 0] 31)
    simpa using this
  have HN := HNew Wn hbn
  have HP : Hid (Below w.heap.size w Wn ∧ Wn.heap[w.heap.size]? = some (.cells #[.slice none 0 0, .slice none 0 0, .slice none 0 0, .bool false] 37 (0, 0)) ∧ Wn.heap[w.heap.size + 1]? = some (.cells #[.int .i64 0, .int .i64 0] 31 (0, 0)) ∧ w.heap.size + 2 ≤ Wn.heap.size) := ⟨hbn, P6, P7, by rw [← hWn]; simp; omega⟩
  have HTt : Hid (∀ (w0 w' : World) (A : Ad) (B now : Nat) (runs : List Int), (∀ y ∈ l, RowSl Ac.vals w0 y.acts y.v) → now < U → runs.length = now → TI I 1 (topsF l) l.length w0 w' A B now runs → Calls Try.prog 22 #[.pointer (some ⟨A.R, 0, none⟩), .int .i64 (now : Int)] w' fun r w'' => r = .returned (.tuple #[]) ∧ ∃ f, TI I 1 (topsF l) l.length w0 w'' A B (now + 1) (runs ++ [f])) := HT
  clear hWn hbn hs1 P6 P7 HNew H1 HT
  go_wp2_with (go_at_call 21; refine HN.mono ?_; rintro r w2 ⟨A, B, rfl, hr2, hl2⟩; have H2 : Hid (RunW Wn w2 A 1 (topsF l) l.length (.slice none 0 0) (x0 l) ∧ Lows Wn A B) := ⟨hr2, hl2⟩; clear hr2 hl2 HN)
  go_loopw [42] (fun i wr => ∃ (now : Nat) (runs : List Int), now ≤ U ∧ i = .int .i64 now ∧ runs.length = now ∧ TI I 1 (topsF l) l.length Wn wr A B now runs) (fun i _ => U - (intOf i).toNat)
  case atStart => exact ⟨0, [], Nat.zero_le _, rfl, rfl, ⟨⟨_, _, H2.out.1, ⟨rfl, .inl ⟨rfl, rfl⟩⟩, H0.out⟩, H2.out.2⟩⟩
  case round =>
    obtain ⟨now, runs, hnow, rfl, hlen, hti⟩ := hrel
    by_cases hlt : now < U
    · have HTk := HTt.out Wn wr A B now runs (HA.out Wn HP.out.1) hlt hlen hti
      have hni : (now : Int) < (U : Int) := by omega
      have HLn : Hid (runs.length = now) := hlen
      clear hti hlen
      go_wp2_with (go_at_call 22; refine HTk.mono ?_; rintro r w3 ⟨rfl, f, ht3⟩; have H3 : Hid (TI I 1 (topsF l) l.length Wn w3 A B (now + 1) (runs ++ [f])) := ht3; clear ht3 HTk)
      exact ⟨⟨now + 1, runs ++ [f], by omega, by simp, by rw [List.length_append, HLn.out]; rfl, H3.out⟩, by simp [intOf]; omega⟩
    · have hne : now = U := by omega
      subst hne
      obtain ⟨⟨rv, x, hr, hst, g⟩, hlow⟩ := hti
      obtain ⟨ad, c, rfl⟩ := owns_value hst
      have HSt := stuck_any Wn wr A 1 (topsF l) l.length (.slice ad runs.length c) x hr hn now
      generalize hsk : stuckF now x.es x.en false = sk at HSt
      obtain ⟨rc, rf, rl⟩ := cells_of hr.hR
      have r0 : wr.cell? ⟨A.R, 0, none⟩ = some (.slice ad runs.length c) := rc 0 _ rfl
      have r1 : wr.cell? ⟨A.R, 1, none⟩ = some (.slice (some ⟨A.E, 0, none⟩) l.length l.length) := rc 1 _ rfl
      have r2 : wr.cell? ⟨A.R, 2, none⟩ = some (.slice (some ⟨A.T, 0, none⟩) l.length l.length) := rc 2 _ rfl
      have r3 : wr.cell? ⟨A.R, 3, none⟩ = some (.bool false) := rc 3 _ rfl
      have rf3 := rf 3
      have q6 := (hr.bel.block _ (by have := HP.out.2.2.2; omega)).trans HP.out.2.1
      have q7 := (hr.bel.block _ (by have := HP.out.2.2.2; omega)).trans HP.out.2.2.1
      obtain ⟨xc, xf, xl⟩ := cells_of (l := [_, _, _, _]) q6
      obtain ⟨yc, yf, yl⟩ := cells_of (l := [_, _]) q7
      have x0' := xc 0 _ rfl
      have x1' := xc 1 _ rfl
      have x2' := xc 2 _ rfl
      have x3' := xc 3 _ rfl
      have y0' := yc 0 _ rfl
      have y1' := yc 1 _ rfl
      have xf0 := xf 0
      have xf1 := xf 1
      have xf2 := xf 2
      have xf3 := xf 3
      have yf0 := yf 0
      have yf1 := yf 1
      have hRl := hr.lo.1
      have hWl := HP.out.2.2.2
      have n6 : w.heap.size ≠ A.R := by omega
      have n7 : w.heap.size + 1 ≠ A.R := by omega
      have HE : Hid (RunW Wn wr A 1 (topsF l) l.length (.slice ad runs.length c) x ∧ Stk wr B (.slice ad runs.length c) runs ∧ I now runs x ∧ Lows Wn A B ∧ runs.length = now ∧ stuckF now x.es x.en false = sk) := ⟨hr, hst, g, hlow, hlen, hsk⟩
      have HQ : Hid (wr.heap[w.heap.size]? = some (.cells #[.slice none 0 0, .slice none 0 0, .slice none 0 0, .bool false] 37 (0, 0)) ∧ wr.heap[w.heap.size + 1]? = some (.cells #[.int .i64 0, .int .i64 0] 31 (0, 0))) := ⟨q6, q7⟩
      clear hr hst g hlow hlen hsk rc rf xc xf yc yf q6 q7
      go_wp2_with (go_at_call 23; refine HSt.mono ?_; rintro r w4 ⟨rfl, rfl⟩; clear HSt)
      obtain ⟨s6, s7, sk6, sb⟩ := play_store (W5 := w4.setCell ⟨A.R, 3, none⟩ (.bool sk)) (s := w.heap.size) (.slice ad runs.length c) (.slice (some ⟨A.E, 0, none⟩) l.length l.length) (.slice (some ⟨A.T, 0, none⟩) l.length l.length) (.bool sk) ((Below.heap_setCell _ _ _ _ n6).trans HQ.out.1) ((Below.heap_setCell _ _ _ _ n7).trans HQ.out.2)
      refine bodyPost_ret (Play_ends s6 s7 rfl rfl) rfl ?_
      obtain ⟨hr, hst, g, hlow, hlen, hsk⟩ := HE.out
      have hkeep : ∀ k, k ≠ A.R → k ≠ w.heap.size → k ≠ w.heap.size + 1 → _ := fun k h1 h2 h3 => (sk6 k h2 h3).trans (Below.heap_setCell w4 ⟨A.R, 3, none⟩ (.bool sk) k h1)
      have hE := hr.lo.2.2.1
      have hT := hr.lo.2.2.2.1
      refine ⟨_, _, _, runs, x, by rw [hsk], ⟨⟨?_, ?_, ?_, ?_, hr.ln.2.1, hr.ln.2.2.1⟩, Fr.of hst hlow hr hkeep HP.out.2.2.2 hn⟩, hlen, g⟩
      · exact ((HP.out.1.trans (hr.bel.mono HP.out.1.size)).setCell (by show w.heap.size ≤ A.R; omega) _).trans sb
      · refine (hst.keep (fun k hk => hkeep k ?_ ?_ ?_)).row
        · have := hst.low hk; have := hlow.bs.1; omega
        · have := hst.low hk; have := hlow.w; omega
        · have := hst.low hk; have := hlow.w; omega
      · exact row_block ((hkeep A.E (Ne.symm hr.ne.1.2.1) (by omega) (by omega)).trans hr.hE) hr.ln.2.1
      · exact row_block ((hkeep A.T (Ne.symm hr.ne.1.2.2.1) (by omega) (by omega)).trans hr.hT) hr.ln.2.2.1

set_option maxRecDepth 20000 in
set_option maxHeartbeats 4000000 in
theorem PlayF_good2 (I : Nat → List Int → Rs → Prop) (w : World) (l : List Lj) (v : Value) (hv : LkSl w l v) (hok : chkLk l = (0, 0)) (U : Nat) (hU : U ≤ 20000) (h0 : I 0 [] (x0 l))
    (HT : ∀ (w0 w' : World) (A : Ad) (B now : Nat) (runs : List Int), (∀ y ∈ l, RowSl Ac.vals w0 y.acts y.v) → now < U → runs.length = now → TI I 2 (topsF l) l.length w0 w' A B now runs → Calls Try.prog 22 #[.pointer (some ⟨A.R, 0, none⟩), .int .i64 (now : Int)] w' fun r w'' => r = .returned (.tuple #[]) ∧ ∃ f, TI I 2 (topsF l) l.length w0 w'' A B (now + 1) (runs ++ [f])) :
    Calls Try.prog 9 #[v, .int .i64 2, .int .i64 (U : Int)] w fun r w' => ∃ rv ev tv runs x, r = .returned (.tuple #[.agg #[rv, ev, tv, .bool (stuckF U x.es x.en false)], .agg #[.int .i64 0, .int .i64 0]]) ∧ (PlayW w w' l.length rv ev tv runs x ∧ Fr w w' rv ev tv) ∧ runs.length = U ∧ I U runs x := by
  have hck := chkLk_right (l := l) (by rw [hok])
  have HNew := fun W (hb : Below w.heap.size w W) => newRun_any W l v (hv.below hb) hck.1 (fun x hx => (hck.2 x hx).1) 2
  have HCk := fun W (hb : Below w.heap.size w W) => checkJobs_any W l v (hv.below hb)
  rw [hok] at HCk
  have HA : Hid (∀ W, Below w.heap.size w W → ∀ y ∈ l, RowSl Ac.vals W y.acts y.v) := fun W hb y hy => (hv.2 y hy).below hb
  have hn : l.length ≤ 100 := hck.1
  have H0 : Hid (I 0 [] (x0 l)) := h0
  have hUi : (U : Int) ≤ 20000 := by omega
  have hUw : within (U : Int) 0 20000 = true := by simp [within]; omega
  have HC0 := HCk ((w.alloc (.cells #[.slice none 0 0, .slice none 0 0, .slice none 0 0, .bool false] 37)).alloc (.cells #[.int .i64 0, .int .i64 0] 31)) (below_seq (below_new _ _) (below_new _ _))
  clear hck hok hv h0 HCk
  go_enter Try.func9, Try.ntmps9
  go_wp2_with (go_at_call 19; refine HC0.mono ?_; rintro r w1 ⟨rfl, hb1⟩; have H1 : Hid (Below ((w.alloc (.cells #[.slice none 0 0, .slice none 0 0, .slice none 0 0, .bool false] 37)).alloc (.cells #[.int .i64 0, .int .i64 0] 31)).heap.size ((w.alloc (.cells #[.slice none 0 0, .slice none 0 0, .slice none 0 0, .bool false] 37)).alloc (.cells #[.int .i64 0, .int .i64 0] 31)) w1) := hb1; clear hb1 HC0)
  go_wp2_with (go_at_call 20; refine (within_any _ _ _ _).mono ?_; rintro r w2 ⟨rfl, rfl⟩; rw [hUw])
  obtain ⟨Wn, hWn⟩ : ∃ Wn, w1.alloc (.cells #[.int .i64 0, .int .i64 0] 31) = Wn := ⟨_, rfl⟩
  rw [hWn]
  have hbn : Below w.heap.size w Wn := by
    rw [← hWn]
    exact below_seq (below_seq (below_seq (below_new _ _) (below_new _ _)) H1.out) (below_new _ _)
  have hs1 : w.heap.size + 2 ≤ w1.heap.size := by have := H1.out.size; simp at this; omega
  have P6 : Wn.heap[w.heap.size]? = some (.cells #[.slice none 0 0, .slice none 0 0, .slice none 0 0, .bool false] 37 (0, 0)) := by
    rw [← hWn, (below_new w1 _).block _ (by omega), H1.out.block _ (by simp <;> omega), (below_new _ _).block _ (by simp <;> omega)]
    exact heap_alloc_new w _
  have P7 : Wn.heap[w.heap.size + 1]? = some (.cells #[.int .i64 0, .int .i64 0] 31 (0, 0)) := by
    rw [← hWn, (below_new w1 _).block _ (by omega), H1.out.block _ (by simp <;> omega)]
    have := heap_alloc_new (w.alloc (.cells #[.slice none 0 0, .slice none 0 0, .slice none 0 0, .bool false] 37)) (.cells #[.int .i64 0, .int .i64 0] 31)
    simpa using this
  have HN := HNew Wn hbn
  have HP : Hid (Below w.heap.size w Wn ∧ Wn.heap[w.heap.size]? = some (.cells #[.slice none 0 0, .slice none 0 0, .slice none 0 0, .bool false] 37 (0, 0)) ∧ Wn.heap[w.heap.size + 1]? = some (.cells #[.int .i64 0, .int .i64 0] 31 (0, 0)) ∧ w.heap.size + 2 ≤ Wn.heap.size) := ⟨hbn, P6, P7, by rw [← hWn]; simp; omega⟩
  have HTt : Hid (∀ (w0 w' : World) (A : Ad) (B now : Nat) (runs : List Int), (∀ y ∈ l, RowSl Ac.vals w0 y.acts y.v) → now < U → runs.length = now → TI I 2 (topsF l) l.length w0 w' A B now runs → Calls Try.prog 22 #[.pointer (some ⟨A.R, 0, none⟩), .int .i64 (now : Int)] w' fun r w'' => r = .returned (.tuple #[]) ∧ ∃ f, TI I 2 (topsF l) l.length w0 w'' A B (now + 1) (runs ++ [f])) := HT
  clear hWn hbn hs1 P6 P7 HNew H1 HT
  go_wp2_with (go_at_call 21; refine HN.mono ?_; rintro r w2 ⟨A, B, rfl, hr2, hl2⟩; have H2 : Hid (RunW Wn w2 A 2 (topsF l) l.length (.slice none 0 0) (x0 l) ∧ Lows Wn A B) := ⟨hr2, hl2⟩; clear hr2 hl2 HN)
  go_loopw [42] (fun i wr => ∃ (now : Nat) (runs : List Int), now ≤ U ∧ i = .int .i64 now ∧ runs.length = now ∧ TI I 2 (topsF l) l.length Wn wr A B now runs) (fun i _ => U - (intOf i).toNat)
  case atStart => exact ⟨0, [], Nat.zero_le _, rfl, rfl, ⟨⟨_, _, H2.out.1, ⟨rfl, .inl ⟨rfl, rfl⟩⟩, H0.out⟩, H2.out.2⟩⟩
  case round =>
    obtain ⟨now, runs, hnow, rfl, hlen, hti⟩ := hrel
    by_cases hlt : now < U
    · have HTk := HTt.out Wn wr A B now runs (HA.out Wn HP.out.1) hlt hlen hti
      have hni : (now : Int) < (U : Int) := by omega
      have HLn : Hid (runs.length = now) := hlen
      clear hti hlen
      go_wp2_with (go_at_call 22; refine HTk.mono ?_; rintro r w3 ⟨rfl, f, ht3⟩; have H3 : Hid (TI I 2 (topsF l) l.length Wn w3 A B (now + 1) (runs ++ [f])) := ht3; clear ht3 HTk)
      exact ⟨⟨now + 1, runs ++ [f], by omega, by simp, by rw [List.length_append, HLn.out]; rfl, H3.out⟩, by simp [intOf]; omega⟩
    · have hne : now = U := by omega
      subst hne
      obtain ⟨⟨rv, x, hr, hst, g⟩, hlow⟩ := hti
      obtain ⟨ad, c, rfl⟩ := owns_value hst
      have HSt := stuck_any Wn wr A 2 (topsF l) l.length (.slice ad runs.length c) x hr hn now
      generalize hsk : stuckF now x.es x.en false = sk at HSt
      obtain ⟨rc, rf, rl⟩ := cells_of hr.hR
      have r0 : wr.cell? ⟨A.R, 0, none⟩ = some (.slice ad runs.length c) := rc 0 _ rfl
      have r1 : wr.cell? ⟨A.R, 1, none⟩ = some (.slice (some ⟨A.E, 0, none⟩) l.length l.length) := rc 1 _ rfl
      have r2 : wr.cell? ⟨A.R, 2, none⟩ = some (.slice (some ⟨A.T, 0, none⟩) l.length l.length) := rc 2 _ rfl
      have r3 : wr.cell? ⟨A.R, 3, none⟩ = some (.bool false) := rc 3 _ rfl
      have rf3 := rf 3
      have q6 := (hr.bel.block _ (by have := HP.out.2.2.2; omega)).trans HP.out.2.1
      have q7 := (hr.bel.block _ (by have := HP.out.2.2.2; omega)).trans HP.out.2.2.1
      obtain ⟨xc, xf, xl⟩ := cells_of (l := [_, _, _, _]) q6
      obtain ⟨yc, yf, yl⟩ := cells_of (l := [_, _]) q7
      have x0' := xc 0 _ rfl
      have x1' := xc 1 _ rfl
      have x2' := xc 2 _ rfl
      have x3' := xc 3 _ rfl
      have y0' := yc 0 _ rfl
      have y1' := yc 1 _ rfl
      have xf0 := xf 0
      have xf1 := xf 1
      have xf2 := xf 2
      have xf3 := xf 3
      have yf0 := yf 0
      have yf1 := yf 1
      have hRl := hr.lo.1
      have hWl := HP.out.2.2.2
      have n6 : w.heap.size ≠ A.R := by omega
      have n7 : w.heap.size + 1 ≠ A.R := by omega
      have HE : Hid (RunW Wn wr A 2 (topsF l) l.length (.slice ad runs.length c) x ∧ Stk wr B (.slice ad runs.length c) runs ∧ I now runs x ∧ Lows Wn A B ∧ runs.length = now ∧ stuckF now x.es x.en false = sk) := ⟨hr, hst, g, hlow, hlen, hsk⟩
      have HQ : Hid (wr.heap[w.heap.size]? = some (.cells #[.slice none 0 0, .slice none 0 0, .slice none 0 0, .bool false] 37 (0, 0)) ∧ wr.heap[w.heap.size + 1]? = some (.cells #[.int .i64 0, .int .i64 0] 31 (0, 0))) := ⟨q6, q7⟩
      clear hr hst g hlow hlen hsk rc rf xc xf yc yf q6 q7
      go_wp2_with (go_at_call 23; refine HSt.mono ?_; rintro r w4 ⟨rfl, rfl⟩; clear HSt)
      obtain ⟨s6, s7, sk6, sb⟩ := play_store (W5 := w4.setCell ⟨A.R, 3, none⟩ (.bool sk)) (s := w.heap.size) (.slice ad runs.length c) (.slice (some ⟨A.E, 0, none⟩) l.length l.length) (.slice (some ⟨A.T, 0, none⟩) l.length l.length) (.bool sk) ((Below.heap_setCell _ _ _ _ n6).trans HQ.out.1) ((Below.heap_setCell _ _ _ _ n7).trans HQ.out.2)
      refine bodyPost_ret (Play_ends s6 s7 rfl rfl) rfl ?_
      obtain ⟨hr, hst, g, hlow, hlen, hsk⟩ := HE.out
      have hkeep : ∀ k, k ≠ A.R → k ≠ w.heap.size → k ≠ w.heap.size + 1 → _ := fun k h1 h2 h3 => (sk6 k h2 h3).trans (Below.heap_setCell w4 ⟨A.R, 3, none⟩ (.bool sk) k h1)
      have hE := hr.lo.2.2.1
      have hT := hr.lo.2.2.2.1
      refine ⟨_, _, _, runs, x, by rw [hsk], ⟨⟨?_, ?_, ?_, ?_, hr.ln.2.1, hr.ln.2.2.1⟩, Fr.of hst hlow hr hkeep HP.out.2.2.2 hn⟩, hlen, g⟩
      · exact ((HP.out.1.trans (hr.bel.mono HP.out.1.size)).setCell (by show w.heap.size ≤ A.R; omega) _).trans sb
      · refine (hst.keep (fun k hk => hkeep k ?_ ?_ ?_)).row
        · have := hst.low hk; have := hlow.bs.1; omega
        · have := hst.low hk; have := hlow.w; omega
        · have := hst.low hk; have := hlow.w; omega
      · exact row_block ((hkeep A.E (Ne.symm hr.ne.1.2.1) (by omega) (by omega)).trans hr.hE) hr.ln.2.1
      · exact row_block ((hkeep A.T (Ne.symm hr.ne.1.2.2.1) (by omega) (by omega)).trans hr.hT) hr.ln.2.2.1
/-- locks.Play, by any protocol. -/
theorem Play_genF (w : World) (l : List Lj) (v : Value) (hv : LkSl w l v) (hok : chkLk l = (0, 0)) (pr : Int) (hpr : pr = 1 ∨ pr = 2 ∨ pr = 3) (U : Nat) (hU : U ≤ 20000) :
    Calls Try.prog 9 #[v, .int .i64 pr, .int .i64 (U : Int)] w fun r w' => ∃ rv ev tv runs x, r = .returned (.tuple #[.agg #[rv, ev, tv, .bool (stuckF U x.es x.en false)], .agg #[.int .i64 0, .int .i64 0]]) ∧ (PlayW w w' l.length rv ev tv runs x ∧ Fr w w' rv ev tv) ∧ runs.length = U ∧ Rn pr l U runs x := by
  have ok : Ok l := ok_of (by rw [hok])
  have h0 : Rn pr l 0 [] (nrm (x0 l)) ∧ GI l 0 (x0 l) := by
    refine ⟨?_, GI.start ok⟩
    have : nrm (x0 l) = x0 l := by
      unfold nrm x0
      dsimp only
      rw [List.map_map]
      rfl
    rw [this]
    exact .zero
  have ht : ∀ (w0 w' : World) (A : Ad) (B now : Nat) (runs : List Int), (∀ y ∈ l, RowSl Ac.vals w0 y.acts y.v) → now < U → runs.length = now → TI (fun now runs x => Rn pr l now runs (nrm x) ∧ GI l now x) pr (topsF l) l.length w0 w' A B now runs → Calls Try.prog 22 #[.pointer (some ⟨A.R, 0, none⟩), .int .i64 (now : Int)] w' fun r w'' => r = .returned (.tuple #[]) ∧ ∃ f, TI (fun now runs x => Rn pr l now runs (nrm x) ∧ GI l now x) pr (topsF l) l.length w0 w'' A B (now + 1) (runs ++ [f]) := by
    intro w0 w' A B now runs hrow hlt hrl hti
    refine tick_gen _ (fun f z => GI l now z ∧ Rn pr l (now + 1) (runs ++ [f]) (nrm { z with ws := bumpF z.es z.ws })) pr (topsF l) l.length w0 w' A B now runs ok.few (by omega) hti ?_ ?_
    · rintro A' w2 rv x hr ⟨hp, hx⟩
      refine (begin_gen ok pr hpr w0 w2 A' (topsF l) rv x hr hrow now (by omega) hx).mono ?_
      rintro r w3 ⟨f, z, rfl, h1, h2, h3⟩
      refine ⟨f, z, rfl, h1, h2, ?_⟩
      have := Rn.more hp h3
      rw [show (nrm z).ws = z.ws from rfl, show (nrm z).es = z.es.map nac from rfl, bumpF_nac] at this
      exact this
    · rintro f z ⟨g, h⟩
      refine ⟨fun q hq => ?_, h, g.tick⟩
      have := g.ws q hq
      omega
  have fin : ∀ {r : Ending} {w' : World}, (∃ rv ev tv runs x, r = .returned (.tuple #[.agg #[rv, ev, tv, .bool (stuckF U x.es x.en false)], .agg #[.int .i64 0, .int .i64 0]]) ∧ (PlayW w w' l.length rv ev tv runs x ∧ Fr w w' rv ev tv) ∧ runs.length = U ∧ (Rn pr l U runs (nrm x) ∧ GI l U x)) → ∃ rv ev tv runs x, r = .returned (.tuple #[.agg #[rv, ev, tv, .bool (stuckF U x.es x.en false)], .agg #[.int .i64 0, .int .i64 0]]) ∧ (PlayW w w' l.length rv ev tv runs x ∧ Fr w w' rv ev tv) ∧ runs.length = U ∧ Rn pr l U runs x := by
    rintro r w' ⟨rv, ev, tv, runs, x, rfl, h1, h2, h3, -⟩
    refine ⟨rv, ev, tv, runs, nrm x, ?_, ⟨⟨h1.1.bel, h1.1.r, h1.1.e, h1.1.t, h1.1.ln⟩, h1.2⟩, h2, h3⟩
    rw [show (nrm x).es = x.es.map nac from rfl, stuckF_nac]
    rfl
  rcases hpr with rfl | rfl | rfl
  · exact (PlayF_good1 _ w l v hv hok U hU h0 ht).mono fun r w' h => fin h
  · exact (PlayF_good2 _ w l v hv hok U hU h0 ht).mono fun r w' h => fin h
  · exact (PlayF_good3 _ w l v hv hok U hU h0 ht).mono fun r w' h => fin h
end Go.Proofs.Ytcmoehednkaehah
namespace Go.Proofs.Ytcmoehednkaehah
open Go.ChangeShapes Go.WideShapes Go.ChangeAt Go.RowKit

theorem zero_cells1 (z : Value) (n : Nat) : ∀ u ∈ (Builtin.zeroCells #[z] n).toList, u = z := by
  intro u hu
  simp only [Builtin.zeroCells, Array.toList_map, List.mem_map] at hu
  obtain ⟨i, -, rfl⟩ := hu
  have : i % (#[z] : Array Value).size = 0 := by
    show i % 1 = 0
    omega
  rw [this]; rfl

theorem clear_one (w : World) (t e ty : TypeId) (z : Value) (ht : Try.prog.underlying t = some (.slice e)) (hv : ∀ w, (zeroValue e).run Try.prog w = .ok z w) (h1 : z.oneCell' = true) (b n c : Nat) (hn : 0 < n)
    (hc : ∀ j, j < n * 1 → (w.cell? ⟨b, 0 + j, none⟩).isSome = true) (hf : ∀ j, j < n * 1 → w.frozen? ⟨b, 0 + j, none⟩ = false) :
    ∃ l, (Builtin.clear_ #[t] ty #[.slice (some ⟨b, 0, none⟩) n c]).run Try.prog w = .ok (.tuple #[]) (w.setCells b 0 l) := by
  have hcell : z.cells = #[z] := by
    cases z <;> first | rfl | (simp [Value.oneCell'] at h1)
  have hlen : (Builtin.zeroCells #[z] n).toList.length = n * 1 := by simp [Builtin.zeroCells]
  have hst := run_storeCells_cells (P := Try.prog) b 0 (Builtin.zeroCells #[z] n).toList 0 w (by rw [hlen]; simpa using hc) (by rw [hlen]; simpa using hf) (by intro v hv'; rw [zero_cells1 z n v hv']; exact h1)
  refine ⟨(Builtin.zeroCells #[z] n).toList, ?_⟩
  obtain ⟨m, rfl⟩ : ∃ m, n = m + 1 := ⟨n - 1, by omega⟩
  simp only [Nat.add_zero] at hst
  simp [Builtin.clear_, run_underlying ht, hv, hcell, hst]

theorem below_setCells {N b : Nat} (hb : N ≤ b) : ∀ (l : List Value) (o : Nat) (w : World), Below N w (w.setCells b o l)
  | [], _, _ => Below.refl _ _
  | v :: r, o, w => by
    refine Below.trans ?_ (below_setCells hb r (o + 1) _)
    exact (Below.refl _ w).setCell (p := ⟨b, o, none⟩) hb v

theorem heap_setCells {g q : Nat} (hq : q ≠ g) : ∀ (l : List Value) (o : Nat) (w : World), (w.setCells g o l).heap[q]? = w.heap[q]?
  | [], _, _ => rfl
  | v :: r, o, w => by
    have h1 := heap_setCells hq r (o + 1) (w.setCell ⟨g, o, none⟩ v)
    have h2 : (w.setCell ⟨g, o, none⟩ v).heap[q]? = w.heap[q]? := Below.heap_setCell _ _ _ _ hq
    exact h1.trans h2

/-- One block alone has changed, or none. -/
def OneOf (B : Nat) (W W' : World) (og : Option Nat) : Prop := Below B W W' ∧ ∀ q, og ≠ some q → W'.heap[q]? = W.heap[q]?

set_option maxRecDepth 20000 in
set_option maxHeartbeats 4000000 in
/-- Spoil changes one block alone. -/
theorem Spoil_any (w : World) (B : Nat) (v : Value) (og : Option Nat) (h : Sp w B v og) :
    Calls Try.prog 12 #[v] w fun r w' => r = .returned (.tuple #[]) ∧ OneOf B w w' og := by
  obtain ⟨i0, hi0, hz0, hz1, hz2⟩ := info_parts info3
  rcases h with ⟨rfl, rfl⟩ | ⟨g, n, cap, cur, rfl, rfl, hB, hg, hs, hn, hm⟩
  · have hcl : ∀ ty, (Builtin.clear_ #[26] ty #[.slice none 0 0]).run Try.prog w = .ok (.tuple #[]) w := fun ty => by simp [Builtin.clear_, run_underlying Try.underlying26]
    go_enter Try.func12, Try.ntmps12
    go_wp2
    go_end0
    exact ⟨rfl, Below.refl _ _, fun _ _ => rfl⟩
  · have hz : ∀ w, (zeroValue 3).run Try.prog w = .ok (.int .i64 0) w := fun w => by simp [zeroValue, typeInfo, hi0, hz0]
    have hcl' : ∃ w1, (∀ ty, (Builtin.clear_ #[26] ty #[.slice (some ⟨g, 0, none⟩) cap cap]).run Try.prog w = .ok (.tuple #[]) w1) ∧ OneOf B w w1 (some g) := by
      by_cases hc : cap = 0
      · subst hc
        exact ⟨w, fun ty => by simp [Builtin.clear_, run_underlying Try.underlying26], Below.refl _ _, fun _ _ => rfl⟩
      · obtain ⟨l, hl⟩ := clear_one w 26 3 26 (.int .i64 0) Try.underlying26 hz rfl g cap cap (by omega) (fun j hj => by unfold World.cell?; rw [hg]; simp; omega) (fun j hj => by unfold World.frozen?; rw [hg]; simp)
        exact ⟨_, fun ty => hl, below_setCells hB l 0 w, fun q hq => heap_setCells (fun e => hq (by rw [e])) l 0 w⟩
    obtain ⟨w1, hcl, hb1⟩ := hcl'
    have HB : Hid (OneOf B w w1 (some g)) := hb1
    unfold maxLen at hm
    clear hg hz hb1 hs
    go_enter Try.func12, Try.ntmps12
    go_wp2
    go_end0
    exact ⟨rfl, HB.out⟩
end Go.Proofs.Ytcmoehednkaehah
namespace Go.Proofs.Ytcmoehednkaehah
open Go.ChangeShapes Go.WideShapes Go.ChangeAt Go.RowKit

theorem infoAc : (Try.prog.info? 61).map (fun i => (i.zero, i.size, i.bytes)) = some (some (.agg #[.int .i64 0, .int .i64 0]), 2, 16) := by kernel_rfl
theorem infoLk : (Try.prog.info? 47).map (fun i => (i.zero, i.size, i.bytes)) = some (some (.agg #[.int .i64 0, .int .i64 0, .slice none 0 0]), 3, 40) := by kernel_rfl

theorem flatOneAc {l : List Ac} {u : Value} (h : u ∈ l.flatMap Ac.vals) : u.oneCell' = true := by
  obtain ⟨x, h⟩ := flat_mem h
  exact Ac.one h

/-- The same jobs, wherever their acts lie. -/
def Lj.core (x : Lj) : Int × Int × List Ac := (x.a, x.p, x.acts)

/-- A slice of acts of one's own, below which nothing turned. -/
theorem copyActs (W : World) (l : List Ac) (ad : Option Addr) (c : Nat) (hb : l.length * 16 ≤ 140737488355328) (hv : RowSl Ac.vals W l (.slice ad l.length c)) :
    ∃ u W', (Builtin.append_ #[45, 45] 45 #[.slice (some ⟨W.heap.size, 0, none⟩) 0 0, .slice ad l.length c]).run Try.prog (W.alloc (.cells #[] 61)) = .ok u W' ∧ RowSl Ac.vals W' l u ∧ Below W.heap.size W W' ∧ ∀ k, u.ownBlock = some k → W.heap.size ≤ k ∧ k < W'.heap.size := by
  obtain ⟨i0, hi0, hz0, hz1, hz2⟩ := info_parts infoAc
  have hown : (W.alloc (.cells #[] 61)).ownsRow W.heap.size 61 2 (.slice (some ⟨W.heap.size, 0, none⟩) 0 0) 0 [] := ⟨rfl, .inr ⟨W.heap.size, 0, #[], rfl, Nat.le_refl _, heap_alloc_new _ _, Nat.le_refl _, by unfold maxLen; omega, rfl, rfl⟩⟩
  obtain ⟨ad', c', e, hnil, hcap, hrow⟩ := hv.below (below_new W (.cells #[] 61))
  cases e
  cases ad with
  | none =>
    obtain ⟨hl0, rfl⟩ := hnil rfl
    have hl : l = [] := List.eq_nil_of_length_eq_zero hl0
    subst hl
    refine ⟨_, _, run_append_owned_none (P := Try.prog) (W.alloc (.cells #[] 61)) W.heap.size 45 45 61 i0 2 Try.underlying45 hi0 _ 0 [] hown, ⟨_, _, rfl, (fun e => by cases e), Nat.le_refl _, .inl rfl⟩, below_new _ _, fun k hk => by cases hk; exact ⟨Nat.le_refl _, by simp⟩⟩
  | some a =>
    obtain ⟨u, W', hrun, ho, hg, -, hu⟩ := run_append_own_at (P := Try.prog) (w := W.alloc (.cells #[] 61)) W.heap.size 45 45 61 i0 _ 2 16 Try.underlying45 hi0 hz0 hz1 hz2 rfl (by decide) _ 0 [] hown a l.length c (l.flatMap Ac.vals) (flat_length Ac.vals 2 Ac.len l) (fun j u hj => by
      rcases hrow with h | ⟨b, o, h2, h3⟩
      · subst h; simp at hj
      · cases h2
        rw [Addr.add_lit]
        exact h3 j u hj) (fun u hu => flatOneAc hu) (by unfold maxLen; omega) (by omega) (by simp)
    rw [Nat.zero_add, List.nil_append] at ho
    refine ⟨u, W', hrun, ?_, (below_new _ _).trans ((Below.refl _ _).grown hg (by simp) (by intro k hk; cases hk; exact Nat.le_refl _)), fun k hk => ?_⟩
    · obtain ⟨hl, ⟨h1, h2⟩ | ⟨g, cap, cur, h1, h2, h3, h4, h5, h6, h7⟩⟩ := ho
      · have hl0 : l = [] := List.eq_nil_of_length_eq_zero h2
        subst hl0
        rw [h1]
        exact RowSl.nil _ _
      · refine ⟨_, cap, h1, (fun e => by cases e), h4, .inr ⟨g, 0, rfl, fun q u hq => ?_⟩⟩
        have hql := (List.getElem?_eq_some_iff.1 hq).1
        rw [flat_length Ac.vals 2 Ac.len] at hql
        rw [Nat.zero_add]
        unfold World.cell?
        rw [h3]
        rw [← h7, List.getElem?_take_of_lt hql, Array.getElem?_toList] at hq
        simpa using hq
    · refine ⟨?_, ?_⟩
      · rcases hu with hu | hu
        · rw [hu] at hk; cases hk; exact Nat.le_refl _
        · rw [hu] at hk; simp at hk; omega
      · obtain ⟨-, ⟨h1, -⟩ | ⟨g, cap, cur, h1, -, h3, -⟩⟩ := ho
        · rw [h1] at hk; cases hk
        · rw [h1] at hk; cases hk; exact (Array.getElem?_eq_some_iff.1 h3).1

theorem ownsRow_below' {w w' : World} {B n size : Nat} {e : TypeId} {v : Value} {xs : List Value} (h : w.ownsRow B e size v n xs) (hb : Below w.heap.size w w') : w'.ownsRow B e size v n xs := by
  obtain ⟨hl, h | ⟨g, cap, cur, he, hB, hg, hr⟩⟩ := h
  · exact ⟨hl, .inl h⟩
  · exact ⟨hl, .inr ⟨g, cap, cur, he, hB, (hb.block g (Array.getElem?_eq_some_iff.1 hg).1).trans hg, hr⟩⟩
end Go.Proofs.Ytcmoehednkaehah
namespace Go.Proofs.Ytcmoehednkaehah
open Go.ChangeShapes Go.WideShapes Go.ChangeAt Go.RowKit

/- A run, wherever the acts lie. -/
def stJ (y : Lj) : Lj := { y with v := .slice none 0 0 }
def stE (e : En) : En := { e with x := stJ e.x }
def stX (x : Rs) : Rs := { x with es := x.es.map stE }

theorem st_at {x : Rs} {i : Nat} {e : En} (h : x.es[i]? = some e) : (stX x).es[i]? = some (stE e) := by unfold stX; simp [h]
theorem st_back {x : Rs} {i : Nat} {e : En} (h : (stX x).es[i]? = some e) : ∃ e0, x.es[i]? = some e0 ∧ e = stE e0 := by
  unfold stX at h
  dsimp only at h
  rw [List.getElem?_map] at h
  cases h0 : x.es[i]? with
  | none => rw [h0] at h; cases h
  | some e0 => rw [h0] at h; cases h; exact ⟨e0, rfl, rfl⟩

theorem st_x0 (l : List Lj) : x0 (l.map stJ) = stX (x0 l) := by
  unfold x0 stX
  dsimp only
  rw [List.map_map, List.map_map, List.length_map]
  rfl

theorem st_edge {x : Rs} {u v : Nat} (h : Edge (stX x) u v) : Edge x u v := by
  obtain ⟨e, m, h1, h2, h3⟩ := h
  obtain ⟨e0, k0, rfl⟩ := st_back h1
  exact ⟨e0, m, k0, h2, h3⟩
theorem st_edge' {x : Rs} {u v : Nat} (h : Edge x u v) : Edge (stX x) u v := by
  obtain ⟨e, m, h1, h2, h3⟩ := h
  exact ⟨stE e, m, st_at h1, h2, h3⟩
theorem st_reach {x : Rs} {u v : Nat} (h : Reach x u v) : Reach (stX x) u v := by
  induction h with
  | refl => exact .refl _
  | step h1 h2 ih => exact .step ih (st_edge' h2)

theorem st_ac {pr : Int} {tp : List Int} {x : Rs} {a : Nat → Int} (h : IsAc pr tp x a) : IsAc pr tp (stX x) a := by
  intro i e he
  obtain ⟨e0, k0, rfl⟩ := st_back he
  obtain ⟨q1, q2, q3, q4⟩ := h i e0 k0
  refine ⟨q1, q2, fun hp k hk => q3 hp k (st_edge hk), ?_⟩
  rcases q4 with q | q | ⟨hp, k, e', h1, h2, h3⟩
  · exact .inl q
  · exact .inr (.inl q)
  · exact .inr (.inr ⟨hp, k, stE e', st_at h1, st_reach h2, h3⟩)

theorem st_wAc (es : List En) (a : Nat → Int) : wAc (es.map stE) a = (wAc es a).map stE := by
  apply List.ext_getElem?
  intro i
  rw [List.getElem?_map]
  cases h : es[i]? with
  | none => rw [wAc_none h, wAc_none (show (es.map stE)[i]? = none by simp [h])]; rfl
  | some e => rw [wAc_at h, wAc_at (show (es.map stE)[i]? = some (stE e) by simp [h])]; rfl

theorem st_elig {x : Rs} {now : Int} {i : Nat} : Elig (stX x) now i ↔ Elig x now i := by
  constructor
  · rintro ⟨e, h1, h2, h3, h4⟩
    obtain ⟨e0, k0, rfl⟩ := st_back h1
    exact ⟨e0, k0, h2, h3, h4⟩
  · rintro ⟨e, h1, h2, h3, h4⟩
    exact ⟨stE e, st_at h1, h2, h3, h4⟩
theorem st_bf {x : Rs} {i j : Nat} (h : bfR x i j) : bfR (stX x) i j := by
  intro e g h1 h2
  obtain ⟨e0, k0, rfl⟩ := st_back h1
  obtain ⟨g0, k1, rfl⟩ := st_back h2
  exact h e0 g0 k0 k1
theorem st_best {x : Rs} {now f : Int} {n : Nat} (h : Best x now n f) : Best (stX x) now n f := by
  rcases h with ⟨h1, h2⟩ | ⟨i, h1, h2, h3, h4⟩
  · exact .inl ⟨h1, fun i hi q => h2 i hi (st_elig.1 q)⟩
  · exact .inr ⟨i, h1, h2, st_elig.2 h3, fun j hj hji q => st_bf (h4 j hj hji (st_elig.1 q))⟩
theorem st_fst {pr : Int} {tp : List Int} {n : Nat} {x : Rs} {now f : Int} (h : Fst pr tp n x now f) : Fst pr tp n (stX x) now f := by
  obtain ⟨a, h1, h2⟩ := h
  refine ⟨a, st_ac h1, ?_⟩
  have := st_best h2
  unfold stX at this ⊢
  dsimp only at this ⊢
  rw [st_wAc]
  exact this

theorem st_un (m : Int) (es : List En) : (es.map stE).map (unF m) = (es.map (unF m)).map stE := by
  rw [List.map_map, List.map_map]
  refine List.map_congr_left (fun e _ => ?_)
  show unF m (stE e) = stE (unF m e)
  unfold unF
  show (if e.wt = m then _ else _) = _
  split <;> rfl
theorem st_un1 (m : Int) (e : En) : unF m (stE e) = stE (unF m e) := by
  unfold unF
  show (if e.wt = m then _ else _) = _
  split <;> rfl
theorem st_end (es : List En) (en ws hs : List Int) (i : Nat) (e : En) (t : Int) : endF ⟨es.map stE, en, ws, hs⟩ i (stE e) t = stX (endF ⟨es, en, ws, hs⟩ i e t) := by
  unfold endF stX
  dsimp only
  rw [List.map_set]
  rfl

theorem st_act {x z : Rs} {i : Nat} {now : Int} {b : Bool} (h : actF x i now = some (b, z)) : actF (stX x) i now = some (b, stX z) := by
  have hsn : ∀ (es : List En) (e : En), (es.map stE).set i (stE e) = (es.set i e).map stE := fun es e => by rw [List.map_set]
  unfold actF at h ⊢
  cases he : x.es[i]? with
  | none => rw [he] at h; cases h
  | some e =>
    rw [st_at he]
    rw [he] at h
    dsimp only at h ⊢
    rw [show (stE e).x.acts = e.x.acts from rfl, show (stE e).nx = e.nx from rfl, show (stE e).rn = e.rn from rfl, show (stX x).hs = x.hs from rfl, show (stX x).en = x.en from rfl, show (stX x).ws = x.ws from rfl, show (stX x).es = x.es.map stE from rfl]
    have hb : ∀ e : En, begF (stE e) = stE (begF e) := fun _ => rfl
    by_cases h0 : e.x.acts.length = 0
    · rw [if_pos h0] at h ⊢
      cases h
      rw [hb, hsn]
      rfl
    rw [if_neg h0] at h ⊢
    cases ha : e.x.acts[e.nx]? with
    | none => rw [ha] at h; cases h
    | some a =>
      rw [ha] at h
      dsimp only at h ⊢
      by_cases h1 : a.d = 1
      · rw [if_pos h1] at h ⊢
        by_cases h2 : 0 ≤ e.rn
        · rw [if_pos h2] at h ⊢
          by_cases h3 : a.n ≤ 1000
          · rw [if_pos h3] at h ⊢
            by_cases h4 : e.rn + 1 = a.n
            · rw [if_pos h4] at h ⊢
              cases h
              have hq := st_end (x.es.set i { e with bg := true, rn := e.rn + 1 }) x.en x.ws x.hs i { e with bg := true, rn := e.rn + 1 } (now + 1)
              rw [← hsn] at hq
              exact congrArg (fun q => some (true, q)) hq
            · rw [if_neg h4] at h ⊢
              by_cases h5 : e.rn + 1 < a.n
              · rw [if_pos h5] at h ⊢
                cases h
                exact congrArg (fun q => some (true, (⟨q, x.en, x.ws, x.hs⟩ : Rs))) (hsn x.es { e with bg := true, rn := e.rn + 1 })
              · rw [if_neg h5] at h; cases h
          · rw [if_neg h3] at h; cases h
        · rw [if_neg h2] at h; cases h
      · rw [if_neg h1] at h ⊢
        by_cases h2 : 0 ≤ a.n
        · rw [if_pos h2] at h ⊢
          by_cases h3 : a.n < 4
          · rw [if_pos h3] at h ⊢
            by_cases h4 : a.d = 2
            · rw [if_pos h4] at h ⊢
              cases hh : x.hs[a.n.toNat]? with
              | none => rw [hh] at h; cases h
              | some z =>
                rw [hh] at h
                dsimp only at h ⊢
                by_cases h5 : z = -1
                · rw [if_pos h5] at h ⊢
                  cases h
                  rw [hb, hsn, st_end]
                · rw [if_neg h5] at h ⊢
                  cases h
                  exact congrArg (fun q => some (false, (⟨q, x.en, x.ws, x.hs⟩ : Rs))) (hsn x.es { e with bg := true, wt := a.n })
            · rw [if_neg h4] at h ⊢
              by_cases h5 : a.d = 3
              · rw [if_pos h5] at h ⊢
                cases h
                rw [hb, hsn, st_un, st_un1, st_end]
              · rw [if_neg h5] at h; cases h
          · rw [if_neg h3] at h; cases h
        · rw [if_neg h2] at h; cases h

theorem st_beg {pr : Int} {tp : List Int} {n : Nat} {now f : Int} {x y : Rs} (h : Beg pr tp n now x f y) : Beg pr tp n now (stX x) f (stX y) := by
  induction h with
  | none h => exact .none (st_fst h)
  | work h h1 => exact .work (st_fst h) (st_act h1)
  | more h h1 _ ih => exact .more (st_fst h) (st_act h1) ih

theorem st_bump : ∀ (es : List En) (ws : List Int), bumpF (es.map stE) ws = bumpF es ws
  | [], _ => rfl
  | _ :: _, [] => rfl
  | e :: r, z :: q => by
    rw [List.map_cons, bumpF, bumpF, st_bump r q]
    rfl
theorem st_stuck (t : Int) : ∀ (es : List En) (en : List Int) (b : Bool), stuckF t (es.map stE) en b = stuckF t es en b
  | [], _, _ => rfl
  | _ :: _, [], _ => rfl
  | e :: r, z :: q, b => by
    rw [List.map_cons, stuckF, stuckF, st_stuck t r q b, st_stuck t r q true]
    rfl

theorem st_topL (m : Int) : ∀ (l : List Lj) (z : Int), topL m (l.map stJ) z = topL m l z
  | [], _ => rfl
  | y :: r, z => by
    rw [List.map_cons, topL, topL, st_topL m r]
    rfl
theorem st_tops (l : List Lj) : topsF (l.map stJ) = topsF l := by
  unfold topsF
  rw [st_topL, st_topL, st_topL, st_topL]

theorem st_run {pr : Int} {l : List Lj} {k : Nat} {runs : List Int} {x : Rs} (h : Rn pr l k runs x) : Rn pr (l.map stJ) k runs (stX x) := by
  induction h with
  | zero => rw [← st_x0]; exact .zero
  | more h h1 ih =>
    rename_i k runs x z f
    have hb := st_beg h1
    have := Rn.more ih (by rw [st_tops, List.length_map]; exact hb)
    rw [show (stX z).es = z.es.map stE from rfl, st_bump] at this
    exact this

/-- The same jobs, wherever their acts lie, run alike. -/
theorem Rn_core {pr : Int} {l js : List Lj} {k : Nat} {runs runs' : List Int} {x x' : Rs} (hc : js.map Lj.core = l.map Lj.core) (h : Rn pr js k runs x) (h' : Rn pr l k runs' x') : runs = runs' ∧ x.en = x'.en ∧ x.ws = x'.ws ∧ ∀ t, stuckF t x.es x.en false = stuckF t x'.es x'.en false := by
  have hl : js.map stJ = l.map stJ := by
    have : ∀ (a b : List Lj), a.map Lj.core = b.map Lj.core → a.map stJ = b.map stJ := by
      intro a
      induction a with
      | nil => intro b h; cases b with
        | nil => rfl
        | cons y r => simp at h
      | cons y r ih => intro b h; cases b with
        | nil => simp at h
        | cons y' r' =>
          simp only [List.map_cons, List.cons.injEq] at h ⊢
          refine ⟨?_, ih r' h.2⟩
          obtain ⟨ya, yp, yacts, yv⟩ := y
          obtain ⟨za, zp, zacts, zv⟩ := y'
          have h1 := h.1
          simp only [Lj.core, Prod.mk.injEq] at h1
          obtain ⟨rfl, rfl, rfl⟩ := h1
          rfl
    exact this js l hc
  have h1 := st_run h
  have h2 := st_run h'
  rw [hl] at h1
  obtain ⟨rfl, h3⟩ := h1.one h2
  unfold stX at h3
  simp only [Rs.mk.injEq] at h3
  refine ⟨rfl, h3.2.1, h3.2.2.1, fun t => ?_⟩
  rw [← st_stuck t x.es, ← st_stuck t x'.es, h3.1, h3.2.1]
end Go.Proofs.Ytcmoehednkaehah
