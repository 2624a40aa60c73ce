import Derived.Test.YtekbkcgpjkecbalTT
import Derived.LaidMore
import Derived.ChangeArms
import Derived.OpenShut
import Derived.Test.YtekbkcgpjkecbalZE
import Derived.Test.YtekbkcgpjkecbalKC
import Derived.Test.YtekbkcgpjkecbalJJ
import Derived.WideKeyArgs
import Derived.Deep.DeepHandedRow
namespace Go.Proofs.Ytekbkcgpjkecbal
open Go.ChangeShapes Go.WideShapes Go.ChangeAt Go.RowKit

theorem cells3 : Try.prog.cellsOf 3 = 1 := by kernel_rfl
theorem cells9 : Try.prog.cellsOf 9 = 1 := by kernel_rfl
theorem cells32 : Try.prog.cellsOf 49 = 7 := by kernel_rfl

section
variable {H : Type} {enc : TypeId × Value → H} {w : World} {sp : Nat → Bool} {held : Bool}

/-- A cell that is there lies at a plain address. -/
theorem plain_addr {w : World} {a : Addr} {v : Value} (h : w.cell? a = some v) : a = ⟨a.block, a.off, none⟩ := by
  obtain ⟨b, o, s⟩ := a
  cases s with
  | none => rfl
  | some x =>
    exfalso
    unfold World.cell? at h
    simp at h
    split at h <;> simp_all

theorem add_plain' (g o n : Nat) : (⟨g, o, none⟩ : Addr).add n = ⟨g, o + n, none⟩ := by
  unfold Addr.add
  by_cases h : n = 0
  · subst h; rfl
  · simp [h]

theorem cells_at {g o n : Nat} {cs : List Value} (h : w.cells? 0 ⟨g, o, none⟩ n = some cs) : cs.length = n ∧ ∀ i, i < n → w.cell? ⟨g, o + i, none⟩ = cs[i]? := by
  obtain ⟨-, h1, h2⟩ := World.cells?_some h
  refine ⟨h1, fun i hi => ?_⟩
  rw [← h2 i hi, add_plain']

/-- A task that can be read. -/
theorem ta_one {n : Nat} {cs : List Value} {y : DataW H × List MemPlace} (hl : cs.length = 7) (h : DataW.trod enc Try.prog w 0 sp held n 49 cs = some y) : ∃ x : Ta, cs = x.vals ∧ x.nm.size ≤ maxLen ∧ y.1 = .agg [.lit (.string x.nm.data.toList), .lit (.int .i64 x.c), .lit (.int .i64 x.t), .lit (.int .i64 x.d), .lit (.int .i64 x.j), .lit (.int .i64 x.o), .lit (.int .i64 x.p)] := by
  match cs, hl with
  | [c0, c1, c2, c3, c4, c5, c6], _ =>
    obtain ⟨xs, n1, rfl, hy, -, hlen, hf⟩ := DataW.trod_struct Try.underlying49 h
    match xs, hlen with
    | [y0, y1, y2, y3, y4, y5, y6], _ =>
      have f0 : DataW.trod enc Try.prog w 0 sp held n1 9 ((([c0, c1, c2, c3, c4, c5, c6] : List Value).drop 0).take (Try.prog.cellsOf 9)) = some y0 := hf 0 _ rfl
      have f1 : DataW.trod enc Try.prog w 0 sp held n1 3 ((([c0, c1, c2, c3, c4, c5, c6] : List Value).drop 1).take (Try.prog.cellsOf 3)) = some y1 := hf 1 _ rfl
      have f2 : DataW.trod enc Try.prog w 0 sp held n1 3 ((([c0, c1, c2, c3, c4, c5, c6] : List Value).drop 2).take (Try.prog.cellsOf 3)) = some y2 := hf 2 _ rfl
      have f3 : DataW.trod enc Try.prog w 0 sp held n1 3 ((([c0, c1, c2, c3, c4, c5, c6] : List Value).drop 3).take (Try.prog.cellsOf 3)) = some y3 := hf 3 _ rfl
      have f4 : DataW.trod enc Try.prog w 0 sp held n1 3 ((([c0, c1, c2, c3, c4, c5, c6] : List Value).drop 4).take (Try.prog.cellsOf 3)) = some y4 := hf 4 _ rfl
      have f5 : DataW.trod enc Try.prog w 0 sp held n1 3 ((([c0, c1, c2, c3, c4, c5, c6] : List Value).drop 5).take (Try.prog.cellsOf 3)) = some y5 := hf 5 _ rfl
      have f6 : DataW.trod enc Try.prog w 0 sp held n1 3 ((([c0, c1, c2, c3, c4, c5, c6] : List Value).drop 6).take (Try.prog.cellsOf 3)) = some y6 := hf 6 _ rfl
      rw [cells3] at f1 f2 f3 f4 f5 f6
      rw [cells9] at f0
      obtain ⟨k0, e0, g0, hm⟩ := DataW.trod_string Try.underlying9 (show DataW.trod enc Try.prog w 0 sp held n1 9 [c0] = some y0 from f0)
      obtain ⟨k1, e1, g1, -⟩ := DataW.trod_int Try.underlying3 (show DataW.trod enc Try.prog w 0 sp held n1 3 [c1] = some y1 from f1)
      obtain ⟨k2, e2, g2, -⟩ := DataW.trod_int Try.underlying3 (show DataW.trod enc Try.prog w 0 sp held n1 3 [c2] = some y2 from f2)
      obtain ⟨k3, e3, g3, -⟩ := DataW.trod_int Try.underlying3 (show DataW.trod enc Try.prog w 0 sp held n1 3 [c3] = some y3 from f3)
      obtain ⟨k4, e4, g4, -⟩ := DataW.trod_int Try.underlying3 (show DataW.trod enc Try.prog w 0 sp held n1 3 [c4] = some y4 from f4)
      obtain ⟨k5, e5, g5, -⟩ := DataW.trod_int Try.underlying3 (show DataW.trod enc Try.prog w 0 sp held n1 3 [c5] = some y5 from f5)
      obtain ⟨k6, e6, g6, -⟩ := DataW.trod_int Try.underlying3 (show DataW.trod enc Try.prog w 0 sp held n1 3 [c6] = some y6 from f6)
      simp only [List.cons.injEq, and_true] at e0 e1 e2 e3 e4 e5 e6
      refine ⟨⟨k0, k1, k2, k3, k4, k5, k6⟩, by rw [e0, e1, e2, e3, e4, e5, e6]; rfl, hm, ?_⟩
      rw [hy, g0, g1, g2, g3, g4, g5, g6]
      rfl

theorem ta_row {n : Nat} (g : Nat) : ∀ (elems : List (DataW H × List MemPlace)) (o : Nat),
    (∀ i, i < elems.length → (w.cells? 0 ⟨g, o + i * 7, none⟩ 7).bind (DataW.trod enc Try.prog w 0 sp held n 49) = elems[i]?) →
    ∃ l : List Ta, l.length = elems.length ∧ (∀ x ∈ l, x.nm.size ≤ maxLen) ∧ ∀ q u, (l.flatMap Ta.vals)[q]? = some u → w.cell? ⟨g, o + q, none⟩ = some u
  | [], o, _ => ⟨[], rfl, fun x hx => by simp at hx, fun q u hq => by simp at hq⟩
  | y :: r, o, h => by
    have h0 := h 0 (by simp)
    simp only [Nat.zero_mul, Nat.add_zero, List.getElem?_cons_zero] at h0
    obtain ⟨cs, hc, ht⟩ := Option.bind_eq_some_iff.1 h0
    obtain ⟨hlen, hcell⟩ := cells_at hc
    obtain ⟨x, rfl, hm, -⟩ := ta_one hlen ht
    obtain ⟨l, hl, hms, hrow⟩ := ta_row g r (o + 7) (fun i hi => by
      have := h (i + 1) (by simp; omega)
      rw [show o + (i + 1) * 7 = o + 7 + i * 7 by omega] at this
      simpa using this)
    refine ⟨x :: l, by simp [hl], fun z hz => ?_, fun q u hq => ?_⟩
    · rcases List.mem_cons.1 hz with rfl | hz
      · exact hm
      · exact hms z hz
    · rw [List.flatMap_cons] at hq
      by_cases h7 : q < 7
      · rw [List.getElem?_append_left (by rw [Ta.len]; exact h7)] at hq
        rw [hcell q h7]
        exact hq
      · rw [List.getElem?_append_right (by rw [Ta.len]; omega), Ta.len] at hq
        have := hrow (q - 7) u hq
        rw [show o + 7 + (q - 7) = o + q by omega] at this
        exact this

/-- A slice of tasks that can be read. -/
theorem taSl_of_trod {ad : Option Addr} {n c : Nat} {d : DataW H} {ps : List MemPlace} (h : DataW.Trod enc Try.prog w 0 sp held 22 (.slice ad n c) d ps) : ∃ l : List Ta, n = l.length ∧ (∀ x ∈ l, x.nm.size ≤ maxLen) ∧ RowSl Ta.vals w l (.slice ad n c) := by
  obtain ⟨q, hq⟩ := h
  have hcs : (Value.slice ad n c).cells.toList = [.slice ad n c] := rfl
  rw [hcs] at hq
  rcases DataW.trod_slice Try.underlying22 hq with ⟨h1, -⟩ | ⟨a, len, cap, elems, rest, n2, -, h1, -, -, hlc, -, hle, hel, -, -⟩
  · simp only [List.cons.injEq, and_true, Value.slice.injEq] at h1
    obtain ⟨rfl, rfl, rfl⟩ := h1
    exact ⟨[], rfl, (fun x hx => by simp at hx), RowSl.nil _ _⟩
  · simp only [List.cons.injEq, and_true, Value.slice.injEq] at h1
    obtain ⟨rfl, rfl, rfl⟩ := h1
    subst hle
    simp only [cells32] at hel
    cases elems with
    | nil => exact ⟨[], rfl, (fun x hx => by simp at hx), ⟨_, _, rfl, (fun e => by cases e), Nat.zero_le _, .inl rfl⟩⟩
    | cons z r =>
      have hz := hel 0 (by simp)
      obtain ⟨cs0, hc0, ht0⟩ := Option.bind_eq_some_iff.1 hz
      obtain ⟨-, hlen0, hpl⟩ := World.cells?_some hc0
      obtain ⟨x, rfl, -⟩ := ta_one hlen0 (by simpa using ht0)
      have hpa := plain_addr (w := w) (a := a) (v := .string x.nm) (by simpa [Addr.add, Ta.vals] using hpl 0 (by omega))
      obtain ⟨l, hl, hms, hrow⟩ := ta_row (n := n2) a.block (z :: r) a.off (fun i hi => by
        have := hel i hi
        rw [hpa, add_plain'] at this
        exact this)
      exact ⟨l, hl.symm, hms, ⟨some a, c, by rw [hl], (fun e => by cases e), by omega, .inr ⟨a.block, a.off, by rw [← hpa], hrow⟩⟩⟩
end

end Go.Proofs.Ytekbkcgpjkecbal
namespace Go.Proofs.Ytekbkcgpjkecbal
open Go.ChangeShapes Go.WideShapes Go.ChangeAt Go.RowKit

theorem jobsFrom_zero {l : List Ta} : ∀ (cs : List Co) (acc : List Jb) (la tk : List Int) (i : Nat), (jobsFrom l acc cs la tk i).1.1 = 0 → (jobsFrom l acc cs la tk i).1 = (0, 0)
  | [], acc, la, tk, i, _ => by rw [jobsFrom_end]
  | c :: cs, acc, [], tk, i, _ => by simp [jobsFrom]
  | c :: cs, acc, a :: la, [], i, _ => by simp [jobsFrom]
  | c :: cs, acc, a :: la, b :: tk, i, h => by
    rw [jobsFrom] at h ⊢
    cases e : jobOne l c a b with
    | none => rw [e] at h; cases h
    | some x => rw [e] at h; exact jobsFrom_zero cs _ la tk (i + 1) h

theorem jobsF_zero {l : List Ta} {cs : List Co} {la tk : List Int} (h : (jobsF l cs la tk).1.1 = 0) : (jobsF l cs la tk).1 = (0, 0) := by
  unfold jobsF at h ⊢
  by_cases h0 : (legF l cs).1 ≠ 0
  · rw [if_pos h0] at h; exact absurd h h0
  · rw [if_neg h0] at h ⊢
    by_cases h1 : la.length ≠ cs.length ∨ tk.length ≠ cs.length
    · rw [if_pos h1] at h; cases h
    · rw [if_neg h1] at h ⊢; exact jobsFrom_zero cs [] la tk 0 h

theorem s8chk_ok : ∀ (js : List Jb) (k : Nat), (∀ x ∈ js, S8.okJ x) → S8.chkFrom js k = (0, 0)
  | [], k, _ => rfl
  | x :: r, k, h => by
    have h0 := h x List.mem_cons_self
    unfold S8.okJ at h0
    unfold S8.chkFrom
    rw [if_pos h0]
    exact s8chk_ok r (k + 1) (fun y hy => h y (List.mem_cons_of_mem _ hy))

theorem jobs_okJ {l : List Ta} {cs : List Co} {la tk : List Int} {js : List Jb} (h : jobsF l cs la tk = ((0, 0), js)) : ∀ x ∈ js, S8.okJ x := by
  obtain ⟨hleg, hjl, hje⟩ := jobsF_ok h
  have hlk := legF_ok hleg
  have hst := (chkF_ok hlk.1).2.2
  intro x hx
  obtain ⟨i, hi, rfl⟩ := List.getElem_of_mem hx
  have hi' : i < cs.length := by omega
  obtain ⟨a, b, e, a1, a2, b1, b2⟩ := hje i cs[i] (by simp [hi'])
  have hk := hlk.2.2 cs[i] (List.getElem_mem hi')
  obtain ⟨g1, g2, g3, g4, g5, g6, g7, g8, -, -⟩ := stands_t (stands_mem hst (k := cs[i].k.toNat) (by omega))
  have e' : js[i] = _ := Option.some.inj ((List.getElem?_eq_getElem hi).symm.trans e)
  rw [e']
  have u1 : (l.getD cs[i].k.toNat ta0).j ≤ 10000 := g8
  have u2 : (l.getD cs[i].k.toNat ta0).c ≤ 10000 := g4
  have u3 : 1 ≤ (l.getD cs[i].k.toNat ta0).d := g5
  have u4 : (l.getD cs[i].k.toNat ta0).d ≤ 10000 := g6
  unfold S8.okJ
  dsimp only
  omega

theorem chkJ_jobs {js : List Jb} (h : ∀ x ∈ js, S8.okJ x) (hl : js.length ≤ 4000) : (S8.chkJ js).1 = 0 := by
  unfold S8.chkJ
  rw [if_neg (by omega), s8chk_ok js 0 h]

/- Faults that lie gap apart. -/
def GapTo (fs : List Int) (gap : Int) (k : Nat) : Prop := ∀ j x, j < k → fs[j]? = some x → 0 ≤ x ∧ x ≤ 20000 ∧ ∀ i p, j = i + 1 → fs[i]? = some p → gap ≤ x - p

theorem GapTo.pair {fs : List Int} {gap : Int} (h : GapTo fs gap fs.length) (hg : 1 ≤ gap) : ∀ (d i : Nat) (x y : Int), fs[i]? = some x → fs[i + 1 + d]? = some y → x + gap ≤ y
  | 0, i, x, y, hx, hy => by
    have := (h (i + 1) y (List.getElem?_eq_some_iff.1 hy).1 hy).2.2 i x rfl hx
    omega
  | d + 1, i, x, y, hx, hy => by
    have hl := (List.getElem?_eq_some_iff.1 hy).1
    obtain ⟨z, hz⟩ : ∃ z, fs[i + 1 + d]? = some z := ⟨_, List.getElem?_eq_getElem (show i + 1 + d < fs.length by omega)⟩
    have h1 := h.pair hg d i x z hx hz
    have h2 := (h (i + 1 + (d + 1)) y hl hy).2.2 (i + 1 + d) z rfl hz
    omega

theorem GapTo.rise {fs : List Int} {gap : Int} (h : GapTo fs gap fs.length) (hg : 1 ≤ gap) : fs.Pairwise (· < ·) := by
  rw [List.pairwise_iff_getElem]
  intro i j hi hj hij
  have := h.pair hg (j - i - 1) i fs[i] fs[j] (by simp [hi]) (by rw [show i + 1 + (j - i - 1) = j by omega]; simp [hj])
  omega

theorem GapTo.apart {fs : List Int} {gap : Int} (h : GapTo fs gap fs.length) (hg : 1 ≤ gap) : ∀ t u : Nat, t < u → decide ((t : Int) ∈ fs) = true → decide ((u : Int) ∈ fs) = true → (t : Int) + gap ≤ u := by
  intro t u htu ht hu
  obtain ⟨i, hi, ei⟩ := List.getElem_of_mem (of_decide_eq_true ht)
  obtain ⟨j, hj, ej⟩ := List.getElem_of_mem (of_decide_eq_true hu)
  have xi : fs[i]? = some (t : Int) := by rw [← ei]; simp [hi]
  have xj : fs[j]? = some (u : Int) := by rw [← ej]; simp [hj]
  rcases Nat.lt_trichotomy i j with hij | hij | hij
  · exact h.pair hg (j - i - 1) i _ _ xi (by rw [show i + 1 + (j - i - 1) = j by omega]; exact xj)
  · subst hij
    rw [xi] at xj
    have := Option.some.inj xj
    omega
  · have := h.pair hg (i - j - 1) j _ _ xj (by rw [show j + 1 + (i - j - 1) = i by omega]; exact xi)
    omega

/-- What Response says OK of. -/
def RdOk (l : List Ta) (i : Nat) (gap sp v : Int) : Prop := (chkX l).1 = 0 ∧ i < l.length ∧ 1 ≤ gap ∧ 0 ≤ sp ∧ ∃ wn : Nat, v = (wn : Int) + (Tk l i).j ∧ 1 ≤ wn ∧ (wn : Int) + (Tk l i).j ≤ (Tk l i).d ∧ askR l i gap sp (wn : Int) = (wn : Int)

theorem rdF_ok {l : List Ta} {i : Nat} {gap sp v zb : Int} (h : rdF l (i : Int) gap sp = (v, (0, zb))) : RdOk l i gap sp v := by
  unfold rdF at h
  by_cases h0 : (responseF l (i : Int) 0).2.1 = 0
  rotate_left 1
  · rw [if_pos h0] at h
    simp at h
    exact absurd (by rw [h.2]) h0
  rw [if_neg (by simpa using h0)] at h
  obtain ⟨n, w0, hin, hn, hX, -⟩ := rd_start h0
  have hin' : i = n := by omega
  subst hin'
  by_cases h1 : within gap 1 20000 = false ∨ within sp 0 10000 = false
  · rw [if_pos h1] at h; simp at h
  rw [if_neg h1] at h
  have g1 : within gap 1 20000 = true := by cases e : within gap 1 20000 <;> simp_all
  have g2 : within sp 0 10000 = true := by cases e : within sp 0 10000 <;> simp_all
  unfold within at g1 g2
  simp at g1 g2
  rw [Int.toNat_natCast] at h
  by_cases h2 : wOf (askR l i gap sp) (Tk l i).j (Tk l i).d = 0
  · rw [if_pos h2] at h; simp at h
  rw [if_neg h2] at h
  obtain ⟨w, k1, k2, k3, -, k5⟩ := wOf_some h2
  obtain ⟨wn, rfl⟩ : ∃ wn : Nat, w = (wn : Int) := ⟨w.toNat, by omega⟩
  simp at h
  exact ⟨hX, hn, by omega, by omega, wn, by rw [← h.1]; exact k5, by omega, k2, k3⟩

theorem redo_pureI {l : List Ta} {cs : List Co} {la tk fs : List Int} {js : List Jb} {N ik : Nat} {gap sp v : Int} {s : S8.StR} (hw : RdOk l ik gap sp v) (hg : GapTo fs gap fs.length) (hj : jobsF l cs la tk = ((0, 0), js))
    (hN : ∀ c ∈ cs, c.a + (Tk l c.k.toNat).d ≤ (N : Int)) (hok : ∀ x ∈ js, S8.okJ x) (hP : S8.PlaysR js sp (fun t => decide ((t : Int) ∈ fs)) N s) :
    ∀ (i : Nat) (c : Co), cs[i]? = some c → c.k = (ik : Int) → ∃ e, s.s.ends[i]? = some e ∧ 1 ≤ e ∧ e - c.a ≤ v ∧ e ≤ 30000 ∧ 0 ≤ c.a ∧ c.a ≤ 20000 := by
  obtain ⟨hX, hik, hgp, hsp, wn, rfl, w1, w2, w3⟩ := hw
  intro i c hc hk
  obtain ⟨e, e1, e2, e3⟩ := redo_pure hX hik hgp hsp w1 w2 w3 (hg.apart hgp) hj hN hok hP i c hc hk
  obtain ⟨-, -, -, -, hst, -⟩ := chkX_ok hX
  obtain ⟨g1, g2, g3, g4⟩ := (legF_ok (jobsF_ok hj).1).2.2 c (List.mem_of_getElem? hc)
  have hd := (stands_t (stands_mem hst (k := ik) (by omega))).2.2.2.2.2.1
  exact ⟨e, e1, e2, e3, by omega, g3, g4⟩

theorem field_F (W : World) (a b : Int) : (Instr.field 30 (.agg #[.int .i64 a, .int .i64 b]) 0).run Try.prog W = .ok (.int .i64 a) W := by kernel_rfl

set_option maxRecDepth 20000 in
set_option maxHeartbeats 8000000 in
theorem redo_walk (w : World) (l : List Ta) (gap sp : Int) (cs : List Co) (la tk fs : List Int) (v v2 v3 v4 v5 : Value) (hv : RowSl Ta.vals w l v) (hv2 : RowSl Co.vals w cs v2) (hv3 : RowSl nuV w la v3) (hv4 : RowSl nuV w tk v4) (hv5 : RowSl nuV w fs v5) :
    Calls Try.prog 3 #[v, .int .i64 gap, .int .i64 sp, v2, v3, v4, v5] w fun r w' => r = .returned (.bool true) ∧ Below w.heap.size w w' := by
  obtain ⟨ad, c, rfl⟩ := hv.len
  obtain ⟨ad2, c2, rfl⟩ := hv2.len
  obtain ⟨ad3, c3, rfl⟩ := hv3.len
  obtain ⟨ad4, c4, rfl⟩ := hv4.len
  obtain ⟨ad5, c5, rfl⟩ := hv5.len
  have HV : Hid (RowSl Ta.vals w l (.slice ad l.length c) ∧ RowSl Co.vals w cs (.slice ad2 cs.length c2) ∧ RowSl nuV w la (.slice ad3 la.length c3) ∧ RowSl nuV w tk (.slice ad4 tk.length c4) ∧ RowSl nuV w fs (.slice ad5 fs.length c5)) := ⟨hv, hv2, hv3, hv4, hv5⟩
  clear hv hv2 hv3 hv4 hv5
  go_enter Try.func3, Try.ntmps3
  go_wp2_with (go_at_call 4; refine (S8.anew_any _).mono ?_; rintro r w2 ⟨rfl, hb2⟩; have H2 : Hid (Below w.heap.size w w2) := hb2; clear hb2)
  by_cases hl : l.length ≤ 5000
  rotate_left 1
  · have hl' : decide ((l.length : Int) ≤ 5000) = false := by simp; omega
    go_wp2_with (go_at_call 5; refine (few_any _ _).mono ?_; rintro r w5 ⟨rfl, rfl⟩; rw [hl'])
    go_ret
    exact ⟨rfl, H2.out⟩
  have hl' : decide ((l.length : Int) ≤ 5000) = true := by simp; omega
  by_cases hl2 : cs.length ≤ 5000
  rotate_left 1
  · have hl2' : decide ((cs.length : Int) ≤ 5000) = false := by simp; omega
    go_wp2_with (go_at_call 5; refine (few_any _ _).mono ?_; rintro r w5 ⟨rfl, rfl⟩; first | rw [hl'] | rw [hl2'])
    go_ret
    exact ⟨rfl, H2.out⟩
  have hl2' : decide ((cs.length : Int) ≤ 5000) = true := by simp; omega
  by_cases hl3 : fs.length ≤ 1000
  rotate_left 1
  · have hl3' : (1000 : Int) < (fs.length : Int) := by omega
    go_wp2_with (go_at_call 5; refine (few_any _ _).mono ?_; rintro r w5 ⟨rfl, rfl⟩; first | rw [hl'] | rw [hl2'])
    go_ret
    exact ⟨rfl, H2.out⟩
  have hl3' : ¬ (1000 : Int) < (fs.length : Int) := by omega
  go_wp2_with (go_at_call 5; refine (few_any _ _).mono ?_; rintro r w5 ⟨rfl, rfl⟩; first | rw [hl'] | rw [hl2'])
  have A11 := fun W (hb : Below w.heap.size w W) => Jobs_any W l cs la tk _ _ _ _ (HV.out.1.below hb) (HV.out.2.1.below hb) (HV.out.2.2.1.below hb) (HV.out.2.2.2.1.below hb)
  obtain ⟨g1, g2, js, EJ⟩ : ∃ g1 g2 js, jobsF l cs la tk = ((g1, g2), js) := ⟨_, _, _, rfl⟩
  rw [EJ] at A11
  dsimp only at A11
  have EE : Hid (jobsF l cs la tk = ((g1, g2), js)) := EJ
  clear EJ
  by_cases hg : g1 = 0
  rotate_left 1
  · have hgb : (g1 != 0) = true := by simpa using hg
    go_wp2_with (go_at_call 6; refine (A11 _ (by first | exact H2.out | exact below_seq H2.out (below_new _ _))).mono ?_; rintro r w7 ⟨u7, rfl, ho7, hb7⟩; obtain ⟨a7, c7, rfl⟩ := owns_value ho7; have H7 : Hid (Below w.heap.size w w7 ∧ RowSl Jb.vals w7 js (.slice a7 js.length c7)) := ⟨below_seq H2.out hb7, rowOf_own ho7⟩; clear hb7 ho7 A11 H2)
    go_ret
    exact ⟨rfl, below_seq H7.out.1 (below_new _ _)⟩
  subst hg
  have EJ := EE.out
  have eg2 : g2 = 0 := by
    have := jobsF_zero (l := l) (cs := cs) (la := la) (tk := tk) (by rw [EJ])
    rw [EJ] at this
    simpa using this
  subst eg2
  obtain ⟨hleg, hjl, -⟩ := jobsF_ok EJ
  have hlk := legF_ok hleg
  obtain ⟨hl1, hl8, hst⟩ := chkF_ok hlk.1
  have A12 : Hid (∀ W, Below w.heap.size w W → Calls Try.prog 7 #[.slice ad l.length c, .slice ad2 cs.length c2] W fun r w' => r = .returned (.int .i64 (if 3000 < endF l cs 0 ∨ 300 < cs.length then -1 else endF l cs 0)) ∧ Below W.heap.size W w') := fun W hb => lasts_any W l cs _ _ hst hl1 hl2 hlk.2.2 (HV.out.1.below hb) (HV.out.2.1.below hb)
  have hE0 := (endF_ge (l := l) cs 0).1
  obtain ⟨N, hN⟩ : ∃ N : Nat, endF l cs 0 = (N : Int) := ⟨(endF l cs 0).toNat, by omega⟩
  have HNc : Hid ((∀ c ∈ cs, c.a + (Tk l c.k.toNat).d ≤ (N : Int)) ∧ endF l cs 0 = (N : Int)) := ⟨fun c hc => by rw [← hN]; exact (endF_ge (l := l) cs 0).2 c hc, hN⟩
  have HK : Hid ((∀ c ∈ cs, 0 ≤ c.k ∧ c.k < (l.length : Int) ∧ 0 ≤ c.a ∧ c.a ≤ 20000) ∧ js.length = cs.length ∧ (∀ x ∈ js, S8.okJ x) ∧ (S8.chkJ js).1 = 0 ∧ l.length ≤ 8) := ⟨hlk.2.2, hjl, jobs_okJ EJ, chkJ_jobs (jobs_okJ EJ) (by rw [hjl]; exact hlk.2.1), hl8⟩
  clear EJ hst hleg hlk hN hE0 hjl hl1 hl8
  go_wp2_with (go_at_call 6; refine (A11 _ (by first | exact H2.out | exact below_seq H2.out (below_new _ _))).mono ?_; rintro r w7 ⟨u7, rfl, ho7, hb7⟩; obtain ⟨a7, c7, rfl⟩ := owns_value ho7; have H7 : Hid (Below w.heap.size w w7 ∧ RowSl Jb.vals w7 js (.slice a7 js.length c7)) := ⟨below_seq H2.out hb7, rowOf_own ho7⟩; clear hb7 ho7 A11 H2)
  have H7' : Hid (FB w (w7.alloc (.cells #[.int .i64 0, .int .i64 0] 30)) w7.heap.size ∧ RowSl Jb.vals (w7.alloc (.cells #[.int .i64 0, .int .i64 0] 30)) js (.slice a7 js.length c7)) := ⟨⟨below_seq H7.out.1 (below_new _ _), heap_alloc_new _ _, H7.out.1.size⟩, H7.out.2.below (below_new _ _)⟩
  have k0 := (cells_of (l := [_, _]) H7'.out.1.res).1 0 _ rfl
  clear H7
  generalize w7.alloc (.cells #[.int .i64 0, .int .i64 0] 30) = wA at *
  go_loopw [56] (fun iv wr => ∃ k : Nat, k ≤ fs.length ∧ iv = .int .i64 (k : Int) ∧ wr = wA ∧ Hid (GapTo fs gap k)) (fun iv _ => fs.length - (intOf iv).toNat)
  case atStart => exact ⟨0, Nat.zero_le _, rfl, rfl, fun j x hj => by omega⟩
  case round =>
    obtain ⟨k, hk, rfl, rfl, HG⟩ := hrel
    by_cases hlt : k < fs.length
    · obtain ⟨x, hx, -⟩ := drop_at hlt
      have hki : (k : Int) < (fs.length : Int) := by omega
      obtain ⟨ad9, cc9, e9, -, hcap9, hrow9⟩ := HV.out.2.2.2.2
      cases e9
      rcases hrow9 with h | ⟨b5, o5, rfl, hrow5⟩
      · rw [h] at hlt; simp at hlt
      have cx := below_cell H7'.out.1.bel (S8.nuV_at hrow5 hx)
      have lbx : b5 < wr.heap.size := World.block_lt_of_cell? _ _ cx
      have HX : Hid (fs[k]? = some x) := hx
      clear hx
      by_cases n1 : x < 0
      · have n1b : decide (x < 0) = true := decide_eq_true n1
        go_wp2_with fail
        go_ret
        exact ⟨rfl, H7'.out.1.bel⟩
      by_cases n2 : 20000 < x
      · have n1b : decide (x < 0) = false := decide_eq_false n1
        have n2b : decide (20000 < x) = true := decide_eq_true n2
        go_wp2_with fail
        go_ret
        exact ⟨rfl, H7'.out.1.bel⟩
      have n1b : decide (x < 0) = false := decide_eq_false n1
      have n2b : decide (20000 < x) = false := decide_eq_false n2
      rcases k with _ | m
      · simp only [Nat.add_zero] at cx
        go_wp2_with fail
        refine ⟨⟨1, by omega, rfl, trivial, fun j y hj hy => ?_⟩, by simp [intOf]; omega⟩
        have hj0 : j = 0 := by omega
        subst hj0
        have e := HX.out
        rw [hy] at e
        have e' := Option.some.inj e
        subst e'
        exact ⟨by omega, by omega, fun i p h => by omega⟩
      · obtain ⟨p, hp⟩ : ∃ p, fs[m]? = some p := ⟨_, List.getElem?_eq_getElem (by omega)⟩
        obtain ⟨p0, p1, -⟩ := HG.out m p (by omega) hp
        have cp := below_cell H7'.out.1.bel (S8.nuV_at hrow5 hp)
        have hm0 : (0 : Int) < (m : Int) + 1 := by omega
        have hm3 : (0 : Int) ≤ (m : Int) + 1 := by omega
        have hm4 : ((m : Int) + 1).toNat = m + 1 := by omega
        have hmw : IntKind.i64.wrap ((m : Int) + 1 - 1) = (m : Int) := by rw [IntKind.wrap_i64]; omega
        have hmw2 : IntKind.i64.wrap (m : Int) = (m : Int) := by rw [IntKind.wrap_i64]; omega
        have hm1 : (m : Int) < (fs.length : Int) := by omega
        have hm2 : (m : Int) + 1 < (fs.length : Int) := by omega
        have hdw : IntKind.i64.wrap (x - p) = x - p := by rw [IntKind.wrap_i64]; omega
        have HPp : Hid (fs[m]? = some p) := hp
        clear hp hrow5
        by_cases n3 : x - p < gap
        · have n3b : decide (x - p < gap) = true := decide_eq_true n3
          go_wp2_with fail
          go_ret
          exact ⟨rfl, H7'.out.1.bel⟩
        · have n3b : decide (x - p < gap) = false := decide_eq_false n3
          go_wp2_with fail
          refine ⟨⟨m + 1 + 1, by omega, by simp, trivial, fun j y hj hy => ?_⟩, by simp [intOf]; omega⟩
          by_cases hjm : j < m + 1
          · exact HG.out j y hjm hy
          · have hje : j = m + 1 := by omega
            subst hje
            have e := HX.out
            rw [hy] at e
            have e' := Option.some.inj e
            refine ⟨by omega, by omega, fun i z h hz => ?_⟩
            have hi : i = m := by omega
            subst hi
            rw [HPp.out] at hz
            have := Option.some.inj hz
            omega
    · have hke : k = fs.length := by omega
      subst hke
      have A12' := A12.out _ H7'.out.1.bel
      rw [HNc.out.2] at A12'
      by_cases hz : 3000 < (N : Int) ∨ 300 < cs.length
      · rw [if_pos hz] at A12'
        go_wp2_with (go_at_call 7; refine A12'.mono ?_; rintro r w8 ⟨rfl, hb8⟩; have H8 : Hid (Below w.heap.size w w8) := below_seq H7'.out.1.bel hb8; clear hb8)
        go_ret
        exact ⟨rfl, H8.out⟩
      rw [if_neg hz] at A12'
      have hNn : ¬ (N : Int) < 0 := by omega
      go_upto_region 17 with (go_at_call 7; refine A12'.mono ?_; rintro r w8 ⟨rfl, hb8⟩; have H8 : Hid (FB w w8 w7.heap.size ∧ RowSl Jb.vals w8 js (.slice a7 js.length c7)) := ⟨H7'.out.1.grow hb8, H7'.out.2.below hb8⟩; clear hb8 A12')
      clear k0
      by_cases hf : (chkR js sp fs (N : Int)).1 = 0
      rotate_left 1
      · have A13 := S8.PlayR_bad w8 js sp fs (N : Int) _ _ H8.out.2 (HV.out.2.2.2.2.below H8.out.1.bel) hf
        have hbadc : sp < 0 ∨ 10000 < sp ∨ gap < 1 := by
          by_cases q1 : sp < 0
          · exact .inl q1
          by_cases q2 : 10000 < sp
          · exact .inr (.inl q2)
          by_cases q3 : gap < 1
          · exact .inr (.inr q3)
          exfalso
          apply hf
          have hr := HG.out.rise (by omega)
          rw [chkR_4 HK.out.2.2.2.1 (by unfold within; simp; omega) (by unfold within; simp; omega) (by omega), upR_rise hr, if_neg (by decide)]
        generalize (chkR js sp fs (N : Int)).1 = z1 at *
        generalize (chkR js sp fs (N : Int)).2 = z2 at *
        have hzb : (z1 != 0) = true := by simpa using hf
        have hfd := field_F
        go_upto_region 19 with (go_at_call 8; refine A13.mono ?_; rintro r w9 ⟨rfl, hb9⟩; have H9 : Hid (FB w w9 w7.heap.size ∧ True) := ⟨⟨below_seq H8.out.1.bel hb9, (hb9.block _ (Array.getElem?_eq_some_iff.1 H8.out.1.res).1).trans H8.out.1.res, H8.out.1.low⟩, trivial⟩; obtain ⟨ks, kf, kl⟩ := cells_of (l := [_, _]) H9.out.1.res; have f0 := ks 0 _ rfl; have f1 := ks 1 _ rfl; have ff0 := kf 0; have ff1 := kf 1; clear ks kf; clear hb9 A13)
        have bX : Below w.heap.size w (((w9.setCell ⟨w7.heap.size, 0, none⟩ (.int .i64 z1)).setCell ⟨w7.heap.size, 1, none⟩ (.int .i64 z2)).alloc (.cells #[.slice none 0 0, .slice none 0 0] 35)) := (H9.out.1.endA _ _ _).2
        have HbX : Hid (Below w.heap.size w (((w9.setCell ⟨w7.heap.size, 0, none⟩ (.int .i64 z1)).setCell ⟨w7.heap.size, 1, none⟩ (.int .i64 z2)).alloc (.cells #[.slice none 0 0, .slice none 0 0] 35))) := bX
        clear bX
        by_cases q1 : sp < 0
        · have q1b : decide (sp < 0) = true := decide_eq_true q1
          go_wp2_with fail
          go_ret
          exact ⟨rfl, HbX.out⟩
        have q1b : decide (sp < 0) = false := decide_eq_false q1
        by_cases q2 : 10000 < sp
        · have q2b : decide (10000 < sp) = true := decide_eq_true q2
          go_wp2_with fail
          go_ret
          exact ⟨rfl, HbX.out⟩
        have q2b : decide (10000 < sp) = false := decide_eq_false q2
        have q3 : gap < 1 := by omega
        have q3b : decide (gap < 1) = true := decide_eq_true q3
        go_wp2_with fail
        go_ret
        exact ⟨rfl, HbX.out⟩
      have A13 := S8.PlayR_good w8 js sp fs N _ _ H8.out.2 (HV.out.2.2.2.2.below H8.out.1.bel) hf
      have hjc : ((js.length : Int) != (cs.length : Int)) = false := by simp [HK.out.2.1]
      go_wp2_with (go_at_call 8; refine A13.mono ?_; rintro r w9 ⟨q1, q2, rfl, ⟨s, rb, eb, hp, rfl, rfl, -, heb, -, -, hel⟩, hb9⟩; have H9 : Hid (FB w w9 w7.heap.size ∧ S8.PlaysR js sp (fun t => decide ((t : Int) ∈ fs)) N s ∧ w9.heap[eb]? = some (.cells (s.s.ends.map (Value.int .i64)).toArray 3 (0, 0)) ∧ w7.heap.size < eb) := ⟨⟨below_seq H8.out.1.bel hb9, (hb9.block _ (Array.getElem?_eq_some_iff.1 H8.out.1.res).1).trans H8.out.1.res, H8.out.1.low⟩, hp, heb, Nat.lt_of_lt_of_le (Array.getElem?_eq_some_iff.1 H8.out.1.res).1 hel⟩; obtain ⟨ks, kf, kl⟩ := cells_of (l := [_, _]) H9.out.1.res; have f0 := ks 0 _ rfl; have f1 := ks 1 _ rfl; have ff0 := kf 0; have ff1 := kf 1; clear ks kf; clear hb9 A13 hp heb hel)
      have bX : Below w.heap.size w (((w9.setCell ⟨w7.heap.size, 0, none⟩ (.int .i64 0)).setCell ⟨w7.heap.size, 1, none⟩ (.int .i64 0)).alloc (.cells #[.slice (some ⟨rb, 0, none⟩) N N, .slice (some ⟨eb, 0, none⟩) js.length js.length] 35)) := (H9.out.1.endA _ _ _).2
      have PX : (((w9.setCell ⟨w7.heap.size, 0, none⟩ (.int .i64 0)).setCell ⟨w7.heap.size, 1, none⟩ (.int .i64 0)).alloc (.cells #[.slice (some ⟨rb, 0, none⟩) N N, .slice (some ⟨eb, 0, none⟩) js.length js.length] 35)).heap[w9.heap.size]? = some (.cells #[.slice (some ⟨rb, 0, none⟩) N N, .slice (some ⟨eb, 0, none⟩) js.length js.length] 35 (0, 0)) := by
        have := heap_alloc_new ((w9.setCell ⟨w7.heap.size, 0, none⟩ (.int .i64 0)).setCell ⟨w7.heap.size, 1, none⟩ (.int .i64 0)) (.cells #[.slice (some ⟨rb, 0, none⟩) N N, .slice (some ⟨eb, 0, none⟩) js.length js.length] 35)
        simpa using this
      have heb : eb ≠ w7.heap.size := by have := H9.out.2.2.2; omega
      have eX : (((w9.setCell ⟨w7.heap.size, 0, none⟩ (.int .i64 0)).setCell ⟨w7.heap.size, 1, none⟩ (.int .i64 0)).alloc (.cells #[.slice (some ⟨rb, 0, none⟩) N N, .slice (some ⟨eb, 0, none⟩) js.length js.length] 35)).heap[eb]? = some (.cells (s.s.ends.map (Value.int .i64)).toArray 3 (0, 0)) := ((Below.heap_alloc _ _ _ (by have := (Array.getElem?_eq_some_iff.1 H9.out.2.2.1).1; simpa using this)).trans (by rw [Below.heap_setCell _ _ _ _ (by show eb ≠ w7.heap.size; exact heb), Below.heap_setCell _ _ _ _ (by show eb ≠ w7.heap.size; exact heb)])).trans H9.out.2.2.1
      have GX : Hid (Below w.heap.size w (((w9.setCell ⟨w7.heap.size, 0, none⟩ (.int .i64 0)).setCell ⟨w7.heap.size, 1, none⟩ (.int .i64 0)).alloc (.cells #[.slice (some ⟨rb, 0, none⟩) N N, .slice (some ⟨eb, 0, none⟩) js.length js.length] 35)) ∧ (((w9.setCell ⟨w7.heap.size, 0, none⟩ (.int .i64 0)).setCell ⟨w7.heap.size, 1, none⟩ (.int .i64 0)).alloc (.cells #[.slice (some ⟨rb, 0, none⟩) N N, .slice (some ⟨eb, 0, none⟩) js.length js.length] 35)).heap[w9.heap.size]? = some (.cells #[.slice (some ⟨rb, 0, none⟩) N N, .slice (some ⟨eb, 0, none⟩) js.length js.length] 35 (0, 0)) ∧ (((w9.setCell ⟨w7.heap.size, 0, none⟩ (.int .i64 0)).setCell ⟨w7.heap.size, 1, none⟩ (.int .i64 0)).alloc (.cells #[.slice (some ⟨rb, 0, none⟩) N N, .slice (some ⟨eb, 0, none⟩) js.length js.length] 35)).heap[eb]? = some (.cells (s.s.ends.map (Value.int .i64)).toArray 3 (0, 0)) ∧ S8.PlaysR js sp (fun t => decide ((t : Int) ∈ fs)) N s) := ⟨bX, PX, eX, H9.out.2.1⟩
      clear bX PX heb eX f0 f1 ff0 ff1 kl H9 H8
      generalize (((w9.setCell ⟨w7.heap.size, 0, none⟩ (.int .i64 0)).setCell ⟨w7.heap.size, 1, none⟩ (.int .i64 0)).alloc (.cells #[.slice (some ⟨rb, 0, none⟩) N N, .slice (some ⟨eb, 0, none⟩) js.length js.length] 35)) = Y at *
      generalize w9.heap.size = PB at *
      go_loopw [117] (fun iv wr => ∃ j : Nat, j ≤ l.length ∧ iv = .int .i64 (j : Int) ∧ Below Y.heap.size Y wr) (fun iv _ => l.length - (intOf iv).toNat)
      case atStart => exact ⟨0, Nat.zero_le _, rfl, Below.refl _ _⟩
      case round =>
        obtain ⟨j, hjl, rfl, hbl⟩ := hrel
        have HBL : Hid (Below Y.heap.size Y wr) := hbl
        clear hbl
        by_cases hlt : j < l.length
        · have hj' : (j : Int) < (l.length : Int) := by omega
          have A15 := rd_any wr l _ (j : Int) gap sp (by omega) (HV.out.1.below (below_seq GX.out.1 HBL.out))
          obtain ⟨vv, za, zb, hrd⟩ : ∃ vv za zb, rdF l (j : Int) gap sp = (vv, (za, zb)) := ⟨_, _, _, rfl⟩
          have HRD : Hid (rdF l (j : Int) gap sp = (vv, (za, zb))) := hrd
          rw [hrd] at A15
          dsimp only at A15
          clear hrd
          go_wp2_with (go_at_call 9; refine A15.mono ?_; rintro r w10 ⟨rfl, hb10⟩; have H10 : Hid (Below Y.heap.size Y w10) := below_seq HBL.out hb10; clear hb10 A15 HBL)
          · exact ⟨⟨j + 1, by omega, by simp, below_seq H10.out (below_new _ _)⟩, by simp [intOf]; omega⟩
          rename_i hza0
          have hza : za = 0 := by simpa using hza0
          have HWH : Hid (∀ (i : Nat) (c : Co), cs[i]? = some c → c.k = (j : Int) → ∃ e, s.s.ends[i]? = some e ∧ 1 ≤ e ∧ e - c.a ≤ vv ∧ e ≤ 30000 ∧ 0 ≤ c.a ∧ c.a ≤ 20000) := redo_pureI (rdF_ok (by rw [HRD.out, hza])) HG.out EE.out HNc.out.1 HK.out.2.2.1 GX.out.2.2.2
          have HB0 : Hid (Below Y.heap.size Y (w10.alloc (.cells #[.int .i64 za, .int .i64 zb] 30))) := below_seq H10.out (below_new _ _)
          clear H10
          generalize w10.alloc (.cells #[.int .i64 za, .int .i64 zb] 30) = Z at *
          go_loopw [133] (fun iv wr => ∃ q : Nat, q ≤ cs.length ∧ iv = .int .i64 (q : Int) ∧ Below Y.heap.size Y wr) (fun iv _ => cs.length - (intOf iv).toNat)
          case atStart => exact ⟨0, Nat.zero_le _, rfl, HB0.out⟩
          case round =>
            obtain ⟨q, hql, rfl, hbl⟩ := hrel
            by_cases hlq : q < cs.length
            · obtain ⟨x, hx, -⟩ := drop_at hlq
              obtain ⟨ad9, cc9, e9, -, hcap9, hrow9⟩ := HV.out.2.1
              cases e9
              rcases hrow9 with h | ⟨b2, o2, rfl, hrow2⟩
              · rw [h] at hlq; simp at hlq
              obtain ⟨c0, c1⟩ := co_at (fun q u hq => below_cell (below_seq GX.out.1 hbl) (hrow2 q u hq)) hx
              have lb2 : b2 < wr.heap.size := World.block_lt_of_cell? _ _ c0
              have hq' : (q : Int) < (cs.length : Int) := by omega
              have hq3 : (q : Int) < (js.length : Int) := by have := HK.out.2.1; omega
              have HB : Hid (Below Y.heap.size Y wr) := hbl
              by_cases hk : x.k = (j : Int)
              · obtain ⟨e, he, e1, e2, e3, e4, e5⟩ := HWH.out q x hx hk
                have p1 := below_cell hbl ((cells_of (l := [_, _]) GX.out.2.1).1 1 _ rfl)
                have pe := below_cell hbl ((cells_of GX.out.2.2.1).1 q _ (by rw [List.getElem?_map, he]; rfl))
                have lbP : PB < wr.heap.size := World.block_lt_of_cell? _ _ p1
                have lbe : eb < wr.heap.size := World.block_lt_of_cell? _ _ pe
                generalize hxk : x.k = xk at *
                generalize x.a = xa at *
                have hk1 : (xk == (j : Int)) = true := by simp [hk]
                have hk2 : decide (xk = (j : Int)) = true := by simp [hk]
                have w1 : IntKind.i64.wrap (e - xa) = e - xa := by rw [IntKind.wrap_i64]; omega
                have w2 : decide (e < 0) = false := by first | (simp; done) | (simp; omega)
                have w3 : decide (vv < e - xa) = false := by first | (simp; done) | (simp; omega)
                clear hbl hrow2 hx he e1 e2 e3 e4 e5 hk hxk
                go_wp2_with fail
                refine wp_region_noPanic ?_
                refine wp_region_held_drew (S := fun w' => w'.cell? ⟨wr.heap.size, 0, none⟩ = some (.int .i64 xk) ∧ w'.cell? ⟨wr.heap.size, 1, none⟩ = some (.int .i64 xa) ∧ w'.cell? ⟨PB, 1, none⟩ = some (.slice (some ⟨eb, 0, none⟩) js.length js.length) ∧ w'.cell? ⟨eb, q, none⟩ = some (.int .i64 e)) (by kernel_rfl) (by refine ⟨?_, ?_, ?_, ?_⟩ <;> go_simp) (fun hHeld => ?_)
                refine take_at (i := 0) (n := 138) (v := ?_) rfl rfl (by kernel_rfl) (by kernel_rfl) (by kernel_rfl) (fun _ _ _ h => h) (Or.inl ⟨by rfl, ?_⟩) (by assumption) ?_
                rotate_left 1
                · intro wz hSw
                  obtain ⟨s1, s2, s3, s4⟩ := hSw
                  first | (go_simp; done) | (go_simp; with_reducible rfl)
                simp only [List.set_cons_zero, List.set_cons_succ]
                refine take_at (i := 1) (n := 139) (v := ?_) rfl rfl (by kernel_rfl) (by kernel_rfl) (by kernel_rfl) (fun _ _ _ h => h) (Or.inl ⟨by rfl, ?_⟩) (by assumption) ?_
                rotate_left 1
                · intro wz hSw
                  obtain ⟨s1, s2, s3, s4⟩ := hSw
                  first | (go_simp; done) | (go_simp; with_reducible rfl)
                simp only [List.set_cons_zero, List.set_cons_succ]
                refine take_at (i := 2) (n := 140) (v := ?_) rfl rfl (by kernel_rfl) (by kernel_rfl) (by kernel_rfl) (fun _ _ _ h => h) (Or.inl ⟨by rfl, ?_⟩) (by assumption) ?_
                rotate_left 1
                · intro wz hSw
                  obtain ⟨s1, s2, s3, s4⟩ := hSw
                  first | (go_simp; done) | (go_simp; with_reducible rfl)
                simp only [List.set_cons_zero, List.set_cons_succ]
                refine take_at (i := 3) (n := 141) (v := ?_) rfl rfl (by kernel_rfl) (by kernel_rfl) (by kernel_rfl) (fun _ _ _ h => h) (Or.inl ⟨by rfl, ?_⟩) (by assumption) ?_
                rotate_left 1
                · intro wz hSw
                  obtain ⟨s1, s2, s3, s4⟩ := hSw
                  first | (go_simp; done) | (go_simp; with_reducible rfl)
                simp only [List.set_cons_zero, List.set_cons_succ]
                refine take_at (i := 4) (n := 142) (v := ?_) rfl rfl (by kernel_rfl) (by kernel_rfl) (by kernel_rfl) (fun _ _ _ h => h) (Or.inl ⟨by rfl, ?_⟩) (by assumption) ?_
                rotate_left 1
                · intro wz hSw
                  obtain ⟨s1, s2, s3, s4⟩ := hSw
                  first | (go_simp; done) | (go_simp; with_reducible rfl)
                simp only [List.set_cons_zero, List.set_cons_succ]
                refine take_at (i := 5) (n := 143) (v := ?_) rfl rfl (by kernel_rfl) (by kernel_rfl) (by kernel_rfl) (fun _ _ _ h => h) (Or.inl ⟨by rfl, ?_⟩) (by assumption) ?_
                rotate_left 1
                · intro wz hSw
                  obtain ⟨s1, s2, s3, s4⟩ := hSw
                  first | (go_simp; done) | (go_simp; with_reducible rfl)
                simp only [List.set_cons_zero, List.set_cons_succ]
                refine take_at (i := 6) (n := 144) (v := ?_) rfl rfl (by kernel_rfl) (by kernel_rfl) (by kernel_rfl) (fun _ _ _ h => h) (Or.inl ⟨by rfl, ?_⟩) (by assumption) ?_
                rotate_left 1
                · intro wz hSw
                  obtain ⟨s1, s2, s3, s4⟩ := hSw
                  first | (go_simp; done) | (go_simp; with_reducible rfl)
                simp only [List.set_cons_zero, List.set_cons_succ]
                refine take_at (i := 7) (n := 145) (v := ?_) rfl rfl (by kernel_rfl) (by kernel_rfl) (by kernel_rfl) (fun _ _ _ h => h) (Or.inl ⟨by rfl, ?_⟩) (by assumption) ?_
                rotate_left 1
                · intro wz hSw
                  obtain ⟨s1, s2, s3, s4⟩ := hSw
                  first | (go_simp; done) | (go_simp; with_reducible rfl)
                simp only [List.set_cons_zero, List.set_cons_succ]
                refine take_at (i := 8) (n := 146) (v := ?_) rfl rfl (by kernel_rfl) (by kernel_rfl) (by kernel_rfl) (fun _ _ _ h => h) (Or.inl ⟨by rfl, ?_⟩) (by assumption) ?_
                rotate_left 1
                · intro wz hSw
                  obtain ⟨s1, s2, s3, s4⟩ := hSw
                  first | (go_simp; done) | (go_simp; with_reducible rfl)
                simp only [List.set_cons_zero, List.set_cons_succ]
                refine take_at (i := 9) (n := 147) (v := ?_) rfl rfl (by kernel_rfl) (by kernel_rfl) (by kernel_rfl) (fun _ _ _ h => h) (Or.inl ⟨by rfl, ?_⟩) (by assumption) ?_
                rotate_left 1
                · intro wz hSw
                  obtain ⟨s1, s2, s3, s4⟩ := hSw
                  first | (go_simp; done) | (go_simp; with_reducible rfl)
                simp only [List.set_cons_zero, List.set_cons_succ]
                refine take_at (i := 10) (n := 148) (v := ?_) rfl rfl (by kernel_rfl) (by kernel_rfl) (by kernel_rfl) (fun _ _ _ h => h) (Or.inl ⟨by rfl, ?_⟩) (by assumption) ?_
                rotate_left 1
                · intro wz hSw
                  obtain ⟨s1, s2, s3, s4⟩ := hSw
                  first | (go_simp; done) | (go_simp; with_reducible rfl)
                simp only [List.set_cons_zero, List.set_cons_succ]
                refine take_at (i := 11) (n := 149) (v := ?_) rfl rfl (by kernel_rfl) (by kernel_rfl) (by kernel_rfl) (fun _ _ _ h => h) (Or.inl ⟨by rfl, ?_⟩) (by assumption) ?_
                rotate_left 1
                · intro wz hSw
                  obtain ⟨s1, s2, s3, s4⟩ := hSw
                  first | (go_simp; done) | (go_simp; with_reducible rfl)
                simp only [List.set_cons_zero, List.set_cons_succ]
                refine take_at (i := 12) (n := 150) (v := ?_) rfl rfl (by kernel_rfl) (by kernel_rfl) (by kernel_rfl) (fun _ _ _ h => h) (Or.inl ⟨by rfl, ?_⟩) (by assumption) ?_
                rotate_left 1
                · intro wz hSw
                  obtain ⟨s1, s2, s3, s4⟩ := hSw
                  first | (go_simp; done) | (go_simp; with_reducible rfl)
                simp only [List.set_cons_zero, List.set_cons_succ]
                refine take_at (i := 13) (n := 151) (v := ?_) rfl rfl (by kernel_rfl) (by kernel_rfl) (by kernel_rfl) (fun _ _ _ h => h) (Or.inl ⟨by rfl, ?_⟩) (by assumption) ?_
                rotate_left 1
                · intro wz hSw
                  obtain ⟨s1, s2, s3, s4⟩ := hSw
                  first | (go_simp; done) | (go_simp; with_reducible rfl)
                simp only [List.set_cons_zero, List.set_cons_succ]
                refine take_at (i := 14) (n := 152) (v := ?_) rfl rfl (by kernel_rfl) (by kernel_rfl) (by kernel_rfl) (fun _ _ _ h => h) (Or.inl ⟨by rfl, ?_⟩) (by assumption) ?_
                rotate_left 1
                · intro wz hSw
                  obtain ⟨s1, s2, s3, s4⟩ := hSw
                  first | (go_simp; done) | (go_simp; with_reducible rfl)
                simp only [List.set_cons_zero, List.set_cons_succ]
                refine take_at (i := 15) (n := 153) (v := ?_) rfl rfl (by kernel_rfl) (by kernel_rfl) (by kernel_rfl) (fun _ _ _ h => h) (Or.inl ⟨by rfl, ?_⟩) (by assumption) ?_
                rotate_left 1
                · intro wz hSw
                  obtain ⟨s1, s2, s3, s4⟩ := hSw
                  first | (go_simp; done) | (go_simp; with_reducible rfl)
                simp only [List.set_cons_zero, List.set_cons_succ]
                refine take_at (i := 16) (n := 154) (v := ?_) rfl rfl (by kernel_rfl) (by kernel_rfl) (by kernel_rfl) (fun _ _ _ h => h) (Or.inl ⟨by rfl, ?_⟩) (by assumption) ?_
                rotate_left 1
                · intro wz hSw
                  obtain ⟨s1, s2, s3, s4⟩ := hSw
                  first | (go_simp; done) | (go_simp; with_reducible rfl)
                simp only [List.set_cons_zero, List.set_cons_succ]
                refine take_at (i := 17) (n := 155) (v := ?_) rfl rfl (by kernel_rfl) (by kernel_rfl) (by kernel_rfl) (fun _ _ _ h => h) (Or.inl ⟨by rfl, ?_⟩) (by assumption) ?_
                rotate_left 1
                · intro wz hSw
                  obtain ⟨s1, s2, s3, s4⟩ := hSw
                  first | (go_simp; done) | (go_simp; with_reducible rfl)
                simp only [List.set_cons_zero, List.set_cons_succ]
                refine take_at (i := 18) (n := 156) (v := ?_) rfl rfl (by kernel_rfl) (by kernel_rfl) (by kernel_rfl) (fun _ _ _ h => h) (Or.inl ⟨by rfl, ?_⟩) (by assumption) ?_
                rotate_left 1
                · intro wz hSw
                  obtain ⟨s1, s2, s3, s4⟩ := hSw
                  first | (go_simp; done) | (go_simp; with_reducible rfl)
                simp only [List.set_cons_zero, List.set_cons_succ]
                refine take_at (i := 19) (n := 157) (v := ?_) rfl rfl (by kernel_rfl) (by kernel_rfl) (by kernel_rfl) (fun _ _ _ h => h) (Or.inl ⟨by rfl, ?_⟩) (by assumption) ?_
                rotate_left 1
                · intro wz hSw
                  obtain ⟨s1, s2, s3, s4⟩ := hSw
                  first | (go_simp; done) | (go_simp; with_reducible rfl)
                simp only [List.set_cons_zero, List.set_cons_succ]
                refine take_at (i := 20) (n := 158) (v := ?_) rfl rfl (by kernel_rfl) (by kernel_rfl) (by kernel_rfl) (fun _ _ _ h => h) (Or.inl ⟨by rfl, ?_⟩) (by assumption) ?_
                rotate_left 1
                · intro wz hSw
                  obtain ⟨s1, s2, s3, s4⟩ := hSw
                  first | (go_simp; done) | (go_simp; with_reducible rfl)
                simp only [List.set_cons_zero, List.set_cons_succ]
                refine take_at (i := 21) (n := 159) (v := ?_) rfl rfl (by kernel_rfl) (by kernel_rfl) (by kernel_rfl) (fun _ _ _ h => h) (Or.inl ⟨by rfl, ?_⟩) (by assumption) ?_
                rotate_left 1
                · intro wz hSw
                  obtain ⟨s1, s2, s3, s4⟩ := hSw
                  first | (go_simp; done) | (go_simp; with_reducible rfl)
                simp only [List.set_cons_zero, List.set_cons_succ]
                refine take_at (i := 22) (n := 160) (v := ?_) rfl rfl (by kernel_rfl) (by kernel_rfl) (by kernel_rfl) (fun _ _ _ h => h) (Or.inl ⟨by rfl, ?_⟩) (by assumption) ?_
                rotate_left 1
                · intro wz hSw
                  obtain ⟨s1, s2, s3, s4⟩ := hSw
                  first | (go_simp; done) | (go_simp; with_reducible rfl)
                simp only [List.set_cons_zero, List.set_cons_succ]
                refine take_at (i := 23) (n := 161) (v := ?_) rfl rfl (by kernel_rfl) (by kernel_rfl) (by kernel_rfl) (fun _ _ _ h => h) (Or.inl ⟨by rfl, ?_⟩) (by assumption) ?_
                rotate_left 1
                · intro wz hSw
                  obtain ⟨s1, s2, s3, s4⟩ := hSw
                  first | (go_simp; done) | (go_simp; with_reducible rfl)
                simp only [List.set_cons_zero, List.set_cons_succ]
                refine wpAnyH_done (by kernel_rfl) ?_ _
                refine NoPanic.normal ?_
                clear hHeld
                go_wp2_with fail
                exact ⟨⟨q + 1, by omega, by simp, (below_seq HB.out (below_new _ _)).drew⟩, by simp [intOf]; omega⟩
              · generalize x.k = xk at *
                generalize x.a = xa at *
                have hk1 : (xk == (j : Int)) = false := by simp [hk]
                have hk2 : decide (xk = (j : Int)) = false := by simp [hk]
                clear hbl hrow2 hx
                go_wp2_with fail
                refine wp_region_noPanic ?_
                refine wp_region_held_drew (S := fun w' => w'.cell? ⟨wr.heap.size, 0, none⟩ = some (.int .i64 xk) ∧ w'.cell? ⟨wr.heap.size, 1, none⟩ = some (.int .i64 xa)) (by kernel_rfl) (by refine ⟨?_, ?_⟩ <;> go_simp) (fun hHeld => ?_)
                refine take_at (i := 0) (n := 138) (v := ?_) rfl rfl (by kernel_rfl) (by kernel_rfl) (by kernel_rfl) (fun _ _ _ h => h) (Or.inl ⟨by rfl, ?_⟩) (by assumption) ?_
                rotate_left 1
                · intro wz hSw
                  obtain ⟨s1, s2⟩ := hSw
                  first | (go_simp; done) | (go_simp; with_reducible rfl)
                simp only [List.set_cons_zero, List.set_cons_succ]
                refine take_at (i := 1) (n := 139) (v := ?_) rfl rfl (by kernel_rfl) (by kernel_rfl) (by kernel_rfl) (fun _ _ _ h => h) (Or.inl ⟨by rfl, ?_⟩) (by assumption) ?_
                rotate_left 1
                · intro wz hSw
                  obtain ⟨s1, s2⟩ := hSw
                  first | (go_simp; done) | (go_simp; with_reducible rfl)
                simp only [List.set_cons_zero, List.set_cons_succ]
                refine take_at (i := 2) (n := 140) (v := ?_) rfl rfl (by kernel_rfl) (by kernel_rfl) (by kernel_rfl) (fun _ _ _ h => h) (Or.inl ⟨by rfl, ?_⟩) (by assumption) ?_
                rotate_left 1
                · intro wz hSw
                  obtain ⟨s1, s2⟩ := hSw
                  first | (go_simp; done) | (go_simp; with_reducible rfl)
                simp only [List.set_cons_zero, List.set_cons_succ]
                refine take_at (i := 3) (n := 141) (v := ?_) rfl rfl (by kernel_rfl) (by kernel_rfl) (by kernel_rfl) (fun _ _ _ h => h) (Or.inl ⟨by rfl, ?_⟩) (by assumption) ?_
                rotate_left 1
                · intro wz hSw
                  obtain ⟨s1, s2⟩ := hSw
                  first | (go_simp; done) | (go_simp; with_reducible rfl)
                simp only [List.set_cons_zero, List.set_cons_succ]
                refine take_at (i := 4) (n := 142) (v := ?_) rfl rfl (by kernel_rfl) (by kernel_rfl) (by kernel_rfl) (fun _ _ _ h => h) (Or.inl ⟨by rfl, ?_⟩) (by assumption) ?_
                rotate_left 1
                · intro wz hSw
                  obtain ⟨s1, s2⟩ := hSw
                  first | (go_simp; done) | (go_simp; with_reducible rfl)
                simp only [List.set_cons_zero, List.set_cons_succ]
                refine take_at (i := 5) (n := 143) (v := undef) rfl rfl (by kernel_rfl) (by kernel_rfl) (by kernel_rfl) (fun _ _ _ h => h) (Or.inr ⟨by rfl, rfl⟩) (by assumption) ?_
                simp only [List.set_cons_zero, List.set_cons_succ]
                refine take_at (i := 6) (n := 144) (v := undef) rfl rfl (by kernel_rfl) (by kernel_rfl) (by kernel_rfl) (fun _ _ _ h => h) (Or.inr ⟨by rfl, rfl⟩) (by assumption) ?_
                simp only [List.set_cons_zero, List.set_cons_succ]
                refine take_at (i := 7) (n := 145) (v := undef) rfl rfl (by kernel_rfl) (by kernel_rfl) (by kernel_rfl) (fun _ _ _ h => h) (Or.inr ⟨by rfl, rfl⟩) (by assumption) ?_
                simp only [List.set_cons_zero, List.set_cons_succ]
                refine take_at (i := 8) (n := 146) (v := undef) rfl rfl (by kernel_rfl) (by kernel_rfl) (by kernel_rfl) (fun _ _ _ h => h) (Or.inr ⟨by rfl, rfl⟩) (by assumption) ?_
                simp only [List.set_cons_zero, List.set_cons_succ]
                refine take_at (i := 9) (n := 147) (v := undef) rfl rfl (by kernel_rfl) (by kernel_rfl) (by kernel_rfl) (fun _ _ _ h => h) (Or.inr ⟨by rfl, rfl⟩) (by assumption) ?_
                simp only [List.set_cons_zero, List.set_cons_succ]
                refine take_at (i := 10) (n := 148) (v := undef) rfl rfl (by kernel_rfl) (by kernel_rfl) (by kernel_rfl) (fun _ _ _ h => h) (Or.inr ⟨by rfl, rfl⟩) (by assumption) ?_
                simp only [List.set_cons_zero, List.set_cons_succ]
                refine take_at (i := 11) (n := 149) (v := undef) rfl rfl (by kernel_rfl) (by kernel_rfl) (by kernel_rfl) (fun _ _ _ h => h) (Or.inr ⟨by rfl, rfl⟩) (by assumption) ?_
                simp only [List.set_cons_zero, List.set_cons_succ]
                refine take_at (i := 12) (n := 150) (v := undef) rfl rfl (by kernel_rfl) (by kernel_rfl) (by kernel_rfl) (fun _ _ _ h => h) (Or.inr ⟨by rfl, rfl⟩) (by assumption) ?_
                simp only [List.set_cons_zero, List.set_cons_succ]
                refine take_at (i := 13) (n := 151) (v := undef) rfl rfl (by kernel_rfl) (by kernel_rfl) (by kernel_rfl) (fun _ _ _ h => h) (Or.inr ⟨by rfl, rfl⟩) (by assumption) ?_
                simp only [List.set_cons_zero, List.set_cons_succ]
                refine take_at (i := 14) (n := 152) (v := undef) rfl rfl (by kernel_rfl) (by kernel_rfl) (by kernel_rfl) (fun _ _ _ h => h) (Or.inr ⟨by rfl, rfl⟩) (by assumption) ?_
                simp only [List.set_cons_zero, List.set_cons_succ]
                refine take_at (i := 15) (n := 153) (v := undef) rfl rfl (by kernel_rfl) (by kernel_rfl) (by kernel_rfl) (fun _ _ _ h => h) (Or.inr ⟨by rfl, rfl⟩) (by assumption) ?_
                simp only [List.set_cons_zero, List.set_cons_succ]
                refine take_at (i := 16) (n := 154) (v := undef) rfl rfl (by kernel_rfl) (by kernel_rfl) (by kernel_rfl) (fun _ _ _ h => h) (Or.inr ⟨by rfl, rfl⟩) (by assumption) ?_
                simp only [List.set_cons_zero, List.set_cons_succ]
                refine take_at (i := 17) (n := 155) (v := undef) rfl rfl (by kernel_rfl) (by kernel_rfl) (by kernel_rfl) (fun _ _ _ h => h) (Or.inr ⟨by rfl, rfl⟩) (by assumption) ?_
                simp only [List.set_cons_zero, List.set_cons_succ]
                refine take_at (i := 18) (n := 156) (v := undef) rfl rfl (by kernel_rfl) (by kernel_rfl) (by kernel_rfl) (fun _ _ _ h => h) (Or.inr ⟨by rfl, rfl⟩) (by assumption) ?_
                simp only [List.set_cons_zero, List.set_cons_succ]
                refine take_at (i := 19) (n := 157) (v := undef) rfl rfl (by kernel_rfl) (by kernel_rfl) (by kernel_rfl) (fun _ _ _ h => h) (Or.inr ⟨by rfl, rfl⟩) (by assumption) ?_
                simp only [List.set_cons_zero, List.set_cons_succ]
                refine take_at (i := 20) (n := 158) (v := undef) rfl rfl (by kernel_rfl) (by kernel_rfl) (by kernel_rfl) (fun _ _ _ h => h) (Or.inr ⟨by rfl, rfl⟩) (by assumption) ?_
                simp only [List.set_cons_zero, List.set_cons_succ]
                refine take_at (i := 21) (n := 159) (v := undef) rfl rfl (by kernel_rfl) (by kernel_rfl) (by kernel_rfl) (fun _ _ _ h => h) (Or.inr ⟨by rfl, rfl⟩) (by assumption) ?_
                simp only [List.set_cons_zero, List.set_cons_succ]
                refine take_at (i := 22) (n := 160) (v := undef) rfl rfl (by kernel_rfl) (by kernel_rfl) (by kernel_rfl) (fun _ _ _ h => h) (Or.inr ⟨by rfl, rfl⟩) (by assumption) ?_
                simp only [List.set_cons_zero, List.set_cons_succ]
                refine take_at (i := 23) (n := 161) (v := ?_) rfl rfl (by kernel_rfl) (by kernel_rfl) (by kernel_rfl) (fun _ _ _ h => h) (Or.inl ⟨by rfl, ?_⟩) (by assumption) ?_
                rotate_left 1
                · intro wz hSw
                  obtain ⟨s1, s2⟩ := hSw
                  first | (go_simp; done) | (go_simp; with_reducible rfl)
                simp only [List.set_cons_zero, List.set_cons_succ]
                refine wpAnyH_done (by kernel_rfl) ?_ _
                refine NoPanic.normal ?_
                clear hHeld
                go_wp2_with fail
                exact ⟨⟨q + 1, by omega, by simp, (below_seq HB.out (below_new _ _)).drew⟩, by simp [intOf]; omega⟩
            · have hqe : q = cs.length := by omega
              subst hqe
              have HB : Hid (Below Y.heap.size Y wr) := hbl
              clear hbl
              go_wp2_with fail
              exact ⟨⟨j + 1, by omega, by simp, HB.out⟩, by simp [intOf]; omega⟩
        · have hje : j = l.length := by omega
          subst hje
          go_wp2_with fail
          go_ret
          exact ⟨rfl, below_seq GX.out.1 HBL.out⟩
end Go.Proofs.Ytekbkcgpjkecbal
namespace Go.Proofs.Ytekbkcgpjkecbal
open Go.ChangeShapes Go.WideShapes Go.ChangeAt Go.RowKit

theorem cellsCo : Try.prog.cellsOf 41 = 2 := by kernel_rfl

section
variable {H : Type} {enc : TypeId × Value → H} {w : World} {sp : Nat → Bool} {held : Bool}

/-- A coming that can be read. -/
theorem co_one {n : Nat} {cs : List Value} {y : DataW H × List MemPlace} (hl : cs.length = 2) (h : DataW.trod enc Try.prog w 0 sp held n 41 cs = some y) : ∃ x : Co, cs = x.vals ∧ y.1 = .agg [.lit (.int .i64 x.k), .lit (.int .i64 x.a)] := by
  match cs, hl with
  | [c0, c1], _ =>
    obtain ⟨xs, n1, rfl, hy, -, hlen, hf⟩ := DataW.trod_struct Try.underlying41 h
    match xs, hlen with
    | [y0, y1], _ =>
      have f0 : DataW.trod enc Try.prog w 0 sp held n1 3 ((([c0, c1] : List Value).drop 0).take (Try.prog.cellsOf 3)) = some y0 := hf 0 _ rfl
      have f1 : DataW.trod enc Try.prog w 0 sp held n1 3 ((([c0, c1] : List Value).drop 1).take (Try.prog.cellsOf 3)) = some y1 := hf 1 _ rfl
      rw [cells3] at f0 f1
      obtain ⟨k0, e0, g0, -⟩ := DataW.trod_int Try.underlying3 (show DataW.trod enc Try.prog w 0 sp held n1 3 [c0] = some y0 from f0)
      obtain ⟨k1, e1, g1, -⟩ := DataW.trod_int Try.underlying3 (show DataW.trod enc Try.prog w 0 sp held n1 3 [c1] = some y1 from f1)
      simp only [List.cons.injEq, and_true] at e0 e1
      refine ⟨⟨k0, k1⟩, by rw [e0, e1]; rfl, ?_⟩
      rw [hy, g0, g1]
      rfl

theorem co_row {n : Nat} (g : Nat) : ∀ (elems : List (DataW H × List MemPlace)) (o : Nat),
    (∀ i, i < elems.length → (w.cells? 0 ⟨g, o + i * 2, none⟩ 2).bind (DataW.trod enc Try.prog w 0 sp held n 41) = elems[i]?) →
    ∃ l : List Co, l.length = elems.length ∧ ∀ q u, (l.flatMap Co.vals)[q]? = some u → w.cell? ⟨g, o + q, none⟩ = some u
  | [], o, _ => ⟨[], rfl, fun q u hq => by simp at hq⟩
  | y :: r, o, h => by
    have h0 := h 0 (by simp)
    simp only [Nat.zero_mul, Nat.add_zero, List.getElem?_cons_zero] at h0
    obtain ⟨cs, hc, ht⟩ := Option.bind_eq_some_iff.1 h0
    obtain ⟨hlen, hcell⟩ := cells_at hc
    obtain ⟨x, rfl, -⟩ := co_one hlen ht
    obtain ⟨l, hl, hrow⟩ := co_row g r (o + 2) (fun i hi => by
      have := h (i + 1) (by simp; omega)
      rw [show o + (i + 1) * 2 = o + 2 + i * 2 by omega] at this
      simpa using this)
    refine ⟨x :: l, by simp [hl], fun q u hq => ?_⟩
    · rw [List.flatMap_cons] at hq
      by_cases h7 : q < 2
      · rw [List.getElem?_append_left (by rw [Co.len]; exact h7)] at hq
        rw [hcell q h7]
        exact hq
      · rw [List.getElem?_append_right (by rw [Co.len]; omega), Co.len] at hq
        have := hrow (q - 2) u hq
        rw [show o + 2 + (q - 2) = o + q by omega] at this
        exact this

/-- A slice of comings that can be read. -/
theorem coSl_of_trod {ad : Option Addr} {n c : Nat} {d : DataW H} {ps : List MemPlace} (h : DataW.Trod enc Try.prog w 0 sp held 23 (.slice ad n c) d ps) : ∃ l : List Co, n = l.length ∧ RowSl Co.vals w l (.slice ad n c) := by
  obtain ⟨q, hq⟩ := h
  have hcs : (Value.slice ad n c).cells.toList = [.slice ad n c] := rfl
  rw [hcs] at hq
  rcases DataW.trod_slice Try.underlying23 hq with ⟨h1, -⟩ | ⟨a, len, cap, elems, rest, n2, -, h1, -, -, hlc, -, hle, hel, -, -⟩
  · simp only [List.cons.injEq, and_true, Value.slice.injEq] at h1
    obtain ⟨rfl, rfl, rfl⟩ := h1
    exact ⟨[], rfl, RowSl.nil _ _⟩
  · simp only [List.cons.injEq, and_true, Value.slice.injEq] at h1
    obtain ⟨rfl, rfl, rfl⟩ := h1
    subst hle
    simp only [cellsCo] at hel
    cases elems with
    | nil => exact ⟨[], rfl, ⟨_, _, rfl, (fun e => by cases e), Nat.zero_le _, .inl rfl⟩⟩
    | cons z r =>
      have hz := hel 0 (by simp)
      obtain ⟨cs0, hc0, ht0⟩ := Option.bind_eq_some_iff.1 hz
      obtain ⟨-, hlen0, hpl⟩ := World.cells?_some hc0
      obtain ⟨x, rfl, -⟩ := co_one hlen0 (by simpa using ht0)
      have hpa := plain_addr (w := w) (a := a) (v := .int .i64 x.k) (by simpa [Addr.add, Co.vals] using hpl 0 (by omega))
      obtain ⟨l, hl, hrow⟩ := co_row (n := n2) a.block (z :: r) a.off (fun i hi => by
        have := hel i hi
        rw [hpa, add_plain'] at this
        exact this)
      exact ⟨l, hl.symm, ⟨some a, c, by rw [hl], (fun e => by cases e), by omega, .inr ⟨a.block, a.off, by rw [← hpa], hrow⟩⟩⟩

/-- A number that can be read. -/
theorem nu_one {n : Nat} {cs : List Value} {y : DataW H × List MemPlace} (h : DataW.trod enc Try.prog w 0 sp held n 3 cs = some y) : ∃ x : Int, cs = nuV x := by
  obtain ⟨k0, e0, -, -⟩ := DataW.trod_int Try.underlying3 h
  exact ⟨k0, e0⟩

theorem nu_row {n : Nat} (g : Nat) : ∀ (elems : List (DataW H × List MemPlace)) (o : Nat),
    (∀ i, i < elems.length → (w.cells? 0 ⟨g, o + i * 1, none⟩ 1).bind (DataW.trod enc Try.prog w 0 sp held n 3) = elems[i]?) →
    ∃ l : List Int, l.length = elems.length ∧ ∀ q u, (l.flatMap nuV)[q]? = some u → w.cell? ⟨g, o + q, none⟩ = some u
  | [], o, _ => ⟨[], rfl, fun q u hq => by simp at hq⟩
  | y :: r, o, h => by
    have h0 := h 0 (by simp)
    simp only [Nat.zero_mul, Nat.add_zero, List.getElem?_cons_zero] at h0
    obtain ⟨cs, hc, ht⟩ := Option.bind_eq_some_iff.1 h0
    obtain ⟨hlen, hcell⟩ := cells_at hc
    obtain ⟨x, rfl⟩ := nu_one ht
    obtain ⟨l, hl, hrow⟩ := nu_row g r (o + 1) (fun i hi => by
      have := h (i + 1) (by simp; omega)
      rw [show o + (i + 1) * 1 = o + 1 + i * 1 by omega] at this
      simpa using this)
    refine ⟨x :: l, by simp [hl], fun q u hq => ?_⟩
    · rw [List.flatMap_cons] at hq
      by_cases h7 : q < 1
      · rw [List.getElem?_append_left (by rw [nuV_len]; exact h7)] at hq
        rw [hcell q h7]
        exact hq
      · rw [List.getElem?_append_right (by rw [nuV_len]; omega), nuV_len] at hq
        have := hrow (q - 1) u hq
        rw [show o + 1 + (q - 1) = o + q by omega] at this
        exact this

/-- A slice of numbers that can be read. -/
theorem nuSl_of_trod {ad : Option Addr} {n c : Nat} {d : DataW H} {ps : List MemPlace} (h : DataW.Trod enc Try.prog w 0 sp held 24 (.slice ad n c) d ps) : ∃ l : List Int, n = l.length ∧ RowSl nuV w l (.slice ad n c) := by
  obtain ⟨q, hq⟩ := h
  have hcs : (Value.slice ad n c).cells.toList = [.slice ad n c] := rfl
  rw [hcs] at hq
  rcases DataW.trod_slice Try.underlying24 hq with ⟨h1, -⟩ | ⟨a, len, cap, elems, rest, n2, -, h1, -, -, hlc, -, hle, hel, -, -⟩
  · simp only [List.cons.injEq, and_true, Value.slice.injEq] at h1
    obtain ⟨rfl, rfl, rfl⟩ := h1
    exact ⟨[], rfl, RowSl.nil _ _⟩
  · simp only [List.cons.injEq, and_true, Value.slice.injEq] at h1
    obtain ⟨rfl, rfl, rfl⟩ := h1
    subst hle
    simp only [cells3] at hel
    cases elems with
    | nil => exact ⟨[], rfl, ⟨_, _, rfl, (fun e => by cases e), Nat.zero_le _, .inl rfl⟩⟩
    | cons z r =>
      have hz := hel 0 (by simp)
      obtain ⟨cs0, hc0, ht0⟩ := Option.bind_eq_some_iff.1 hz
      obtain ⟨-, hlen0, hpl⟩ := World.cells?_some hc0
      obtain ⟨x, rfl⟩ := nu_one (by simpa using ht0)
      have hpa := plain_addr (w := w) (a := a) (v := .int .i64 x) (by simpa [Addr.add, nuV] using hpl 0 (by omega))
      obtain ⟨l, hl, hrow⟩ := nu_row (n := n2) a.block (z :: r) a.off (fun i hi => by
        have := hel i hi
        rw [hpa, add_plain'] at this
        exact this)
      exact ⟨l, hl.symm, ⟨some a, c, by rw [hl], (fun e => by cases e), by omega, .inr ⟨a.block, a.off, by rw [← hpa], hrow⟩⟩⟩
end

theorem own : ownKnob Try.prog.godebug = none := by kernel_rfl
theorem laidOut : laidOutB Try.prog = true := by kernel_rfl
theorem reads3 : Try.prog.readableRec 3 = true := by kernel_rfl
theorem lt3 : 3 < Try.prog.types.size := of_decide_eq_true (by kernel_rfl)
theorem reads22 : Try.prog.readableRec 22 = true := by kernel_rfl
theorem lt22 : 22 < Try.prog.types.size := of_decide_eq_true (by kernel_rfl)
theorem reads23 : Try.prog.readableRec 23 = true := by kernel_rfl
theorem lt23 : 23 < Try.prog.types.size := of_decide_eq_true (by kernel_rfl)
theorem reads24 : Try.prog.readableRec 24 = true := by kernel_rfl
theorem lt24 : 24 < Try.prog.types.size := of_decide_eq_true (by kernel_rfl)

set_option maxRecDepth 20000 in
theorem contractK (H : Type) (enc : TypeId × Value → H) (W : World) (base : Nat) (args : Array Value) (ds gs : List (DataW H)) (before : List MemPlace)
    (hval : ∀ (j : Nat) t v, Try.f3.params[j]? = some t → args[j]? = some v → Value.okWide Try.prog W .any base t v)
    (hW : DataW.Whole enc Try.prog Try.f3.params.toList Rows.redoKeepsSpec.vars false W args.toList ds gs before) :
    Calls Try.prog 3 args W fun e W' => ∃ v, e = .returned v ∧ Rows.redoKeepsSpec.post enc Try.prog Try.f3 false true false false W args v W' := by
  have hW' := hW
  obtain ⟨p, q, hA0, hV, rfl, hfz, hnd⟩ := hW
  have hA : DataW.TrodAll enc Try.prog W 0 (fun _ => true) true Try.f3.params.toList args.toList ds p := hA0
  rw [Try.params3] at hA hval
  obtain ⟨v0, vs0, d0, ds0, p0, q0, hargs0, rfl, rfl, h0, r0⟩ := trodAll_cons hA
  obtain ⟨v1, vs1, d1, ds1, p1, q1, hargs1, rfl, rfl, h1, r1⟩ := trodAll_cons r0
  obtain ⟨v2, vs2, d2, ds2, p2, q2, hargs2, rfl, rfl, h2, r2⟩ := trodAll_cons r1
  obtain ⟨v3, vs3, d3, ds3, p3, q3, hargs3, rfl, rfl, h3, r3⟩ := trodAll_cons r2
  obtain ⟨v4, vs4, d4, ds4, p4, q4, hargs4, rfl, rfl, h4, r4⟩ := trodAll_cons r3
  obtain ⟨v5, vs5, d5, ds5, p5, q5, hargs5, rfl, rfl, h5, r5⟩ := trodAll_cons r4
  obtain ⟨v6, vs6, d6, ds6, p6, q6, hargs6, rfl, rfl, h6, r6⟩ := trodAll_cons r5
  obtain ⟨rfl, rfl, rfl⟩ := trodAll_nil r6
  obtain rfl : args = #[v0, v1, v2, v3, v4, v5, v6] := Array.toList_inj.1 (by rw [hargs0, hargs1, hargs2, hargs3, hargs4, hargs5, hargs6])
  obtain ⟨rfl, rfl⟩ := trodVars_none hV
  obtain ⟨ad0, len0, cap0, rfl⟩ := okWide_slice Try.underlying22 (hval 0 22 v0 (by simp) (by simp))
  obtain ⟨n1, rfl⟩ := okWide_int Try.underlying3 (hval 1 3 v1 (by simp) (by simp))
  obtain ⟨n2, rfl⟩ := okWide_int Try.underlying3 (hval 2 3 v2 (by simp) (by simp))
  obtain ⟨ad3, len3, cap3, rfl⟩ := okWide_slice Try.underlying23 (hval 3 23 v3 (by simp) (by simp))
  obtain ⟨ad4, len4, cap4, rfl⟩ := okWide_slice Try.underlying24 (hval 4 24 v4 (by simp) (by simp))
  obtain ⟨ad5, len5, cap5, rfl⟩ := okWide_slice Try.underlying24 (hval 5 24 v5 (by simp) (by simp))
  obtain ⟨ad6, len6, cap6, rfl⟩ := okWide_slice Try.underlying24 (hval 6 24 v6 (by simp) (by simp))
  clear hA0 hargs0 hargs1 hargs2 hargs3 hargs4 hargs5 hargs6
  simp only [List.append_nil] at hW'
  obtain ⟨l, rfl, -, hsl⟩ := taSl_of_trod h0
  obtain ⟨cs, rfl, hcs⟩ := coSl_of_trod h3
  obtain ⟨la, rfl, hla⟩ := nuSl_of_trod h4
  obtain ⟨tk, rfl, htk⟩ := nuSl_of_trod h5
  obtain ⟨fs, rfl, hfs⟩ := nuSl_of_trod h6
  refine (redo_walk W l n1 n2 cs la tk fs _ _ _ _ _ hsl hcs hla htk hfs).mono fun e W' ⟨he, hbel⟩ => ?_
  subst he
  have hlt0 : ∀ x ∈ p0, x.block < W.heap.size := fun x hx => by
    obtain ⟨n, hn⟩ := h0
    exact DataW.trod_lt n _ _ _ hn x hx
  have hlt1 : ∀ x ∈ p1, x.block < W.heap.size := fun x hx => by
    obtain ⟨n, hn⟩ := h1
    exact DataW.trod_lt n _ _ _ hn x hx
  have hlt2 : ∀ x ∈ p2, x.block < W.heap.size := fun x hx => by
    obtain ⟨n, hn⟩ := h2
    exact DataW.trod_lt n _ _ _ hn x hx
  have hlt3 : ∀ x ∈ p3, x.block < W.heap.size := fun x hx => by
    obtain ⟨n, hn⟩ := h3
    exact DataW.trod_lt n _ _ _ hn x hx
  have hlt4 : ∀ x ∈ p4, x.block < W.heap.size := fun x hx => by
    obtain ⟨n, hn⟩ := h4
    exact DataW.trod_lt n _ _ _ hn x hx
  have hlt5 : ∀ x ∈ p5, x.block < W.heap.size := fun x hx => by
    obtain ⟨n, hn⟩ := h5
    exact DataW.trod_lt n _ _ _ hn x hx
  have hlt6 : ∀ x ∈ p6, x.block < W.heap.size := fun x hx => by
    obtain ⟨n, hn⟩ := h6
    exact DataW.trod_lt n _ _ _ hn x hx
  refine ⟨_, rfl, [d0, d1, d2, d3, d4, d5, d6], [], p0 ++ (p1 ++ (p2 ++ (p3 ++ (p4 ++ (p5 ++ p6))))), [], p0 ++ (p1 ++ (p2 ++ (p3 ++ (p4 ++ (p5 ++ p6))))), [], hW', trodAll_mk1 (shut_bool Try.underlying4 _), ?_, rfl, hbel.frame _, fun h => by cases h⟩
  have s0 := WideElems.Trod_stays (W' := W') (sp' := fun b => decide (b < W.heap.size)) laidOut reads22 lt22 h0 (fun x hx => hbel.same (hlt0 x hx)) (fun x hx => by simpa using hlt0 x hx)
  have s1 := WideElems.Trod_stays (W' := W') (sp' := fun b => decide (b < W.heap.size)) laidOut reads3 lt3 h1 (fun x hx => hbel.same (hlt1 x hx)) (fun x hx => by simpa using hlt1 x hx)
  have s2 := WideElems.Trod_stays (W' := W') (sp' := fun b => decide (b < W.heap.size)) laidOut reads3 lt3 h2 (fun x hx => hbel.same (hlt2 x hx)) (fun x hx => by simpa using hlt2 x hx)
  have s3 := WideElems.Trod_stays (W' := W') (sp' := fun b => decide (b < W.heap.size)) laidOut reads23 lt23 h3 (fun x hx => hbel.same (hlt3 x hx)) (fun x hx => by simpa using hlt3 x hx)
  have s4 := WideElems.Trod_stays (W' := W') (sp' := fun b => decide (b < W.heap.size)) laidOut reads24 lt24 h4 (fun x hx => hbel.same (hlt4 x hx)) (fun x hx => by simpa using hlt4 x hx)
  have s5 := WideElems.Trod_stays (W' := W') (sp' := fun b => decide (b < W.heap.size)) laidOut reads24 lt24 h5 (fun x hx => hbel.same (hlt5 x hx)) (fun x hx => by simpa using hlt5 x hx)
  have s6 := WideElems.Trod_stays (W' := W') (sp' := fun b => decide (b < W.heap.size)) laidOut reads24 lt24 h6 (fun x hx => hbel.same (hlt6 x hx)) (fun x hx => by simpa using hlt6 x hx)
  have e1 := trodAll_cons_mk s0 (trodAll_cons_mk s1 (trodAll_cons_mk s2 (trodAll_cons_mk s3 (trodAll_cons_mk s4 (trodAll_cons_mk s5 (trodAll_cons_mk s6 (trodAll_mk0 (enc := enc) (P := Try.prog) (w := W') (base := 0) (spare := fun b => decide (b < W.heap.size)) (held := true))))))))
  rw [List.append_nil] at e1
  exact e1

theorem laid_metK (os : Os) : laidMet Try.prog Rows.redoKeepsRow.laid ((World.holding Try.prog os ⟨#[], #[], []⟩).forCall (fun _ _ => 0) ⟨#[], #[.slice none 0 0, .int .i64 0, .int .i64 0, .slice none 0 0, .slice none 0 0, .slice none 0 0, .slice none 0 0], []⟩).memory :=
  laidMet_of_run' 8 (by kernel_rfl) (by kernel_rfl)
theorem readsK (os : Os) {H : Type} (enc : TypeId × Value → H) : ∃ places, DataW.whole enc Try.prog ((World.holding Try.prog os ⟨#[], #[], []⟩).forCall (fun _ _ => 0) ⟨#[], #[.slice none 0 0, .int .i64 0, .int .i64 0, .slice none 0 0, .slice none 0 0, .slice none 0 0, .slice none 0 0], []⟩).memory Try.f3.params.toList Rows.redoKeepsSpec.vars false #[Value.slice none 0 0, .int .i64 0, .int .i64 0, .slice none 0 0, .slice none 0 0, .slice none 0 0, .slice none 0 0].toList 8 = some ([.nil, .lit (.int .i64 0), .lit (.int .i64 0), .nil, .nil, .nil, .nil], [], places) :=
  ⟨[], by kernel_rfl⟩

set_option maxRecDepth 100000 in
theorem liftedK (os : Os) (started : os.Started) (H : Type) (enc : TypeId × Value → H) (F : Stop.Interp) :
    ReturnsInHanded {} Try.checked os 3 .any ((OpenSpec.ofChange Rows.redoKeepsSpec).preRow enc Try.prog Try.f3 Rows.redoKeepsRow.domain false Rows.redoKeepsRow.laid) (((OpenSpec.ofChange Rows.redoKeepsSpec).at F).post enc Try.prog Try.f3 false true false false) := by
  obtain ⟨places, hx⟩ := readsK os enc
  refine returnsInHanded_of_row (C := Try.checked) (s := OpenSpec.ofChange Rows.redoKeepsSpec) own started (by kernel_rfl) Try.func3
    (witness_row_at (enc := enc) (C := Try.checked) false (World.holding Try.prog os ⟨#[], #[], []⟩) #[.slice none 0 0, .int .i64 0, .int .i64 0, .slice none 0 0, .slice none 0 0, .slice none 0 0, .slice none 0 0] rfl (by kernel_rfl) (by kernel_rfl) (by kernel_rfl)
      (OpenSpec.preRow_of_cond 8 hx (by kernel_rfl) (fun k hk => by cases hk) (by kernel_rfl) (laid_metK os))) ?_
  intro W base args ds gs before hval hW _ _ _ _ _ _
  exact contractK H enc W base args ds gs before hval hW

theorem redoKeeps_said : Rows.RedoKeepsSaid :=
  OpenClaim.holds_of_cond 3 Try.f3 rfl rfl rfl rfl rfl rfl rfl ⟨rfl, rfl, rfl, rfl, rfl⟩ rfl rfl rfl rfl rfl (by kernel_rfl) Try.func3 (by kernel_rfl)
    (of_decide_eq_true (by kernel_rfl)) (by unfold Func.isWrapper; first | (rw [if_pos (by decide +kernel)]; kernel_rfl) | (rw [if_neg (by decide +kernel)]; exact ⟨rfl, rfl⟩))
    (fun os started H enc _ F => by rw [OpenClaim.pre_eq_preRow]; exact liftedK os started H enc F)
end Go.Proofs.Ytekbkcgpjkecbal
