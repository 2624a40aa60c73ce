import Derived.Test.YtkafihaajpifoaeDoorCards
import Derived.Test.YtkafihaajpifoaeDoorTie
import Derived.Test.YtkafihaajpifoaeDoorTN
import Derived.Test.YtkafihaajpifoaeDoorXL
import Derived.WideKeyArgs
import Derived.Deep.DeepHandedRow
namespace Go.Proofs.YtkafihaajpifoaeDoor
open Go.ChangeShapes Go.WideShapes Go.ChangeAt Go.RowKit

section
variable {H : Type} {enc : TypeId × Value → H} {w : World} {sp : Nat → Bool} {held : Bool}

/-- A number that can be read. -/
theorem nu_one {n : Nat} {cs : List Value} {y : DataW H × List MemPlace} (h : DataW.trod enc Tryd.prog w 0 sp held n 3 cs = some y) : ∃ x : Int, cs = nuV x := by
  obtain ⟨k0, e0, -, -⟩ := DataW.trod_int Tryd.underlying3 h
  exact ⟨k0, e0⟩

theorem nu_row {n : Nat} (g : Nat) : ∀ (elems : List (DataW H × List MemPlace)) (o : Nat),
    (∀ i, i < elems.length → (w.cells? 0 ⟨g, o + i * 1, none⟩ 1).bind (DataW.trod enc Tryd.prog w 0 sp held n 3) = elems[i]?) →
    ∃ l : List Int, l.length = elems.length ∧ ∀ q u, (l.flatMap nuV)[q]? = some u → w.cell? ⟨g, o + q, none⟩ = some u
  | [], o, _ => ⟨[], rfl, fun q u hq => by simp at hq⟩
  | y :: r, o, h => by
    have h0 := h 0 (by simp)
    simp only [Nat.zero_mul, Nat.add_zero, List.getElem?_cons_zero] at h0
    obtain ⟨cs, hc, ht⟩ := Option.bind_eq_some_iff.1 h0
    obtain ⟨hlen, hcell⟩ := cells_at hc
    obtain ⟨x, rfl⟩ := nu_one ht
    obtain ⟨l, hl, hrow⟩ := nu_row g r (o + 1) (fun i hi => by
      have := h (i + 1) (by simp; omega)
      rw [show o + (i + 1) * 1 = o + 1 + i * 1 by omega] at this
      simpa using this)
    refine ⟨x :: l, by simp [hl], fun q u hq => ?_⟩
    · rw [List.flatMap_cons] at hq
      by_cases h7 : q < 1
      · rw [List.getElem?_append_left (by rw [nuV_len]; exact h7)] at hq
        rw [hcell q h7]
        exact hq
      · rw [List.getElem?_append_right (by rw [nuV_len]; omega), nuV_len] at hq
        have := hrow (q - 1) u hq
        rw [show o + 1 + (q - 1) = o + q by omega] at this
        exact this

/-- A slice of numbers that can be read. -/
theorem nuSl_of_trod {ad : Option Addr} {n c : Nat} {d : DataW H} {ps : List MemPlace} (h : DataW.Trod enc Tryd.prog w 0 sp held 43 (.slice ad n c) d ps) : ∃ l : List Int, n = l.length ∧ RowSl nuV w l (.slice ad n c) := by
  obtain ⟨q, hq⟩ := h
  have hcs : (Value.slice ad n c).cells.toList = [.slice ad n c] := rfl
  rw [hcs] at hq
  rcases DataW.trod_slice Tryd.underlying43 hq with ⟨h1, -⟩ | ⟨a, len, cap, elems, rest, n2, -, h1, -, -, hlc, -, hle, hel, -, -⟩
  · simp only [List.cons.injEq, and_true, Value.slice.injEq] at h1
    obtain ⟨rfl, rfl, rfl⟩ := h1
    exact ⟨[], rfl, RowSl.nil _ _⟩
  · simp only [List.cons.injEq, and_true, Value.slice.injEq] at h1
    obtain ⟨rfl, rfl, rfl⟩ := h1
    subst hle
    simp only [cells3] at hel
    cases elems with
    | nil => exact ⟨[], rfl, ⟨_, _, rfl, (fun e => by cases e), Nat.zero_le _, .inl rfl⟩⟩
    | cons z r =>
      have hz := hel 0 (by simp)
      obtain ⟨cs0, hc0, ht0⟩ := Option.bind_eq_some_iff.1 hz
      obtain ⟨-, hlen0, hpl⟩ := World.cells?_some hc0
      obtain ⟨x, rfl⟩ := nu_one (by simpa using ht0)
      have hpa := plain_addr (w := w) (a := a) (v := .int .i64 x) (by simpa [Addr.add, nuV] using hpl 0 (by omega))
      obtain ⟨l, hl, hrow⟩ := nu_row (n := n2) a.block (z :: r) a.off (fun i hi => by
        have := hel i hi
        rw [hpa, add_plain'] at this
        exact this)
      exact ⟨l, hl.symm, ⟨some a, c, by rw [hl], (fun e => by cases e), by omega, .inr ⟨a.block, a.off, by rw [← hpa], hrow⟩⟩⟩
end


theorem own : ownKnob Tryd.prog.godebug = none := by kernel_rfl
theorem laidOut : laidOutB Tryd.prog = true := by kernel_rfl
theorem reads22 : Tryd.prog.readableRec 22 = true := by kernel_rfl
theorem lt22 : 22 < Tryd.prog.types.size := of_decide_eq_true (by kernel_rfl)
theorem reads23 : Tryd.prog.readableRec 43 = true := by kernel_rfl
theorem lt23 : 43 < Tryd.prog.types.size := of_decide_eq_true (by kernel_rfl)
theorem reads3 : Tryd.prog.readableRec 3 = true := by kernel_rfl
theorem lt3 : 3 < Tryd.prog.types.size := of_decide_eq_true (by kernel_rfl)

set_option maxRecDepth 20000 in
theorem contractR (H : Type) (enc : TypeId × Value → H) (W : World) (base : Nat) (args : Array Value) (ds gs : List (DataW H)) (before : List MemPlace)
    (hval : ∀ (j : Nat) t v, Tryd.f7.params[j]? = some t → args[j]? = some v → Value.okWide Tryd.prog W .any base t v)
    (hW : DataW.Whole enc Tryd.prog Tryd.f7.params.toList Rows.fixedRespondsSpec.vars false W args.toList ds gs before) (hL : laidMetH Tryd.prog Rows.fixedRespondsRow.laid W) :
    Calls Tryd.prog 7 args W fun e W' => ∃ v, e = .returned v ∧ Rows.fixedRespondsSpec.post enc Tryd.prog Tryd.f7 false true false false W args v W' := by
  have hW' := hW
  obtain ⟨p, q, hA0, hV, rfl, hfz, hnd⟩ := hW
  have hA : DataW.TrodAll enc Tryd.prog W 0 (fun _ => true) true Tryd.f7.params.toList args.toList ds p := hA0
  rw [Tryd.params7] at hA hval
  obtain ⟨v0, vs0, d0, ds0, p0, q0, hargs, rfl, rfl, h0, r0⟩ := trodAll_cons hA
  obtain ⟨v1, vs1, d1, ds1, p1, q1, hargs1, rfl, rfl, h1, r1⟩ := trodAll_cons r0
  obtain ⟨v2, vs2, d2, ds2, p2, q2, hargs2, rfl, rfl, h2, r2⟩ := trodAll_cons r1
  obtain ⟨v3, vs3, d3, ds3, p3, q3, hargs3, rfl, rfl, h3, r3⟩ := trodAll_cons r2
  obtain ⟨rfl, rfl, rfl⟩ := trodAll_nil r3
  obtain rfl : args = #[v0, v1, v2, v3] := Array.toList_inj.1 (by rw [hargs, hargs1, hargs2, hargs3])
  obtain ⟨rfl, rfl⟩ := trodVars_none hV
  obtain ⟨ad, len, cap, rfl⟩ := okWide_slice Tryd.underlying22 (hval 0 22 v0 (by simp) (by simp))
  obtain ⟨n1, rfl⟩ := okWide_int Tryd.underlying3 (hval 1 3 v1 (by simp) (by simp))
  obtain ⟨n2, rfl⟩ := okWide_int Tryd.underlying3 (hval 2 3 v2 (by simp) (by simp))
  obtain ⟨ad3, len3, cap3, rfl⟩ := okWide_slice Tryd.underlying43 (hval 3 43 v3 (by simp) (by simp))
  clear hA0 hargs hargs1 hargs2 hargs3
  simp only [List.append_nil] at hW'
  obtain ⟨l, rfl, hms, hsl⟩ := taSl_of_trod h0
  obtain ⟨bs, rfl, hbs⟩ := nuSl_of_trod h3
  refine (responds_walk W l bs n1 n2 _ _ hms (of_laid hL) hsl hbs).mono fun e W' ⟨he, hbel⟩ => ?_
  subst he
  have hlt0 : ∀ x ∈ p0, x.block < W.heap.size := fun x hx => by
    obtain ⟨n, hn⟩ := h0
    exact DataW.trod_lt n _ _ _ hn x hx
  have hlt1 : ∀ x ∈ p1, x.block < W.heap.size := fun x hx => by
    obtain ⟨n, hn⟩ := h1
    exact DataW.trod_lt n _ _ _ hn x hx
  have hlt2 : ∀ x ∈ p2, x.block < W.heap.size := fun x hx => by
    obtain ⟨n, hn⟩ := h2
    exact DataW.trod_lt n _ _ _ hn x hx
  have hlt3 : ∀ x ∈ p3, x.block < W.heap.size := fun x hx => by
    obtain ⟨n, hn⟩ := h3
    exact DataW.trod_lt n _ _ _ hn x hx
  refine ⟨_, rfl, [d0, d1, d2, d3], [], p0 ++ (p1 ++ (p2 ++ p3)), [], p0 ++ (p1 ++ (p2 ++ p3)), [], hW', trodAll_mk1 (shut_bool Tryd.underlying4 _), ?_, rfl, hbel.frame _, fun h => by cases h⟩
  have s0 := WideElems.Trod_stays (W' := W') (sp' := fun b => decide (b < W.heap.size)) laidOut reads22 lt22 h0 (fun x hx => hbel.same (hlt0 x hx)) (fun x hx => by simpa using hlt0 x hx)
  have s1 := WideElems.Trod_stays (W' := W') (sp' := fun b => decide (b < W.heap.size)) laidOut reads3 lt3 h1 (fun x hx => hbel.same (hlt1 x hx)) (fun x hx => by simpa using hlt1 x hx)
  have s2 := WideElems.Trod_stays (W' := W') (sp' := fun b => decide (b < W.heap.size)) laidOut reads3 lt3 h2 (fun x hx => hbel.same (hlt2 x hx)) (fun x hx => by simpa using hlt2 x hx)
  have s3 := WideElems.Trod_stays (W' := W') (sp' := fun b => decide (b < W.heap.size)) laidOut reads23 lt23 h3 (fun x hx => hbel.same (hlt3 x hx)) (fun x hx => by simpa using hlt3 x hx)
  have e1 := trodAll_cons_mk s0 (trodAll_cons_mk s1 (trodAll_cons_mk s2 (trodAll_cons_mk s3 (trodAll_mk0 (enc := enc) (P := Tryd.prog) (w := W') (base := 0) (spare := fun b => decide (b < W.heap.size)) (held := true)))))
  rw [List.append_nil] at e1
  exact e1

/-- A world for the witness: the settled one, the variable holding what its initialiser lays. -/
def laidHeap (h : Array Obj) : Array Obj := h.modify 0 fun
  | .cells _ t frozen => .cells #[.string ⟨#[63]⟩, .int .i64 (-9), .int .i64 0, .int .i64 0, .int .i64 0, .int .i64 0, .int .i64 0] t frozen
  | o => o
theorem laid_metR (os : Os) : laidMet Tryd.prog Rows.fixedRespondsRow.laid (({ World.holding Tryd.prog os ⟨#[], #[], []⟩ with heap := laidHeap (World.holding Tryd.prog os ⟨#[], #[], []⟩).heap } : World).forCall (fun _ _ => 0) ⟨#[], #[.slice none 0 0, .int .i64 0, .int .i64 0, .slice none 0 0], []⟩).memory :=
  laidMet_of_run' 8 (by kernel_rfl) (by kernel_rfl)
theorem readsR (os : Os) {H : Type} (enc : TypeId × Value → H) : ∃ places, DataW.whole enc Tryd.prog (({ World.holding Tryd.prog os ⟨#[], #[], []⟩ with heap := laidHeap (World.holding Tryd.prog os ⟨#[], #[], []⟩).heap } : World).forCall (fun _ _ => 0) ⟨#[], #[.slice none 0 0, .int .i64 0, .int .i64 0, .slice none 0 0], []⟩).memory Tryd.f7.params.toList Rows.fixedRespondsSpec.vars false #[Value.slice none 0 0, .int .i64 0, .int .i64 0, .slice none 0 0].toList 8 = some ([.nil, .lit (.int .i64 0), .lit (.int .i64 0), .nil], [], places) :=
  ⟨[], by kernel_rfl⟩

set_option maxRecDepth 100000 in
theorem liftedR (os : Os) (started : os.Started) (H : Type) (enc : TypeId × Value → H) (F : Stop.Interp) :
    ReturnsInHanded {} Tryd.checked os 7 .any ((OpenSpec.ofChange Rows.fixedRespondsSpec).preRow enc Tryd.prog Tryd.f7 Rows.fixedRespondsRow.domain false Rows.fixedRespondsRow.laid) (((OpenSpec.ofChange Rows.fixedRespondsSpec).at F).post enc Tryd.prog Tryd.f7 false true false false) := by
  obtain ⟨places, hx⟩ := readsR os enc
  refine returnsInHanded_of_row (C := Tryd.checked) (s := OpenSpec.ofChange Rows.fixedRespondsSpec) own started (by kernel_rfl) Tryd.func7
    (witness_row_at (enc := enc) (C := Tryd.checked) false ({ World.holding Tryd.prog os ⟨#[], #[], []⟩ with heap := laidHeap (World.holding Tryd.prog os ⟨#[], #[], []⟩).heap } : World) #[.slice none 0 0, .int .i64 0, .int .i64 0, .slice none 0 0] rfl (by kernel_rfl) (by kernel_rfl) (by kernel_rfl)
      (OpenSpec.preRow_of_cond 8 hx (by kernel_rfl) (fun k hk => by cases hk) (by kernel_rfl) (laid_metR os))) ?_
  intro W base args ds gs before hval hW _ _ _ hL _ _
  exact contractR H enc W base args ds gs before hval hW hL

theorem saidR : Rows.FixedRespondsSaid :=
  OpenClaim.holds_of_cond 7 Tryd.f7 rfl rfl rfl rfl rfl rfl rfl ⟨rfl, rfl, rfl, rfl, rfl⟩ rfl rfl rfl rfl rfl (by kernel_rfl) Tryd.func7 (by kernel_rfl)
    (of_decide_eq_true (by kernel_rfl)) (by unfold Func.isWrapper; first | (rw [if_pos (by decide +kernel)]; kernel_rfl) | (rw [if_neg (by decide +kernel)]; exact ⟨rfl, rfl⟩))
    (fun os started H enc _ F => by rw [OpenClaim.pre_eq_preRow]; exact liftedR os started H enc F)

/-- No parameter wants a stand-in; the program's own looks. -/
theorem standlessR (f : FuncId) (fn : Func) (hf : Tryd.pinned.checked.prog.funcNamed "punctual/punctuallaw.FixedResponds" = some f) (hfn : Tryd.pinned.checked.prog.funcs[f]? = some fn) :
    false = Tryd.pinned.checked.prog.looks [] ∧ ∀ (j : Nat) t, fn.params[j]? = some t → Tryd.pinned.checked.prog.wantsStandIn t = false := by
  obtain rfl : f = 7 := Option.some.inj ((show Tryd.prog.funcNamed "punctual/punctuallaw.FixedResponds" = some 7 by kernel_rfl).symm.trans hf) |>.symm
  obtain rfl : fn = Tryd.f7 := (Option.some.inj (Tryd.func7.symm.trans hfn)).symm
  refine ⟨by kernel_rfl, fun j t ht => ?_⟩
  rw [Tryd.params7] at ht
  have h : t = 22 ∨ t = 3 ∨ t = 43 := by
    have := Array.mem_of_getElem? ht
    simp at this
    omega
  rcases h with rfl | rfl | rfl
  · exact (show Tryd.prog.wantsStandIn 22 = false by kernel_rfl)
  · exact (show Tryd.prog.wantsStandIn 3 = false by kernel_rfl)
  · exact (show Tryd.prog.wantsStandIn 43 = false by kernel_rfl)

theorem fixedResponds_card : Rows.FixedRespondsCardSaid :=
  Claim7.holds_tied_plain_at .later [] _ _ _ _ saidR (fun _ h => by cases h) (by kernel_rfl) (fun _ h => by cases h) fixedResponds_row_tie rfl ⟨rfl, rfl⟩ (by kernel_rfl) rfl standlessR (by kernel_rfl)
end Go.Proofs.YtkafihaajpifoaeDoor
