import Derived.Test.YtkafihaajpifoagDoorCards
import Derived.Test.YtkafihaajpifoagDoorTie
import Derived.Test.YtkafihaajpifoagDoorLX
import Derived.WideKeyArgs
import Derived.Deep.DeepHandedRow
namespace Go.Proofs.YtkafihaajpifoagDoor
open Go.ChangeShapes Go.WideShapes Go.ChangeAt Go.RowKit

theorem own : ownKnob Tryd.prog.godebug = none := by kernel_rfl
theorem laidOut : laidOutB Tryd.prog = true := by kernel_rfl
theorem reads35 : Tryd.prog.readableRec 35 = true := by kernel_rfl
theorem lt35 : 35 < Tryd.prog.types.size := of_decide_eq_true (by kernel_rfl)
theorem reads36 : Tryd.prog.readableRec 36 = true := by kernel_rfl
theorem lt36 : 36 < Tryd.prog.types.size := of_decide_eq_true (by kernel_rfl)

set_option maxRecDepth 20000 in
theorem contractK (H : Type) (enc : TypeId × Value → H) (W : World) (base : Nat) (args : Array Value) (ds gs : List (DataW H)) (before : List MemPlace)
    (hval : ∀ (j : Nat) t v, Tryd.f4.params[j]? = some t → args[j]? = some v → Value.okWide Tryd.prog W .any base t v)
    (hW : DataW.Whole enc Tryd.prog Tryd.f4.params.toList Rows.locksChecksSpec.vars false W args.toList ds gs before)
    (hsz0 : (DataW.weightsEach Tryd.prog (Tryd.f4.params.toList ++ (OpenSpec.ofChange Rows.locksChecksSpec).bare.plain.varTypes Tryd.prog) (ds ++ gs)).all (· ≤ reachBytes) = true) (hL : laidMetH Tryd.prog Rows.locksChecksRow.laid W) :
    Calls Tryd.prog 4 args W fun e W' => ∃ v, e = .returned v ∧ Rows.locksChecksSpec.post enc Tryd.prog Tryd.f4 false true false false W args v W' := by
  have hW' := hW
  obtain ⟨p, q, hA0, hV, rfl, hfz, hnd⟩ := hW
  have hA : DataW.TrodAll enc Tryd.prog W 0 (fun _ => true) true Tryd.f4.params.toList args.toList ds p := hA0
  rw [Tryd.params4] at hA hval hsz0
  obtain ⟨v0, vs0, d0, ds0, p0, q0, hargs, rfl, rfl, h0, r0⟩ := trodAll_cons hA
  obtain ⟨v1, vs1, d1, ds1, p1, q1, hargs1, rfl, rfl, h1, r1⟩ := trodAll_cons r0
  obtain ⟨rfl, rfl, rfl⟩ := trodAll_nil r1
  obtain rfl : args = #[v0, v1] := Array.toList_inj.1 (by rw [hargs, hargs1])
  obtain ⟨rfl, rfl⟩ := trodVars_none hV
  obtain ⟨ad, len, cap, rfl⟩ := okWide_slice Tryd.underlying35 (hval 0 35 v0 (by simp) (by simp))
  obtain ⟨ad2, len2, cap2, rfl⟩ := okWide_slice Tryd.underlying36 (hval 1 36 v1 (by simp) (by simp))
  clear hA0 hargs hargs1
  simp only [List.append_nil] at hW'
  obtain ⟨n0, hn0⟩ := h0
  obtain ⟨l, rfl, hsl, -⟩ := acSl_of (show DataW.trod enc Tryd.prog W 0 (fun _ => true) true n0 35 [.slice ad len cap] = some (d0, p0) from hn0)
  obtain ⟨js, rfl, hlk, hwt⟩ := lkSl_of_trod h1
  have hwj : ∀ x ∈ js, x.acts.length * 16 ≤ 140737488355328 := fun x hx => by
    have hall : ∀ q ∈ d1.weights Tryd.prog 36, q ≤ reachBytes := fun q hq => by
      have h9 := List.all_eq_true.1 hsz0 q (by
        show q ∈ DataW.weightsEach Tryd.prog (35 :: 36 :: _) (d0 :: d1 :: _)
        rw [DataW.weightsEach, DataW.weightsEach]
        exact List.mem_append_right _ (List.mem_append_left _ hq))
      simpa using h9
    have := hwt reachBytes hall x hx
    unfold reachBytes at this
    omega
  refine (checks_walk W l js _ _ hwj (of_laid hL) hsl hlk).mono fun e W' ⟨he, hbel⟩ => ?_
  subst he
  have hlt0 : ∀ x ∈ p0, x.block < W.heap.size := fun x hx => DataW.trod_lt n0 _ _ _ hn0 x hx
  have hlt1 : ∀ x ∈ p1, x.block < W.heap.size := fun x hx => by
    obtain ⟨n, hn⟩ := h1
    exact DataW.trod_lt n _ _ _ hn x hx
  refine ⟨_, rfl, [d0, d1], [], p0 ++ p1, [], p0 ++ p1, [], hW', trodAll_mk1 (shut_bool Tryd.underlying4 _), ?_, rfl, hbel.frame _, fun h => by cases h⟩
  have s0 := WideElems.Trod_stays (W' := W') (sp' := fun b => decide (b < W.heap.size)) laidOut reads35 lt35 ⟨n0, hn0⟩ (fun x hx => hbel.same (hlt0 x hx)) (fun x hx => by simpa using hlt0 x hx)
  have s1 := WideElems.Trod_stays (W' := W') (sp' := fun b => decide (b < W.heap.size)) laidOut reads36 lt36 h1 (fun x hx => hbel.same (hlt1 x hx)) (fun x hx => by simpa using hlt1 x hx)
  have e1 := trodAll_cons_mk s0 (trodAll_cons_mk s1 (trodAll_mk0 (enc := enc) (P := Tryd.prog) (w := W') (base := 0) (spare := fun b => decide (b < W.heap.size)) (held := true)))
  rw [List.append_nil] at e1
  exact e1

/-- A world for the witness: the settled one, the variable holding what its initialiser lays. -/
def laidHeap (h : Array Obj) : Array Obj := h.modify 1 fun
  | .cells _ t frozen => .cells #[.int .i64 (-9), .int .i64 0] t frozen
  | o => o
theorem laid_metK (os : Os) : laidMet Tryd.prog Rows.locksChecksRow.laid (({ World.holding Tryd.prog os ⟨#[], #[], []⟩ with heap := laidHeap (World.holding Tryd.prog os ⟨#[], #[], []⟩).heap } : World).forCall (fun _ _ => 0) ⟨#[], #[.slice none 0 0, .slice none 0 0], []⟩).memory :=
  laidMet_of_run' 8 (by kernel_rfl) (by kernel_rfl)
theorem readsK (os : Os) {H : Type} (enc : TypeId × Value → H) : ∃ places, DataW.whole enc Tryd.prog (({ World.holding Tryd.prog os ⟨#[], #[], []⟩ with heap := laidHeap (World.holding Tryd.prog os ⟨#[], #[], []⟩).heap } : World).forCall (fun _ _ => 0) ⟨#[], #[.slice none 0 0, .slice none 0 0], []⟩).memory Tryd.f4.params.toList Rows.locksChecksSpec.vars false #[Value.slice none 0 0, .slice none 0 0].toList 8 = some ([.nil, .nil], [], places) :=
  ⟨[], by kernel_rfl⟩

set_option maxRecDepth 100000 in
theorem liftedK (os : Os) (started : os.Started) (H : Type) (enc : TypeId × Value → H) (F : Stop.Interp) :
    ReturnsInHanded {} Tryd.checked os 4 .any ((OpenSpec.ofChange Rows.locksChecksSpec).preRow enc Tryd.prog Tryd.f4 Rows.locksChecksRow.domain false Rows.locksChecksRow.laid) (((OpenSpec.ofChange Rows.locksChecksSpec).at F).post enc Tryd.prog Tryd.f4 false true false false) := by
  obtain ⟨places, hx⟩ := readsK os enc
  refine returnsInHanded_of_row (C := Tryd.checked) (s := OpenSpec.ofChange Rows.locksChecksSpec) own started (by kernel_rfl) Tryd.func4
    (witness_row_at (enc := enc) (C := Tryd.checked) false ({ World.holding Tryd.prog os ⟨#[], #[], []⟩ with heap := laidHeap (World.holding Tryd.prog os ⟨#[], #[], []⟩).heap } : World) #[.slice none 0 0, .slice none 0 0] rfl (by kernel_rfl) (by kernel_rfl) (by kernel_rfl)
      (OpenSpec.preRow_of_cond 8 hx (by kernel_rfl) (fun k hk => by cases hk) (by kernel_rfl) (laid_metK os))) ?_
  intro W base args ds gs before hval hW _ _ hsz hL _ _
  exact contractK H enc W base args ds gs before hval hW hsz hL

theorem saidK : Rows.LocksChecksSaid :=
  OpenClaim.holds_of_cond 4 Tryd.f4 rfl rfl rfl rfl rfl rfl rfl ⟨rfl, rfl, rfl, rfl, rfl⟩ rfl rfl rfl rfl rfl (by kernel_rfl) Tryd.func4 (by kernel_rfl)
    (of_decide_eq_true (by kernel_rfl)) (by unfold Func.isWrapper; first | (rw [if_pos (by decide +kernel)]; kernel_rfl) | (rw [if_neg (by decide +kernel)]; exact ⟨rfl, rfl⟩))
    (fun os started H enc _ F => by rw [OpenClaim.pre_eq_preRow]; exact liftedK os started H enc F)

/-- No parameter wants a stand-in; the program's own looks. -/
theorem standlessK (f : FuncId) (fn : Func) (hf : Tryd.pinned.checked.prog.funcNamed "punctual/punctuallaw.LocksChecks" = some f) (hfn : Tryd.pinned.checked.prog.funcs[f]? = some fn) :
    false = Tryd.pinned.checked.prog.looks [] ∧ ∀ (j : Nat) t, fn.params[j]? = some t → Tryd.pinned.checked.prog.wantsStandIn t = false := by
  obtain rfl : f = 4 := Option.some.inj ((show Tryd.prog.funcNamed "punctual/punctuallaw.LocksChecks" = some 4 by kernel_rfl).symm.trans hf) |>.symm
  obtain rfl : fn = Tryd.f4 := (Option.some.inj (Tryd.func4.symm.trans hfn)).symm
  refine ⟨by kernel_rfl, fun j t ht => ?_⟩
  rw [Tryd.params4] at ht
  have h : t = 35 ∨ t = 36 := by
    have := Array.mem_of_getElem? ht
    simp at this
    omega
  rcases h with rfl | rfl
  · exact (show Tryd.prog.wantsStandIn 35 = false by kernel_rfl)
  · exact (show Tryd.prog.wantsStandIn 36 = false by kernel_rfl)

theorem locksChecks_card : Rows.LocksChecksCardSaid :=
  Claim7.holds_tied_plain_at .later [] _ _ _ _ saidK (fun _ h => by cases h) (by kernel_rfl) (fun _ h => by cases h) locksChecks_row_tie rfl ⟨rfl, rfl⟩ (by kernel_rfl) rfl standlessK (by kernel_rfl)
end Go.Proofs.YtkafihaajpifoagDoor
