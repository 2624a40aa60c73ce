import Derived.Test.YtikdidfgdiafoabDoorGWhole
import Derived.Lib.SliceRun
import Derived.Shelf.RegionOpenPlain
namespace Go.Proofs.YtikdidfgdiafoabDoor
open Go.ChangeShapes Go.WideShapes Go.ChangeAt Go.RowKit

/-- A row of eight numbers of its own. -/
theorem VarBlk.of_owns {w : World} {B : Nat} {v : Value} {vs : List Int} (h : w.ownsRow B 3 1 v 8 (intVs vs)) (hl : vs.length = 8) : ∃ vb vc, v = .slice (some ⟨vb, 0, none⟩) 8 vc ∧ VarBlk w vb vc vs ∧ B ≤ vb := by
  rcases h.2 with ⟨_, h0⟩ | ⟨g, cap, cur, rfl, hb, hh, hnc, hcm, hcs, htk⟩
  · omega
  refine ⟨g, cap, rfl, ⟨hl, cur, hh, by omega, fun j hj => ?_⟩, hb⟩
  have e : (cur.toList.take (8 * 1))[j]? = (intVs vs)[j]? := by rw [htk]
  rw [List.getElem?_take_of_lt (by omega)] at e
  have e2 : cur[j]? = cur.toList[j]? := by simp
  rw [e2, e]
  have : j < vs.length := by omega
  simp [intVs, List.getD, this]

set_option maxRecDepth 20000 in
set_option maxHeartbeats 2000000 in
theorem clone_any (w : World) (b o c : Nat) (vs : List Int) (hl : vs.length = 8) (hv : ∀ j, j < 8 → w.cell? ⟨b, o + j, none⟩ = some (.int .i64 (vs.getD j 0))) :
    Calls Tryd.prog 26 #[.slice (some ⟨b, o, none⟩) 8 c] w fun r w' => ∃ vb vc, r = .returned (.slice (some ⟨vb, 0, none⟩) 8 vc) ∧ (VarBlk w' vb vc vs ∧ w.heap.size ≤ vb) ∧ Below w.heap.size w w' := by
  obtain ⟨i0, hi0, hz0, hz1, hz2⟩ := info_parts info3
  have q22 : ∀ (w : World) (a : Option Addr) (n c n' c' : Nat), (binOp .eql 23 (.slice a n c) (.slice none n' c')).run Tryd.prog w = .ok (.bool a.isNone) w := fun w a n c n' c' => Lib.run_eql_slice_nil w _ _ a n c n' c' Tryd.underlying23
  have HV : Hid ((∀ j, j < 8 → w.cell? ⟨b, o + j, none⟩ = some (.int .i64 (vs.getD j 0))) ∧ vs.length = 8) := ⟨hv, hl⟩
  clear hv hl
  go_enter Tryd.func26, Tryd.ntmps26
  go_wp2_with (at_builtin; (refine append_mine _ rfl (.tmp 5) (.tmp 6) 23 rfl w.heap.size 3 i0 _ 1 8 Tryd.underlying23 hi0 hz0 hz1 hz2 rfl (by decide) (.slice (some ⟨w.heap.size, 0, none⟩) 0 0) 0 [] rfl (World.ownsRow_made w #[] 0 (Nat.le_refl _) (Nat.zero_le _) rfl) ⟨b, o, none⟩ 8 c (intVs vs) rfl ?ql ?qc ?q1 (by decide) (by decide) (by decide) (by simp) ?_))
  case ql => have := HV.out.2; simpa [intVs] using this
  case q1 => intro u hu; obtain ⟨x, _, rfl⟩ := List.mem_map.1 hu; rfl
  case qc =>
    intro j u hj
    have hjl : j < vs.length := by have := (List.getElem?_eq_some_iff.1 hj).1; simpa [intVs] using this
    rw [Addr.add_lit]
    refine Lib.cell?_alloc_some _ ?_
    rw [HV.out.1 j (by have := HV.out.2; omega)]
    have e : (intVs vs)[j]? = some (Value.int .i64 (vs.getD j 0)) := by simp [intVs, List.getD, hjl]
    rw [e] at hj
    exact hj
  intro v3 w3 hown3 hg3 hv3
  have H3 : Hid (w3.ownsRow w.heap.size 3 1 v3 8 (intVs vs) ∧ Below w.heap.size w w3) := ⟨by simpa using hown3, ((Below.refl _ w).alloc (Nat.le_refl _) _).grown hg3 (by simp) (by intro k hk; simp [Value.ownBlock] at hk; omega)⟩
  clear hown3 hg3 hv3
  go_wp2
  go_ret
  obtain ⟨vb, vc, rfl, hb, hle⟩ := VarBlk.of_owns H3.out.1 HV.out.2
  exact ⟨vb, vc, rfl, ⟨hb, hle⟩, H3.out.2⟩
end Go.Proofs.YtikdidfgdiafoabDoor
