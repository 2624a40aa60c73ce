import Derived.Test.YtkafihaajpifoagDoorLS
namespace Go.Proofs.YtkafihaajpifoagDoor
open Go.ChangeShapes Go.WideShapes Go.ChangeAt Go.RowKit

theorem Cop.block_lt {w W : World} {js : List Lj} {ov : Value} (h : Cop w W js ov) {k : Nat} (hk : ov.ownBlock = some k) : k < W.heap.size := by
  obtain ⟨-, ⟨e, -⟩ | ⟨g, cap, cur, e, -, hg, -⟩⟩ := h.own
  · rw [e] at hk; cases hk
  · rw [e] at hk; cases hk; exact (Array.getElem?_eq_some_iff.1 hg).1

theorem Cop.block_low {w W : World} {js : List Lj} {ov : Value} (h : Cop w W js ov) {k : Nat} (hk : ov.ownBlock = some k) : w.heap.size ≤ k := by
  obtain ⟨-, ⟨e, -⟩ | ⟨g, cap, cur, e, hB, -⟩⟩ := h.own
  · rw [e] at hk; cases hk
  · rw [e] at hk; cases hk; exact hB

set_option maxRecDepth 20000 in
set_option maxHeartbeats 4000000 in
/-- punctualsame.Acts. -/
theorem Acts_any (w : World) (l : List Lj) (v : Value) (hl : l.length ≤ 5000) (hs : ∀ x ∈ l, x.acts.length * 16 ≤ 140737488355328) (hv : LkSl w l v) :
    Calls Tryd.prog 20 #[v] w fun r w' => ∃ u js, r = .returned u ∧ js.map Lj.core = l.map Lj.core ∧ LkSl w' js u ∧ Below w.heap.size w w' ∧ (∀ k, u.ownBlock = some k → w.heap.size ≤ k) ∧ ∀ x ∈ js, ∀ k, x.v.ownBlock = some k → w.heap.size ≤ k := by
  obtain ⟨⟨ad, c, rfl, -, hcap, hrow⟩, hacts⟩ := hv
  have HR : Hid ((∀ W, Below w.heap.size w W → (l = [] ∨ ∃ b o, ad = some ⟨b, o, none⟩ ∧ ∀ q u, (l.flatMap Lj.vals)[q]? = some u → W.cell? ⟨b, o + q, none⟩ = some u)) ∧ (∀ x ∈ l, RowSl Ac.vals w x.acts x.v) ∧ ∀ x ∈ l, x.acts.length * 16 ≤ 140737488355328) := ⟨fun W hb => hrow.imp id (fun ⟨b, o, e, h⟩ => ⟨b, o, e, fun q u hq => below_cell hb (h q u hq)⟩), hacts, hs⟩
  clear hrow hacts hs
  go_enter Tryd.func20, Tryd.ntmps20
  go_wp2_with fail
  go_loopw [3, 8] (fun ov i wr => ∃ (j : Nat) (js : List Lj), j ≤ l.length ∧ i = .int .i64 j ∧ Cop w wr js ov ∧ js.map Lj.core = (l.take j).map Lj.core) (fun _ i _ => l.length - (intOf i).toNat)
  case atStart => exact ⟨0, [], Nat.zero_le _, rfl, ⟨Below.refl _ _, ⟨rfl, .inl ⟨rfl, rfl⟩⟩, fun x hx => by simp at hx, fun x hx => by simp at hx, fun x hx => by simp at hx, fun x hx => by simp at hx⟩, rfl⟩
  case round =>
    obtain ⟨j, js, hj, rfl, hc, hq⟩ := hrel
    have hjs : js.length = j := by
      have := congrArg List.length hq
      simp at this
      omega
    subst hjs
    obtain ⟨oad, oc, rfl⟩ := owns_value hc.own
    by_cases hlt : js.length < l.length
    · obtain ⟨x, hx, hd⟩ := drop_at hlt
      rcases HR.out.1 wr hc.bel with h | ⟨b, o, rfl, hrow⟩
      · rw [h] at hlt; simp at hlt
      have ha := lj_at hrow hx
      have hmem := List.mem_of_getElem? hx
      have hac := (HR.out.2.1 x hmem).below hc.bel
      have hsz := HR.out.2.2 x hmem
      obtain ⟨xa, xp, xacts, xv⟩ := x
      dsimp only at hac hsz
      obtain ⟨aad, ac, rfl⟩ := hac.len
      obtain ⟨c0, c1, c2⟩ := ha
      dsimp only at c0 c1 c2
      have lb : b < wr.heap.size := World.block_lt_of_cell? _ _ c0
      have hji : (js.length : Int) < (l.length : Int) := by omega
      obtain ⟨u, W2, hrun, hu, hb2, hub⟩ := copyActs (wr.alloc (.cells #[.int .i64 xa, .int .i64 xp, .slice aad xacts.length ac] 44)) xacts aad ac hsz (hac.below (below_new _ _))
      obtain ⟨uad, uc, rfl⟩ := hu.len
      have hjb : W2.heap[wr.heap.size]? = some (.cells #[.int .i64 xa, .int .i64 xp, .slice aad xacts.length ac] 44 (0, 0)) := (hb2.block _ (by simp)).trans (heap_alloc_new _ _)
      obtain ⟨jc, jf, jl⟩ := cells_of (l := [_, _, _]) hjb
      have jc0 := jc 0 _ rfl
      have jc1 := jc 1 _ rfl
      have jc2 := jc 2 _ rfl
      have jf2 := jf 2
      have hB3 : Below wr.heap.size wr (W2.setCell ⟨wr.heap.size, 2, none⟩ (.slice uad xacts.length uc)) := (below_seq (below_new wr _) hb2).setCell (Nat.le_refl _) _
      have hub' : ∀ k, (Value.slice uad xacts.length uc).ownBlock = some k → wr.heap.size < k ∧ k < W2.heap.size := fun k hk => by
        have h7 := hub k hk
        simp at h7
        omega
      have hu3 : RowSl Ac.vals (W2.setCell ⟨wr.heap.size, 2, none⟩ (.slice uad xacts.length uc)) xacts (.slice uad xacts.length uc) := hu.keep fun k hk => Below.heap_setCell _ _ _ _ (by have := hub' k hk; show ¬ (k = wr.heap.size); omega)
      obtain ⟨ov', W4, hrun2, hc4⟩ := (hc.grow hB3).push ⟨xa, xp, xacts, .slice uad xacts.length uc⟩ (by omega) hu3 rfl (fun k hk => ⟨by have := hub' k hk; simp; omega, fun e => by have h7 := hc.block_lt e; have h8 := hub' k hk; omega⟩) (fun k hk => by have h8 := hub' k hk; have h9 := hc.bel.size; omega)
      rw [show (wr.alloc (.cells #[.int .i64 xa, .int .i64 xp, .slice aad xacts.length ac] 44)).heap.size = wr.heap.size + 1 by simp] at hrun
      rw [show (W2.setCell ⟨wr.heap.size, 2, none⟩ (.slice uad xacts.length uc)).heap.size = W2.heap.size by simp] at hrun2
      have HC : Hid (Cop w W4 (js ++ ([⟨xa, xp, xacts, .slice uad xacts.length uc⟩] : List Lj)) ov') := hc4
      have HQ : Hid ((js ++ ([⟨xa, xp, xacts, .slice uad xacts.length uc⟩] : List Lj)).map Lj.core = (l.take (js.length + 1)).map Lj.core) := by
        show _ = _
        rw [List.take_add_one, hx, List.map_append, List.map_append, hq]
        rfl
      have H1 : Hid (_ = _) := hrun
      have H2 : Hid (_ = _) := hrun2
      clear hc hq hrow hac hx hd hmem hu hb2 hub hub' hjb jc jf hB3 hu3 hc4 hrun hrun2
      go_wp2_with (first | (at_builtin; refine append_known rfl (.tmp 12) (.tmp 14) 35 rfl rfl rfl H1.out ?_) | (at_builtin; refine append_known rfl (.tmp 17) (.tmp 19) 36 rfl rfl rfl H2.out ?_))
      exact ⟨⟨js.length + 1, _, by omega, by simp, HC.out, HQ.out⟩, by simp [intOf]; omega⟩
    · have hje : js.length = l.length := by omega
      rw [hje, List.take_length] at hq
      have HC : Hid (Cop w wr js (.slice oad js.length oc) ∧ js.map Lj.core = l.map Lj.core) := ⟨hc, hq⟩
      clear hc hq
      go_wp2_with fail
      go_ret
      exact ⟨_, js, rfl, HC.out.2, ⟨row_own Lj.len HC.out.1.own, HC.out.1.acts⟩, HC.out.1.bel, fun k hk => HC.out.1.block_low hk, HC.out.1.low⟩
end Go.Proofs.YtkafihaajpifoagDoor
