import Derived.Test.YtkafihaajpifoagDoorLO
namespace Go.Proofs.YtkafihaajpifoagDoor
open Go.ChangeShapes Go.WideShapes Go.ChangeAt Go.RowKit

/-- So many are measured. -/
def topsAt (l : List Lj) (m : Nat) (k : Nat) : Int := if k < m then topL (k : Int) l (-1) else -1

/-- Four numbers, one of which is being measured. -/
def FZ (w W : World) (g m : Nat) (z a0 a1 a2 a3 : Int) : Prop := Four w W g (if m = 0 then z else a0) (if m = 1 then z else a1) (if m = 2 then z else a2) (if m = 3 then z else a3)

theorem FZ.at {w W : World} {g m : Nat} {z a0 a1 a2 a3 : Int} (h : FZ w W g m z a0 a1 a2 a3) (hm : m < 4) : W.cell? ⟨g, m, none⟩ = some (.int .i64 z) ∧ W.frozen? ⟨g, m, none⟩ = false ∧ g < W.heap.size := by
  have := Four.at h m hm
  have hc : m = 0 ∨ m = 1 ∨ m = 2 ∨ m = 3 := by omega
  rcases hc with rfl | rfl | rfl | rfl <;> simpa using this

theorem FZ.set {w W : World} {g m : Nat} {z a0 a1 a2 a3 : Int} (h : FZ w W g m z a0 a1 a2 a3) (hm : m < 4) (z' : Int) : FZ w (W.setCell ⟨g, m, none⟩ (.int .i64 z')) g m z' a0 a1 a2 a3 := by
  have := Four.set h m hm z'
  have hc : m = 0 ∨ m = 1 ∨ m = 2 ∨ m = 3 := by omega
  unfold FZ
  rcases hc with rfl | rfl | rfl | rfl <;> simpa using this

theorem FZ.grow {w W W' : World} {g m : Nat} {z a0 a1 a2 a3 : Int} (h : FZ w W g m z a0 a1 a2 a3) (hb : Below W.heap.size W W') : FZ w W' g m z a0 a1 a2 a3 := Four.grow h hb

theorem FZ.first {w W : World} {g m : Nat} {l : List Lj} (hm : m < 4) (h : Four w W g (topsAt l m 0) (topsAt l m 1) (topsAt l m 2) (topsAt l m 3)) : FZ w W g m (-1) (topsAt l m 0) (topsAt l m 1) (topsAt l m 2) (topsAt l m 3) := by
  have hc : m = 0 ∨ m = 1 ∨ m = 2 ∨ m = 3 := by omega
  unfold FZ
  rcases hc with rfl | rfl | rfl | rfl <;> simpa [topsAt] using h

theorem FZ.last {w W : World} {g m : Nat} {l : List Lj} (hm : m < 4) (h : FZ w W g m (topL (m : Int) l (-1)) (topsAt l m 0) (topsAt l m 1) (topsAt l m 2) (topsAt l m 3)) : Four w W g (topsAt l (m + 1) 0) (topsAt l (m + 1) 1) (topsAt l (m + 1) 2) (topsAt l (m + 1) 3) := by
  have hc : m = 0 ∨ m = 1 ∨ m = 2 ∨ m = 3 := by omega
  unfold FZ at h
  rcases hc with rfl | rfl | rfl | rfl <;> simpa [topsAt] using h

set_option maxRecDepth 20000 in
set_option maxHeartbeats 4000000 in
/-- punctualref.Tops. -/
theorem Tops_any (w : World) (l : List Lj) (v : Value) (hv : LkSl w l v) (hl : l.length ≤ 100) (hok : ∀ x ∈ l, chkActs x.acts = (0, 0)) : Calls Tryd.prog 22 #[v] w fun r w' => ∃ u, r = .returned u ∧ RowSl nuV w' (topsF l) u ∧ Below w.heap.size w w' := by
  obtain ⟨⟨ad, c, rfl, -, hcap, hrow⟩, hacts⟩ := hv
  have HR : Hid ((∀ W, Below w.heap.size w W → (l = [] ∨ ∃ b o, ad = some ⟨b, o, none⟩ ∧ ∀ q u, (l.flatMap Lj.vals)[q]? = some u → W.cell? ⟨b, o + q, none⟩ = some u)) ∧ (∀ x ∈ l, RowSl Ac.vals w x.acts x.v) ∧ ∀ x ∈ l, chkActs x.acts = (0, 0)) := ⟨fun W hb => hrow.imp id (fun ⟨b, o, e, h⟩ => ⟨b, o, e, fun q u hq => below_cell hb (h q u hq)⟩), hacts, hok⟩
  clear hrow hacts hok
  go_enter Tryd.func22, Tryd.ntmps22
  go_wp2_with fail
  go_loopw [12] (fun i wr => ∃ m : Nat, m ≤ 4 ∧ i = .int .i64 m ∧ Four w wr w.heap.size (topsAt l m 0) (topsAt l m 1) (topsAt l m 2) (topsAt l m 3)) (fun i _ => 4 - (intOf i).toNat)
  case atStart => exact ⟨0, Nat.zero_le _, rfl, below_new _ _, Nat.le_refl _, heap_alloc_new _ _⟩
  case round =>
    obtain ⟨m, hm, rfl, hf⟩ := hrel
    by_cases hlt : m < 4
    · have hmi : (m : Int) < 4 := by omega
      generalize hA : topsAt l m 0 = a0 at *
      generalize hB : topsAt l m 1 = a1 at *
      generalize hC : topsAt l m 2 = a2 at *
      generalize hD : topsAt l m 3 = a3 at *
      have HT : Hid (topsAt l m 0 = a0 ∧ topsAt l m 1 = a1 ∧ topsAt l m 2 = a2 ∧ topsAt l m 3 = a3) := ⟨hA, hB, hC, hD⟩
      have HF0 : Hid (Four w wr w.heap.size a0 a1 a2 a3) := hf
      have hfz : FZ w wr w.heap.size m (-1) a0 a1 a2 a3 := by
        have := FZ.first (l := l) hlt (by rw [hA, hB, hC, hD]; exact hf)
        rw [hA, hB, hC, hD] at this
        exact this
      have HZ : Hid (FZ w wr w.heap.size m (-1) a0 a1 a2 a3 ∧ m < 4) := ⟨hfz, hlt⟩
      clear hA hB hC hD hf hfz HF0
      go_wp2_with fail
      go_loopw [17] (fun i wl => ∃ (j : Nat) (z : Int), j ≤ l.length ∧ i = .int .i64 j ∧ FZ w wl w.heap.size m z a0 a1 a2 a3 ∧ topL (m : Int) (l.drop j) z = topL (m : Int) l (-1)) (fun i _ => l.length - (intOf i).toNat)
      case atStart => exact ⟨0, -1, Nat.zero_le _, rfl, HZ.out.1, rfl⟩
      case round =>
        obtain ⟨j, z, hj, rfl, hf, hq⟩ := hrel
        by_cases hjl : j < l.length
        · obtain ⟨x, hx, hd⟩ := drop_at hjl
          rw [hd, topL] at hq
          rcases HR.out.1 wr hf.bel with h | ⟨b, o, rfl, hrow⟩
          · rw [h] at hjl; simp at hjl
          have ha := lj_at hrow hx
          have hmem := List.mem_of_getElem? hx
          have hacW := HR.out.2.1 x hmem
          obtain ⟨hal, -⟩ := chkActs_fine (HR.out.2.2 x hmem)
          obtain ⟨xa, xp, xacts, xv⟩ := x
          dsimp only at hacW hq hal
          obtain ⟨aad, ac, rfl⟩ := hacW.len
          obtain ⟨c0, c1, c2⟩ := ha
          dsimp only at c0 c1 c2
          have lb : b < wr.heap.size := World.block_lt_of_cell? _ _ c0
          have hji : (j : Int) < (l.length : Int) := by omega
          have HQ : Hid (topL (m : Int) (l.drop (j + 1)) (topA xp (m : Int) xacts z) = topL (m : Int) l (-1)) := hq
          have HB : Hid (FZ w (wr.alloc (.cells #[.int .i64 xa, .int .i64 xp, .slice aad xacts.length ac] 44)) w.heap.size m z a0 a1 a2 a3) := hf.grow (below_new _ _)
          have H9 : Hid (∀ W, Below w.heap.size w W → (xacts = [] ∨ ∃ b o, aad = some ⟨b, o, none⟩ ∧ ∀ q u, (xacts.flatMap Ac.vals)[q]? = some u → W.cell? ⟨b, o + q, none⟩ = some u)) := fun W hb => by
            obtain ⟨_, _, e9, -, -, h9⟩ := hacW.below hb
            cases e9
            exact h9
          have hcap2 : xacts.length ≤ ac := by
            obtain ⟨_, _, e9, -, h9, -⟩ := hacW
            cases e9
            exact h9
          obtain ⟨wo, hwo⟩ : ∃ wo, wo = wr := ⟨_, rfl⟩
          subst hwo
          have hgl : w.heap.size < wo.heap.size := (hf.at HZ.out.2).2.2
          clear hf hq hrow hx hd hacW hmem
          go_wp2_with fail
          go_loopw [24] (fun i wl => ∃ (k : Nat) (z' : Int), k ≤ xacts.length ∧ i = .int .i64 k ∧ FZ w wl w.heap.size m z' a0 a1 a2 a3 ∧ wl.heap[wo.heap.size]? = some (.cells #[.int .i64 xa, .int .i64 xp, .slice aad xacts.length ac] 44 (0, 0)) ∧ topA xp (m : Int) (xacts.drop k) z' = topA xp (m : Int) xacts z) (fun i _ => xacts.length - (intOf i).toNat)
          case atStart => exact ⟨0, z, Nat.zero_le _, rfl, HB.out, heap_alloc_new _ _, rfl⟩
          case round =>
            obtain ⟨k, z', hk, rfl, hf, hjb, hq⟩ := hrel
            obtain ⟨jc, jf, jl⟩ := cells_of (l := [_, _, _]) hjb
            have jc1 := jc 1 _ rfl
            by_cases hkl : k < xacts.length
            · obtain ⟨y, hy, hyd⟩ := drop_at hkl
              rw [hyd, topA] at hq
              rcases H9.out wr hf.bel with h | ⟨rb, ro, rfl, hrow⟩
              · rw [h] at hkl; simp at hkl
              obtain ⟨e0, e1⟩ := ac_at hrow hy
              have rlb : rb < wr.heap.size := World.block_lt_of_cell? _ _ e0
              have hki : (k : Int) < (xacts.length : Int) := by omega
              obtain ⟨yd, yn⟩ := y
              dsimp only at e0 e1 hq
              have HF : Hid (FZ w (wr.alloc (.cells #[.int .i64 yd, .int .i64 yn] 48)) w.heap.size m z' a0 a1 a2 a3 ∧ (wr.alloc (.cells #[.int .i64 yd, .int .i64 yn] 48)).heap[wo.heap.size]? = some (.cells #[.int .i64 xa, .int .i64 xp, .slice (some ⟨rb, ro, none⟩) xacts.length ac] 44 (0, 0))) := ⟨hf.grow (below_new _ _), ((below_new _ _).block _ jl).trans hjb⟩
              obtain ⟨f1, f2, f3⟩ := hf.at HZ.out.2
              clear hf hjb jc jf hrow hy hyd
              by_cases hy2 : yd = 2
              · subst hy2
                by_cases hyn : yn = (m : Int)
                · subst hyn
                  by_cases hp : z' < xp
                  · rw [if_pos ⟨rfl, rfl⟩, show max z' xp = xp by omega] at hq
                    have HQ2 : Hid (topA xp (m : Int) (xacts.drop (k + 1)) xp = topA xp (m : Int) xacts z) := hq
                    clear hq
                    go_wp2_with fail
                    go_quiet (fail)
                    go_wp2_with fail
                    refine ⟨⟨k + 1, xp, by omega, by simp, (HF.out.1.grow below_drewN').set HZ.out.2 xp, ?_, HQ2.out⟩, by simp [intOf]; omega⟩
                    rw [Below.heap_setCell _ _ _ _ (by show ¬ (wo.heap.size = w.heap.size); omega)]
                    exact (below_drewN'.block _ (by simp; omega)).trans HF.out.2
                  · rw [if_pos ⟨rfl, rfl⟩, show max z' xp = z' by omega] at hq
                    have HQ2 : Hid (topA xp (m : Int) (xacts.drop (k + 1)) z' = topA xp (m : Int) xacts z) := hq
                    clear hq
                    go_wp2_with fail
                    go_quiet (fail)
                    go_wp2_with fail
                    exact ⟨⟨k + 1, z', by omega, by simp, HF.out.1.grow below_drewN', (below_drewN'.block _ (by simp; omega)).trans HF.out.2, HQ2.out⟩, by simp [intOf]; omega⟩
                · have hyn' : (yn == (m : Int)) = false := by simpa using hyn
                  rw [if_neg (by simp [hyn])] at hq
                  have HQ2 : Hid (topA xp (m : Int) (xacts.drop (k + 1)) z' = topA xp (m : Int) xacts z) := hq
                  clear hq
                  go_wp2_with fail
                  go_quiet (fail)
                  go_wp2_with fail
                  exact ⟨⟨k + 1, z', by omega, by simp, HF.out.1.grow below_drewN', (below_drewN'.block _ (by simp; omega)).trans HF.out.2, HQ2.out⟩, by simp [intOf]; omega⟩
              · have hy2' : (yd == 2) = false := by simpa using hy2
                rw [if_neg (by simp [hy2])] at hq
                have HQ2 : Hid (topA xp (m : Int) (xacts.drop (k + 1)) z' = topA xp (m : Int) xacts z) := hq
                clear hq
                go_wp2_with fail
                go_quiet (fail)
                go_wp2_with fail
                exact ⟨⟨k + 1, z', by omega, by simp, HF.out.1.grow below_drewN', (below_drewN'.block _ (by simp; omega)).trans HF.out.2, HQ2.out⟩, by simp [intOf]; omega⟩
            · have hke : k = xacts.length := by omega
              subst hke
              rw [List.drop_length, topA] at hq
              have HF : Hid (FZ w wr w.heap.size m z' a0 a1 a2 a3) := hf
              have HQ2 : Hid (z' = topA xp (m : Int) xacts z) := hq
              clear hf hq hjb jc jf
              go_wp2_with fail
              have e9 := HQ2.out
              subst e9
              exact ⟨⟨j + 1, _, by omega, by simp, HF.out, HQ.out⟩, by simp [intOf]; omega⟩
        · have hje : j = l.length := by omega
          subst hje
          rw [List.drop_length, topL] at hq
          have HF : Hid (FZ w wr w.heap.size m z a0 a1 a2 a3) := hf
          have HQ : Hid (z = topL (m : Int) l (-1)) := hq
          clear hf hq
          go_wp2_with fail
          have e9 := HQ.out
          subst e9
          refine ⟨⟨m + 1, by omega, by simp, ?_⟩, by simp [intOf]; omega⟩
          obtain ⟨t0, t1, t2, t3⟩ := HT.out
          refine FZ.last (l := l) hlt ?_
          rw [t0, t1, t2, t3]
          exact HF.out
    · have hme : m = 4 := by omega
      subst hme
      have HF : Hid (Four w wr w.heap.size (topsAt l 4 0) (topsAt l 4 1) (topsAt l 4 2) (topsAt l 4 3)) := hf
      clear hf
      go_wp2_with fail
      go_ret
      exact ⟨_, rfl, HF.out.sl, HF.out.bel⟩
end Go.Proofs.YtkafihaajpifoagDoor
