import Derived.Test.YtgemadoieielcacDoorGWP
import Derived.Test.YtgemadoieielcacDoorGRIm
import Derived.Test.YtgemadoieielcacDoorGNest
namespace Go.Proofs.YtgemadoieielcacDoor
open Go.ChangeShapes Go.WideShapes Go.ChangeAt Go.RowKit

/-- What closes what, of the regions that were read. -/
def findR (k : Nat) : List (Nat × Nat) → Int
  | [] => -1
  | p :: r => if p.1 = k then (p.2 : Int) else findR k r

theorem findR_eq {k : Nat} {f : Nat → Nat} : ∀ (rs : List (Nat × Nat)), (∀ p ∈ rs, p.2 = f p.1) → (∃ p ∈ rs, p.1 = k) → findR k rs = (f k : Int)
  | [], _, h => by obtain ⟨p, hp, -⟩ := h; cases hp
  | p :: r, h1, h2 => by
    rw [findR]
    split
    · rename_i e; rw [h1 p (by simp), e]
    · rename_i e
      refine findR_eq r (fun q hq => h1 q (List.mem_cons_of_mem _ hq)) ?_
      obtain ⟨q, hq, e2⟩ := h2
      rcases List.mem_cons.1 hq with rfl | hq
      · exact absurd e2 e
      · exact ⟨q, hq, e2⟩

theorem docNest_rs {l : List In} : ∀ (n j : Nat) (os : List Nat) (rs rs' : List (Nat × Nat)) (os' : List Nat), l.length - j = n → j ≤ l.length → docNest l (l.drop j) j os rs = .inr (os', rs') → os = osAt l j →
    (∀ p ∈ rs', p ∈ rs ∨ ∃ k, j ≤ k ∧ k < l.length ∧ ((l.getD k in0).op = 14 ∨ (l.getD k in0).op = 17) ∧ p = ((osAt l k).getLast?.getD 0, k)) ∧ (∀ p ∈ rs, p ∈ rs') ∧ ∀ k, j ≤ k → k < l.length → ((l.getD k in0).op = 14 ∨ (l.getD k in0).op = 17) → ((osAt l k).getLast?.getD 0, k) ∈ rs'
  | 0, j, os, rs, rs', os', hn, hj, h, ho => by
    have : j = l.length := by omega
    subst this
    rw [List.drop_length, docNest] at h
    cases h
    exact ⟨fun p hp => .inl hp, fun p hp => hp, fun k h1 h2 => by omega⟩
  | n + 1, j, os, rs, rs', os', hn, hj, h, ho => by
    rw [drop_at (by omega), docNest] at h
    split at h
    · cases h
    rename_i h0
    have h0' : (docOf l j (l.getD j in0) os).1 = 0 := Classical.not_not.1 h0
    have hst : (docOf l j (l.getD j in0) os).2 = osAt l (j + 1) := by
      show _ = osStep _ _ _
      rw [← ho]
      exact docOf_step h0'
    obtain ⟨q1, q2, q3⟩ := docNest_rs n (j + 1) _ _ rs' os' (by omega) (by omega) h hst
    subst ho
    refine ⟨fun p hp => ?_, fun p hp => q2 p ?_, fun k h1 h2 h3 => ?_⟩
    · rcases q1 p hp with hp | ⟨k, h1, h2, h3⟩
      · split at hp
        · rename_i e
          rcases List.mem_append.1 hp with hp | hp
          · exact .inl hp
          · exact .inr ⟨j, Nat.le_refl _, by omega, e, by simpa using hp⟩
        · exact .inl hp
      · exact .inr ⟨k, by omega, h2, h3⟩
    · split
      · exact List.mem_append.2 (.inl hp)
      · exact hp
    · by_cases hk : k = j
      · subst hk
        refine q2 _ ?_
        rw [if_pos h3]
        exact List.mem_append.2 (.inr (by simp))
      · exact q3 k (by omega) h2 h3

/-- The document's regions tell what closes what. -/
theorem find_cl {l : List In} {rs : List (Nat × Nat)} (hg : GL l) (h : docNest l l 0 [] [] = .inr ([], rs)) {k : Nat} (hk : k < l.length) (e : (l.getD k in0).op = 13 ∨ (l.getD k in0).op = 16) : findR k rs = (clF l k : Int) := by
  obtain ⟨q1, -, q3⟩ := docNest_rs (l := l) l.length 0 [] [] rs [] (by omega) (by omega) (by rw [List.drop_zero]; exact h) rfl
  have hcl : ∀ k, k < l.length → ((l.getD k in0).op = 14 ∨ (l.getD k in0).op = 17) → clF l ((osAt l k).getLast?.getD 0) = k := fun k hk e => by
    rcases e with e | e
    · obtain ⟨o, b1, -, -, -, b5⟩ := hg.nst.again k hk e
      rw [b1]; simpa using b5
    · obtain ⟨o, b1, -, b5⟩ := hg.nst.unlock k hk e
      rw [b1]; simpa using b5
  refine findR_eq rs (fun p hp => ?_) ?_
  · rcases q1 p hp with hp | ⟨j, -, h2, h3, rfl⟩
    · cases hp
    · exact (hcl j h2 h3).symm
  · have hm : k ∈ osAt l (k + 1) := by rw [hg.nst.push k hk e]; simp
    obtain ⟨j, a1, a2, a3, a4⟩ := osAt_shut (l.length - (k + 1)) (k + 1) hm (by rw [show k + 1 + (l.length - (k + 1)) = l.length by omega, hg.nst.fin]; simp)
    exact ⟨_, q3 j (Nat.zero_le _) (by omega) a3, by rw [a4]; simp⟩

/-- What the document's closure knows. -/
structure ShAt (w : World) (p : Nat) (k n : Nat) (R : Nat → Int) : Prop where
  box : ∃ mb N M, w.cell? ⟨p, 0, none⟩ = some (.map (some mb)) ∧ HtAt w mb N M ∧ ∀ j : Nat, k < j → j ≤ n → (M j).getD 0 = R j

theorem ShAt.below {w w' : World} {p k n : Nat} {R : Nat → Int} (h : ShAt w p k n R) (hb : Below w.heap.size w w') : ShAt w' p k n R := by
  obtain ⟨mb, N, M, h1, h2, h3⟩ := h.box
  exact ⟨mb, N, M, below_cell hb h1, h2.below hb, h3⟩

set_option maxRecDepth 20000 in
set_option maxHeartbeats 4000000 in
theorem worst1_same (w : World) (p k n : Nat) (R : Nat → Int) (j : Nat) (hn : n ≤ 2000) (hkj : k < j) (hj : j ≤ n) (ht : ShAt w p k n R) : Calls Tryd.prog 77 #[.int .i64 j, .pointer (some ⟨p, 0, none⟩)] w fun r w' => r = .returned (.int .i64 (R j)) ∧ w' = w := by
  obtain ⟨mb, N, M, hb, hm, hR⟩ := ht.box
  clear ht
  have hlk := hm.look1 (z := (j : Int)) (by omega)
  rw [hR j hkj hj] at hlk
  have hlt : p < w.heap.size := World.block_lt_of_cell? _ _ hb
  clear hm hR
  generalize R j = z at *
  go_enter Tryd.func77, Tryd.ntmps77
  go_wp2_with fail
  go_ret
  exact ⟨rfl, rfl⟩

set_option maxRecDepth 20000 in
set_option maxHeartbeats 4000000 in
theorem closes_any (w : World) (mb k : Nat) (rs : List (Nat × Nat)) (gv : Value) (h1 : w.cell? ⟨mb, 1, none⟩ = some gv) (hr : RegSl w rs gv) (hl : rs.length ≤ 1000000) : Calls Tryd.prog 111 #[.pointer (some ⟨mb, 0, none⟩), .int .i64 k] w fun r w' => r = .returned (.int .i64 (findR k rs)) ∧ Below w.heap.size w w' := by
  obtain ⟨ad, c, rfl, hrow⟩ := hr
  have HR : Hid (rs = [] ∨ ∃ b o, ad = some ⟨b, o, none⟩ ∧ ∀ j, j < rs.length → w.cell? ⟨b, o + j * 2, none⟩ = some (.int .i64 ((rs.getD j (0, 0)).1 : Int)) ∧ w.cell? ⟨b, o + j * 2 + 1, none⟩ = some (.int .i64 ((rs.getD j (0, 0)).2 : Int))) := hrow
  have hlt : mb < w.heap.size := World.block_lt_of_cell? _ _ h1
  clear hrow
  go_enter Tryd.func111, Tryd.ntmps111
  go_wp2_with fail
  go_loopw [12] (fun i wr => ∃ j : Nat, j ≤ rs.length ∧ i = .int .i64 j ∧ Below w.heap.size w wr ∧ findR k (rs.drop j) = findR k rs) (fun i _ => rs.length - (intOf i).toNat)
  case atStart => exact ⟨0, Nat.zero_le _, rfl, Below.refl _ _, rfl⟩
  case round =>
    obtain ⟨j, hj, rfl, hg, hac⟩ := hrel
    have HG : Hid (Below w.heap.size w wr) := hg
    by_cases hjl : j < rs.length
    · rcases HR.out with h | ⟨b, o, rfl, hr1⟩
      · rw [h] at hjl; simp at hjl
      obtain ⟨c0, c1⟩ := hr1 j hjl
      replace c0 := below_cell hg c0
      replace c1 := below_cell hg c1
      have hji : (j : Int) < (rs.length : Int) := by omega
      have hd : rs.drop j = rs.getD j (0, 0) :: rs.drop (j + 1) := by
        rw [List.drop_eq_getElem_cons hjl]; simp [List.getD, hjl]
      rw [hd, findR] at hac
      rcases hx : rs.getD j (0, 0) with ⟨a, e⟩
      rw [hx] at c0 c1 hac
      dsimp only at c0 c1 hac
      clear hr1 hd hx hg
      by_cases ha : a = k
      · subst ha
        rw [if_pos rfl] at hac
        have HE : Hid ((e : Int) = findR a rs) := hac
        clear hac
        go_wp2_with fail
        go_ret
        rw [← HE.out]
        exact ⟨rfl, below_seq HG.out (below_new _ _)⟩
      · rw [if_neg ha] at hac
        have HE : Hid (findR k (rs.drop (j + 1)) = findR k rs) := hac
        clear hac
        have hai : ¬ ((a : Int) = (k : Int)) := by omega
        have hab : ((a : Int) == (k : Int)) = false := by simpa using hai
        go_wp2_with fail
        exact ⟨⟨j + 1, by omega, by simp, below_seq HG.out (below_new _ _), HE.out⟩, by simp [intOf]; omega⟩
    · have hje : j = rs.length := by omega
      subst hje
      have HE : Hid ((-1 : Int) = findR k rs) := by rw [List.drop_length] at hac; exact hac
      clear hac hg
      go_wp2_with fail
      go_ret
      rw [← HE.out]
      exact ⟨rfl, HG.out⟩

end Go.Proofs.YtgemadoieielcacDoor
