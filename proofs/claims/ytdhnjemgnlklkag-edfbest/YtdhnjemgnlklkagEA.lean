import Derived.Test.YtdhnjemgnlklkagEX
namespace Go.Proofs.Ytdhnjemgnlklkag
open Go.ChangeShapes Go.WideShapes Go.ChangeAt Go.RowKit

theorem tooF_at {a s : Int} {l : List Jb} {j : Nat} {x : Jb} (h : l.drop j = x :: l.drop (j + 1)) : tooF a s (l.drop j) = if x.a < a then tooF a s (l.drop (j + 1)) else if x.d - a < s + x.c then some x.d else tooF a (s + x.c) (l.drop (j + 1)) := by
  rw [h, tooF]

theorem too_ends {w : World} {a : Act} {p q : Value} (h1 : a.tmps[4]?.getD undef = p) (h2 : a.tmps[5]?.getD undef = q) : (results Try.f18 a.tmps).run Try.prog w = .ok (.tuple #[p, q]) w := by
  subst h1 h2
  simp [results, Try.results18, go_sem]

set_option maxRecDepth 20000 in
set_option maxHeartbeats 2000000 in
/-- tooMuch. -/
theorem tooMuch_any (w : World) (l : List Jb) (v : Value) (a : Int) (hv : RowSl Jb.vals w l v) (hl : l.length ≤ 4000) (hok : ∀ x ∈ l, okJ x) (ha0 : 0 ≤ a) (ha1 : a ≤ 60000) :
    Calls Try.prog 18 #[v, .int .i64 a] w fun r w' => r = .returned (.tuple #[.int .i64 ((tooF a 0 l).getD 0), .bool (tooF a 0 l).isSome]) ∧ Below w.heap.size w w' := by
  obtain ⟨ad, c, rfl, -, hcap, hrow⟩ := hv
  have HR : Hid ((l = [] ∨ ∃ b o, ad = some ⟨b, o, none⟩ ∧ ∀ q u, (l.flatMap Jb.vals)[q]? = some u → w.cell? ⟨b, o + q, none⟩ = some u) ∧ ∀ x ∈ l, okJ x) := ⟨hrow, hok⟩
  clear hrow hok
  go_enter Try.func18, Try.ntmps18
  go_wp2_with fail
  go_loopw [6, 11] (fun s i wr => ∃ (j : Nat) (z : Int), j ≤ l.length ∧ s = .int .i64 z ∧ i = .int .i64 j ∧ Below w.heap.size w wr ∧ 0 ≤ z ∧ z ≤ 10000 * (j : Int) ∧ tooF a z (l.drop j) = tooF a 0 l) (fun _ i _ => l.length - (intOf i).toNat)
  case atStart => exact ⟨0, 0, Nat.zero_le _, rfl, rfl, Below.refl _ _, Int.le_refl _, by omega, rfl⟩
  case round =>
    obtain ⟨j, z, hj, rfl, rfl, hg, hz0, hz1, hac⟩ := hrel
    have HG : Hid (Below w.heap.size w wr) := hg
    by_cases hjl : j < l.length
    · obtain ⟨x, hx, hd⟩ := drop_at hjl
      rcases HR.out.1 with h | ⟨gb, go, rfl, hr1⟩
      · rw [h] at hjl; simp at hjl
      obtain ⟨y0, y1, y2, y3, y4⟩ := jb_at (fun q u hq => below_cell hg (hr1 q u hq)) hx
      have hox := HR.out.2 x (List.mem_of_getElem? hx)
      rw [tooF_at hd] at hac
      obtain ⟨xk, xa, xc, xd, xp⟩ := x
      unfold okJ at hox
      dsimp only at y0 y1 y2 y3 y4 hac hox
      obtain ⟨k1, k2, k3, k4, k5, k6⟩ := hox
      have HA : Hid ((if xa < a then tooF a z (l.drop (j + 1)) else if xd - a < z + xc then some xd else tooF a (z + xc) (l.drop (j + 1))) = tooF a 0 l) := hac
      clear hac hd hr1 hx hg
      by_cases q0 : xa < a
      · have HE : Hid (tooF a z (l.drop (j + 1)) = tooF a 0 l) := by have e := HA.out; rw [if_pos q0] at e; exact e
        clear HA
        go_wp2_with fail
        exact ⟨⟨j + 1, z, by omega, rfl, by simp, HG.out.alloc (by have := HG.out.size; omega) _, hz0, by omega, HE.out⟩, by simp [intOf]; omega⟩
      · by_cases q1 : xd - a < z + xc
        · have HE : Hid (some xd = tooF a 0 l) := by have e := HA.out; rw [if_neg q0, if_pos q1] at e; exact e
          clear HA
          go_wp2_with fail
          refine bodyPost_ret (too_ends rfl rfl) rfl ?_
          rw [← HE.out]
          exact ⟨rfl, HG.out.alloc (by have := HG.out.size; omega) _⟩
        · have HE : Hid (tooF a (z + xc) (l.drop (j + 1)) = tooF a 0 l) := by have e := HA.out; rw [if_neg q0, if_neg q1] at e; exact e
          clear HA
          go_wp2_with fail
          exact ⟨⟨j + 1, z + xc, by omega, rfl, by simp, HG.out.alloc (by have := HG.out.size; omega) _, by omega, by omega, HE.out⟩, by simp [intOf]; omega⟩
    · have hje : j = l.length := by omega
      subst hje
      have HE : Hid (none = tooF a 0 l) := by rw [List.drop_length] at hac; exact hac
      clear hac hg
      go_wp2_with fail
      refine bodyPost_ret (too_ends rfl rfl) rfl ?_
      rw [← HE.out]
      exact ⟨rfl, HG.out⟩

end Go.Proofs.Ytdhnjemgnlklkag
