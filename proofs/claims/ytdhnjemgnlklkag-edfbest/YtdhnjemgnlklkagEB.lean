import Derived.Test.YtdhnjemgnlklkagEP
namespace Go.Proofs.Ytdhnjemgnlklkag
open Go.ChangeShapes Go.WideShapes Go.ChangeAt Go.RowKit Go.Sort

/-- A row of numbers of one's own, behind w. -/
structure BO (w wr : World) (acc : List Int) (av : Value) : Prop where
  bel : Below w.heap.size w wr
  row : wr.ownsRow w.heap.size 3 1 av acc.length (acc.flatMap nuV)

theorem BO.start (w : World) : BO w w [] (.slice none 0 0) := ⟨Below.refl _ _, rfl, .inl ⟨rfl, rfl⟩⟩

theorem BO.grow {w wr wr' : World} {acc : List Int} {av : Value} (h : BO w wr acc av) (hb : Below wr.heap.size wr wr') : BO w wr' acc av := ⟨below_seq h.bel hb, ownsRow_below h.row hb⟩

/-- One number more. -/
theorem BO.push {w wr : World} {acc : List Int} {av : Value} (h : BO w wr acc av) (x : Int) (hl : acc.length ≤ 100000) :
    ∃ ad c w4, (Builtin.append_ #[23, 23] 23 #[av, .slice (some ⟨wr.heap.size, 0, none⟩) 1 1]).run Try.prog (wr.alloc (.cells #[.int .i64 x] 3)) = .ok (.slice ad (acc.length + 1) c) w4 ∧ BO w w4 (acc ++ [x]) (.slice ad (acc.length + 1) c) := by
  obtain ⟨i0, hi0, hz0, hz1, hz2⟩ := info_parts info3
  have hs := h.bel.size
  have h1 := h.grow (below_new wr (.cells #[.int .i64 x] 3))
  obtain ⟨v4, w4, hrun, ho4, hg4, -, hv4⟩ := run_append_own_at (P := Try.prog) (w := wr.alloc (.cells #[.int .i64 x] 3)) w.heap.size 23 23 3 i0 _ 1 8 Try.underlying23 hi0 hz0 hz1 hz2 rfl (by decide) av acc.length (acc.flatMap nuV) h1.row ⟨wr.heap.size, 0, none⟩ 1 1 (nuV x) rfl (fun j u hj => by rw [Addr.add_lit]; have := (cells_of (l := nuV x) (heap_alloc_new wr (.cells #[.int .i64 x] 3))).1 j u hj; simpa using this) (fun u hu => by simp [nuV] at hu; subst hu; rfl) (by unfold maxLen; omega) (by omega) (by simp; omega)
  obtain ⟨ad, c, rfl⟩ := owns_value ho4
  have hbel : Below w.heap.size wr w4 := ((below_new wr _).mono hs).grown hg4 (by simp; omega) (fun k hk => (h.row.lt k hk).1)
  refine ⟨ad, c, w4, hrun, h.bel.trans hbel, ?_⟩
  rw [List.length_append, show (acc ++ [x]).flatMap nuV = acc.flatMap nuV ++ nuV x by simp]
  exact ho4

/-- What begins tells. -/
def Begun (l : List Jb) (bs : List Int) : Prop := bs.length ≤ l.length ∧ bs.Pairwise (fun x y => x ≤ y) ∧ ∀ a, a ∈ bs ↔ ∃ x ∈ l, x.a = a

theorem begun_of {l : List Jb} {ys : List Int} (hp : ys.Perm (l.map (·.a))) (hs : ys.Pairwise (fun x y => x ≤ y)) : Begun l (Lib.compact ys) := by
  refine ⟨?_, hs.sublist (compact_sub ys), fun a => ?_⟩
  · have h1 := (compact_sub ys).length_le
    have h2 := hp.length_eq
    simp at h2
    omega
  · rw [compact_mem, hp.mem_iff, List.mem_map]

set_option maxRecDepth 20000 in
set_option maxHeartbeats 2000000 in
/-- begins. -/
theorem begins_any (w : World) (l : List Jb) (v : Value) (hv : RowSl Jb.vals w l v) (hl : l.length ≤ 4000) :
    Calls Try.prog 17 #[v] w fun r w' => ∃ bs u, r = .returned u ∧ Begun l bs ∧ RowSl nuV w' bs u ∧ Below w.heap.size w w' := by
  obtain ⟨ad, c, rfl, -, hcap, hrow⟩ := hv
  have HR : Hid (l = [] ∨ ∃ b o, ad = some ⟨b, o, none⟩ ∧ ∀ q u, (l.flatMap Jb.vals)[q]? = some u → w.cell? ⟨b, o + q, none⟩ = some u) := hrow
  clear hrow
  go_enter Try.func17, Try.ntmps17
  go_wp2_with fail
  go_loopw [3, 8] (fun av i wr => ∃ j : Nat, j ≤ l.length ∧ i = .int .i64 j ∧ BO w wr ((l.map (·.a)).take j) av) (fun _ i _ => l.length - (intOf i).toNat)
  case atStart => exact ⟨0, Nat.zero_le _, rfl, BO.start w⟩
  case round =>
    obtain ⟨j, hj, rfl, hg⟩ := hrel
    have hlen : ((l.map (·.a)).take j).length = j := by simp; omega
    obtain ⟨cad, cc, rfl⟩ := owns_value hg.row
    by_cases hjl : j < l.length
    · obtain ⟨x, hx, hd⟩ := drop_at hjl
      rcases HR.out with h | ⟨gb, go, rfl, hr1⟩
      · rw [h] at hjl; simp at hjl
      obtain ⟨y0, y1, y2, y3, y4⟩ := jb_at (fun q u hq => below_cell hg.bel (hr1 q u hq)) hx
      have htk : (l.map (·.a)).take (j + 1) = (l.map (·.a)).take j ++ [x.a] := by
        rw [List.take_add_one, List.getElem?_map, hx]; rfl
      obtain ⟨xk, xa, xc, xd, xp⟩ := x
      dsimp only at y0 y1 y2 y3 y4 htk
      obtain ⟨ad9, c9, w9, hrun, ho9⟩ := (hg.grow (below_new wr (.cells #[.int .i64 xk, .int .i64 xa, .int .i64 xc, .int .i64 xd, .int .i64 xp] 30))).push xa (by rw [hlen]; omega)
      rw [← htk] at ho9
      have HE : Hid (BO w w9 ((l.map (·.a)).take (j + 1)) (.slice ad9 (((l.map (·.a)).take j).length + 1) c9)) := ho9
      rw [show (wr.alloc (.cells #[.int .i64 xk, .int .i64 xa, .int .i64 xc, .int .i64 xd, .int .i64 xp] 30)).heap.size = wr.heap.size + 1 by simp] at hrun
      generalize (.slice ad9 (((l.map (·.a)).take j).length + 1) c9 : Value) = nv at hrun HE
      generalize ((l.map (·.a)).take j).length = tl at hrun ⊢
      clear ho9 hg hd hr1 hx htk hlen
      go_wp2_with (at_builtin; refine append_known rfl (.tmp 12) (.tmp 15) 23 rfl rfl rfl hrun ?_)
      exact ⟨⟨j + 1, by omega, by simp, HE.out⟩, by simp [intOf]; omega⟩
    · have hje : j = l.length := by omega
      subst hje
      rw [List.take_of_length_le (by simp)] at hg
      have hln : ((l.map (·.a)).take l.length).length = (l.map (·.a)).length := by simp
      rw [hln]
      have HG : Hid (BO w wr (l.map (·.a)) (.slice cad (l.map (·.a)).length cc)) := hg
      generalize hvv : (.slice cad (l.map (·.a)).length cc : Value) = vv at HG ⊢
      clear hg
      go_wp2_with (first | (go_at_call 25; refine (sortNE_any _ _ _ _ HG.out.row (by simp; omega)).mono ?_; rintro r w5 ⟨rfl, ys, h5⟩; have H5 : Hid (ys.Perm (l.map (·.a)) ∧ ys.Pairwise (fun x y => x ≤ y) ∧ ((vv = .slice none 0 0 ∧ ys = []) ∨ ∃ g cap, vv = .slice (some ⟨g, 0, none⟩) ys.length cap ∧ w.heap.size ≤ g ∧ g < wr.heap.size ∧ ys.length ≤ cap ∧ Holds (Value.int .i64) w5 g 0 ys.toArray) ∧ wr.grownBy w5 vv.ownBlock) := h5; clear h5) | (go_at_call 26; refine (compactN_any _ ys vv (H5.out.2.2.1.imp id (fun ⟨g, cap, q1, _, _, q2, q3⟩ => ⟨g, cap, q1, q2, q3⟩)) (by rw [H5.out.1.length_eq]; simp; omega)).mono ?_; rintro r w6 ⟨u, rfl, h6⟩; have H6 : Hid (RowSl nuV w6 (Lib.compact ys) u ∧ w5.grownBy w6 vv.ownBlock) := h6; clear h6))
      go_ret
      have hb1 : Below w.heap.size wr w5 := grownRow_below H5.out.2.2.2 HG.out.bel.size (fun q hq => (HG.out.row.lt q hq).1)
      have hb2 : Below w.heap.size w5 w6 := grownRow_below H6.out.2 (Nat.le_trans HG.out.bel.size hb1.size) (fun q hq => (HG.out.row.lt q hq).1)
      exact ⟨_, u, rfl, begun_of H5.out.1 H5.out.2.1, H6.out.1, (HG.out.bel.trans hb1).trans hb2⟩

end Go.Proofs.Ytdhnjemgnlklkag
