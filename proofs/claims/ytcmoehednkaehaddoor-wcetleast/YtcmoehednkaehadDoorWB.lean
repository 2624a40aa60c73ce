import Derived.Test.YtcmoehednkaehadDoorWA
import Derived.Laws.MakeOwn
import Derived.Deep.Cut
namespace Go.Proofs.YtcmoehednkaehadDoor
open Go.ChangeShapes Go.WideShapes Go.ChangeAt Go.RowKit

theorem wr_in {z : Int} (h : -9223372036854775808 ≤ z ∧ z ≤ 9223372036854775807) : wrap64 z = z := by
  unfold wrap64
  omega

theorem heap_new (w : World) (o : Obj) : (w.alloc o).heap[w.heap.size]? = some o := by
  unfold World.alloc
  simp

def natVs (os : List Nat) : List Value := os.map fun (o : Nat) => Value.int .i64 (o : Int)

theorem natVs_at (os : List Nat) (j : Nat) (h : j < os.length) : (natVs os)[j]? = some (.int .i64 (os.getD j 0 : Nat)) := by
  simp [natVs, List.getD, h]

theorem natVs_append (a b : List Nat) : natVs (a ++ b) = natVs a ++ natVs b := by simp [natVs]

/-- A row that is one shorter. -/
theorem own_shrink {w : World} {B : Nat} {ad : Option Addr} {c : Nat} {os : List Nat} {n : Nat} (h : w.ownsRow B 3 1 (.slice ad (n + 1) c) os.length (natVs os)) (hn : os.length = n + 1) : w.ownsRow B 3 1 (.slice ad n c) os.dropLast.length (natVs os.dropLast) := by
  have hd : os.dropLast.length = n := by simp [hn]
  obtain ⟨hl, ⟨e, he⟩ | ⟨g, cap, cur, e, hb, hg, hc, hm, hs, ht⟩⟩ := h
  · omega
  · simp only [Value.slice.injEq] at e
    obtain ⟨rfl, -, rfl⟩ := e
    refine ⟨by simp [natVs], .inr ⟨g, c, cur, by rw [hd], hb, hg, by omega, hm, hs, ?_⟩⟩
    have e2 : natVs os.dropLast = (natVs os).take (os.dropLast.length * 1) := by
      rw [hd, Nat.mul_one]
      unfold natVs
      rw [← List.map_take, List.dropLast_eq_take, hn]
      rfl
    rw [e2, ← ht, List.take_take]
    congr 1
    omega

/-- Its last one. -/
theorem own_last {w : World} {B : Nat} {ad : Option Addr} {c : Nat} {os : List Nat} {n : Nat} (h : w.ownsRow B 3 1 (.slice ad (n + 1) c) os.length (natVs os)) (hn : os.length = n + 1) : ∃ g, ad = some ⟨g, 0, none⟩ ∧ n + 1 ≤ c ∧ w.cell? ⟨g, n, none⟩ = some (.int .i64 (os.getLast?.getD 0 : Nat)) := by
  obtain ⟨hl, ⟨e, he⟩ | ⟨g, cap, cur, e, hb, hg, hc, hm, hs, ht⟩⟩ := h
  · omega
  · simp only [Value.slice.injEq] at e
    obtain ⟨rfl, -, rfl⟩ := e
    refine ⟨g, rfl, by omega, ?_⟩
    have h1 := natVs_at os n (by omega)
    rw [← ht, List.getElem?_take, if_pos (by omega)] at h1
    have e1 : os.getLast?.getD 0 = os.getD n 0 := by rw [List.getLast?_eq_getElem?, hn]; simp [List.getD]
    rw [e1]
    unfold World.cell?
    rw [hg]
    simpa using h1

/-- What closers holds. -/
structure CL (w0 w : World) (cb : Nat) (l : List In) (k : Nat) (ov : Value) : Prop where
  bel : Below w0.heap.size w0 w
  row : w.heap[cb]? = some (.cells (natVs (clAt l k)).toArray 3 (0, 0))
  own : w.ownsRow (cb + 1) 3 1 ov (osAt l k).length (natVs (osAt l k))
  lo : w0.heap.size ≤ cb

section
variable {w0 w w' : World} {cb : Nat} {l : List In} {k : Nat} {ov : Value}

theorem CL.lt (h : CL w0 w cb l k ov) : cb < w.heap.size := (Array.getElem?_eq_some_iff.1 h.row).1

theorem CL.grow (h : CL w0 w cb l k ov) (hb : Below w.heap.size w w') : CL w0 w' cb l k ov :=
  ⟨below_seq h.bel hb, (hb.block cb h.lt).trans h.row, ownsRow_same h.own (fun j _ hj => hb.block j hj), h.lo⟩

theorem clAt_keep {l : List In} {k : Nat} (h1 : (l.getD k in0).op ≠ 14) (h2 : (l.getD k in0).op ≠ 17) : clAt l (k + 1) = clAt l k := by
  show clStep _ _ _ _ = _
  unfold clStep
  rw [if_neg (by omega)]

theorem CL.same (h : CL w0 w cb l k ov) (hc : clAt l (k + 1) = clAt l k) (ho : osAt l (k + 1) = osAt l k) : CL w0 w cb l (k + 1) ov :=
  ⟨h.bel, by rw [hc]; exact h.row, by rw [ho]; exact h.own, h.lo⟩

theorem CL.push (h : CL w0 w cb l k ov) (hc : clAt l (k + 1) = clAt l k) (ho : osAt l (k + 1) = osAt l k ++ [k]) {ov' : Value} (hg : w.grownBy w' ov.ownBlock) (hw : w'.ownsRow (cb + 1) 3 1 ov' ((osAt l k).length + 1) (natVs (osAt l k) ++ [.int .i64 (k : Int)])) : CL w0 w' cb l (k + 1) ov' := by
  have nb : ov.ownBlock ≠ some cb := fun e => by have := (h.own.lt cb e).1; omega
  have hs := h.bel.size
  refine ⟨h.bel.grown hg hs (fun j hj => by have := (h.own.lt j hj).1; have := h.lo; omega), ?_, ?_, h.lo⟩
  · rw [hc]; exact (hg.block cb h.lt (fun e => nb e.symm)).trans h.row
  · rw [ho, List.length_append, natVs_append]; exact hw

theorem CL.shut {ad : Option Addr} {n c : Nat} (h : CL w0 w cb l k (.slice ad (n + 1) c)) (e : (l.getD k in0).op = 14 ∨ (l.getD k in0).op = 17) (hn : (osAt l k).length = n + 1) : CL w0 (w.setCell ⟨cb, (osAt l k).getLast?.getD 0, none⟩ (.int .i64 (k : Int))) cb l (k + 1) (.slice ad n c) := by
  have e1 : clAt l (k + 1) = (clAt l k).set ((osAt l k).getLast?.getD 0) k := by
    show clStep _ _ _ _ = _
    unfold clStep
    rw [if_pos e]
  have e2 : osAt l (k + 1) = (osAt l k).dropLast := by
    show osStep _ _ _ = _
    unfold osStep
    rw [if_neg (by omega), if_pos e]
  refine ⟨h.bel.setCell (by show w0.heap.size ≤ cb; exact h.lo) _, ?_, ?_, h.lo⟩
  · rw [setCell_at h.row, e1]
    simp [natVs, List.map_set]
  · rw [e2]
    exact ownsRow_same (own_shrink h.own hn) (fun j hj _ => Below.heap_setCell _ _ _ _ (by show j ≠ cb; omega))
end

theorem osAt_len (l : List In) : ∀ k, (osAt l k).length ≤ k
  | 0 => by simp [osAt]
  | k + 1 => by
    have ih := osAt_len l k
    show (osStep _ _ _).length ≤ _
    unfold osStep
    split
    · simp; omega
    split
    · simp; omega
    · omega

set_option maxRecDepth 20000 in
set_option maxHeartbeats 8000000 in
theorem closers_any (w : World) (l : List In) (iad : Option Addr) (ic : Nat) (hg : GL l) (h : InSl w l (.slice iad l.length ic)) : Calls Tryd.prog 70 #[.slice iad l.length ic] w fun r w' => ∃ cb, w.heap.size ≤ cb ∧ r = .returned (.slice (some ⟨cb, 0, none⟩) l.length l.length) ∧ w'.heap[cb]? = some (.cells (natVs (clAt l l.length)).toArray 3 (0, 0)) ∧ Below w.heap.size w w' := by
  have hl := hg.len
  have HI : Hid (InSl w l (.slice iad l.length ic)) := h
  have HG : Hid (GL l) := hg
  clear h
  have hmk := make_zeros l.length (by omega)
  obtain ⟨i0, hi0, hz0, hz1, hz2⟩ := info_parts info3
  have H0 : Hid (CL w (w.alloc (.cells (intVs (List.replicate l.length 0)).toArray 3)) w.heap.size l 0 (.slice none 0 0)) := ⟨below_new _ _, by rw [heap_new]; simp [intVs, natVs, clAt], World.ownsRow_nil _ _ _ _, Nat.le_refl _⟩
  go_enter Tryd.func70, Tryd.ntmps70
  go_wp2_with fail
  clear hmk
  generalize (w.alloc (.cells (intVs (List.replicate l.length 0)).toArray 3)) = w1 at *
  go_loopw [13, 4] (fun i ov wr => ∃ k : Nat, k ≤ l.length ∧ i = .int .i64 k ∧ CL w wr w.heap.size l k ov) (fun i _ _ => l.length - (intOf i).toNat)
  case atStart => exact ⟨0, Nat.zero_le _, rfl, H0.out⟩
  case round =>
    obtain ⟨k, hk, rfl, hcl⟩ := hrel
    obtain ⟨oad, oc, rfl⟩ := owns_value hcl.own
    have HK : Hid (CL w wr w.heap.size l k (.slice oad (osAt l k).length oc)) := hcl
    have hol := osAt_len l k
    have hwl := hcl.lt
    by_cases hkl : k < l.length
    · obtain ⟨ad', c', e', hrow⟩ := HI.out.below hcl.bel
      cases e'
      rcases hrow with hrow | ⟨b0, o0, rfl, hrow⟩
      · rw [hrow] at hkl; simp at hkl
      obtain ⟨c0, c1, c2⟩ := hrow k hkl
      have hki : (k : Int) < (l.length : Int) := by omega
      have HX : Hid (l.getD k in0 = l.getD k in0) := rfl
      clear hrow hcl
      have hopen := fun e => hg.open_ne hkl e
      have hpush := hg.nst.push k hkl
      have hsame := hg.nst.same k hkl
      have hkeep := clAt_keep (l := l) (k := k)
      rcases hx : l.getD k in0 with ⟨op, a, b⟩
      rw [hx] at c0 c1 c2 hopen hpush hsame hkeep
      have HXE : Hid ((l.getD k in0).op = op) := congrArg In.op hx
      clear hx HX
      dsimp only at c0 c1 c2 hopen hpush hsame hkeep
      by_cases h13 : op = 13
      · subst h13
        have HO : Hid (clAt l (k + 1) = clAt l k) := hkeep (by decide) (by decide)
        have hos : Hid (osAt l (k + 1) = osAt l k ++ [k]) := hpush (.inl rfl)
        clear hopen hpush hsame hkeep
        have HC : Hid (CL w (wr.alloc (.cells #[.int .i64 13, .int .i64 a, .int .i64 b] 27)) w.heap.size l k (.slice oad (osAt l k).length oc)) := HK.out.grow (below_new _ _)
        go_wp2_with (at_builtin; obtain ⟨v4, w4, hrun, ho4, hg4, -⟩ := append_two (P := Tryd.prog) ((wr.alloc (.cells #[.int .i64 13, .int .i64 a, .int .i64 b] 27)).alloc (.cells #[.int .i64 (k : Int)] 3)) (w.heap.size + 1) (wr.alloc (.cells #[.int .i64 13, .int .i64 a, .int .i64 b] 27)).heap.size 23 23 3 i0 _ 1 8 Tryd.underlying23 hi0 hz0 hz1 hz2 rfl (by decide) _ (osAt l k).length (natVs (osAt l k)) (HC.out.grow (below_new _ _)).own _ 1 [.int .i64 (k : Int)] (World.ownsRow_lit (wr.alloc (.cells #[.int .i64 13, .int .i64 a, .int .i64 b] 27)) #[.int .i64 (k : Int)] 1 (Nat.le_refl _) (by decide) rfl) (by intro u hu; simp at hu; subst hu; rfl) (by unfold maxLen; omega) (by omega) (by have := HC.out.lt; simp at this ⊢; omega); simp only [World.size_alloc] at hrun; obtain ⟨vad, vcap, rfl⟩ := owns_value ho4; have HP : Hid (CL w w4 w.heap.size l (k + 1) (.slice vad ((osAt l k).length + 1) vcap)) := (HC.out.grow (below_new _ _)).push HO.out hos.out hg4 ho4; refine append_known rfl (.tmp 23) (.tmp 25) 23 rfl rfl rfl hrun ?_; clear hrun ho4 hg4)
        exact ⟨⟨k + 1, by omega, by simp, HP.out⟩, by simp [intOf]; omega⟩
      by_cases h16 : op = 16
      · subst h16
        have HO : Hid (clAt l (k + 1) = clAt l k) := hkeep (by decide) (by decide)
        have hos : Hid (osAt l (k + 1) = osAt l k ++ [k]) := hpush (.inr rfl)
        clear hopen hpush hsame hkeep
        have HC : Hid (CL w (wr.alloc (.cells #[.int .i64 16, .int .i64 a, .int .i64 b] 27)) w.heap.size l k (.slice oad (osAt l k).length oc)) := HK.out.grow (below_new _ _)
        go_wp2_with (at_builtin; obtain ⟨v4, w4, hrun, ho4, hg4, -⟩ := append_two (P := Tryd.prog) ((wr.alloc (.cells #[.int .i64 16, .int .i64 a, .int .i64 b] 27)).alloc (.cells #[.int .i64 (k : Int)] 3)) (w.heap.size + 1) (wr.alloc (.cells #[.int .i64 16, .int .i64 a, .int .i64 b] 27)).heap.size 23 23 3 i0 _ 1 8 Tryd.underlying23 hi0 hz0 hz1 hz2 rfl (by decide) _ (osAt l k).length (natVs (osAt l k)) (HC.out.grow (below_new _ _)).own _ 1 [.int .i64 (k : Int)] (World.ownsRow_lit (wr.alloc (.cells #[.int .i64 16, .int .i64 a, .int .i64 b] 27)) #[.int .i64 (k : Int)] 1 (Nat.le_refl _) (by decide) rfl) (by intro u hu; simp at hu; subst hu; rfl) (by unfold maxLen; omega) (by omega) (by have := HC.out.lt; simp at this ⊢; omega); simp only [World.size_alloc] at hrun; obtain ⟨vad, vcap, rfl⟩ := owns_value ho4; have HP : Hid (CL w w4 w.heap.size l (k + 1) (.slice vad ((osAt l k).length + 1) vcap)) := (HC.out.grow (below_new _ _)).push HO.out hos.out hg4 ho4; refine append_known rfl (.tmp 23) (.tmp 25) 23 rfl rfl rfl hrun ?_; clear hrun ho4 hg4)
        exact ⟨⟨k + 1, by omega, by simp, HP.out⟩, by simp [intOf]; omega⟩
      by_cases h14 : op = 14
      · subst h14
        have hne := hopen (.inl rfl)
        have hE : Hid ((l.getD k in0).op = 14 ∨ (l.getD k in0).op = 17) := .inl HXE.out
        clear hopen hpush hsame hkeep
        obtain ⟨n, hn⟩ : ∃ n, (osAt l k).length = n + 1 := ⟨(osAt l k).length - 1, by have := List.length_pos_iff.2 hne; omega⟩
        have hlast : (osAt l k).getLast?.getD 0 < k := by
          rcases hq : (osAt l k).getLast? with _ | q
          · exact absurd (List.getLast?_eq_none_iff.1 hq) hne
          · exact (osAt_asc l k).2 q (List.mem_of_getLast? hq)
        rw [hn] at HK
        rw [hn]
        have HC : Hid (CL w (wr.alloc (.cells #[.int .i64 14, .int .i64 a, .int .i64 b] 27)) w.heap.size l k (.slice oad (n + 1) oc)) := HK.out.grow (below_new _ _)
        obtain ⟨g, rfl, hcap, hlc⟩ := own_last HC.out.own hn
        have HS : Hid (CL w ((wr.alloc (.cells #[.int .i64 14, .int .i64 a, .int .i64 b] 27)).setCell ⟨w.heap.size, (osAt l k).getLast?.getD 0, none⟩ (.int .i64 (k : Int))) w.heap.size l (k + 1) (.slice (some ⟨g, 0, none⟩) n oc)) := HC.out.shut hE.out hn
        obtain ⟨ds, es, lt2⟩ := cells_of (l := natVs (clAt l k)) HC.out.row
        have kc := ds ((osAt l k).getLast?.getD 0) _ (natVs_at _ _ (by rw [clAt_len]; omega))
        have kf := es ((osAt l k).getLast?.getD 0)
        have hnb : n ≤ 2000 := by omega
        have hnw : wrap64 (n : Int) = n := wr_in (by omega)
        clear ds es
        generalize (osAt l k).getLast?.getD 0 = q at *
        have hql : (q : Int) < (l.length : Int) := by omega
        generalize ((clAt l k).getD q 0 : Int) = zz at *
        go_upto_region 12 with fail
        generalize (wr.alloc (.cells #[.int .i64 14, .int .i64 a, .int .i64 b] 27)) = W2 at *
        clear c0 c1 c2 HK HI H0
        go_upto_region 13 with fail
        clear hn hne hol
        go_upto_region 14 with fail
        clear kc kf hlc
        generalize (W2.setCell ⟨w.heap.size, q, none⟩ (.int .i64 (k : Int))) = W3 at *
        have hno : (n : Int) ≤ (oc : Int) := by omega
        go_wp2_with fail
        exact ⟨⟨k + 1, by omega, by simp, HS.out⟩, by simp [intOf]; omega⟩
      by_cases h17 : op = 17
      · subst h17
        have hne := hopen (.inr rfl)
        have hE : Hid ((l.getD k in0).op = 14 ∨ (l.getD k in0).op = 17) := .inr HXE.out
        clear hopen hpush hsame hkeep
        obtain ⟨n, hn⟩ : ∃ n, (osAt l k).length = n + 1 := ⟨(osAt l k).length - 1, by have := List.length_pos_iff.2 hne; omega⟩
        have hlast : (osAt l k).getLast?.getD 0 < k := by
          rcases hq : (osAt l k).getLast? with _ | q
          · exact absurd (List.getLast?_eq_none_iff.1 hq) hne
          · exact (osAt_asc l k).2 q (List.mem_of_getLast? hq)
        rw [hn] at HK
        rw [hn]
        have HC : Hid (CL w (wr.alloc (.cells #[.int .i64 17, .int .i64 a, .int .i64 b] 27)) w.heap.size l k (.slice oad (n + 1) oc)) := HK.out.grow (below_new _ _)
        obtain ⟨g, rfl, hcap, hlc⟩ := own_last HC.out.own hn
        have HS : Hid (CL w ((wr.alloc (.cells #[.int .i64 17, .int .i64 a, .int .i64 b] 27)).setCell ⟨w.heap.size, (osAt l k).getLast?.getD 0, none⟩ (.int .i64 (k : Int))) w.heap.size l (k + 1) (.slice (some ⟨g, 0, none⟩) n oc)) := HC.out.shut hE.out hn
        obtain ⟨ds, es, lt2⟩ := cells_of (l := natVs (clAt l k)) HC.out.row
        have kc := ds ((osAt l k).getLast?.getD 0) _ (natVs_at _ _ (by rw [clAt_len]; omega))
        have kf := es ((osAt l k).getLast?.getD 0)
        have hnb : n ≤ 2000 := by omega
        have hnw : wrap64 (n : Int) = n := wr_in (by omega)
        clear ds es
        generalize (osAt l k).getLast?.getD 0 = q at *
        have hql : (q : Int) < (l.length : Int) := by omega
        generalize ((clAt l k).getD q 0 : Int) = zz at *
        go_upto_region 12 with fail
        generalize (wr.alloc (.cells #[.int .i64 17, .int .i64 a, .int .i64 b] 27)) = W2 at *
        clear c0 c1 c2 HK HI H0
        go_upto_region 13 with fail
        clear hn hne hol
        go_upto_region 14 with fail
        clear kc kf hlc
        generalize (W2.setCell ⟨w.heap.size, q, none⟩ (.int .i64 (k : Int))) = W3 at *
        have hno : (n : Int) ≤ (oc : Int) := by omega
        go_wp2_with fail
        exact ⟨⟨k + 1, by omega, by simp, HS.out⟩, by simp [intOf]; omega⟩
      · have HO : Hid (CL w wr w.heap.size l (k + 1) (.slice oad (osAt l k).length oc)) := HK.out.same (hkeep h14 h17) (hsame h13 h14 h16 h17)
        clear hopen hpush hsame hkeep
        go_wp2_with fail
        exact ⟨⟨k + 1, by omega, by simp, HO.out.grow (below_new _ _)⟩, by simp [intOf]; omega⟩
    · have hke : k = l.length := by omega
      subst hke
      clear hcl
      go_wp2_with fail
      go_ret
      exact ⟨_, Nat.le_refl _, rfl, HK.out.row, HK.out.bel⟩

end Go.Proofs.YtcmoehednkaehadDoor
