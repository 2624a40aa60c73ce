import Derived.Test.YtccoobcggbbciamXB
import Derived.Test.YtccoobcggbbciamJP
import Derived.Maps.AppendAt
import Derived.Test.YtccoobcggbbciamXD
namespace Go.Proofs.Ytccoobcggbbciam
open Go.ChangeShapes Go.WideShapes Go.ChangeAt Go.RowKit

theorem append_known {P : Program} {w : World} {ops : Array Oper} {rest : List Oper} {o : Oper} {a : Act} {Q : Exit → Act → World → Prop} (hgd : o.guard = none) (s x : Operand) (t : TypeId)
    (ho : o.op = .call { callee := .builtin .append, args := #[s, x], argTypes := #[t, t] }) {v u v' : Value} {w' : World} (hs : a.eval s = v) (hx : a.eval x = u)
    (hrun : (Builtin.append_ #[t, t] o.type #[v, u]).run P w = .ok v' w') (h : wpList P ops Q rest (a.put o.dst v') w') : wpList P ops Q (o :: rest) a w := by
  refine wpList_plain hgd fun K hK => ?_
  unfold Oper.wp
  simp [execOp, ho, resolve, invoke, builtin, hs, hx, hrun, Result.andThen]
  exact hK _ _ h

/-- A fault's block, and a row of numbers of one's own behind it. -/
structure NO (w wr : World) (g : Nat) (acc : List Int) (av : Value) : Prop where
  fb : FB w wr g
  row : wr.ownsRow (g + 1) 3 1 av acc.length (acc.flatMap nuV)

theorem NO.grow {w wr wr' : World} {g : Nat} {acc : List Int} {av : Value} (h : NO w wr g acc av) (hb : Below wr.heap.size wr wr') : NO w wr' g acc av := ⟨h.fb.grow hb, ownsRow_below h.row hb⟩

theorem NO.start {w wr : World} {g : Nat} (h : FB w wr g) : NO w wr g [] (.slice none 0 0) := ⟨h, ⟨rfl, .inl ⟨rfl, rfl⟩⟩⟩

theorem NO.push {w wr : World} {g : Nat} {acc : List Int} {av : Value} (h : NO w wr g acc av) (x : Int) (hl : acc.length ≤ 100000) :
    ∃ ad c w4, (Builtin.append_ #[24, 24] 24 #[av, .slice (some ⟨wr.heap.size, 0, none⟩) 1 1]).run Try.prog (wr.alloc (.cells #[.int .i64 x] 3)) = .ok (.slice ad (acc.length + 1) c) w4 ∧ NO w w4 g (acc ++ [x]) (.slice ad (acc.length + 1) c) := by
  obtain ⟨i0, hi0, hz0, hz1, hz2⟩ := info_parts info3
  have h1 := h.grow (below_new wr (.cells #[.int .i64 x] 3))
  have hlt := h.fb.lt
  have hlow := h.fb.low
  obtain ⟨v4, w4, hrun, ho4, hg4, -, hv4⟩ := run_append_own_at (P := Try.prog) (w := wr.alloc (.cells #[.int .i64 x] 3)) (g + 1) 24 24 3 i0 _ 1 8 Try.underlying24 hi0 hz0 hz1 hz2 rfl (by decide) av acc.length (acc.flatMap nuV) h1.row ⟨wr.heap.size, 0, none⟩ 1 1 (nuV x) rfl (fun j u hj => by rw [Addr.add_lit]; have := (cells_of (l := nuV x) (heap_alloc_new wr (.cells #[.int .i64 x] 3))).1 j u hj; simpa using this) (fun u hu => by simp [nuV] at hu; subst hu; rfl) (by unfold maxLen; omega) (by omega) (by simp; omega)
  obtain ⟨ad, c, rfl⟩ := owns_value ho4
  have hne : ∀ k, k < g + 1 → some k ≠ av.ownBlock := fun k hk e => by have := (h.row.lt k e.symm).1; omega
  have hold : ∀ k, k < wr.heap.size → some k ≠ av.ownBlock → w4.heap[k]? = wr.heap[k]? := fun k hk hn => (hg4.block k (by simp; omega) hn).trans (Below.heap_alloc _ _ _ hk)
  have hbel : Below (g + 1) wr w4 := ((below_new wr _).mono (by omega)).grown hg4 (by simp; omega) (fun k hk => (h.row.lt k hk).1)
  refine ⟨ad, c, w4, hrun, ⟨⟨h.fb.bel.trans (hbel.mono (by omega)), (hold _ hlt (hne _ (by omega))).trans h.fb.res, h.fb.low⟩, ?_⟩⟩
  rw [List.length_append, show (acc ++ [x]).flatMap nuV = acc.flatMap nuV ++ nuV x by simp]
  exact ho4

theorem NO.rowSl {w wr : World} {g : Nat} {acc : List Int} {av : Value} (h : NO w wr g acc av) : RowSl nuV wr acc av := by
  have h' := h.row
  obtain ⟨hl, ⟨h1, h2⟩ | ⟨g, cap, cur, he, hb, hg, hr⟩⟩ := h.row
  · subst h1
    have : acc = [] := by
      cases acc with
      | nil => rfl
      | cons x r => simp_all
    subst this
    exact RowSl.nil _ _
  · subst he
    refine ⟨_, cap, rfl, (fun e => by cases e), by omega, .inr ⟨g, 0, rfl, fun q u hq => ?_⟩⟩
    have hql := (List.getElem?_eq_some_iff.1 hq).1
    rw [flat_length nuV 1 nuV_len] at hql
    rw [Nat.zero_add]
    exact (h'.cellAt q (by omega)).trans hq

theorem NO.val {w wr : World} {g : Nat} {acc : List Int} {av : Value} (h : NO w wr g acc av) : ∃ ad c, av = .slice ad acc.length c := owns_value h.row

/-- A fault's block, and a row of tasks of one's own behind it. -/
structure TO (w wr : World) (g : Nat) (acc : List Ta) (av : Value) : Prop where
  fb : FB w wr g
  row : wr.ownsRow (g + 1) 85 7 av acc.length (acc.flatMap Ta.vals)

theorem TO.grow {w wr wr' : World} {g : Nat} {acc : List Ta} {av : Value} (h : TO w wr g acc av) (hb : Below wr.heap.size wr wr') : TO w wr' g acc av := ⟨h.fb.grow hb, ownsRow_below h.row hb⟩

theorem TO.start {w wr : World} {g : Nat} (h : FB w wr g) : TO w wr g [] (.slice none 0 0) := ⟨h, ⟨rfl, .inl ⟨rfl, rfl⟩⟩⟩

theorem TO.push {w wr : World} {g : Nat} {acc : List Ta} {av : Value} (h : TO w wr g acc av) (x : Ta) (hl : acc.length ≤ 100000) :
    ∃ ad c w4, (Builtin.append_ #[66, 66] 66 #[av, .slice (some ⟨wr.heap.size, 0, none⟩) 1 1]).run Try.prog (wr.alloc (.cells #[.string x.nm, .int .i64 x.c, .int .i64 x.t, .int .i64 x.d, .int .i64 x.j, .int .i64 x.o, .int .i64 x.p] 85)) = .ok (.slice ad (acc.length + 1) c) w4 ∧ TO w w4 g (acc ++ [x]) (.slice ad (acc.length + 1) c) := by
  obtain ⟨i0, hi0, hz0, hz1, hz2⟩ := info_parts infoTa
  have h1 := h.grow (below_new wr (.cells #[.string x.nm, .int .i64 x.c, .int .i64 x.t, .int .i64 x.d, .int .i64 x.j, .int .i64 x.o, .int .i64 x.p] 85))
  have hlt := h.fb.lt
  have hlow := h.fb.low
  obtain ⟨v4, w4, hrun, ho4, hg4, -, hv4⟩ := run_append_own_at (P := Try.prog) (w := wr.alloc (.cells #[.string x.nm, .int .i64 x.c, .int .i64 x.t, .int .i64 x.d, .int .i64 x.j, .int .i64 x.o, .int .i64 x.p] 85)) (g + 1) 66 66 85 i0 _ 7 64 Try.underlying66 hi0 hz0 hz1 hz2 rfl (by decide) av acc.length (acc.flatMap Ta.vals) h1.row ⟨wr.heap.size, 0, none⟩ 1 1 (Ta.vals x) rfl (fun j u hj => by rw [Addr.add_lit]; have := (cells_of (l := Ta.vals x) (heap_alloc_new wr (.cells #[.string x.nm, .int .i64 x.c, .int .i64 x.t, .int .i64 x.d, .int .i64 x.j, .int .i64 x.o, .int .i64 x.p] 85))).1 j u hj; simpa using this) (fun u hu => Ta.one hu) (by unfold maxLen; omega) (by omega) (by simp; omega)
  obtain ⟨ad, c, rfl⟩ := owns_value ho4
  have hne : ∀ k, k < g + 1 → some k ≠ av.ownBlock := fun k hk e => by have := (h.row.lt k e.symm).1; omega
  have hold : ∀ k, k < wr.heap.size → some k ≠ av.ownBlock → w4.heap[k]? = wr.heap[k]? := fun k hk hn => (hg4.block k (by simp; omega) hn).trans (Below.heap_alloc _ _ _ hk)
  have hbel : Below (g + 1) wr w4 := ((below_new wr _).mono (by omega)).grown hg4 (by simp; omega) (fun k hk => (h.row.lt k hk).1)
  refine ⟨ad, c, w4, hrun, ⟨⟨h.fb.bel.trans (hbel.mono (by omega)), (hold _ hlt (hne _ (by omega))).trans h.fb.res, h.fb.low⟩, ?_⟩⟩
  rw [List.length_append, show (acc ++ [x]).flatMap Ta.vals = acc.flatMap Ta.vals ++ Ta.vals x by simp]
  exact ho4

theorem TO.rowSl {w wr : World} {g : Nat} {acc : List Ta} {av : Value} (h : TO w wr g acc av) : RowSl Ta.vals wr acc av := by
  have h' := h.row
  obtain ⟨hl, ⟨h1, h2⟩ | ⟨g, cap, cur, he, hb, hg, hr⟩⟩ := h.row
  · subst h1
    have : acc = [] := by
      cases acc with
      | nil => rfl
      | cons x r => simp_all
    subst this
    exact RowSl.nil _ _
  · subst he
    refine ⟨_, cap, rfl, (fun e => by cases e), by omega, .inr ⟨g, 0, rfl, fun q u hq => ?_⟩⟩
    have hql := (List.getElem?_eq_some_iff.1 hq).1
    rw [flat_length Ta.vals 7 Ta.len] at hql
    rw [Nat.zero_add]
    exact (h'.cellAt q (by omega)).trans hq

theorem TO.val {w wr : World} {g : Nat} {acc : List Ta} {av : Value} (h : TO w wr g acc av) : ∃ ad c, av = .slice ad acc.length c := owns_value h.row

theorem ownsRow_two {w : World} {g B n size : Nat} {e : TypeId} {v : Value} {xs : List Value} (h : w.ownsRow B e size v n xs) (hg : g < B) (a b : Value) : ((w.setCell ⟨g, 0, none⟩ a).setCell ⟨g, 1, none⟩ b).ownsRow B e size v n xs :=
  ownsRow_same h (fun k hk _ => by rw [Below.heap_setCell _ _ _ _ (by show k ≠ g; omega), Below.heap_setCell _ _ _ _ (by show k ≠ g; omega)])

theorem NO.set {w wr : World} {g : Nat} {acc : List Int} {av : Value} (h : NO w wr g acc av) (a b : Value) : RowSl nuV ((wr.setCell ⟨g, 0, none⟩ a).setCell ⟨g, 1, none⟩ b) acc av := by
  have h' := ownsRow_two h.row (Nat.lt_succ_self g) a b
  obtain ⟨hl, ⟨h1, h2⟩ | ⟨g, cap, cur, he, hb, hg, hr⟩⟩ := h.row
  · subst h1
    have : acc = [] := by
      cases acc with
      | nil => rfl
      | cons x r => simp_all
    subst this
    exact RowSl.nil _ _
  · subst he
    refine ⟨_, cap, rfl, (fun e => by cases e), by omega, .inr ⟨g, 0, rfl, fun q u hq => ?_⟩⟩
    have hql := (List.getElem?_eq_some_iff.1 hq).1
    rw [flat_length nuV 1 nuV_len] at hql
    rw [Nat.zero_add]
    exact (h'.cellAt q (by omega)).trans hq
end Go.Proofs.Ytccoobcggbbciam
namespace Go.Proofs.Ytccoobcggbbciam
open Go.ChangeShapes Go.WideShapes Go.ChangeAt Go.RowKit

theorem Responses_ends {w : World} {g : Nat} {c k p : Value} {a : Act} (h : w.heap[g]? = some (.cells #[c, k] 29 (0, 0))) (h2 : a.tmps[4]?.getD undef = p) (h3 : a.tmps[5]?.getD undef = .pointer (some ⟨g, 0, none⟩)) :
    (results Try.f28 a.tmps).run Try.prog w = .ok (.tuple #[p, .agg #[c, k]]) w := by
  obtain ⟨c1, f1, l1⟩ := cells_of (l := [_, _]) h
  have c10 := c1 0 _ rfl
  have c11 := c1 1 _ rfl
  simp [results, Try.results28, go_sem, h2, h3, c10, c11]

/-- A row that lies in no block ahead of B. -/
def NewSl (B : Nat) (v : Value) : Prop := ∀ a n c, v = .slice (some a) n c → B ≤ a.block
theorem NewSl.none (B n c : Nat) : NewSl B (.slice none n c) := fun a n c h => by cases h
theorem NewSl.mono {B C : Nat} {v : Value} (h : NewSl B v) (hc : C ≤ B) : NewSl C v := fun a n c e => Nat.le_trans hc (h a n c e)
theorem NewSl.own {w : World} {B n size : Nat} {e : TypeId} {v : Value} {xs : List Value} (h : w.ownsRow B e size v n xs) : NewSl B v := by
  obtain ⟨-, ⟨rfl, -⟩ | ⟨g, cap, cur, rfl, hb, -⟩⟩ := h
  · exact NewSl.none _ _ _
  · intro a n c e
    cases e
    exact hb

set_option maxRecDepth 20000 in
set_option maxHeartbeats 4000000 in
theorem Responses_any (w : World) (l : List Ta) (bs : List Int) (v v2 : Value) (hl : l.length ≤ 1000000) (hv : RowSl Ta.vals w l v) (hv2 : RowSl nuV w bs v2) : Calls Try.prog 28 #[v, v2] w fun r w' => ∃ u, r = .returned (.tuple #[u, .agg #[.int .i64 (responsesF l bs).2.1, .int .i64 (responsesF l bs).2.2]]) ∧ RowSl nuV w' (responsesF l bs).1 u ∧ Below w.heap.size w w' ∧ NewSl w.heap.size u := by
  obtain ⟨ad, c, rfl⟩ := hv.len
  have HV : Hid (RowSl Ta.vals w l (.slice ad l.length c)) := hv
  have HF : Hid (FB w (w.alloc (.cells #[.int .i64 0, .int .i64 0] 29)) w.heap.size) := FB.start w
  have HC := check_any (w.alloc (.cells #[.int .i64 0, .int .i64 0] 29)) l (.slice ad l.length c) hl (HV.out.below (below_new _ _))
  by_cases h0 : (chkX l).1 ≠ 0
  · rw [show responsesF l bs = ([], chkX l) by unfold responsesF; rw [if_pos h0]]
    obtain ⟨ad2, c2, rfl⟩ := hv2.len
    clear hv hv2
    generalize (chkX l).1 = z at *
    generalize (chkX l).2 = z2 at *
    have hzb : (z != 0) = true := by simpa using h0
    go_enter Try.func28, Try.ntmps28
    go_wp2_with (go_at_call 43; refine HC.mono ?_; rintro r w1 ⟨rfl, hb1⟩; have H1 : Hid (FB w w1 w.heap.size) := HF.out.grow hb1; obtain ⟨rs1, rf1, rl1⟩ := cells_of (l := [_, _]) H1.out.res; have r10 := rs1 0 _ rfl; have r11 := rs1 1 _ rfl; have f10 := rf1 0; have f11 := rf1 1; clear rs1 rf1 hb1 HC)
    go_region
    all_goals go_wp2_with fail
    all_goals
      refine bodyPost_ret (Responses_ends (H1.out.endA (.int .i64 z) (.int .i64 z2) _).1 rfl rfl) rfl ?_
      exact ⟨_, rfl, RowSl.nil _ _, (H1.out.endA (.int .i64 z) (.int .i64 z2) _).2.drew, NewSl.none _ _ _⟩
  · have hz : (chkX l).1 = 0 := by omega
    obtain ⟨-, -, hl1, h8, hst, -⟩ := chkX_ok hz
    by_cases hle : bs.length = l.length
    · have EX : Hid (responsesF l bs = respsFrom l bs 0 []) := by
        show _ = _
        unfold responsesF
        rw [if_neg h0, if_neg (by simp [hle])]
      obtain ⟨ad2, c2, rfl, -, hcap2, hrow⟩ := hv2
      rcases hrow with h | ⟨b2, o2, rfl, hrow⟩
      · rw [h] at hle; simp at hle; omega
      have HR : Hid (∀ q u, (bs.flatMap nuV)[q]? = some u → w.cell? ⟨b2, o2 + q, none⟩ = some u) := hrow
      rw [hle] at hcap2 ⊢
      have HL : Hid (bs.length = l.length) := hle
      have HRsp : Hid (∀ W, Below w.heap.size w W → ∀ i block, Calls Try.prog 45 #[.slice ad l.length c, .int .i64 i, .int .i64 block] W fun r w' => r = .returned (.tuple #[.int .i64 (respF l i block).1, .agg #[.int .i64 (respF l i block).2.1, .int .i64 (respF l i block).2.2]]) ∧ Below W.heap.size W w') := fun W hb i block => resp_any W l (.slice ad l.length c) i block h8 hst (HV.out.below hb)
      rw [hz] at HC
      generalize (chkX l).2 = z2 at *
      clear hv hrow hst hle h0
      go_enter Try.func28, Try.ntmps28
      go_wp2_with (go_at_call 43; refine HC.mono ?_; rintro r w1 ⟨rfl, hb1⟩; have H1 : Hid (FB w (w1.alloc (.cells #[.int .i64 0, .int .i64 z2] 29)) w.heap.size) := (HF.out.grow hb1).grow (below_new _ _); clear hb1 HC)
      go_loopw [7, 26] (fun av iv wr => ∃ (j : Nat) (acc : List Int), j ≤ l.length ∧ iv = .int .i64 (j : Int) ∧ acc.length ≤ j ∧ NO w wr w.heap.size acc av ∧ Hid (respsFrom l (bs.drop j) j acc = respsFrom l bs 0 [])) (fun _ iv _ => l.length - (intOf iv).toNat)
      case atStart => exact ⟨0, [], Nat.zero_le _, rfl, by simp, NO.start H1.out, rfl⟩
      case round =>
        obtain ⟨j, acc, hjl, rfl, hac, hno, HQ⟩ := hrel
        obtain ⟨ad5, c5, rfl⟩ := hno.val
        have HN : Hid (NO w wr w.heap.size acc (.slice ad5 acc.length c5)) := hno
        by_cases hlt : j < l.length
        · obtain ⟨b, hb, hdr⟩ := drop_at (l := bs) (k := j) (by have := HL.out; omega)
          have hq := HQ.out
          rw [respsFrom_at hdr] at hq
          have cb := nu_at (fun q u hq => below_cell hno.fb.bel (HR.out q u hq)) hb
          have lb : b2 < wr.heap.size := World.block_lt_of_cell? _ _ cb
          have hj' : (j : Int) < (l.length : Int) := by omega
          have HP := fun W (hb : Below w.heap.size w W) => HRsp.out W hb (j : Int) b
          have HQ' : Hid ((if (respF l (j : Int) b).2.1 ≠ 0 then ([], (respF l (j : Int) b).2) else respsFrom l (bs.drop (j + 1)) (j + 1) (acc ++ [(respF l (j : Int) b).1])) = respsFrom l bs 0 []) := hq
          clear hq HQ hno hdr hb
          generalize eq0 : respF l (j : Int) b = q at *
          obtain ⟨q0, q1, q2⟩ := q
          dsimp only at *
          by_cases hz1 : q1 ≠ 0
          · have hzb : (q1 != 0) = true := by simpa using hz1
            have e := HQ'.out
            rw [if_pos hz1] at e
            have HE : Hid (responsesF l bs = ([], (q1, q2))) := EX.out.trans e.symm
            clear e HQ'
            go_wp2_with (go_at_call 45; refine (HP _ (by first | exact HN.out.fb.bel | exact below_seq HN.out.fb.bel (below_new _ _))).mono ?_; rintro r w2 ⟨rfl, hb2⟩; have H2 : Hid (FB w w2 w.heap.size) := (by first | exact HN.out.fb.grow hb2 | exact (HN.out.fb.grow (below_new _ _)).grow hb2); obtain ⟨rs1, rf1, rl1⟩ := cells_of (l := [_, _]) H2.out.res; have r10 := rs1 0 _ rfl; have r11 := rs1 1 _ rfl; have f10 := rf1 0; have f11 := rf1 1; clear rs1 rf1 hb2 HP)
            go_region
            all_goals go_wp2_with fail
            all_goals
              first
                | (refine bodyPost_ret (Responses_ends (H2.out.endA (.int .i64 q1) (.int .i64 q2) _).1 rfl rfl) rfl ?_
                   rw [HE.out]
                   exact ⟨_, rfl, RowSl.nil _ _, (H2.out.endA (.int .i64 q1) (.int .i64 q2) _).2.drew, NewSl.none _ _ _⟩)
                | fail
          · have hz2 : q1 = 0 := by omega
            subst hz2
            have e := HQ'.out
            rw [if_neg (by simp)] at e
            have HE : Hid (respsFrom l (bs.drop (j + 1)) (j + 1) (acc ++ [q0]) = respsFrom l bs 0 []) := e
            clear e HQ' hz1
            go_wp2_with (first | (go_at_call 45; refine (HP _ (by first | exact HN.out.fb.bel | exact below_seq HN.out.fb.bel (below_new _ _))).mono ?_; rintro r w2 ⟨rfl, hb2⟩; have H2 : Hid (NO w w2 w.heap.size acc (.slice ad5 acc.length c5)) := (by first | exact HN.out.grow hb2 | exact (HN.out.grow (below_new _ _)).grow hb2); obtain ⟨ad9, c9, w9, hrun, ho9⟩ := NO.push (H2.out.grow (below_new w2 (.cells #[.int .i64 0, .int .i64 q2] 29))) q0 (by omega); rw [show (w2.alloc (.cells #[.int .i64 0, .int .i64 q2] 29)).heap.size = w2.heap.size + 1 by simp] at hrun; have H9 : Hid (NO w w9 w.heap.size (acc ++ [q0]) (.slice ad9 (acc.length + 1) c9)) := ho9; clear hb2 HP ho9) | (at_builtin; refine append_known rfl (.tmp 42) (.tmp 44) 24 rfl rfl rfl hrun ?_))
            first
              | exact ⟨⟨j + 1, acc ++ [q0], by omega, by simp, by simp; omega, H9.out, HE.out⟩, by simp [intOf]; omega⟩
              | fail
        · have hje : j = l.length := by omega
          subst hje
          have hq := HQ.out
          rw [← HL.out, List.drop_length, respsFrom] at hq
          obtain ⟨rs1, rf1, rl1⟩ := cells_of (l := [_, _]) hno.fb.res
          have r10 := rs1 0 _ rfl
          have r11 := rs1 1 _ rfl
          have f10 := rf1 0
          have f11 := rf1 1
          have HE : Hid (responsesF l bs = (acc, (0, 0))) := EX.out.trans hq.symm
          clear rs1 rf1 hq hno HQ
          go_wp2_with fail
          first
            | (refine bodyPost_ret (Responses_ends (set_two HN.out.fb.res) rfl rfl) rfl ?_
               rw [HE.out]
               exact ⟨_, rfl, HN.out.set _ _, HN.out.fb.set _ _, (NewSl.own HN.out.row).mono (by omega)⟩)
            | fail
    · rw [show responsesF l bs = ([], (2, 0)) by unfold responsesF; rw [if_neg h0, if_pos hle]]
      obtain ⟨ad2, c2, rfl⟩ := hv2.len
      rw [hz] at HC
      clear hv hv2
      generalize (chkX l).2 = z2 at *
      have hb' : ((bs.length : Int) != (l.length : Int)) = true := by simp; omega
      go_enter Try.func28, Try.ntmps28
      go_wp2_with (go_at_call 43; refine HC.mono ?_; rintro r w1 ⟨rfl, hb1⟩; have H1 : Hid (FB w w1 w.heap.size) := HF.out.grow hb1; obtain ⟨rs1, rf1, rl1⟩ := cells_of (l := [_, _]) H1.out.res; have r10 := rs1 0 _ rfl; have r11 := rs1 1 _ rfl; have f10 := rf1 0; have f11 := rf1 1; clear rs1 rf1 hb1 HC)
      first
        | (refine bodyPost_ret (Responses_ends (H1.out.endA (.int .i64 2) (.int .i64 0) _).1 rfl rfl) rfl ?_
           exact ⟨_, rfl, RowSl.nil _ _, (H1.out.endA (.int .i64 2) (.int .i64 0) _).2, NewSl.none _ _ _⟩)
        | fail
end Go.Proofs.Ytccoobcggbbciam
