import Derived.Test.YtcmoehednkaehahGSK
namespace Go.Proofs.Ytcmoehednkaehah
open Go.ChangeShapes Go.WideShapes Go.ChangeAt Go.RowKit

/- The map of holders. -/
theorem key_ne {a b : Int} (h : a ≠ b) : (Lit.int .i64 a) ≠ .int .i64 b := by intro e; simp only [Lit.int.injEq, true_and] at e; exact h e

theorem MSpec.put {D : DataW Unit} {hs : List Int} (h : MSpec D hs) (hD : Go.Maps.IsMap D) {m : Nat} (hm : m < 4) (hl : hs.length = 4) (i : Nat) : MSpec (D.put (.int .i64 (m : Int)) (.lit (.int .i64 (i : Int)))) (hs.set m (i : Int)) := by
  refine ⟨fun kl hk => ?_, fun k z hz => ?_, fun k z hz hne zd => ?_⟩
  · by_cases e : kl = .int .i64 (m : Int)
    · exact ⟨m, hm, e⟩
    · rw [Go.Maps.has_put_other e] at hk
      exact h.key kl hk
  · by_cases e : m = k
    · subst e
      rw [List.getElem?_set_self (by omega)] at hz
      cases hz
      rw [Go.Maps.has_put_same (k := .int .i64 (m : Int)) hD trivial]
      symm
      simp
    · rw [List.getElem?_set_ne e] at hz
      rw [Go.Maps.has_put_other (key_ne (by omega))]
      exact h.has k z hz
  · by_cases e : m = k
    · subst e
      rw [List.getElem?_set_self (by omega)] at hz
      cases hz
      exact Go.Maps.atKey_put_same (k := .int .i64 (m : Int)) hD trivial _ _
    · rw [List.getElem?_set_ne e] at hz
      rw [Go.Maps.atKey_put_other (key_ne (by omega))]
      exact h.at_ k z hz hne zd

theorem MSpec.del {D : DataW Unit} {hs : List Int} (h : MSpec D hs) {m : Nat} (hm : m < 4) (hl : hs.length = 4) : MSpec (D.del (.int .i64 (m : Int))) (hs.set m (-1)) := by
  refine ⟨fun kl hk => ?_, fun k z hz => ?_, fun k z hz hne zd => ?_⟩
  · by_cases e : kl = .int .i64 (m : Int)
    · exact ⟨m, hm, e⟩
    · rw [Go.Maps.has_del_other e] at hk
      exact h.key kl hk
  · by_cases e : m = k
    · subst e
      rw [List.getElem?_set_self (by omega)] at hz
      cases hz
      rw [Go.Maps.has_del_same]
      rfl
    · rw [List.getElem?_set_ne e] at hz
      rw [Go.Maps.has_del_other (key_ne (by omega))]
      exact h.has k z hz
  · by_cases e : m = k
    · subst e
      rw [List.getElem?_set_self (by omega)] at hz
      cases hz
      exact absurd rfl hne
    · rw [List.getElem?_set_ne e] at hz
      rw [Go.Maps.atKey_del_other (key_ne (by omega))]
      exact h.at_ k z hz hne zd

theorem MSpec.new : MSpec (.map []) [-1, -1, -1, -1] := by
  refine ⟨fun kl hk => by simp [Go.Maps.has_eq] at hk, fun m z hz => ?_, fun m z hz hne => ?_⟩
  all_goals
    have hz1 : z = -1 := by
      match m, hz with
      | 0, hz => simp at hz; exact hz.symm
      | 1, hz => simp at hz; exact hz.symm
      | 2, hz => simp at hz; exact hz.symm
      | 3, hz => simp at hz; exact hz.symm
      | k + 4, hz => simp at hz
  · subst hz1
    rfl
  · exact absurd hz1 hne

theorem wf_small {z : Int} (h : -1000000000 ≤ z) (h' : z ≤ 1000000000) : (Lit.int .i64 z).wf = true := by
  have h1 : IntKind.i64.min = -9223372036854775808 := rfl
  have h2 : IntKind.i64.max = 9223372036854775807 := rfl
  simp [Lit.wf, h1, h2]
  omega

/-- Is a lock held? -/
theorem look_run {W : World} {b cnt : Nat} {D : DataW Unit} {hs : List Int} (h : W.ownsMap Try.prog 3 (plainElem Try.prog 3) b cnt D) (hsp : MSpec D hs) {m : Nat} {z : Int} (hm : m < 4) (hz : hs[m]? = some z) : ∃ v, (Instr.lookup 56 (.map (some b)) (.int .i64 (m : Int)) true).run Try.prog W = .ok (.tuple #[.int .i64 v, .bool (z != -1)]) W := by
  obtain ⟨v, ps, hrun, hv⟩ := h.look_ok law3 Try.underlying56 (zero3 _) (plainElem_int Try.underlying3 (wf_small (by omega) (by omega))) (Go.Maps.keyOf_int_mk Try.underlying3 (a := (m : Int)) (wf_small (by omega) (by omega)))
  obtain ⟨c, rfl, -⟩ := plainElem_int_inv Try.underlying3 hv
  rw [hsp.has m z hz] at hrun
  exact ⟨c, hrun⟩

theorem put_run {W0 W : World} {d : Dd} {o : Do} {base : Nat} {pr : Int} {lv : Value} {l : List Lj} {rv : Value} {runs : List Int} {x : Rs} {cnt : Nat} {D : DataW Unit} (h : DW W0 W d o base pr lv l rv runs x cnt D) {m : Nat} (hm : m < 4) (hl : x.hs.length = 4) (i : Nat) (hi : i ≤ 1000) (hc : cnt ≤ 100000000) :
    ∃ W' D', (Instr.mapUpdate 56 (.map (some d.M)) (.int .i64 (m : Int)) (.int .i64 (i : Int))).run Try.prog W = .ok () W' ∧ DW W0 W' d o base pr lv l rv runs { x with hs := x.hs.set m (i : Int) } (cnt + 1) D' := by
  obtain ⟨W', hrun, ho, hg⟩ := h.v.map.update law3 Try.underlying56 (by unfold maxLen; omega) (Go.Maps.keyOf_int_mk Try.underlying3 (a := (m : Int)) (wf_small (by omega) (by omega))) (plainElem_int Try.underlying3 (a := (i : Int)) (wf_small (by omega) (by omega)))
  exact ⟨W', _, hrun, h.mapT hg ho (h.v.spec.put h.v.map.isMap hm hl i)⟩

theorem del_run {W0 W : World} {d : Dd} {o : Do} {base : Nat} {pr : Int} {lv : Value} {l : List Lj} {rv : Value} {runs : List Int} {x : Rs} {cnt : Nat} {D : DataW Unit} (h : DW W0 W d o base pr lv l rv runs x cnt D) {m : Nat} (hm : m < 4) (hl : x.hs.length = 4) :
    ∃ W' D', (∀ ty, (Builtin.delete_ #[56, 3] ty #[.map (some d.M), .int .i64 (m : Int)]).run Try.prog W = .ok (.tuple #[]) W') ∧ DW W0 W' d o base pr lv l rv runs { x with hs := x.hs.set m (-1) } cnt D' := by
  obtain ⟨W', hrun, ho, hg⟩ := h.v.map.drop law3 Try.underlying56 (Go.Maps.keyOf_int_mk Try.underlying3 (a := (m : Int)) (wf_small (by omega) (by omega))) 0
  exact ⟨W', _, fun ty => hrun, h.mapT hg.grown ho (h.v.spec.del hm hl)⟩

/-- What works keeps what is left small. -/
theorem act_true_le {x z : Rs} {i : Nat} {now : Int} {n : Nat} (hnow : 0 ≤ now) (h : actF x i now = some (true, z)) : mu2 n z ≤ mu2 n x := by
  unfold actF at h
  cases he : x.es[i]? with
  | none => rw [he] at h; cases h
  | some e =>
    rw [he] at h
    dsimp only at h
    have hid : x.es.map id = x.es := List.map_id _
    have key : ∀ (e2 : En) (en : List Int), e2.x = e.x → e2.wt = e.wt → e.nx ≤ e2.nx → (en.map (fun z : Int => if z = -1 then 1 else 0)).sum ≤ (x.en.map (fun z : Int => if z = -1 then 1 else 0)).sum → mu2 n ⟨x.es.set i e2, en, x.ws, x.hs⟩ ≤ mu2 n x := fun e2 en h1 h2 h3 h4 => by
      have h9 := mu_upd (e2 := e2) mild_id he en x.ws x.hs h1
      rw [hid] at h9
      have h8 := sum_set (fun e : En => if e.wt = -1 then 1 else 0) x.es i e e2 he
      rw [h2] at h8
      unfold mu2 cwF
      dsimp only
      have h7 : mu ⟨x.es.set i e2, en, x.ws, x.hs⟩ ≤ mu x := by omega
      have h6 := Nat.mul_le_mul_right (n + 1) h7
      omega
    have hset : ∀ t : Int, 0 ≤ t → ((x.en.set i t).map (fun z : Int => if z = -1 then 1 else 0)).sum ≤ (x.en.map (fun z : Int => if z = -1 then 1 else 0)).sum := fun t ht => by
      cases hz : x.en[i]? with
      | none => rw [List.set_eq_of_length_le (List.getElem?_eq_none_iff.1 hz)]; exact Nat.le_refl _
      | some z =>
        have := sum_set (fun z : Int => if z = -1 then 1 else 0) x.en i z t hz
        rw [if_neg (show ¬ (t = -1) by omega)] at this
        omega
    (repeat' split at h) <;> first | (cases h; done) | skip
    all_goals cases h
    · unfold endF
      dsimp only
      rw [List.set_set]
      split
      · exact key _ _ rfl rfl (by dsimp only; omega) (hset _ (by omega))
      · exact key _ _ rfl rfl (by dsimp only; omega) (Nat.le_refl _)
    · exact key _ _ rfl rfl (Nat.le_refl _) (Nat.le_refl _)

theorem Four.blk {l : List Lj} {w W : World} {g : Nat} (h : Four w W g (topsAt l 4 0) (topsAt l 4 1) (topsAt l 4 2) (topsAt l 4 3)) : W.heap[g]? = some (.cells (inV (topsF l)).toArray 3 (0, 0)) := by
  have := h.row
  simpa [topsAt, topsF, inV] using this

set_option maxRecDepth 20000 in
set_option maxHeartbeats 4000000 in
/-- punctualref.Tops. -/
theorem Tops_blk (w : World) (l : List Lj) (v : Value) (hv : LkSl w l v) (hl : l.length ≤ 100) (hok : ∀ x ∈ l, chkActs x.acts = (0, 0)) : Calls Try.prog 17 #[v] w fun r w' => r = .returned (sl0 w.heap.size 4) ∧ w'.heap[w.heap.size]? = some (.cells (inV (topsF l)).toArray 3 (0, 0)) ∧ Below w.heap.size w w' := by
  obtain ⟨⟨ad, c, rfl, -, hcap, hrow⟩, hacts⟩ := hv
  have HR : Hid ((∀ W, Below w.heap.size w W → (l = [] ∨ ∃ b o, ad = some ⟨b, o, none⟩ ∧ ∀ q u, (l.flatMap Lj.vals)[q]? = some u → W.cell? ⟨b, o + q, none⟩ = some u)) ∧ (∀ x ∈ l, RowSl Ac.vals w x.acts x.v) ∧ ∀ x ∈ l, chkActs x.acts = (0, 0)) := ⟨fun W hb => hrow.imp id (fun ⟨b, o, e, h⟩ => ⟨b, o, e, fun q u hq => below_cell hb (h q u hq)⟩), hacts, hok⟩
  clear hrow hacts hok
  go_enter Try.func17, Try.ntmps17
  go_wp2_with fail
  go_loopw [12] (fun i wr => ∃ m : Nat, m ≤ 4 ∧ i = .int .i64 m ∧ Four w wr w.heap.size (topsAt l m 0) (topsAt l m 1) (topsAt l m 2) (topsAt l m 3)) (fun i _ => 4 - (intOf i).toNat)
  case atStart => exact ⟨0, Nat.zero_le _, rfl, below_new _ _, Nat.le_refl _, heap_alloc_new _ _⟩
  case round =>
    obtain ⟨m, hm, rfl, hf⟩ := hrel
    by_cases hlt : m < 4
    · have hmi : (m : Int) < 4 := by omega
      generalize hA : topsAt l m 0 = a0 at *
      generalize hB : topsAt l m 1 = a1 at *
      generalize hC : topsAt l m 2 = a2 at *
      generalize hD : topsAt l m 3 = a3 at *
      have HT : Hid (topsAt l m 0 = a0 ∧ topsAt l m 1 = a1 ∧ topsAt l m 2 = a2 ∧ topsAt l m 3 = a3) := ⟨hA, hB, hC, hD⟩
      have HF0 : Hid (Four w wr w.heap.size a0 a1 a2 a3) := hf
      have hfz : FZ w wr w.heap.size m (-1) a0 a1 a2 a3 := by
        have := FZ.first (l := l) hlt (by rw [hA, hB, hC, hD]; exact hf)
        rw [hA, hB, hC, hD] at this
        exact this
      have HZ : Hid (FZ w wr w.heap.size m (-1) a0 a1 a2 a3 ∧ m < 4) := ⟨hfz, hlt⟩
      clear hA hB hC hD hf hfz HF0
      go_wp2_with fail
      go_loopw [17] (fun i wl => ∃ (j : Nat) (z : Int), j ≤ l.length ∧ i = .int .i64 j ∧ FZ w wl w.heap.size m z a0 a1 a2 a3 ∧ topL (m : Int) (l.drop j) z = topL (m : Int) l (-1)) (fun i _ => l.length - (intOf i).toNat)
      case atStart => exact ⟨0, -1, Nat.zero_le _, rfl, HZ.out.1, rfl⟩
      case round =>
        obtain ⟨j, z, hj, rfl, hf, hq⟩ := hrel
        by_cases hjl : j < l.length
        · obtain ⟨x, hx, hd⟩ := drop_at hjl
          rw [hd, topL] at hq
          rcases HR.out.1 wr hf.bel with h | ⟨b, o, rfl, hrow⟩
          · rw [h] at hjl; simp at hjl
          have ha := lj_at hrow hx
          have hmem := List.mem_of_getElem? hx
          have hacW := HR.out.2.1 x hmem
          obtain ⟨hal, -⟩ := chkActs_fine (HR.out.2.2 x hmem)
          obtain ⟨xa, xp, xacts, xv⟩ := x
          dsimp only at hacW hq hal
          obtain ⟨aad, ac, rfl⟩ := hacW.len
          obtain ⟨c0, c1, c2⟩ := ha
          dsimp only at c0 c1 c2
          have lb : b < wr.heap.size := World.block_lt_of_cell? _ _ c0
          have hji : (j : Int) < (l.length : Int) := by omega
          have HQ : Hid (topL (m : Int) (l.drop (j + 1)) (topA xp (m : Int) xacts z) = topL (m : Int) l (-1)) := hq
          have HB : Hid (FZ w (wr.alloc (.cells #[.int .i64 xa, .int .i64 xp, .slice aad xacts.length ac] 47)) w.heap.size m z a0 a1 a2 a3) := hf.grow (below_new _ _)
          have H9 : Hid (∀ W, Below w.heap.size w W → (xacts = [] ∨ ∃ b o, aad = some ⟨b, o, none⟩ ∧ ∀ q u, (xacts.flatMap Ac.vals)[q]? = some u → W.cell? ⟨b, o + q, none⟩ = some u)) := fun W hb => by
            obtain ⟨_, _, e9, -, -, h9⟩ := hacW.below hb
            cases e9
            exact h9
          have hcap2 : xacts.length ≤ ac := by
            obtain ⟨_, _, e9, -, h9, -⟩ := hacW
            cases e9
            exact h9
          obtain ⟨wo, hwo⟩ : ∃ wo, wo = wr := ⟨_, rfl⟩
          subst hwo
          have hgl : w.heap.size < wo.heap.size := (hf.at HZ.out.2).2.2
          clear hf hq hrow hx hd hacW hmem
          go_wp2_with fail
          go_loopw [24] (fun i wl => ∃ (k : Nat) (z' : Int), k ≤ xacts.length ∧ i = .int .i64 k ∧ FZ w wl w.heap.size m z' a0 a1 a2 a3 ∧ wl.heap[wo.heap.size]? = some (.cells #[.int .i64 xa, .int .i64 xp, .slice aad xacts.length ac] 47 (0, 0)) ∧ topA xp (m : Int) (xacts.drop k) z' = topA xp (m : Int) xacts z) (fun i _ => xacts.length - (intOf i).toNat)
          case atStart => exact ⟨0, z, Nat.zero_le _, rfl, HB.out, heap_alloc_new _ _, rfl⟩
          case round =>
            obtain ⟨k, z', hk, rfl, hf, hjb, hq⟩ := hrel
            obtain ⟨jc, jf, jl⟩ := cells_of (l := [_, _, _]) hjb
            have jc1 := jc 1 _ rfl
            by_cases hkl : k < xacts.length
            · obtain ⟨y, hy, hyd⟩ := drop_at hkl
              rw [hyd, topA] at hq
              rcases H9.out wr hf.bel with h | ⟨rb, ro, rfl, hrow⟩
              · rw [h] at hkl; simp at hkl
              obtain ⟨e0, e1⟩ := ac_at hrow hy
              have rlb : rb < wr.heap.size := World.block_lt_of_cell? _ _ e0
              have hki : (k : Int) < (xacts.length : Int) := by omega
              obtain ⟨yd, yn⟩ := y
              dsimp only at e0 e1 hq
              have HF : Hid (FZ w (wr.alloc (.cells #[.int .i64 yd, .int .i64 yn] 61)) w.heap.size m z' a0 a1 a2 a3 ∧ (wr.alloc (.cells #[.int .i64 yd, .int .i64 yn] 61)).heap[wo.heap.size]? = some (.cells #[.int .i64 xa, .int .i64 xp, .slice (some ⟨rb, ro, none⟩) xacts.length ac] 47 (0, 0))) := ⟨hf.grow (below_new _ _), ((below_new _ _).block _ jl).trans hjb⟩
              obtain ⟨f1, f2, f3⟩ := hf.at HZ.out.2
              clear hf hjb jc jf hrow hy hyd
              by_cases hy2 : yd = 2
              · subst hy2
                by_cases hyn : yn = (m : Int)
                · subst hyn
                  by_cases hp : z' < xp
                  · rw [if_pos ⟨rfl, rfl⟩, show max z' xp = xp by omega] at hq
                    have HQ2 : Hid (topA xp (m : Int) (xacts.drop (k + 1)) xp = topA xp (m : Int) xacts z) := hq
                    clear hq
                    go_wp2_with fail
                    go_quiet (fail)
                    go_wp2_with fail
                    refine ⟨⟨k + 1, xp, by omega, by simp, (HF.out.1.grow below_drewN').set HZ.out.2 xp, ?_, HQ2.out⟩, by simp [intOf]; omega⟩
                    rw [Below.heap_setCell _ _ _ _ (by show ¬ (wo.heap.size = w.heap.size); omega)]
                    exact (below_drewN'.block _ (by simp; omega)).trans HF.out.2
                  · rw [if_pos ⟨rfl, rfl⟩, show max z' xp = z' by omega] at hq
                    have HQ2 : Hid (topA xp (m : Int) (xacts.drop (k + 1)) z' = topA xp (m : Int) xacts z) := hq
                    clear hq
                    go_wp2_with fail
                    go_quiet (fail)
                    go_wp2_with fail
                    exact ⟨⟨k + 1, z', by omega, by simp, HF.out.1.grow below_drewN', (below_drewN'.block _ (by simp; omega)).trans HF.out.2, HQ2.out⟩, by simp [intOf]; omega⟩
                · have hyn' : (yn == (m : Int)) = false := by simpa using hyn
                  rw [if_neg (by simp [hyn])] at hq
                  have HQ2 : Hid (topA xp (m : Int) (xacts.drop (k + 1)) z' = topA xp (m : Int) xacts z) := hq
                  clear hq
                  go_wp2_with fail
                  go_quiet (fail)
                  go_wp2_with fail
                  exact ⟨⟨k + 1, z', by omega, by simp, HF.out.1.grow below_drewN', (below_drewN'.block _ (by simp; omega)).trans HF.out.2, HQ2.out⟩, by simp [intOf]; omega⟩
              · have hy2' : (yd == 2) = false := by simpa using hy2
                rw [if_neg (by simp [hy2])] at hq
                have HQ2 : Hid (topA xp (m : Int) (xacts.drop (k + 1)) z' = topA xp (m : Int) xacts z) := hq
                clear hq
                go_wp2_with fail
                go_quiet (fail)
                go_wp2_with fail
                exact ⟨⟨k + 1, z', by omega, by simp, HF.out.1.grow below_drewN', (below_drewN'.block _ (by simp; omega)).trans HF.out.2, HQ2.out⟩, by simp [intOf]; omega⟩
            · have hke : k = xacts.length := by omega
              subst hke
              rw [List.drop_length, topA] at hq
              have HF : Hid (FZ w wr w.heap.size m z' a0 a1 a2 a3) := hf
              have HQ2 : Hid (z' = topA xp (m : Int) xacts z) := hq
              clear hf hq hjb jc jf
              go_wp2_with fail
              have e9 := HQ2.out
              subst e9
              exact ⟨⟨j + 1, _, by omega, by simp, HF.out, HQ.out⟩, by simp [intOf]; omega⟩
        · have hje : j = l.length := by omega
          subst hje
          rw [List.drop_length, topL] at hq
          have HF : Hid (FZ w wr w.heap.size m z a0 a1 a2 a3) := hf
          have HQ : Hid (z = topL (m : Int) l (-1)) := hq
          clear hf hq
          go_wp2_with fail
          have e9 := HQ.out
          subst e9
          refine ⟨⟨m + 1, by omega, by simp, ?_⟩, by simp [intOf]; omega⟩
          obtain ⟨t0, t1, t2, t3⟩ := HT.out
          refine FZ.last (l := l) hlt ?_
          rw [t0, t1, t2, t3]
          exact HF.out
    · have hme : m = 4 := by omega
      subst hme
      have HF : Hid (Four w wr w.heap.size (topsAt l 4 0) (topsAt l 4 1) (topsAt l 4 2) (topsAt l 4 3)) := hf
      clear hf
      go_wp2_with fail
      go_ret
      exact ⟨rfl, HF.out.blk, HF.out.bel⟩
end Go.Proofs.Ytcmoehednkaehah
