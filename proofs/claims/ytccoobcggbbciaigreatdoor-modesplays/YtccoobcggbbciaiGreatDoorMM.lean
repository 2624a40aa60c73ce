import Derived.Test.YtccoobcggbbciaiGreatDoorMK
namespace Go.Proofs.YtccoobcggbbciaiGreatDoor
open Go.ChangeShapes Go.WideShapes Go.ChangeAt Go.RowKit

set_option maxRecDepth 20000 in
set_option maxHeartbeats 2000000 in
theorem DeleteZ1 (W : World) (ad : Option Addr) (cap pa pb : Nat) : Calls Tryz.prog 113 #[.slice ad 0 cap, .func (.func 114) #[] #[.pointer (some ⟨pa, 0, none⟩), .pointer (some ⟨pb, 0, none⟩)]] W fun r w' => r = .returned (.slice ad 0 cap) ∧ Below W.heap.size W w' := by
  have HI := Index1 W ad cap pa pb [] (fun _ => false) (by simp) (.inl rfl) (fun W' hb x hx => by simp at hx)
  rw [show fstP (fun _ => false) [] 0 = -1 from rfl] at HI
  simp only [List.length_nil] at HI
  go_enter Tryz.func113, Tryz.ntmps113
  go_wp2_with (go_at_call 136; refine HI.mono ?_; rintro r w1 ⟨rfl, hb1⟩; have H1 : Hid (Below W.heap.size W w1) := hb1; clear hb1 HI)
  go_ret
  exact ⟨rfl, H1.out⟩

set_option maxRecDepth 20000 in
set_option maxHeartbeats 2000000 in
theorem DeleteZ2 (W : World) (ad : Option Addr) (cap pa : Nat) : Calls Tryz.prog 113 #[.slice ad 0 cap, .func (.func 71) #[] #[.pointer (some ⟨pa, 0, none⟩)]] W fun r w' => r = .returned (.slice ad 0 cap) ∧ Below W.heap.size W w' := by
  have HI := Index2 W ad cap pa [] (fun _ => false) (by simp) (.inl rfl) (fun W' hb x hx => by simp at hx)
  rw [show fstP (fun _ => false) [] 0 = -1 from rfl] at HI
  simp only [List.length_nil] at HI
  go_enter Tryz.func113, Tryz.ntmps113
  go_wp2_with (go_at_call 136; refine HI.mono ?_; rintro r w1 ⟨rfl, hb1⟩; have H1 : Hid (Below W.heap.size W w1) := hb1; clear hb1 HI)
  go_ret
  exact ⟨rfl, H1.out⟩

theorem below_grown {W W' : World} {row : Option Nat} (h : Below W.heap.size W W') : W.grownBy W' row := grown_below (grown_refl _ _) h

theorem filter_notnot (l : List Nat) (b : Nat → Bool) : l.filter (fun x => !(!b x)) = l.filter b := by simp

/-- Those that are there, and for whom it holds. -/
theorem DeleteOwn (W : World) (B : Nat) (tv : Value) (th : List Nat) (b : Nat → Bool) (pa pb : Nat) (h : S8.Own W B tv (S8.zI th)) (hl : th.length ≤ 100000)
    (HP : ∀ W', W.grownBy W' tv.ownBlock → ∀ x ∈ th, Calls Tryz.prog 114 #[.int .i64 (x : Int), .pointer (some ⟨pa, 0, none⟩), .pointer (some ⟨pb, 0, none⟩)] W' fun r w' => r = .returned (.bool (!b x)) ∧ Below W'.heap.size W' w') :
    Calls Tryz.prog 113 #[tv, .func (.func 114) #[] #[.pointer (some ⟨pa, 0, none⟩), .pointer (some ⟨pb, 0, none⟩)]] W fun r W' => ∃ tv', r = .returned tv' ∧ S8.Own W' B tv' (S8.zI (th.filter b)) ∧ W.grownBy W' tv.ownBlock ∧ tv'.ownBlock = tv.ownBlock := by
  rcases h.cases with ⟨rfl, e⟩ | ⟨g, cap, cur, rfl, hB, hg, hcap, hm, hcs, hcur⟩
  · have : th = [] := by simpa [S8.zI] using e
    subst this
    refine (DeleteZ1 W none 0 pa pb).mono ?_
    rintro r W' ⟨rfl, hb⟩
    exact ⟨_, rfl, ⟨rfl, .inl ⟨rfl, rfl⟩⟩, below_grown hb, rfl⟩
  · rw [S8.zI_len] at hcap ⊢
    have hcl : cur.toList.length = cap := by rw [Array.length_toList]; exact hcs
    have HD := Delete1 W g 0 cap pa pb th (fun x => !b x) cur.toList hl hcap (by rw [Array.toArray_toList]; exact hg) (by omega) (fun j x hx => by
      rw [Nat.zero_add, hcur, List.getElem?_append_left (by simp [S8.zI]; exact (List.getElem?_eq_some_iff.1 hx).1)]
      simp [S8.zI, hx]) HP
    refine HD.mono ?_
    rintro r W' ⟨rfl, cs, hc⟩
    rw [filter_notnot]
    refine ⟨_, rfl, ?_, hc.grown, rfl⟩
    have hfl : (th.filter b).length ≤ th.length := List.length_filter_le _ _
    refine S8.Own.mk (cur := cs.toArray) (rest := cs.drop (th.filter b).length) (by rw [S8.zI_len]) hB hc.row (by omega) hm (by simp [hc.len, hcl]) ?_
    show cs = _
    refine (List.take_append_drop (th.filter b).length cs).symm.trans ?_
    congr 1
    apply List.ext_getElem?
    intro q
    rw [List.getElem?_take]
    by_cases hq : q < (th.filter b).length
    · rw [if_pos hq]
      have hx : (th.filter b)[q]? = some (th.filter b)[q] := List.getElem?_eq_getElem hq
      have := hc.kept q _ (by rw [filter_notnot]; exact hx)
      rw [Nat.zero_add] at this
      rw [this]
      simp [S8.zI, hx]
    · rw [if_neg hq, List.getElem?_eq_none (by simp [S8.zI]; omega)]

/-- Those that still come, and for whom it holds. -/
theorem DeleteCome (W : World) (C k : Nat) (rk cm : List Nat) (cv : Value) (b : Nat → Bool) (pa : Nat) (h : S8.RowC W C rk cm k) (hv : ∃ a c, cv = .slice a (cm.length - k) c ∧ cm.length - k ≤ c ∧ (k < cm.length → a = some ⟨C, k, none⟩)) (hl : cm.length ≤ 100000)
    (HP : ∀ W', W.grownBy W' (some C) → ∀ p ∈ cm, Calls Tryz.prog 71 #[.int .i64 ((S8.RK rk p : Nat) : Int), .pointer (some ⟨pa, 0, none⟩)] W' fun r w' => r = .returned (.bool (!b (S8.RK rk p))) ∧ Below W'.heap.size W' w') :
    Calls Tryz.prog 113 #[cv, .func (.func 71) #[] #[.pointer (some ⟨pa, 0, none⟩)]] W fun r W' => ∃ cv', r = .returned cv' ∧ S8.RowC W' C rk (cm.take k ++ (cm.drop k).filter (fun p => b (S8.RK rk p))) k ∧ (∃ a c, cv' = .slice a ((cm.take k ++ (cm.drop k).filter (fun p => b (S8.RK rk p))).length - k) c ∧ (cm.take k ++ (cm.drop k).filter (fun p => b (S8.RK rk p))).length - k ≤ c ∧ (k < (cm.take k ++ (cm.drop k).filter (fun p => b (S8.RK rk p))).length → a = some ⟨C, k, none⟩)) ∧ W.grownBy W' (some C) := by
  obtain ⟨a, c, rfl, hc, ha⟩ := hv
  by_cases hk : k < cm.length
  · obtain rfl := ha hk
    obtain ⟨cs0, hr, hrow⟩ := h
    have hkl : (cm.take k).length = k := by rw [List.length_take]; omega
    have hxs : ((cm.drop k).map (S8.RK rk)).length = cm.length - k := by simp
    have hle : k + (cm.length - k) ≤ cs0.length := by
      obtain ⟨p, hp⟩ : ∃ p, cm[cm.length - 1]? = some p := ⟨_, List.getElem?_eq_getElem (by omega)⟩
      have := (List.getElem?_eq_some_iff.1 (hrow (cm.length - 1) p (by omega) hp)).1
      omega
    have HD := Delete2 W C k c pa ((cm.drop k).map (S8.RK rk)) (fun x => !b x) cs0 (by rw [hxs]; omega) (by rw [hxs]; exact hc) hr (by rw [hxs]; exact hle) (fun j x hx => by
      rw [List.getElem?_map, List.getElem?_drop] at hx
      obtain ⟨p, hp, e⟩ := Option.map_eq_some_iff.1 hx
      rw [← e]
      exact hrow (k + j) p (by omega) hp) (fun W' hg x hx => by
      obtain ⟨p, hp, e⟩ := List.mem_map.1 hx
      rw [← e]
      exact HP W' hg p (List.mem_of_mem_drop hp))
    rw [hxs] at HD
    refine HD.mono ?_
    rintro r W' ⟨rfl, cs, hcut⟩
    have hff : ((cm.drop k).map (S8.RK rk)).filter (fun x => !(fun x => !b x) x) = ((cm.drop k).filter (fun p => b (S8.RK rk p))).map (S8.RK rk) := by
      rw [filter_notnot, List.filter_map]
      rfl
    rw [hff, List.length_map]
    have hfl : ((cm.drop k).filter (fun p => b (S8.RK rk p))).length ≤ cm.length - k := Nat.le_trans (List.length_filter_le _ _) (by simp)
    refine ⟨_, rfl, ⟨cs, hcut.row, fun q p hq hp => ?_⟩, ⟨_, _, by rw [List.length_append, hkl, Nat.add_sub_cancel_left], by rw [List.length_append]; omega, fun _ => rfl⟩, hcut.grown⟩
    rw [List.getElem?_append_right (by omega), hkl] at hp
    have := hcut.kept (q - k) (S8.RK rk p) (by rw [hff, List.getElem?_map, hp]; rfl)
    rw [show k + (q - k) = q by omega] at this
    exact this
  · have hz : cm.length - k = 0 := by omega
    have hdr : cm.drop k = [] := List.drop_of_length_le (by omega)
    rw [hz, hdr]
    simp only [List.filter_nil, List.append_nil]
    refine (DeleteZ2 W a c pa).mono ?_
    rintro r W' ⟨rfl, hb⟩
    have hlt : (cm.take k).length ≤ k := by rw [List.length_take]; omega
    obtain ⟨cs0, hr, hrow⟩ := h
    refine ⟨_, rfl, ⟨cs0, (hb.block C (Array.getElem?_eq_some_iff.1 hr).1).trans hr, fun q p hq hp => ?_⟩, ⟨a, c, by rw [show (cm.take k).length - k = 0 by omega], by omega, fun h => by omega⟩, below_grown hb⟩
    have := (List.getElem?_eq_some_iff.1 hp).1
    omega
end Go.Proofs.YtccoobcggbbciaiGreatDoor
namespace Go.Proofs.YtccoobcggbbciaiGreatDoor
open Go.ChangeShapes Go.WideShapes Go.ChangeAt Go.RowKit

theorem lt_heapM {w : World} {g : Nat} {o : Obj} (h : w.heap[g]? = some o) : g < w.heap.size := (Array.getElem?_eq_some_iff.1 h).1

/-- All but the line, what is left, those that come, and the row of those that are there, stays. -/
structure MovedG (W W' : World) (K Lf C : Nat) (tv tv' : Value) : Prop where
  os : W'.os = W.os
  tape : W'.tape = W.tape
  output : W'.output = W.output
  size : W.heap.size ≤ W'.heap.size
  block : ∀ b, b < W.heap.size → b ≠ K → b ≠ Lf → b ≠ C → tv.ownBlock ≠ some b → W'.heap[b]? = W.heap[b]? ∧ tv'.ownBlock ≠ some b

theorem MovedG.of {W W' : World} {K Lf C : Nat} {tv tv' : Value} (h : S8.MovedL W W' K Lf tv tv') : MovedG W W' K Lf C tv tv' := ⟨h.os, h.tape, h.output, h.size, fun b h1 h2 h3 _ h5 => h.block b h1 h2 h3 h5⟩

theorem MovedG.trans {a b c : World} {K Lf C : Nat} {u v x : Value} (h : MovedG a b K Lf C u v) (h' : MovedG b c K Lf C v x) : MovedG a c K Lf C u x :=
  ⟨h'.os.trans h.os, h'.tape.trans h.tape, h'.output.trans h.output, Nat.le_trans h.size h'.size, fun i hi hk hl hc hu => by
    obtain ⟨e1, e2⟩ := h.block i hi hk hl hc hu
    obtain ⟨f1, f2⟩ := h'.block i (Nat.lt_of_lt_of_le hi h.size) hk hl hc e2
    exact ⟨f1.trans e1, f2⟩⟩

theorem MovedG.below {W W' : World} {K Lf C : Nat} {tv : Value} (h : Below W.heap.size W W') : MovedG W W' K Lf C tv tv := ⟨h.os, h.tape, h.output, h.size, fun b hb _ _ _ hu => ⟨h.block b hb, hu⟩⟩

theorem LineG.grow {w0 : World} {B K Lf Rn Rd C : Nat} {W : World} {l : List Jb} {rk cm : List Nat} {k : Nat} {th : List Nat} {left : List Int} {jv tv cv : Value} {W' : World} (h : S8.LineG w0 B K Lf Rn Rd C W l rk cm k th left jv tv cv) (hb : Below W.heap.size W W') : S8.LineG w0 B K Lf Rn Rd C W' l rk cm k th left jv tv cv :=
  h.keep (fun b hbB => hb.block b (Nat.lt_of_lt_of_le hbB h.bs)) (h.there.same (fun g e => hb.block g (h.there.low e).2)) hb.size (below_seq h.bel hb) rfl

/-- Those that come were cut. -/
theorem LineG.cut {w0 : World} {B K Lf Rn Rd C : Nat} {W : World} {l : List Jb} {rk cm : List Nat} {k : Nat} {th : List Nat} {left : List Int} {jv tv cv : Value} {W' : World} {cm' : List Nat} {cv' : Value} (h : S8.LineG w0 B K Lf Rn Rd C W l rk cm k th left jv tv cv) (hd : w0.heap.size ≤ C ∧ Rn ≠ C ∧ Rd ≠ C) (hg : W.grownBy W' (some C)) (hr : S8.RowC W' C rk cm' k) (hv : ∃ a c, cv' = .slice a (cm'.length - k) c ∧ cm'.length - k ≤ c ∧ (k < cm'.length → a = some ⟨C, k, none⟩)) :
    S8.LineG w0 B K Lf Rn Rd C (W'.setCell ⟨K, 4, none⟩ cv') l rk cm' k th left jv tv cv' ∧ MovedG W (W'.setCell ⟨K, 4, none⟩ cv') K Lf C tv tv := by
  obtain ⟨l1, l2, l3, l4, l5⟩ := h.lt
  obtain ⟨d1, d2, d3, d4⟩ := h.dK
  obtain ⟨d5, d6, d7⟩ := h.dL
  have hbs := h.bs
  have hlow := h.low
  have keep : ∀ b, b < W.heap.size → b ≠ C → W'.heap[b]? = W.heap[b]? := fun b hb hc => hg.block b hb (fun e => hc (Option.some.inj e))
  have hK' := (keep K (by omega) (Ne.symm d4)).trans h.line
  have hown : ∀ g, tv.ownBlock = some g → g ≠ K ∧ g ≠ C ∧ g < W.heap.size := fun g e => by have := h.there.low e; omega
  have hB0 : Below w0.heap.size w0 W' := ⟨hg.os.trans h.bel.os, hg.tape.trans h.bel.tape, hg.output.trans h.bel.output, Nat.le_trans h.bel.size hg.size, fun i hi => (keep i (by omega) (by omega)).trans (h.bel.block i hi)⟩
  refine ⟨⟨?_, ?_, ?_, ?_, hr.same (Below.heap_setCell _ _ _ _ d4), h.there.same (fun g e => (Below.heap_setCell _ _ _ _ (hown g e).1).trans (keep g (hown g e).2.2 (hown g e).2.1)), h.jobs, hB0.setCell hlow.1.1 _, h.low, h.lt, h.dK, h.dL, ?_, hv⟩, ⟨hg.os, hg.tape, hg.output, ?_, fun b hb hbK _ hbC hu => ⟨(Below.heap_setCell _ _ _ _ hbK).trans (keep b hb hbC), hu⟩⟩⟩
  · rw [setCell_at hK']; rfl
  · rw [Below.heap_setCell _ _ _ _ d1, keep Lf (by omega) (Ne.symm d7)]; exact h.left
  · rw [Below.heap_setCell _ _ _ _ d2, keep Rn (by omega) hd.2.1]; exact h.ranks
  · rw [Below.heap_setCell _ _ _ _ d3, keep Rd (by omega) hd.2.2]; exact h.ranked
  · have := hg.size; simp; omega
  · have := hg.size; simpa using this

set_option maxRecDepth 20000 in
set_option maxHeartbeats 4000000 in
theorem GiveUp_any (w0 W : World) (B Kb Lf Rn Rd C : Nat) (l : List Jb) (rk cm : List Nat) (k : Nat) (th : List Nat) (left : List Int) (jv tv cv : Value) (set : List Cr) (cs : List Co) (sv qv : Value) (sb cb ob : Nat)
    (h : S8.LineG w0 B Kb Lf Rn Rd C W l rk cm k th left jv tv cv) (hd : w0.heap.size ≤ C ∧ Rn ≠ C ∧ Rd ≠ C) (hr : S8.Ranked l 1 rk) (hth : ∀ p ∈ th, p < l.length) (hcm : ∀ p ∈ cm, p < l.length) (htl : th.length ≤ 100000) (hcl : cm.length ≤ 100000) (hof : OfW w0 set cs sv qv sb cb ob) (hwh : Whose set cs) (hlen : cs.length = l.length) :
    Calls Tryz.prog 70 #[.pointer (some ⟨Kb, 0, none⟩), .func (.func 71) #[] #[.pointer (some ⟨ob, 0, none⟩)]] W fun r W' => r = .returned (.tuple #[]) ∧ ∃ tv' cv', S8.LineG w0 B Kb Lf Rn Rd C W' l rk (cm.take k ++ (cm.drop k).filter (fun p => hiOf set cs (S8.RK rk p))) k (th.filter (fun p => hiOf set cs (S8.RK rk p))) left jv tv' cv' ∧ MovedG W W' Kb Lf C tv tv' := by
  have hbx : Below W.heap.size W ((W.alloc (.cells #[.pointer (some ⟨Kb, 0, none⟩)] 98)).alloc (.cells #[.func (.func 71) #[] #[.pointer (some ⟨ob, 0, none⟩)]] 26)) := below_seq (below_new _ _) (below_new _ _)
  have H1 : Hid (S8.LineG w0 B Kb Lf Rn Rd C ((W.alloc (.cells #[.pointer (some ⟨Kb, 0, none⟩)] 98)).alloc (.cells #[.func (.func 71) #[] #[.pointer (some ⟨ob, 0, none⟩)]] 26)).drew l rk cm k th left jv tv cv) := LineG.grow h hbx.drew
  have gx : ((W.alloc (.cells #[.pointer (some ⟨Kb, 0, none⟩)] 98)).alloc (.cells #[.func (.func 71) #[] #[.pointer (some ⟨ob, 0, none⟩)]] 26)).heap[W.heap.size]? = some (.cells #[.pointer (some ⟨Kb, 0, none⟩)] 98 (0, 0)) := (Below.heap_alloc _ _ _ (by simp)).trans (heap_alloc_new _ _)
  have gy : ((W.alloc (.cells #[.pointer (some ⟨Kb, 0, none⟩)] 98)).alloc (.cells #[.func (.func 71) #[] #[.pointer (some ⟨ob, 0, none⟩)]] 26)).heap[W.heap.size + 1]? = some (.cells #[.func (.func 71) #[] #[.pointer (some ⟨ob, 0, none⟩)]] 26 (0, 0)) := by
    have := heap_alloc_new (W.alloc (.cells #[.pointer (some ⟨Kb, 0, none⟩)] 98)) (.cells #[.func (.func 71) #[] #[.pointer (some ⟨ob, 0, none⟩)]] 26)
    simpa using this
  have hGG : ((W.alloc (.cells #[.pointer (some ⟨Kb, 0, none⟩)] 98)).alloc (.cells #[.func (.func 71) #[] #[.pointer (some ⟨ob, 0, none⟩)]] 26)).heap.size = W.heap.size + 2 := by simp
  obtain ⟨l1, l2, l3, l4, l5⟩ := h.lt
  have hbs := h.bs
  have hlow := h.low
  have HX : Hid (∀ (row : Option Nat) (W' : World), (∀ g, row = some g → w0.heap.size ≤ g) → ((W.alloc (.cells #[.pointer (some ⟨Kb, 0, none⟩)] 98)).alloc (.cells #[.func (.func 71) #[] #[.pointer (some ⟨ob, 0, none⟩)]] 26)).drew.grownBy W' row → OfW W' set cs sv qv sb cb ob) := fun row W' hrow hg => by
    refine hof.below ⟨hg.os.trans (hbx.drew.os.trans h.bel.os), hg.tape.trans (hbx.drew.tape.trans h.bel.tape), hg.output.trans (hbx.drew.output.trans h.bel.output), Nat.le_trans h.bel.size (Nat.le_trans hbx.drew.size hg.size), fun i hi => ?_⟩
    rw [hg.block i (by have := h.bel.size; have := hbx.drew.size; omega) (fun e => by have := hrow i e.symm; omega), hbx.drew.block i (by have := h.bel.size; omega)]
    exact h.bel.block i hi
  have HO := DeleteOwn ((W.alloc (.cells #[.pointer (some ⟨Kb, 0, none⟩)] 98)).alloc (.cells #[.func (.func 71) #[] #[.pointer (some ⟨ob, 0, none⟩)]] 26)).drew B tv th (fun p => hiOf set cs (S8.RK rk p)) (W.heap.size + 1) W.heap.size H1.out.there htl (fun W' hg p hp => by
    have hpl := hth p hp
    have hne : ∀ q, q < B ∨ W.heap.size ≤ q → some q ≠ tv.ownBlock := fun q hq e => by have := h.there.low e.symm; omega
    have cell : ∀ q i v, q < W.heap.size + 2 → (q < B ∨ W.heap.size ≤ q) → ((W.alloc (.cells #[.pointer (some ⟨Kb, 0, none⟩)] 98)).alloc (.cells #[.func (.func 71) #[] #[.pointer (some ⟨ob, 0, none⟩)]] 26)).cell? ⟨q, i, none⟩ = some v → W'.cell? ⟨q, i, none⟩ = some v := fun q i v h1 h2 h3 => by
      refine (World.cell?_of_block (hg.block q (by have : ((W.alloc (.cells #[.pointer (some ⟨Kb, 0, none⟩)] 98)).alloc (.cells #[.func (.func 71) #[] #[.pointer (some ⟨ob, 0, none⟩)]] 26)).drew.heap.size = ((W.alloc (.cells #[.pointer (some ⟨Kb, 0, none⟩)] 98)).alloc (.cells #[.func (.func 71) #[] #[.pointer (some ⟨ob, 0, none⟩)]] 26)).heap.size := rfl; omega) (hne q h2))).trans ?_
      exact h3
    refine rank_any W' set cs sv qv sb cb ob (W.heap.size + 1) W.heap.size Kb Rd rk p (HX.out _ W' (fun g e => by have := h.there.low e; omega) hg) hwh ?_ ?_ ?_ (by omega) ?_ (by rw [hlen]; exact hr.lt hpl)
    · exact cell _ _ _ (by omega) (.inr (by omega)) ((cells_of (l := [_]) gy).1 0 _ rfl)
    · exact cell _ _ _ (by omega) (.inr (by omega)) ((cells_of (l := [_]) gx).1 0 _ rfl)
    · rw [hlen]
      exact cell _ _ _ (by omega) (.inl l1) ((cells_of (l := [_, _, _, _, _, _]) H1.out.line).1 3 _ rfl)
    · exact cell _ _ _ (by omega) (.inl l4) ((cells_of (l := (S8.zI rk).map (Value.int .i64)) H1.out.ranked).1 p _ (by simp [S8.zI, S8.RK_get (show p < rk.length by rw [hr.len]; exact hpl)])))
  have HN : Hid (∀ W3 : World, ((W.alloc (.cells #[.pointer (some ⟨Kb, 0, none⟩)] 98)).alloc (.cells #[.func (.func 71) #[] #[.pointer (some ⟨ob, 0, none⟩)]] 26)).drew.grownBy W3 tv.ownBlock → True) := fun _ _ => trivial
  obtain ⟨ad, c, rfl⟩ := S8.own_slice h.there
  obtain ⟨ca, cc, rfl, hcc, hca⟩ := h.cval
  have H0 : Hid (S8.MovedL W ((W.alloc (.cells #[.pointer (some ⟨Kb, 0, none⟩)] 98)).alloc (.cells #[.func (.func 71) #[] #[.pointer (some ⟨ob, 0, none⟩)]] 26)).drew Kb Lf (.slice ad th.length c) (.slice ad th.length c) ∧ (∀ p ∈ cm, p < l.length) ∧ S8.Ranked l 1 rk ∧ (w0.heap.size ≤ C ∧ Rn ≠ C ∧ Rd ≠ C) ∧ Whose set cs ∧ cs.length = l.length ∧ cm.length ≤ 100000) := ⟨⟨hbx.drew.os, hbx.drew.tape, hbx.drew.output, hbx.drew.size, fun b hb _ _ hu => ⟨hbx.drew.block b hb, hu⟩⟩, hcm, hr, hd, hwh, hlen, hcl⟩
  have HG : Hid (((W.alloc (.cells #[.pointer (some ⟨Kb, 0, none⟩)] 98)).alloc (.cells #[.func (.func 71) #[] #[.pointer (some ⟨ob, 0, none⟩)]] 26)).heap[W.heap.size]? = some (.cells #[.pointer (some ⟨Kb, 0, none⟩)] 98 (0, 0)) ∧ ((W.alloc (.cells #[.pointer (some ⟨Kb, 0, none⟩)] 98)).alloc (.cells #[.func (.func 71) #[] #[.pointer (some ⟨ob, 0, none⟩)]] 26)).heap[W.heap.size + 1]? = some (.cells #[.func (.func 71) #[] #[.pointer (some ⟨ob, 0, none⟩)]] 26 (0, 0)) ∧ ((W.alloc (.cells #[.pointer (some ⟨Kb, 0, none⟩)] 98)).alloc (.cells #[.func (.func 71) #[] #[.pointer (some ⟨ob, 0, none⟩)]] 26)).heap.size = W.heap.size + 2 ∧ (∀ q, W.heap.size ≤ q → some q ≠ (Value.slice ad th.length c).ownBlock ∧ q ≠ Kb)) := ⟨gx, gy, hGG, fun q hq => ⟨fun e => by have := h.there.low e.symm; omega, by omega⟩⟩
  have g0 : ((W.alloc (.cells #[.pointer (some ⟨Kb, 0, none⟩)] 98)).alloc (.cells #[.func (.func 71) #[] #[.pointer (some ⟨ob, 0, none⟩)]] 26)).cell? ⟨W.heap.size, 0, none⟩ = some (.pointer (some ⟨Kb, 0, none⟩)) := (cells_of (l := [_]) gx).1 0 _ rfl
  have k5 : ((W.alloc (.cells #[.pointer (some ⟨Kb, 0, none⟩)] 98)).alloc (.cells #[.func (.func 71) #[] #[.pointer (some ⟨ob, 0, none⟩)]] 26)).cell? ⟨Kb, 5, none⟩ = some (.slice ad th.length c) := (cells_of (l := [_, _, _, _, _, _]) H1.out.line).1 5 _ rfl
  have HBs : Hid (B ≤ W.heap.size) := hbs
  have HW0 : Hid (∀ W', Below w0.heap.size w0 W' → OfW W' set cs sv qv sb cb ob) := fun W' hb => hof.below hb
  clear h hth hcm hr hd hof hwh hlen hcl htl hbx gx gy hGG l1 l2 l3 l4 l5 hbs hlow HN hcc hca
  go_enter Tryz.func70, Tryz.ntmps70
  go_upto_region 1 with fail
  generalize ((W.alloc (.cells #[.pointer (some ⟨Kb, 0, none⟩)] 98)).alloc (.cells #[.func (.func 71) #[] #[.pointer (some ⟨ob, 0, none⟩)]] 26)) = X at *
  generalize hGz : W.heap.size = G at *
  generalize hGy : G + 1 = G1 at *
  refine wp_region_noPanic ?_
  refine wp_region_held_drew (S := fun w' => w'.cell? ⟨G, 0, none⟩ = some (.pointer (some ⟨Kb, 0, none⟩))) (by kernel_rfl) g0 (fun hHeld => ?_)
  refine take_at (i := 0) (n := 4) (v := ?_) rfl rfl (by kernel_rfl) (by kernel_rfl) (by kernel_rfl) (fun _ _ _ h => h) (Or.inl ⟨by rfl, ?_⟩) (by assumption) ?_
  rotate_left 1
  · intro wz hSw
    have s0 := hSw
    first | (go_simp; done) | (go_simp; with_reducible rfl)
  simp only [List.set_cons_zero, List.set_cons_succ]
  refine take_at (i := 1) (n := 5) (v := ?_) rfl rfl (by kernel_rfl) (by kernel_rfl) (by kernel_rfl) (fun _ _ _ h => h) (Or.inl ⟨by rfl, ?_⟩) (by assumption) ?_
  rotate_left 1
  · intro wz hSw
    have s0 := hSw
    first | (go_simp; done) | (go_simp; with_reducible rfl)
  simp only [List.set_cons_zero, List.set_cons_succ]
  refine take_at (i := 2) (n := 6) (v := ?_) rfl rfl (by kernel_rfl) (by kernel_rfl) (by kernel_rfl) (fun _ _ _ h => h) (Or.inl ⟨by rfl, ?_⟩) (by assumption) ?_
  rotate_left 1
  · intro wz hSw
    have s0 := hSw
    first | (go_simp; done) | (go_simp; with_reducible rfl)
  simp only [List.set_cons_zero, List.set_cons_succ]
  refine take_at (i := 3) (n := 7) (v := ?_) rfl rfl (by kernel_rfl) (by kernel_rfl) (by kernel_rfl) (fun _ _ _ h => h) (Or.inl ⟨by rfl, ?_⟩) (by assumption) ?_
  rotate_left 1
  · intro wz hSw
    have s0 := hSw
    first | (go_simp; done) | (go_simp; with_reducible rfl)
  simp only [List.set_cons_zero, List.set_cons_succ]
  refine take_at (i := 5) (n := 9) (v := ?_) rfl rfl (by kernel_rfl) (by kernel_rfl) (by kernel_rfl) (fun _ _ _ h => h) (Or.inl ⟨by rfl, ?_⟩) (by assumption) ?_
  rotate_left 1
  · intro wz hSw
    have s0 := hSw
    first | (go_simp; done) | (go_simp; with_reducible rfl)
  simp only [List.set_cons_zero, List.set_cons_succ]
  refine wpAnyH_ready (rs := [4]) (by kernel_rfl) (by simp) ?_
  refine AllReadyH.cons rfl (fun K hK => ?_) AllReadyH.nil
  go_simp
  refine hK.out _ _ (by assumption) (fun hHeld => ?_)
  clear hK K
  try simp only [List.set_cons_zero, List.set_cons_succ]
  refine wpAnyH_ready (rs := [6]) (by kernel_rfl) (by simp) ?_
  refine AllReadyH.cons rfl (fun K hK => ?_) AllReadyH.nil
  go_simp
  go_wp2_with (go_at_call 113; refine HO.mono ?_; rintro r X2 ⟨tv2, rfl, ho2, hg2, hv2⟩)
  have g02 : X2.cell? ⟨G, 0, none⟩ = some (.pointer (some ⟨Kb, 0, none⟩)) := (World.cell?_of_block (hg2.block G (by have := HG.out.2.2.1; show G < X.heap.size; omega) (HG.out.2.2.2 G (Nat.le_refl _)).1)).trans g0
  have H2 : Hid (S8.LineG w0 B Kb Lf Rn Rd C (X2.setCell ⟨Kb, 5, none⟩ tv2) l rk cm k (th.filter (fun p => hiOf set cs (S8.RK rk p))) left jv tv2 (.slice ca (cm.length - k) cc) ∧ S8.MovedL X.drew (X2.setCell ⟨Kb, 5, none⟩ tv2) Kb Lf (.slice ad th.length c) tv2) := H1.out.put ho2 hg2 (.inl hv2)
  have HG2 : Hid (X2.heap[G]? = some (.cells #[.pointer (some ⟨Kb, 0, none⟩)] 98 (0, 0)) ∧ X2.heap[G1]? = some (.cells #[.func (.func 71) #[] #[.pointer (some ⟨ob, 0, none⟩)]] 26 (0, 0)) ∧ X.drew.grownBy X2 (Value.slice ad th.length c).ownBlock) := ⟨(hg2.block G (by have := HG.out.2.2.1; show G < X.heap.size; omega) (HG.out.2.2.2 G (Nat.le_refl _)).1).trans HG.out.1, (hg2.block G1 (by have := HG.out.2.2.1; show G1 < X.heap.size; omega) (HG.out.2.2.2 G1 (by omega)).1).trans HG.out.2.1, hg2⟩
  have hk2 := (hg2.block Kb (lt_heapM H1.out.line) (fun e => by have h1 := H1.out.low' Kb e.symm; have h2 := H1.out.lt.1; omega)).trans H1.out.line
  obtain ⟨kv, kf, kl⟩ := cells_of (l := [_, _, _, _, _, _]) hk2
  have k52 := kv 5 _ rfl
  have f52 := kf 5
  obtain ⟨ad2, n2, c2, rfl⟩ := S8.own_val ho2
  clear kv kf hk2 ho2 hg2 hv2 HO
  refine hK.out _ _ g02 (fun hHeld => ?_)
  clear hK K
  try simp only [List.set_cons_zero, List.set_cons_succ]
  refine take_at (i := 7) (n := 11) (v := ?_) rfl rfl (by kernel_rfl) (by kernel_rfl) (by kernel_rfl) (fun _ _ _ h => h) (Or.inl ⟨by rfl, ?_⟩) (by assumption) ?_
  rotate_left 1
  · intro wz hSw
    have s0 := hSw
    first | (go_simp; done) | (go_simp; with_reducible rfl)
  simp only [List.set_cons_zero, List.set_cons_succ]
  refine take_at (i := 8) (n := 12) (v := ?_) rfl rfl (by kernel_rfl) (by kernel_rfl) (by kernel_rfl) (fun _ _ _ h => h) (Or.inl ⟨by rfl, ?_⟩) (by assumption) ?_
  rotate_left 1
  · intro wz hSw
    have s0 := hSw
    first | (go_simp; done) | (go_simp; with_reducible rfl)
  simp only [List.set_cons_zero, List.set_cons_succ]
  refine wpAnyH_ready (rs := [9]) (by kernel_rfl) (by simp) ?_
  refine AllReadyH.cons rfl (fun K hK => ?_) AllReadyH.nil
  go_simp
  refine hK.out _ _ ((World.cell?_of_block (Below.heap_setCell _ _ _ _ (by show G ≠ Kb; exact (HG.out.2.2.2 G (Nat.le_refl _)).2))).trans g02) (fun hHeld => ?_)
  clear hK K
  try simp only [List.set_cons_zero, List.set_cons_succ]
  refine wpAnyH_done (by kernel_rfl) ?_ _
  refine NoPanic.normal ?_
  clear hHeld
  have HZ : Hid ((X2.setCell ⟨Kb, 5, none⟩ (.slice ad2 n2 c2)).heap[G]? = some (.cells #[.pointer (some ⟨Kb, 0, none⟩)] 98 (0, 0)) ∧ (X2.setCell ⟨Kb, 5, none⟩ (.slice ad2 n2 c2)).heap[G1]? = some (.cells #[.func (.func 71) #[] #[.pointer (some ⟨ob, 0, none⟩)]] 26 (0, 0)) ∧ S8.LineG w0 B Kb Lf Rn Rd C (X2.setCell ⟨Kb, 5, none⟩ (.slice ad2 n2 c2)) l rk cm k (th.filter (fun p => hiOf set cs (S8.RK rk p))) left jv (.slice ad2 n2 c2) (.slice ca (cm.length - k) cc) ∧ S8.MovedL W (X2.setCell ⟨Kb, 5, none⟩ (.slice ad2 n2 c2)) Kb Lf (.slice ad th.length c) (.slice ad2 n2 c2) ∧ OfW (X2.setCell ⟨Kb, 5, none⟩ (.slice ad2 n2 c2)) set cs sv qv sb cb ob ∧ G ≠ Kb ∧ G1 ≠ Kb ∧ G ≠ C ∧ G1 ≠ C) := by
    have hne := fun q hq => (HG.out.2.2.2 q hq).2
    have hof2 := HX.out _ X2 (fun g e => by have h1 := H1.out.low' g e; have h2 := H1.out.low.2; omega) HG2.out.2.2
    have hKs := lt_heapM H1.out.line
    have hKl := H1.out.low.1.1
    have hC := H1.out.lt.2.2.2.2
    have hK1 := H1.out.lt.1
    have hBs : B ≤ G := HBs.out
    refine ⟨(Below.heap_setCell _ _ _ _ (hne G (Nat.le_refl _))).trans HG2.out.1, (Below.heap_setCell _ _ _ _ (hne G1 (by omega))).trans HG2.out.2.1, H2.out.1, H0.out.1.trans H2.out.2, ?_, hne G (Nat.le_refl _), hne G1 (by omega), by omega, by omega⟩
    exact HW0.out _ H2.out.1.bel
  clear HX H1 H2 HG HG2 g02 k52 f52 kl g0 k5
  go_upto_region 2 with fail
  generalize X2.setCell ⟨Kb, 5, none⟩ (.slice ad2 n2 c2) = Y at *
  have y0 := (cells_of (l := [_]) HZ.out.1).1 0 _ rfl
  have y1 := (cells_of (l := [_]) HZ.out.2.1).1 0 _ rfl
  have k4 := (cells_of (l := [_, _, _, _, _, _]) HZ.out.2.2.1.line).1 4 _ rfl
  have HC := DeleteCome Y.drew C k rk cm (.slice ca (cm.length - k) cc) (hiOf set cs) ob (HZ.out.2.2.1.comes.same rfl) HZ.out.2.2.1.cval H0.out.2.2.2.2.2.2 (fun W' hg p hp => by
    refine which_any W' set cs sv qv sb cb ob (HW0.out W' ?_) H0.out.2.2.2.2.1 (S8.RK rk p) (by rw [H0.out.2.2.2.2.2.1]; exact H0.out.2.2.1.lt (H0.out.2.1 p hp))
    have hb := HZ.out.2.2.1.bel
    refine ⟨hg.os.trans hb.os, hg.tape.trans hb.tape, hg.output.trans hb.output, Nat.le_trans hb.size hg.size, fun i hi => ?_⟩
    rw [hg.block i (by have := hb.size; show i < Y.heap.size; omega) (fun e => by have := H0.out.2.2.2.1.1; have := Option.some.inj e; omega)]
    exact hb.block i hi)
  refine wp_region_noPanic ?_
  refine wp_region_held_drew (S := fun w' => w'.cell? ⟨G, 0, none⟩ = some (.pointer (some ⟨Kb, 0, none⟩)) ∧ w'.cell? ⟨G1, 0, none⟩ = some (.func (.func 71) #[] #[.pointer (some ⟨ob, 0, none⟩)])) (by kernel_rfl) ⟨y0, y1⟩ (fun hHeld => ?_)
  refine take_at (i := 0) (n := 13) (v := ?_) rfl rfl (by kernel_rfl) (by kernel_rfl) (by kernel_rfl) (fun _ _ _ h => h) (Or.inl ⟨by rfl, ?_⟩) (by assumption) ?_
  rotate_left 1
  · intro wz hSw
    obtain ⟨s0, s1⟩ := hSw
    first | (go_simp; done) | (go_simp; with_reducible rfl)
  simp only [List.set_cons_zero, List.set_cons_succ]
  refine take_at (i := 1) (n := 14) (v := ?_) rfl rfl (by kernel_rfl) (by kernel_rfl) (by kernel_rfl) (fun _ _ _ h => h) (Or.inl ⟨by rfl, ?_⟩) (by assumption) ?_
  rotate_left 1
  · intro wz hSw
    obtain ⟨s0, s1⟩ := hSw
    first | (go_simp; done) | (go_simp; with_reducible rfl)
  simp only [List.set_cons_zero, List.set_cons_succ]
  refine take_at (i := 2) (n := 15) (v := ?_) rfl rfl (by kernel_rfl) (by kernel_rfl) (by kernel_rfl) (fun _ _ _ h => h) (Or.inl ⟨by rfl, ?_⟩) (by assumption) ?_
  rotate_left 1
  · intro wz hSw
    obtain ⟨s0, s1⟩ := hSw
    first | (go_simp; done) | (go_simp; with_reducible rfl)
  simp only [List.set_cons_zero, List.set_cons_succ]
  refine take_at (i := 3) (n := 16) (v := ?_) rfl rfl (by kernel_rfl) (by kernel_rfl) (by kernel_rfl) (fun _ _ _ h => h) (Or.inl ⟨by rfl, ?_⟩) (by assumption) ?_
  rotate_left 1
  · intro wz hSw
    obtain ⟨s0, s1⟩ := hSw
    first | (go_simp; done) | (go_simp; with_reducible rfl)
  simp only [List.set_cons_zero, List.set_cons_succ]
  refine take_at (i := 5) (n := 18) (v := ?_) rfl rfl (by kernel_rfl) (by kernel_rfl) (by kernel_rfl) (fun _ _ _ h => h) (Or.inl ⟨by rfl, ?_⟩) (by assumption) ?_
  rotate_left 1
  · intro wz hSw
    obtain ⟨s0, s1⟩ := hSw
    first | (go_simp; done) | (go_simp; with_reducible rfl)
  simp only [List.set_cons_zero, List.set_cons_succ]
  refine wpAnyH_ready (rs := [4]) (by kernel_rfl) (by simp) ?_
  refine AllReadyH.cons rfl (fun K hK => ?_) AllReadyH.nil
  go_simp
  refine hK.out _ _ (by assumption) (fun hHeld => ?_)
  clear hK K
  try simp only [List.set_cons_zero, List.set_cons_succ]
  refine wpAnyH_ready (rs := [6]) (by kernel_rfl) (by simp) ?_
  refine AllReadyH.cons rfl (fun K hK => ?_) AllReadyH.nil
  go_simp
  go_wp2_with (go_at_call 113; refine HC.mono ?_; rintro r Z ⟨cv2, rfl, hrow2, hcv2, hg2⟩)
  have hbn : ∀ q, q < Y.heap.size → q ≠ C → Z.heap[q]? = Y.heap[q]? := fun q hq hc => hg2.block q hq (fun e => hc (Option.some.inj e))
  have y02 := (World.cell?_of_block (hbn G (lt_heapM HZ.out.1) HZ.out.2.2.2.2.2.2.2.1)).trans y0
  have y12 := (World.cell?_of_block (hbn G1 (lt_heapM HZ.out.2.1) HZ.out.2.2.2.2.2.2.2.2)).trans y1
  have H3 := LineG.cut (W := Y.drew) (LineG.grow HZ.out.2.2.1 (Below.refl _ _).drew) H0.out.2.2.2.1 hg2 hrow2 hcv2
  have H4 : Hid (S8.LineG w0 B Kb Lf Rn Rd C (Z.setCell ⟨Kb, 4, none⟩ cv2) l rk (cm.take k ++ (cm.drop k).filter (fun p => hiOf set cs (S8.RK rk p))) k (th.filter (fun p => hiOf set cs (S8.RK rk p))) left jv (.slice ad2 n2 c2) cv2 ∧ MovedG W (Z.setCell ⟨Kb, 4, none⟩ cv2) Kb Lf C (.slice ad th.length c) (.slice ad2 n2 c2)) := ⟨H3.1, (MovedG.of HZ.out.2.2.2.1).trans ((MovedG.below (Below.refl _ _).drew).trans H3.2)⟩
  have hk2 := (hbn Kb (lt_heapM HZ.out.2.2.1.line) (Ne.symm HZ.out.2.2.1.dK.2.2.2)).trans HZ.out.2.2.1.line
  obtain ⟨kv, kf, kl⟩ := cells_of (l := [_, _, _, _, _, _]) hk2
  have k42 := kv 4 _ rfl
  have f42 := kf 4
  obtain ⟨a4, c4, hcq, -, -⟩ := hcv2
  obtain ⟨n4, hn4⟩ : ∃ n4, (cm.take k ++ (cm.drop k).filter (fun p => hiOf set cs (S8.RK rk p))).length - k = n4 := ⟨_, rfl⟩
  rw [hn4] at hcq
  clear hn4
  subst hcq
  clear kv kf hk2 hg2 hbn HC H3 hrow2
  refine hK.out _ _ ⟨y02, y12⟩ (fun hHeld => ?_)
  clear hK K
  try simp only [List.set_cons_zero, List.set_cons_succ]
  refine take_at (i := 7) (n := 20) (v := ?_) rfl rfl (by kernel_rfl) (by kernel_rfl) (by kernel_rfl) (fun _ _ _ h => h) (Or.inl ⟨by rfl, ?_⟩) (by assumption) ?_
  rotate_left 1
  · intro wz hSw
    obtain ⟨s0, s1⟩ := hSw
    first | (go_simp; done) | (go_simp; with_reducible rfl)
  simp only [List.set_cons_zero, List.set_cons_succ]
  refine take_at (i := 8) (n := 21) (v := ?_) rfl rfl (by kernel_rfl) (by kernel_rfl) (by kernel_rfl) (fun _ _ _ h => h) (Or.inl ⟨by rfl, ?_⟩) (by assumption) ?_
  rotate_left 1
  · intro wz hSw
    obtain ⟨s0, s1⟩ := hSw
    first | (go_simp; done) | (go_simp; with_reducible rfl)
  simp only [List.set_cons_zero, List.set_cons_succ]
  refine wpAnyH_ready (rs := [9]) (by kernel_rfl) (by simp) ?_
  refine AllReadyH.cons rfl (fun K hK => ?_) AllReadyH.nil
  go_simp
  refine hK.out _ _ ⟨(World.cell?_of_block (Below.heap_setCell _ _ _ _ (by show G ≠ Kb; exact HZ.out.2.2.2.2.2.1))).trans y02, (World.cell?_of_block (Below.heap_setCell _ _ _ _ (by show G1 ≠ Kb; exact HZ.out.2.2.2.2.2.2.1))).trans y12⟩ (fun hHeld => ?_)
  clear hK K
  try simp only [List.set_cons_zero, List.set_cons_succ]
  refine wpAnyH_done (by kernel_rfl) ?_ _
  refine NoPanic.normal ?_
  clear hHeld

  go_wp2_with fail
  go_end0
  exact ⟨rfl, _, _, H4.out.1, H4.out.2⟩
end Go.Proofs.YtccoobcggbbciaiGreatDoor
