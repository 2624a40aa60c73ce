import Derived.Test.YtccoobcggbbciakDoorKN0
namespace Go.Proofs.YtccoobcggbbciakDoor
open Go.ChangeShapes Go.WideShapes Go.ChangeAt Go.RowKit

/-- An event's numbers, in the order in which a line has them. -/
def numsE (e : Ev) : List Int := if e.k = 6 then [e.at_, e.t, e.m, e.n] else [e.at_, e.t, e.n]

theorem numsE_len (e : Ev) (g : Nat) : (numsE e).length = (ptrsE g e.k).length := by
  unfold numsE ptrsE
  split <;> rfl

theorem numsE_max (e : Ev) : 3 ≤ (numsE e).length ∧ (numsE e).length ≤ 4 := by
  unfold numsE
  split <;> simp

theorem numsE_in {e : Ev} (h : standsE e) (hi : inE e) : ∀ n ∈ numsE e, -9223372036854775808 ≤ n ∧ n ≤ 9223372036854775807 := by
  obtain ⟨h1, h6, ha0, ha1, ht0, ht1, hp, hq⟩ := h
  unfold inE at hi
  unfold numsE
  split
  · rename_i hk
    have := hp hk
    simp only [List.mem_cons, List.not_mem_nil, or_false]
    rintro n (rfl | rfl | rfl | rfl) <;> omega
  · simp only [List.mem_cons, List.not_mem_nil, or_false]
    rintro n (rfl | rfl | rfl) <;> omega

theorem nums_ptr (e : Ev) (g : Nat) {i : Nat} (hi : i < (numsE e).length) : ∃ (o : Nat) (n : Int), (ptrsE g e.k)[i]? = some (.pointer (some ⟨g, o, none⟩)) ∧ (numsE e)[i]? = some n ∧ e.vals[o]? = some (.int .i64 n) ∧ o < 5 := by
  unfold numsE at hi ⊢
  unfold ptrsE
  by_cases h : e.k = 6
  · rw [if_pos h] at hi
    rw [if_pos h, if_pos h]
    have h4 : i = 0 ∨ i = 1 ∨ i = 2 ∨ i = 3 := by simp at hi; omega
    rcases h4 with rfl | rfl | rfl | rfl <;> exact ⟨_, _, rfl, rfl, rfl, by omega⟩
  · rw [if_neg h] at hi
    rw [if_neg h, if_neg h]
    have h3 : i = 0 ∨ i = 1 ∨ i = 2 := by simp at hi; omega
    rcases h3 with rfl | rfl | rfl <;> exact ⟨_, _, rfl, rfl, rfl, by omega⟩

def itoB (n : Int) : ByteArray := ⟨(Lib.itoa n).toArray⟩
def partsB (e : Ev) : List ByteArray := (numsE e).map itoB

theorem partsB_is {e : Ev} {wb : ByteArray} (h : wb.data.toList = wordE e.k) : ((partsB e).take 1 ++ wb :: (partsB e).drop 1).map (·.data.toList) = partsE e := by
  unfold partsB numsE partsE tailE itoB
  split <;> simp [h]

/-- What line holds. -/
structure LW (w wr : World) (e : Ev) (i : Nat) (pv : Value) : Prop where
  bel : Below w.heap.size w wr
  ev : wr.heap[w.heap.size]? = some (.cells #[.int .i64 e.at_, .int .i64 e.k, .int .i64 e.t, .int .i64 e.m, .int .i64 e.n] 24 (0, 0))
  ps : wr.heap[w.heap.size + 1]? = some (.cells (ptrsE w.heap.size e.k).toArray 93 (0, 0))
  row : wr.ownsRow w.heap.size 9 1 pv i (((partsB e).take i).map Value.string)

theorem LW.grow {w wr wr' : World} {e : Ev} {i : Nat} {pv : Value} (h : LW w wr e i pv) (hb : Below wr.heap.size wr wr') : LW w wr' e i pv :=
  ⟨below_seq h.bel hb, (hb.block _ (Array.getElem?_eq_some_iff.1 h.ev).1).trans h.ev, (hb.block _ (Array.getElem?_eq_some_iff.1 h.ps).1).trans h.ps, ownsRow_below h.row hb⟩

theorem LW.push {w wr : World} {e : Ev} {i : Nat} {pv : Value} {n : Int} (h : LW w wr e i pv) (hn : (numsE e)[i]? = some n) : ∃ ad c w4, (Builtin.append_ #[60, 60] 60 #[pv, .slice (some ⟨wr.heap.size, 0, none⟩) 1 1]).run Tryd.prog (wr.alloc (.cells #[.string ⟨(Lib.itoa n).toArray⟩] 9)) = .ok (.slice ad (i + 1) c) w4 ∧ LW w w4 e (i + 1) (.slice ad (i + 1) c) := by
  have hi : i < (numsE e).length := (List.getElem?_eq_some_iff.1 hn).1
  have hm := (numsE_max e).2
  obtain ⟨ad, c, w4, h1, h2, h3, h4⟩ := own_push (T := 60) (E := 9) Tryd.underlying60 infoSt rfl (by omega) h.row [.string ⟨(Lib.itoa n).toArray⟩] rfl (fun u hu => by simp at hu; subst hu; rfl) (by omega) (by omega) h.bel.size
  refine ⟨ad, c, w4, h1, ⟨h.bel.trans h3, h4 _ _ _ h.ev (.inl (by decide)), h4 _ _ _ h.ps (.inl (by decide)), ?_⟩⟩
  have e1 : (partsB e).take (i + 1) = (partsB e).take i ++ [⟨(Lib.itoa n).toArray⟩] := by
    unfold partsB
    rw [List.take_add_one, List.getElem?_map, hn]
    rfl
  rw [e1, List.map_append]
  exact h2

theorem join_own (W : World) (B : Nat) (tv : Value) (xs : List ByteArray) (h : OwnS W B tv xs) (h0 : 0 < xs.length) (hl : xs.length ≤ 1000) (hj : (glue 32 (xs.map (·.data.toList))).length ≤ 1000000) : ∃ g cap, tv = .slice (some ⟨g, 0, none⟩) xs.length cap ∧ Calls Tryd.prog 30 #[.slice (some ⟨g, 0, none⟩) xs.length cap, .string ⟨#[32]⟩] W fun r W' => r = .returned (.string ⟨(glue 32 (xs.map (·.data.toList))).toArray⟩) ∧ Below W.heap.size W W' := by
  rcases h.cases with ⟨-, h1⟩ | ⟨g, cap, cur, h1, hB, hg, hcap, hm, hs, hcur⟩
  · rw [h1] at h0
    simp at h0
  · subst h1
    refine ⟨g, cap, rfl, ?_⟩
    have hgl : g < W.heap.size := (Array.getElem?_eq_some_iff.1 hg).1
    have e1 : Lib.join (xs.map (·.data.toList)) (⟨#[32]⟩ : ByteArray).data.toList = glue 32 (xs.map (·.data.toList)) := join_glue 32 _
    have hc := sh_strings_Join g 0 cap xs ⟨#[32]⟩ W (fun j x hj => by rw [Nat.zero_add]; exact h.cell hj) hgl (by omega) hcap (by rw [e1]; omega)
    rw [e1] at hc
    exact hc

set_option maxRecDepth 20000 in
set_option maxHeartbeats 8000000 in
theorem lineK_any (w : World) (e : Ev) (hS : standsE e) (hi : inE e) (hG : Gr w) : Calls Tryd.prog 21 #[e.val] w fun r w' => r = .returned (.string ⟨(bodyE e).toArray⟩) ∧ Below w.heap.size w w' := by
  obtain ⟨wb, hwb, hwl, hkk⟩ := word_at hS
  have hxl := numsE_max e
  have HE : Hid (standsE e ∧ inE e ∧ Gr w ∧ wordsB[e.k.toNat]? = some wb ∧ wb.data.toList = wordE e.k) := ⟨hS, hi, hG, hwb, hwl⟩
  have h8 : w.cell? ⟨1, e.k.toNat, none⟩ = some (.string wb) := hG.wd _ _ hwb
  have hk7 : e.k.toNat < 7 := (List.getElem?_eq_some_iff.1 hwb).1
  clear hS hi hG hwb hwl
  have HN := numbersE_any (w.alloc (.cells #[.int .i64 e.at_, .int .i64 e.k, .int .i64 e.t, .int .i64 e.m, .int .i64 e.n] 24)) w.heap.size e.k ((cells_of (l := [_, _, _, _, _]) (heap_alloc_new w (.cells #[.int .i64 e.at_, .int .i64 e.k, .int .i64 e.t, .int .i64 e.m, .int .i64 e.n] 24))).1 1 _ rfl)
  rw [← numsE_len e w.heap.size, show (w.alloc (.cells #[.int .i64 e.at_, .int .i64 e.k, .int .i64 e.t, .int .i64 e.m, .int .i64 e.n] 24)).heap.size = w.heap.size + 1 by simp] at HN
  obtain ⟨L, hL⟩ : ∃ L, (numsE e).length = L := ⟨_, rfl⟩
  rw [hL] at HN hxl
  have HL : Hid ((numsE e).length = L) := hL
  clear hL
  unfold Ev.val
  go_enter Tryd.func21, Tryd.ntmps21
  go_wp2_with (go_at_call 43; refine HN.mono ?_; rintro r w1 ⟨rfl, hp1, hb1⟩; have H1 : Hid (LW w w1 e 0 (.slice none 0 0)) := ⟨below_seq (below_new _ _) (hb1.mono (by simp)), (hb1.block _ (by simp)).trans (heap_alloc_new _ _), hp1, ⟨rfl, .inl ⟨rfl, rfl⟩⟩⟩; clear hp1 hb1 HN)
  go_loopw [3, 8] (fun pv iv wr => ∃ i : Nat, i ≤ L ∧ iv = .int .i64 (i : Int) ∧ LW w wr e i pv) (fun _ iv _ => L - (intOf iv).toNat)
  case atStart => exact ⟨0, Nat.zero_le _, rfl, H1.out⟩
  case round =>
    obtain ⟨i, hi, rfl, hlw⟩ := hrel
    have HW : Hid (LW w wr e i u3) := hlw
    clear hlw H1
    by_cases hiL : i < L
    · obtain ⟨o, n, hp, hn, hv, ho⟩ := nums_ptr e w.heap.size (i := i) (by rw [HL.out]; exact hiL)
      have p1 := (cells_of HW.out.ps).1 i _ hp
      have n1 := (cells_of (l := e.vals) HW.out.ev).1 o _ hv
      have lp : w.heap.size + 1 < wr.heap.size := (Array.getElem?_eq_some_iff.1 HW.out.ps).1
      have hin := numsE_in HE.out.1 HE.out.2.1 n (List.mem_of_getElem? hn)
      have hiI : (i : Int) < (L : Int) := by omega
      have HI := sh_strconv_Itoa n hin.1 hin.2 wr (tab_below gPow (HE.out.2.2.1.below HW.out.bel).tb (Below.refl _ _))
      have HNn : Hid ((numsE e)[i]? = some n) := hn
      clear hp hn hv
      go_wp2_with (first
        | (go_at_call 29; refine HI.mono ?_; rintro r w6 ⟨rfl, kk, os, hw6⟩; have hb6 : Below wr.heap.size wr w6 := (by rw [hw6]; exact growB _ _ _); obtain ⟨ad, cc, w7, hrun, h7⟩ := (HW.out.grow hb6).push HNn.out; have H7 : Hid (LW w w7 e (i + 1) (.slice ad (i + 1) cc)) := h7; clear h7 hb6 hw6 HI)
        | (at_builtin; refine append_known rfl (.tmp 12) (.tmp 17) 60 rfl rfl rfl hrun ?_))
      exact ⟨⟨i + 1, by omega, by simp, H7.out⟩, by simp [intOf]; omega⟩
    · have hie : i = L := by omega
      subst hie
      have n1 := (cells_of (l := e.vals) HW.out.ev).1 1 _ rfl
      have h9 := below_cell HW.out.bel h8
      have hxs : (partsB e).take i = partsB e := List.take_of_length_le (by unfold partsB; rw [List.length_map, HL.out]; omega)
      have hpl : (partsB e).length = i := by unfold partsB; rw [List.length_map, HL.out]
      have hrow : OwnS wr w.heap.size u3 (partsB e) := by
        have := HW.out.row
        rw [hxs] at this
        unfold OwnS
        rw [hpl]
        exact this
      have hlw : w.heap.size < wr.heap.size := (Array.getElem?_eq_some_iff.1 HW.out.ev).1
      have hown : OwnS (wr.alloc (.cells #[.string wb] 9)) w.heap.size u3 (partsB e) := ownsRow_below hrow (below_new _ _)
      have hne : u3.ownBlock ≠ some wr.heap.size := fun eq => by have := (hrow.lt _ eq).2; omega
      have HI := InsertS_own (wr.alloc (.cells #[.string wb] 9)) w.heap.size u3 (partsB e) 1 wr.heap.size wb hown (by omega) (by omega) (heap_alloc_new _ _) hne (by simp; omega)
      have hbW : Below w.heap.size w (wr.alloc (.cells #[.string wb] 9)) := below_seq HW.out.bel (below_new _ _)
      have HJ : Hid (∀ W', (wr.alloc (.cells #[.string wb] 9)).grownBy W' u3.ownBlock → Below w.heap.size w W') := (fun W' hg => hbW.grown hg (by simp; omega) (fun k hk => (hrow.lt k hk).1))
      have HI2 : Calls Tryd.prog 46 #[u3, .int .i64 1, .slice (some ⟨wr.heap.size, 0, none⟩) 1 1] (wr.alloc (.cells #[.string wb] 9)) fun r W' => ∃ g cap, r = .returned (.slice (some ⟨g, 0, none⟩) (i + 1) cap) ∧ Hid (Below w.heap.size w W' ∧ Calls Tryd.prog 30 #[.slice (some ⟨g, 0, none⟩) (i + 1) cap, .string ⟨#[32]⟩] W' (fun r W2 => r = .returned (.string ⟨(bodyE e).toArray⟩) ∧ Below W'.heap.size W' W2)) := by
        refine Calls.mono HI ?_
        rintro r W' ⟨tv, rfl, ho, hg, -⟩
        have hlen : ((partsB e).take 1 ++ wb :: (partsB e).drop 1).length = i + 1 := by simp; omega
        have hpi := partsB_is (e := e) HE.out.2.2.2.2
        have hbl := body_len HE.out.1 HE.out.2.1
        unfold bodyE at hbl
        obtain ⟨g, cap, h1, h2⟩ := join_own W' w.heap.size tv _ ho (by rw [hlen]; omega) (by rw [hlen]; omega) (by rw [hpi]; omega)
        rw [hlen] at h1 h2
        rw [hpi] at h2
        subst h1
        exact ⟨g, cap, rfl, ⟨HJ.out W' hg, h2⟩⟩
      rw [← hkk] at n1
      have hkI : (e.k.toNat : Int) < 7 := by omega
      clear hxs hpl hrow hown hne hbW h8 HI HJ
      go_wp2_with (first
        | (go_at_call 46; refine HI2.mono ?_; rintro r w8 ⟨g, cap, rfl, H8⟩; clear HI2)
        | (go_at_call 30; refine H8.out.2.mono ?_; rintro r w9 ⟨rfl, hb9⟩; have H9 : Hid (Below w.heap.size w w9) := below_seq H8.out.1 hb9; clear hb9 H8))
      go_ret
      exact ⟨rfl, H9.out⟩
end Go.Proofs.YtccoobcggbbciakDoor
