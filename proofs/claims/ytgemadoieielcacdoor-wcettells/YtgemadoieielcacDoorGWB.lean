import Derived.Test.YtgemadoieielcacDoorGMCost
import Derived.Test.YtgemadoieielcacDoorGWG
import Derived.Laws.MakeOwn
import Derived.Deep.Cut
namespace Go.Proofs.YtgemadoieielcacDoor
open Go.ChangeShapes Go.WideShapes Go.ChangeAt Go.RowKit

/-- A row of numbers, wherever. -/
def RowI (w : World) (ad : Option Addr) (n : Nat) (R : Nat → Int) : Prop := n = 0 ∨ ∃ b o, ad = some ⟨b, o, none⟩ ∧ ∀ j, j < n → w.cell? ⟨b, o + j, none⟩ = some (.int .i64 (R j))

theorem RowI.below {w w' : World} {ad : Option Addr} {n : Nat} {R : Nat → Int} (h : RowI w ad n R) (hb : Below w.heap.size w w') : RowI w' ad n R := by
  rcases h with h | ⟨b, o, h2, h3⟩
  · exact .inl h
  · exact .inr ⟨b, o, h2, fun j hj => below_cell hb (h3 j hj)⟩

/-- What told knows: where the list lies. -/
structure ToldAt (w : World) (p : Nat) (n : Nat) (R : Nat → Int) : Prop where
  box : ∃ ad c, w.cell? ⟨p, 0, none⟩ = some (.slice ad n c) ∧ n ≤ c ∧ RowI w ad n R

theorem ToldAt.below {w w' : World} {p n : Nat} {R : Nat → Int} (h : ToldAt w p n R) (hb : Below w.heap.size w w') : ToldAt w' p n R := by
  obtain ⟨ad, c, h1, h2, h3⟩ := h.box
  exact ⟨ad, c, below_cell hb h1, h2, h3.below hb⟩

set_option maxRecDepth 20000 in
set_option maxHeartbeats 4000000 in
theorem told1_same (w : World) (p n : Nat) (R : Nat → Int) (k : Nat) (hn : n ≤ 2000) (hk : k ≤ n) (h0 : R n = 0) (ht : ToldAt w p n R) : Calls Tryd.prog 112 #[.int .i64 k, .pointer (some ⟨p, 0, none⟩)] w fun r w' => r = .returned (.int .i64 (R k)) ∧ w' = w := by
  obtain ⟨ad, c, hb, hc, hr⟩ := ht.box
  clear ht
  have hlt : p < w.heap.size := World.block_lt_of_cell? _ _ hb
  by_cases e : k = n
  · subst e
    rw [h0]
    go_enter Tryd.func112, Tryd.ntmps112
    go_wp2_with fail
    go_ret
    exact ⟨rfl, rfl⟩
  · have hkn : k < n := by omega
    rcases hr with hr | ⟨b, o, rfl, hr⟩
    · omega
    have hck := hr k hkn
    generalize R k = z at *
    have hki : (k : Int) < (n : Int) := by omega
    have hne : ¬ ((k : Int) = (n : Int)) := by omega
    clear hr
    go_enter Tryd.func112, Tryd.ntmps112
    go_wp2_with fail
    go_ret
    exact ⟨rfl, rfl⟩

theorem told1_any (w : World) (p n : Nat) (R : Nat → Int) (k : Nat) (hn : n ≤ 2000) (hk : k ≤ n) (h0 : R n = 0) (ht : ToldAt w p n R) : Calls Tryd.prog 112 #[.int .i64 k, .pointer (some ⟨p, 0, none⟩)] w fun r w' => r = .returned (.int .i64 (R k)) ∧ Below w.heap.size w w' :=
  (told1_same w p n R k hn hk h0 ht).mono fun _ _ ⟨h1, h2⟩ => ⟨h1, by rw [h2]; exact Below.refl _ _⟩

set_option maxRecDepth 20000 in
theorem told_any (w : World) (ad : Option Addr) (n c : Nat) (R : Nat → Int) (hc : n ≤ c) (hr : RowI w ad n R) : Calls Tryd.prog 78 #[.slice ad n c] w fun r w' => ∃ p, w.heap.size ≤ p ∧ r = .returned (.func (Fn.func 112) #[] #[.pointer (some ⟨p, 0, none⟩)]) ∧ ToldAt w' p n R ∧ Below w.heap.size w w' := by
  have HR : Hid (RowI w ad n R) := hr
  clear hr
  go_enter Tryd.func78, Tryd.ntmps78
  go_wp2_with fail
  go_ret
  exact ⟨_, Nat.le_refl _, rfl, ⟨_, _, by go_simp, hc, HR.out.below (below_new _ _)⟩, below_new _ _⟩

/-- Is it no number that may be left? -/
def offB (z : Int) : Bool := decide (z < 0 ∨ 1099511627776 < z)

set_option maxRecDepth 20000 in
theorem off_any (w : World) (z : Int) : Calls Tryd.prog 110 #[.int .i64 z] w fun r w' => r = .returned (.bool (offB z)) ∧ Below w.heap.size w w' := by
  unfold offB
  by_cases h1 : z < 0
  · rw [decide_eq_true (.inl h1)]
    go_enter Tryd.func110, Tryd.ntmps110
    go_wp2_with fail
    go_ret
    exact ⟨rfl, Below.refl _ _⟩
  by_cases h2 : 1099511627776 < z
  · rw [decide_eq_true (.inr h2)]
    go_enter Tryd.func110, Tryd.ntmps110
    go_wp2_with fail
    go_ret
    exact ⟨rfl, Below.refl _ _⟩
  · rw [decide_eq_false (by omega)]
    go_enter Tryd.func110, Tryd.ntmps110
    go_wp2_with fail
    go_ret
    exact ⟨rfl, Below.refl _ _⟩

/-- Which is the first, from a number on. -/
def idxI (R : Nat → Int) (n : Nat) : Nat → Nat → Int
  | 0, _ => -1
  | d + 1, k => if offB (R k) = true then (k : Int) else idxI R n d (k + 1)

theorem idxI_neg (R : Nat → Int) (n : Nat) : ∀ (d k : Nat), (∀ j, k ≤ j → j < k + d → 0 ≤ R j ∧ R j ≤ 1099511627776) → idxI R n d k = -1
  | 0, _, _ => rfl
  | d + 1, k, h => by
    have := h k (by omega) (by omega)
    rw [idxI, if_neg (by unfold offB; simp; omega)]
    exact idxI_neg R n d (k + 1) fun j h1 h2 => h j (by omega) (by omega)

theorem idxI_pos (R : Nat → Int) (n : Nat) : ∀ (d k : Nat), ¬ (∀ j, k ≤ j → j < k + d → 0 ≤ R j ∧ R j ≤ 1099511627776) → 0 ≤ idxI R n d k
  | 0, k, h => absurd (fun j h1 h2 => by omega) h
  | d + 1, k, h => by
    rw [idxI]
    split
    · omega
    · rename_i e
      refine idxI_pos R n d (k + 1) fun hh => h fun j h1 h2 => ?_
      by_cases ej : j = k
      · subst ej
        unfold offB at e
        simp at e
        omega
      · exact hh j (by omega) (by omega)

set_option maxRecDepth 20000 in
set_option maxHeartbeats 2000000 in
theorem index_off (w : World) (ad : Option Addr) (n c : Nat) (R : Nat → Int) (hn : n ≤ 2000) (hc : n ≤ c) (hr : RowI w ad n R) :
    Calls Tryd.prog 135 #[.slice ad n c, .func (Fn.func 110) #[] #[]] w fun r w' => r = .returned (.int .i64 (idxI R n n 0)) ∧ Below w.heap.size w w' := by
  have HR : Hid (RowI w ad n R) := hr
  clear hr
  go_enter Tryd.func135, Tryd.ntmps135
  go_wp2_with fail
  go_loopw [8] (fun i wr => ∃ j : Nat, j ≤ n ∧ i = .int .i64 j ∧ Below w.heap.size w wr ∧ idxI R n (n - j) j = idxI R n n 0) (fun i _ => n - (intOf i).toNat)
  case atStart => exact ⟨0, Nat.zero_le _, rfl, Below.refl _ _, rfl⟩
  case round =>
    obtain ⟨j, hj, rfl, hg, hac⟩ := hrel
    have HG : Hid (Below w.heap.size w wr) := hg
    by_cases hjl : j < n
    · rcases HR.out.below hg with h | ⟨b, o, rfl, hr1⟩
      · omega
      have y0 := hr1 j hjl
      have hji : (j : Int) < (n : Int) := by omega
      have HC := off_any wr (R j)
      obtain ⟨d, hd⟩ : ∃ d, n - j = d + 1 := ⟨n - j - 1, by omega⟩
      rw [hd, idxI] at hac
      rcases hp : offB (R j) with _ | _
      · rw [hp] at hac HC
        have hac' : idxI R n (n - (j + 1)) (j + 1) = idxI R n n 0 := by rw [show n - (j + 1) = d by omega]; simpa using hac
        have HE : Hid (idxI R n (n - (j + 1)) (j + 1) = idxI R n n 0) := hac'
        generalize R j = z at *
        clear hac' hac hd hr1 hg hp
        go_wp2_with (go_at_call 110; refine HC.mono ?_; rintro r w5 ⟨rfl, hb5⟩; have H5 : Hid (Below w.heap.size w w5) := below_seq HG.out hb5; clear hb5 HC)
        exact ⟨⟨j + 1, by omega, by simp, H5.out, HE.out⟩, by simp [intOf]; omega⟩
      · rw [hp] at hac HC
        have hac' : (j : Int) = idxI R n n 0 := by simpa using hac
        have HE : Hid ((j : Int) = idxI R n n 0) := hac'
        generalize R j = z at *
        clear hac' hac hd hr1 hg hp
        go_wp2_with (go_at_call 110; refine HC.mono ?_; rintro r w5 ⟨rfl, hb5⟩; have H5 : Hid (Below w.heap.size w w5) := below_seq HG.out hb5; clear hb5 HC)
        go_ret
        rw [← HE.out]
        exact ⟨rfl, H5.out⟩
    · have hje : j = n := by omega
      subst hje
      have HE : Hid ((-1 : Int) = idxI R j j 0) := by rw [Nat.sub_self] at hac; exact hac
      clear hac hg
      go_wp2_with fail
      go_ret
      rw [← HE.out]
      exact ⟨rfl, HG.out⟩

set_option maxRecDepth 20000 in
theorem contains_off (w : World) (ad : Option Addr) (n c : Nat) (R : Nat → Int) (hn : n ≤ 2000) (hc : n ≤ c) (hr : RowI w ad n R) :
    Calls Tryd.prog 109 #[.slice ad n c, .func (Fn.func 110) #[] #[]] w fun r w' => r = .returned (.bool (decide (0 ≤ idxI R n n 0))) ∧ Below w.heap.size w w' := by
  have HC := index_off w ad n c R hn hc hr
  clear hr
  generalize idxI R n n 0 = z at *
  go_enter Tryd.func109, Tryd.ntmps109
  go_wp2_with (go_at_call 135; refine HC.mono ?_; rintro r w1 ⟨rfl, hb1⟩; have H1 : Hid (Below w.heap.size w w1) := hb1; clear hb1 HC)
  go_ret
  exact ⟨rfl, H1.out⟩

end Go.Proofs.YtgemadoieielcacDoor
namespace Go.Proofs.YtgemadoieielcacDoor
open Go.ChangeShapes Go.WideShapes Go.ChangeAt Go.RowKit

theorem wr_in {z : Int} (h : -9223372036854775808 ≤ z ∧ z ≤ 9223372036854775807) : wrap64 z = z := by
  unfold wrap64
  omega

theorem heap_new (w : World) (o : Obj) : (w.alloc o).heap[w.heap.size]? = some o := by
  unfold World.alloc
  simp

def natVs (os : List Nat) : List Value := os.map fun (o : Nat) => Value.int .i64 (o : Int)

theorem natVs_at (os : List Nat) (j : Nat) (h : j < os.length) : (natVs os)[j]? = some (.int .i64 (os.getD j 0 : Nat)) := by
  simp [natVs, List.getD, h]

theorem natVs_append (a b : List Nat) : natVs (a ++ b) = natVs a ++ natVs b := by simp [natVs]

/-- A row that is one shorter. -/
theorem own_shrink {w : World} {B : Nat} {ad : Option Addr} {c : Nat} {os : List Nat} {n : Nat} (h : w.ownsRow B 3 1 (.slice ad (n + 1) c) os.length (natVs os)) (hn : os.length = n + 1) : w.ownsRow B 3 1 (.slice ad n c) os.dropLast.length (natVs os.dropLast) := by
  have hd : os.dropLast.length = n := by simp [hn]
  obtain ⟨hl, ⟨e, he⟩ | ⟨g, cap, cur, e, hb, hg, hc, hm, hs, ht⟩⟩ := h
  · omega
  · simp only [Value.slice.injEq] at e
    obtain ⟨rfl, -, rfl⟩ := e
    refine ⟨by simp [natVs], .inr ⟨g, c, cur, by rw [hd], hb, hg, by omega, hm, hs, ?_⟩⟩
    have e2 : natVs os.dropLast = (natVs os).take (os.dropLast.length * 1) := by
      rw [hd, Nat.mul_one]
      unfold natVs
      rw [← List.map_take, List.dropLast_eq_take, hn]
      rfl
    rw [e2, ← ht, List.take_take]
    congr 1
    omega

/-- Its last one. -/
theorem own_last {w : World} {B : Nat} {ad : Option Addr} {c : Nat} {os : List Nat} {n : Nat} (h : w.ownsRow B 3 1 (.slice ad (n + 1) c) os.length (natVs os)) (hn : os.length = n + 1) : ∃ g, ad = some ⟨g, 0, none⟩ ∧ n + 1 ≤ c ∧ w.cell? ⟨g, n, none⟩ = some (.int .i64 (os.getLast?.getD 0 : Nat)) := by
  obtain ⟨hl, ⟨e, he⟩ | ⟨g, cap, cur, e, hb, hg, hc, hm, hs, ht⟩⟩ := h
  · omega
  · simp only [Value.slice.injEq] at e
    obtain ⟨rfl, -, rfl⟩ := e
    refine ⟨g, rfl, by omega, ?_⟩
    have h1 := natVs_at os n (by omega)
    rw [← ht, List.getElem?_take, if_pos (by omega)] at h1
    have e1 : os.getLast?.getD 0 = os.getD n 0 := by rw [List.getLast?_eq_getElem?, hn]; simp [List.getD]
    rw [e1]
    unfold World.cell?
    rw [hg]
    simpa using h1

/-- What closers holds. -/
structure CL (w0 w : World) (cb : Nat) (l : List In) (k : Nat) (ov : Value) : Prop where
  bel : Below w0.heap.size w0 w
  row : w.heap[cb]? = some (.cells (natVs (clAt l k)).toArray 3 (0, 0))
  own : w.ownsRow (cb + 1) 3 1 ov (osAt l k).length (natVs (osAt l k))
  lo : w0.heap.size ≤ cb

section
variable {w0 w w' : World} {cb : Nat} {l : List In} {k : Nat} {ov : Value}

theorem CL.lt (h : CL w0 w cb l k ov) : cb < w.heap.size := (Array.getElem?_eq_some_iff.1 h.row).1

theorem CL.grow (h : CL w0 w cb l k ov) (hb : Below w.heap.size w w') : CL w0 w' cb l k ov :=
  ⟨below_seq h.bel hb, (hb.block cb h.lt).trans h.row, ownsRow_same h.own (fun j _ hj => hb.block j hj), h.lo⟩

theorem clAt_keep {l : List In} {k : Nat} (h1 : (l.getD k in0).op ≠ 14) (h2 : (l.getD k in0).op ≠ 17) : clAt l (k + 1) = clAt l k := by
  show clStep _ _ _ _ = _
  unfold clStep
  rw [if_neg (by omega)]

theorem CL.same (h : CL w0 w cb l k ov) (hc : clAt l (k + 1) = clAt l k) (ho : osAt l (k + 1) = osAt l k) : CL w0 w cb l (k + 1) ov :=
  ⟨h.bel, by rw [hc]; exact h.row, by rw [ho]; exact h.own, h.lo⟩

theorem CL.push (h : CL w0 w cb l k ov) (hc : clAt l (k + 1) = clAt l k) (ho : osAt l (k + 1) = osAt l k ++ [k]) {ov' : Value} (hg : w.grownBy w' ov.ownBlock) (hw : w'.ownsRow (cb + 1) 3 1 ov' ((osAt l k).length + 1) (natVs (osAt l k) ++ [.int .i64 (k : Int)])) : CL w0 w' cb l (k + 1) ov' := by
  have nb : ov.ownBlock ≠ some cb := fun e => by have := (h.own.lt cb e).1; omega
  have hs := h.bel.size
  refine ⟨h.bel.grown hg hs (fun j hj => by have := (h.own.lt j hj).1; have := h.lo; omega), ?_, ?_, h.lo⟩
  · rw [hc]; exact (hg.block cb h.lt (fun e => nb e.symm)).trans h.row
  · rw [ho, List.length_append, natVs_append]; exact hw

theorem CL.shut {ad : Option Addr} {n c : Nat} (h : CL w0 w cb l k (.slice ad (n + 1) c)) (e : (l.getD k in0).op = 14 ∨ (l.getD k in0).op = 17) (hn : (osAt l k).length = n + 1) : CL w0 (w.setCell ⟨cb, (osAt l k).getLast?.getD 0, none⟩ (.int .i64 (k : Int))) cb l (k + 1) (.slice ad n c) := by
  have e1 : clAt l (k + 1) = (clAt l k).set ((osAt l k).getLast?.getD 0) k := by
    show clStep _ _ _ _ = _
    unfold clStep
    rw [if_pos e]
  have e2 : osAt l (k + 1) = (osAt l k).dropLast := by
    show osStep _ _ _ = _
    unfold osStep
    rw [if_neg (by omega), if_pos e]
  refine ⟨h.bel.setCell (by show w0.heap.size ≤ cb; exact h.lo) _, ?_, ?_, h.lo⟩
  · rw [setCell_at h.row, e1]
    simp [natVs, List.map_set]
  · rw [e2]
    exact ownsRow_same (own_shrink h.own hn) (fun j hj _ => Below.heap_setCell _ _ _ _ (by show j ≠ cb; omega))
end

theorem osAt_len (l : List In) : ∀ k, (osAt l k).length ≤ k
  | 0 => by simp [osAt]
  | k + 1 => by
    have ih := osAt_len l k
    show (osStep _ _ _).length ≤ _
    unfold osStep
    split
    · simp; omega
    split
    · simp; omega
    · omega

set_option maxRecDepth 20000 in
set_option maxHeartbeats 8000000 in
theorem closers_any (w : World) (l : List In) (iad : Option Addr) (ic : Nat) (hg : GL l) (h : InSl w l (.slice iad l.length ic)) : Calls Tryd.prog 113 #[.slice iad l.length ic] w fun r w' => ∃ cb, w.heap.size ≤ cb ∧ r = .returned (.slice (some ⟨cb, 0, none⟩) l.length l.length) ∧ w'.heap[cb]? = some (.cells (natVs (clAt l l.length)).toArray 3 (0, 0)) ∧ Below w.heap.size w w' := by
  have hl := hg.len
  have HI : Hid (InSl w l (.slice iad l.length ic)) := h
  have HG : Hid (GL l) := hg
  clear h
  have hmk := make_zeros l.length (by omega)
  obtain ⟨i0, hi0, hz0, hz1, hz2⟩ := info_parts info3
  have H0 : Hid (CL w (w.alloc (.cells (intVs (List.replicate l.length 0)).toArray 3)) w.heap.size l 0 (.slice none 0 0)) := ⟨below_new _ _, by rw [heap_new]; simp [intVs, natVs, clAt], World.ownsRow_nil _ _ _ _, Nat.le_refl _⟩
  go_enter Tryd.func113, Tryd.ntmps113
  go_wp2_with fail
  clear hmk
  generalize (w.alloc (.cells (intVs (List.replicate l.length 0)).toArray 3)) = w1 at *
  go_loopw [13, 4] (fun i ov wr => ∃ k : Nat, k ≤ l.length ∧ i = .int .i64 k ∧ CL w wr w.heap.size l k ov) (fun i _ _ => l.length - (intOf i).toNat)
  case atStart => exact ⟨0, Nat.zero_le _, rfl, H0.out⟩
  case round =>
    obtain ⟨k, hk, rfl, hcl⟩ := hrel
    obtain ⟨oad, oc, rfl⟩ := owns_value hcl.own
    have HK : Hid (CL w wr w.heap.size l k (.slice oad (osAt l k).length oc)) := hcl
    have hol := osAt_len l k
    have hwl := hcl.lt
    by_cases hkl : k < l.length
    · obtain ⟨ad', c', e', hrow⟩ := HI.out.below hcl.bel
      cases e'
      rcases hrow with hrow | ⟨b0, o0, rfl, hrow⟩
      · rw [hrow] at hkl; simp at hkl
      obtain ⟨c0, c1, c2⟩ := hrow k hkl
      have hki : (k : Int) < (l.length : Int) := by omega
      have HX : Hid (l.getD k in0 = l.getD k in0) := rfl
      clear hrow hcl
      have hopen := fun e => hg.open_ne hkl e
      have hpush := hg.nst.push k hkl
      have hsame := hg.nst.same k hkl
      have hkeep := clAt_keep (l := l) (k := k)
      rcases hx : l.getD k in0 with ⟨op, a, b⟩
      rw [hx] at c0 c1 c2 hopen hpush hsame hkeep
      have HXE : Hid ((l.getD k in0).op = op) := congrArg In.op hx
      clear hx HX
      dsimp only at c0 c1 c2 hopen hpush hsame hkeep
      by_cases h13 : op = 13
      · subst h13
        have HO : Hid (clAt l (k + 1) = clAt l k) := hkeep (by decide) (by decide)
        have hos : Hid (osAt l (k + 1) = osAt l k ++ [k]) := hpush (.inl rfl)
        clear hopen hpush hsame hkeep
        have HC : Hid (CL w (wr.alloc (.cells #[.int .i64 13, .int .i64 a, .int .i64 b] 35)) w.heap.size l k (.slice oad (osAt l k).length oc)) := HK.out.grow (below_new _ _)
        go_wp2_with (at_builtin; obtain ⟨v4, w4, hrun, ho4, hg4, -⟩ := append_two (P := Tryd.prog) ((wr.alloc (.cells #[.int .i64 13, .int .i64 a, .int .i64 b] 35)).alloc (.cells #[.int .i64 (k : Int)] 3)) (w.heap.size + 1) (wr.alloc (.cells #[.int .i64 13, .int .i64 a, .int .i64 b] 35)).heap.size 23 23 3 i0 _ 1 8 Tryd.underlying23 hi0 hz0 hz1 hz2 rfl (by decide) _ (osAt l k).length (natVs (osAt l k)) (HC.out.grow (below_new _ _)).own _ 1 [.int .i64 (k : Int)] (World.ownsRow_lit (wr.alloc (.cells #[.int .i64 13, .int .i64 a, .int .i64 b] 35)) #[.int .i64 (k : Int)] 1 (Nat.le_refl _) (by decide) rfl) (by intro u hu; simp at hu; subst hu; rfl) (by unfold maxLen; omega) (by omega) (by have := HC.out.lt; simp at this ⊢; omega); simp only [World.size_alloc] at hrun; obtain ⟨vad, vcap, rfl⟩ := owns_value ho4; have HP : Hid (CL w w4 w.heap.size l (k + 1) (.slice vad ((osAt l k).length + 1) vcap)) := (HC.out.grow (below_new _ _)).push HO.out hos.out hg4 ho4; refine append_known rfl (.tmp 23) (.tmp 25) 23 rfl rfl rfl hrun ?_; clear hrun ho4 hg4)
        exact ⟨⟨k + 1, by omega, by simp, HP.out⟩, by simp [intOf]; omega⟩
      by_cases h16 : op = 16
      · subst h16
        have HO : Hid (clAt l (k + 1) = clAt l k) := hkeep (by decide) (by decide)
        have hos : Hid (osAt l (k + 1) = osAt l k ++ [k]) := hpush (.inr rfl)
        clear hopen hpush hsame hkeep
        have HC : Hid (CL w (wr.alloc (.cells #[.int .i64 16, .int .i64 a, .int .i64 b] 35)) w.heap.size l k (.slice oad (osAt l k).length oc)) := HK.out.grow (below_new _ _)
        go_wp2_with (at_builtin; obtain ⟨v4, w4, hrun, ho4, hg4, -⟩ := append_two (P := Tryd.prog) ((wr.alloc (.cells #[.int .i64 16, .int .i64 a, .int .i64 b] 35)).alloc (.cells #[.int .i64 (k : Int)] 3)) (w.heap.size + 1) (wr.alloc (.cells #[.int .i64 16, .int .i64 a, .int .i64 b] 35)).heap.size 23 23 3 i0 _ 1 8 Tryd.underlying23 hi0 hz0 hz1 hz2 rfl (by decide) _ (osAt l k).length (natVs (osAt l k)) (HC.out.grow (below_new _ _)).own _ 1 [.int .i64 (k : Int)] (World.ownsRow_lit (wr.alloc (.cells #[.int .i64 16, .int .i64 a, .int .i64 b] 35)) #[.int .i64 (k : Int)] 1 (Nat.le_refl _) (by decide) rfl) (by intro u hu; simp at hu; subst hu; rfl) (by unfold maxLen; omega) (by omega) (by have := HC.out.lt; simp at this ⊢; omega); simp only [World.size_alloc] at hrun; obtain ⟨vad, vcap, rfl⟩ := owns_value ho4; have HP : Hid (CL w w4 w.heap.size l (k + 1) (.slice vad ((osAt l k).length + 1) vcap)) := (HC.out.grow (below_new _ _)).push HO.out hos.out hg4 ho4; refine append_known rfl (.tmp 23) (.tmp 25) 23 rfl rfl rfl hrun ?_; clear hrun ho4 hg4)
        exact ⟨⟨k + 1, by omega, by simp, HP.out⟩, by simp [intOf]; omega⟩
      by_cases h14 : op = 14
      · subst h14
        have hne := hopen (.inl rfl)
        have hE : Hid ((l.getD k in0).op = 14 ∨ (l.getD k in0).op = 17) := .inl HXE.out
        clear hopen hpush hsame hkeep
        obtain ⟨n, hn⟩ : ∃ n, (osAt l k).length = n + 1 := ⟨(osAt l k).length - 1, by have := List.length_pos_iff.2 hne; omega⟩
        have hlast : (osAt l k).getLast?.getD 0 < k := by
          rcases hq : (osAt l k).getLast? with _ | q
          · exact absurd (List.getLast?_eq_none_iff.1 hq) hne
          · exact (osAt_asc l k).2 q (List.mem_of_getLast? hq)
        rw [hn] at HK
        rw [hn]
        have HC : Hid (CL w (wr.alloc (.cells #[.int .i64 14, .int .i64 a, .int .i64 b] 35)) w.heap.size l k (.slice oad (n + 1) oc)) := HK.out.grow (below_new _ _)
        obtain ⟨g, rfl, hcap, hlc⟩ := own_last HC.out.own hn
        have HS : Hid (CL w ((wr.alloc (.cells #[.int .i64 14, .int .i64 a, .int .i64 b] 35)).setCell ⟨w.heap.size, (osAt l k).getLast?.getD 0, none⟩ (.int .i64 (k : Int))) w.heap.size l (k + 1) (.slice (some ⟨g, 0, none⟩) n oc)) := HC.out.shut hE.out hn
        obtain ⟨ds, es, lt2⟩ := cells_of (l := natVs (clAt l k)) HC.out.row
        have kc := ds ((osAt l k).getLast?.getD 0) _ (natVs_at _ _ (by rw [clAt_len]; omega))
        have kf := es ((osAt l k).getLast?.getD 0)
        have hnb : n ≤ 2000 := by omega
        have hnw : wrap64 (n : Int) = n := wr_in (by omega)
        clear ds es
        generalize (osAt l k).getLast?.getD 0 = q at *
        have hql : (q : Int) < (l.length : Int) := by omega
        generalize ((clAt l k).getD q 0 : Int) = zz at *
        go_upto_region 12 with fail
        generalize (wr.alloc (.cells #[.int .i64 14, .int .i64 a, .int .i64 b] 35)) = W2 at *
        clear c0 c1 c2 HK HI H0
        go_upto_region 13 with fail
        clear hn hne hol
        go_upto_region 14 with fail
        clear kc kf hlc
        generalize (W2.setCell ⟨w.heap.size, q, none⟩ (.int .i64 (k : Int))) = W3 at *
        have hno : (n : Int) ≤ (oc : Int) := by omega
        go_wp2_with fail
        exact ⟨⟨k + 1, by omega, by simp, HS.out⟩, by simp [intOf]; omega⟩
      by_cases h17 : op = 17
      · subst h17
        have hne := hopen (.inr rfl)
        have hE : Hid ((l.getD k in0).op = 14 ∨ (l.getD k in0).op = 17) := .inr HXE.out
        clear hopen hpush hsame hkeep
        obtain ⟨n, hn⟩ : ∃ n, (osAt l k).length = n + 1 := ⟨(osAt l k).length - 1, by have := List.length_pos_iff.2 hne; omega⟩
        have hlast : (osAt l k).getLast?.getD 0 < k := by
          rcases hq : (osAt l k).getLast? with _ | q
          · exact absurd (List.getLast?_eq_none_iff.1 hq) hne
          · exact (osAt_asc l k).2 q (List.mem_of_getLast? hq)
        rw [hn] at HK
        rw [hn]
        have HC : Hid (CL w (wr.alloc (.cells #[.int .i64 17, .int .i64 a, .int .i64 b] 35)) w.heap.size l k (.slice oad (n + 1) oc)) := HK.out.grow (below_new _ _)
        obtain ⟨g, rfl, hcap, hlc⟩ := own_last HC.out.own hn
        have HS : Hid (CL w ((wr.alloc (.cells #[.int .i64 17, .int .i64 a, .int .i64 b] 35)).setCell ⟨w.heap.size, (osAt l k).getLast?.getD 0, none⟩ (.int .i64 (k : Int))) w.heap.size l (k + 1) (.slice (some ⟨g, 0, none⟩) n oc)) := HC.out.shut hE.out hn
        obtain ⟨ds, es, lt2⟩ := cells_of (l := natVs (clAt l k)) HC.out.row
        have kc := ds ((osAt l k).getLast?.getD 0) _ (natVs_at _ _ (by rw [clAt_len]; omega))
        have kf := es ((osAt l k).getLast?.getD 0)
        have hnb : n ≤ 2000 := by omega
        have hnw : wrap64 (n : Int) = n := wr_in (by omega)
        clear ds es
        generalize (osAt l k).getLast?.getD 0 = q at *
        have hql : (q : Int) < (l.length : Int) := by omega
        generalize ((clAt l k).getD q 0 : Int) = zz at *
        go_upto_region 12 with fail
        generalize (wr.alloc (.cells #[.int .i64 17, .int .i64 a, .int .i64 b] 35)) = W2 at *
        clear c0 c1 c2 HK HI H0
        go_upto_region 13 with fail
        clear hn hne hol
        go_upto_region 14 with fail
        clear kc kf hlc
        generalize (W2.setCell ⟨w.heap.size, q, none⟩ (.int .i64 (k : Int))) = W3 at *
        have hno : (n : Int) ≤ (oc : Int) := by omega
        go_wp2_with fail
        exact ⟨⟨k + 1, by omega, by simp, HS.out⟩, by simp [intOf]; omega⟩
      · have HO : Hid (CL w wr w.heap.size l (k + 1) (.slice oad (osAt l k).length oc)) := HK.out.same (hkeep h14 h17) (hsame h13 h14 h16 h17)
        clear hopen hpush hsame hkeep
        go_wp2_with fail
        exact ⟨⟨k + 1, by omega, by simp, HO.out.grow (below_new _ _)⟩, by simp [intOf]; omega⟩
    · have hke : k = l.length := by omega
      subst hke
      clear hcl
      go_wp2_with fail
      go_ret
      exact ⟨_, Nat.le_refl _, rfl, HK.out.row, HK.out.bel⟩

end Go.Proofs.YtgemadoieielcacDoor
