import Derived.Test.YtcmoehednkaehadDoorMIns
namespace Go.Proofs.YtcmoehednkaehadDoor
open Go.ChangeShapes Go.WideShapes Go.ChangeAt Go.RowKit

/-- The open region, the outermost first, that such an instruction has opened. -/
def opens (l : List In) (os : List Nat) (op a : Int) : Option Nat := os.find? fun o => decide ((l.getD o in0).op = op) && decide ((l.getD o in0).a = a)

def beginOf : Option Nat → Int
  | some o => (o : Int) + 1
  | none => 0

theorem opens_yes {l : List In} {z : Nat} {r : List Nat} {op a : Int} (h : (l.getD z in0).op = op ∧ (l.getD z in0).a = a) : opens l (z :: r) op a = some z := by
  unfold opens
  rw [List.find?_cons_of_pos (by simpa using h)]

theorem opens_no {l : List In} {z : Nat} {r : List Nat} {op a : Int} (h : ¬ ((l.getD z in0).op = op ∧ (l.getD z in0).a = a)) : opens l (z :: r) op a = opens l r op a := by
  unfold opens
  rw [List.find?_cons_of_neg (by simpa using h)]

/-- What the looks at regions know: a block of three slices. -/
structure RgAt (w : World) (rb : Nat) (l : List In) (os : List Nat) (iv ov nv : Value) : Prop where
  blk : w.heap[rb]? = some (.cells #[iv, ov, nv] 121 (0, 0))
  img : InSl w l iv
  opn : ∃ ad c, ov = .slice ad os.length c ∧ (os = [] ∨ ∃ b o, ad = some ⟨b, o, none⟩ ∧ ∀ j, j < os.length → w.cell? ⟨b, o + j, none⟩ = some (.int .i64 ((os.getD j 0 : Nat) + 1)))
  low : ∀ o ∈ os, o < l.length

theorem cells_of {w : World} {g : Nat} {l : List Value} {T : TypeId} (h : w.heap[g]? = some (.cells l.toArray T (0, 0))) : (∀ j u, l[j]? = some u → w.cell? ⟨g, j, none⟩ = some u) ∧ (∀ j, w.frozen? ⟨g, j, none⟩ = false) ∧ g < w.heap.size := by
  refine ⟨fun j u hj => ?_, fun j => ?_, (Array.getElem?_eq_some_iff.1 h).1⟩
  · unfold World.cell?; rw [h]; simpa using hj
  · unfold World.frozen?; rw [h]; simp

set_option maxRecDepth 20000 in
set_option maxHeartbeats 4000000 in
theorem innermost_any (w : World) (rb : Nat) (l : List In) (os : List Nat) (iv ov nv : Value) (h : RgAt w rb l os iv ov nv) (ho : os.length ≤ 4194304) :
    Calls Tryd.prog 101 #[.pointer (some ⟨rb, 0, none⟩)] w fun r w' => r = .returned (.int .i64 (beginOf os.getLast?)) ∧ Below w.heap.size w w' := by
  obtain ⟨ad, c, rfl, hrow⟩ := h.opn
  obtain ⟨cs, fs, lt⟩ := cells_of (l := [_, _, _]) h.blk
  have c1 := cs 1 _ rfl
  clear cs fs
  by_cases h0 : os = []
  · subst h0
    clear hrow
    go_enter Tryd.func101, Tryd.ntmps101
    go_wp2_with fail
    go_ret
    exact ⟨rfl, Below.refl _ _⟩
  · rcases hrow with h1 | ⟨b, o, rfl, hrow⟩
    · exact absurd h1 h0
    have hpos : 0 < os.length := List.length_pos_iff.2 h0
    have hlast : os.getLast? = some (os.getD (os.length - 1) 0) := by
      rw [List.getLast?_eq_getElem?, List.getD_eq_getElem?_getD, List.getElem?_eq_getElem (by omega)]
      rfl
    have k := hrow (os.length - 1) (by omega)
    rw [hlast]
    show Calls _ _ _ _ fun r w' => r = .returned (.int .i64 ((os.getD (os.length - 1) 0 : Nat) + 1)) ∧ _
    have hne : ¬ ((os.length : Int) = 0) := by omega
    have hnb : ((os.length : Int) == 0) = false := by simpa using hne
    generalize ((os.getD (os.length - 1) 0 : Nat) : Int) + 1 = z at *
    clear hrow hlast
    generalize hn : os.length = n at *
    obtain ⟨n', rfl⟩ : ∃ n', n = n' + 1 := ⟨n - 1, by omega⟩
    simp only [Nat.add_sub_cancel] at k
    go_enter Tryd.func101, Tryd.ntmps101
    go_wp2_with fail
    go_region
    go_wp2_with fail
    go_ret
    exact ⟨rfl, (Below.refl _ _).drew⟩

set_option maxRecDepth 20000 in
set_option maxHeartbeats 4000000 in
theorem begins_any (w : World) (rb : Nat) (l : List In) (os : List Nat) (iv ov nv : Value) (op a : Int) (h : RgAt w rb l os iv ov nv) (hl : l.length ≤ 4194304) (ho : os.length ≤ 4194304) :
    Calls Tryd.prog 102 #[.pointer (some ⟨rb, 0, none⟩), .int .i64 op, .int .i64 a] w fun r w' => r = .returned (.int .i64 (beginOf (opens l os op a))) ∧ Below w.heap.size w w' := by
  have HR : Hid (RgAt w rb l os iv ov nv) := h
  obtain ⟨ad, c, rfl, hrow⟩ := h.opn
  obtain ⟨iad, ic, rfl, himg⟩ := h.img
  obtain ⟨cs, fs, lt⟩ := cells_of (l := [_, _, _]) h.blk
  have c0 := cs 0 _ rfl
  have c1 := cs 1 _ rfl
  have HI : Hid (_ ∧ _) := ⟨hrow, himg⟩
  have HC : Hid (_ ∧ _) := ⟨c0, c1⟩
  clear cs fs hrow himg h c0
  obtain ⟨res, hres⟩ : ∃ res, beginOf (opens l os op a) = res := ⟨_, rfl⟩
  rw [hres]
  have HS : Hid (beginOf (opens l os op a) = res) := hres
  clear hres
  go_enter Tryd.func102, Tryd.ntmps102
  go_wp2_with fail
  go_loopw [8, 9, 15] (fun _ _ i wr => ∃ j : Nat, j ≤ os.length ∧ i = .int .i64 j ∧ opens l (os.drop j) op a = opens l os op a ∧ Below w.heap.size w wr) (fun _ _ i _ => os.length - (intOf i).toNat)
  case atStart => exact ⟨0, Nat.zero_le _, rfl, rfl, Below.refl _ _⟩
  case round =>
    obtain ⟨j, hj, rfl, hop, hb⟩ := hrel
    by_cases hlt : j < os.length
    · rcases HI.out.1 with h | ⟨b, o, had, hrow⟩
      · rw [h] at hlt; simp at hlt
      subst had
      have hmem : os.getD j 0 ∈ os := by rw [List.getD_eq_getElem?_getD, List.getElem?_eq_getElem hlt]; exact List.getElem_mem hlt
      have hlow := HR.out.low _ hmem
      rcases HI.out.2 with h | ⟨b', o', had', himg⟩
      · rw [h] at hlow; simp at hlow
      subst had'
      have k := below_cell hb (hrow j hlt)
      have q0 := below_cell hb (himg _ hlow).1
      have q1 := below_cell hb (himg _ hlow).2.1
      have q2 := below_cell hb (himg _ hlow).2.2
      have c0 := below_cell hb HC.out.1
      have hdrop : os.drop j = os.getD j 0 :: os.drop (j + 1) := by
        rw [List.getD_eq_getElem?_getD, List.getElem?_eq_getElem hlt]
        exact List.drop_eq_getElem_cons hlt
      rw [hdrop] at hop
      generalize os.getD j 0 = z at *
      have HO : Hid (opens l (z :: os.drop (j + 1)) op a = opens l os op a ∧ Below w.heap.size w wr) := ⟨hop, hb⟩
      clear hop hb hrow himg hdrop hmem
      have HY : Hid (((l.getD z in0).op = op ∧ (l.getD z in0).a = a → res = (z : Int) + 1) ∧ (¬ ((l.getD z in0).op = op ∧ (l.getD z in0).a = a) → opens l (os.drop (j + 1)) op a = opens l os op a)) := ⟨fun h => by rw [← HS.out, ← HO.out.1, opens_yes h]; rfl, fun h => by rw [← HO.out.1, opens_no h]⟩
      generalize l.getD z in0 = y at *
      obtain ⟨yo, ya, yb⟩ := y
      dsimp only at q0 q1 q2
      by_cases e1 : yo = op
      · subst e1
        by_cases e2 : ya = a
        · subst e2
          have e := HY.out.1 ⟨rfl, rfl⟩
          subst e
          go_wp2_with fail
          go_ret
          exact ⟨rfl, HO.out.2.alloc HO.out.2.size _⟩
        · have f2 : (ya == a) = false := by simpa using e2
          go_wp2_with fail
          go_roundw
          case rel => exact ⟨j + 1, by omega, by go_num, HY.out.2 (fun h => e2 h.2), HO.out.2.alloc HO.out.2.size _⟩
          case measure => simp [intOf]; omega
      · have f1 : (yo == op) = false := by simpa using e1
        go_wp2_with fail
        go_roundw
        case rel => exact ⟨j + 1, by omega, by go_num, HY.out.2 (fun h => e1 h.1), HO.out.2.alloc HO.out.2.size _⟩
        case measure => simp [intOf]; omega
    · have hje : j = os.length := by omega
      subst hje
      have e : res = 0 := by rw [← HS.out, ← hop, List.drop_length]; rfl
      subst e
      go_wp2_with fail
      go_ret
      exact ⟨rfl, hb⟩

set_option maxRecDepth 20000 in
set_option maxHeartbeats 4000000 in
theorem ofRegion_any (w : World) (op : Int) : Calls Tryd.prog 103 #[.int .i64 op] w fun r w' => r = .returned (.int .i64 (if op = 13 then 9 else 10)) ∧ w' = w := by
  by_cases h : op = 13
  · subst h
    go_enter Tryd.func103, Tryd.ntmps103
    go_wp2_with fail
    go_ret
    exact ⟨rfl, rfl⟩
  · rw [if_neg h]
    have hb : (op == 13) = false := by simpa using h
    go_enter Tryd.func103, Tryd.ntmps103
    go_wp2_with fail
    go_ret
    exact ⟨rfl, rfl⟩

theorem F_any (e k : Int) (w : World) : Calls Tryd.prog 21 #[.int .i64 e, .int .i64 k] w fun r w' => r = .returned (.agg #[.int .i64 e, .int .i64 k]) ∧ Below w.heap.size w w' := by
  go_enter Tryd.func21, Tryd.ntmps21
  go_wp2
  exact bodyPost_ret (v := .agg #[.int .i64 e, .int .i64 k]) (by simp [results, Tryd.results21, go_sem]) rfl ⟨rfl, (Below.refl _ _).alloc (Nat.le_refl _) _⟩

/-- A slice of positions, one more than each. -/
def PosSl (w : World) (os : List Nat) (v : Value) : Prop := ∃ ad c, v = .slice ad os.length c ∧ (os = [] ∨ ∃ b o, ad = some ⟨b, o, none⟩ ∧ ∀ j, j < os.length → w.cell? ⟨b, o + j, none⟩ = some (.int .i64 ((os.getD j 0 : Nat) + 1)))

set_option maxRecDepth 20000 in
set_option maxHeartbeats 4000000 in
/-- slices.Index, of a position: is it there? -/
theorem index_any (w : World) (os : List Nat) (v : Value) (at_ : Nat) (h : PosSl w os v) (ho : os.length ≤ 4194304) :
    Calls Tryd.prog 127 #[v, .int .i64 ((at_ : Int) + 1)] w fun r w' => (∃ z : Int, r = .returned (.int .i64 z) ∧ (at_ ∈ os → 0 ≤ z) ∧ (at_ ∉ os → z < 0)) ∧ Below w.heap.size w w' := by
  obtain ⟨ad, c, rfl, hrow⟩ := h
  have HI : Hid _ := hrow
  clear hrow
  go_enter Tryd.func127, Tryd.ntmps127
  go_wp2_with fail
  go_loopw [5, 8] (fun _ i wr => ∃ j : Nat, j ≤ os.length ∧ i = .int .i64 j ∧ at_ ∉ os.take j ∧ Below w.heap.size w wr) (fun _ i _ => os.length - (intOf i).toNat)
  case atStart => exact ⟨0, Nat.zero_le _, rfl, by simp, Below.refl _ _⟩
  case round =>
    obtain ⟨j, hj, rfl, hno, hb⟩ := hrel
    by_cases hlt : j < os.length
    · rcases HI.out with h | ⟨b, o, had, hrow⟩
      · rw [h] at hlt; simp at hlt
      subst had
      have k := below_cell hb (hrow j hlt)
      have hg : os.getD j 0 = os[j] := by rw [List.getD_eq_getElem?_getD, List.getElem?_eq_getElem hlt]; rfl
      have htake : os.take (j + 1) = os.take j ++ [os.getD j 0] := by rw [hg]; exact List.take_succ_eq_append_getElem hlt
      have hmem : os.getD j 0 ∈ os := by rw [hg]; exact List.getElem_mem hlt
      have HT : Hid ((os.getD j 0 ∈ os ∧ os.take (j + 1) = os.take j ++ [os.getD j 0]) ∧ at_ ∉ os.take j ∧ Below w.heap.size w wr) := ⟨⟨hmem, htake⟩, hno, hb⟩
      clear hrow hg htake hmem hno hb
      generalize os.getD j 0 = z at *
      by_cases e : at_ = z
      · subst e
        have f : (((at_ : Int) + 1) == ((at_ : Int) + 1)) = true := by simp
        go_wp2_with fail
        go_ret
        exact ⟨⟨j, rfl, fun _ => by omega, fun h => absurd HT.out.1.1 h⟩, HT.out.2.2⟩
      · have e' : ¬ ((at_ : Int) + 1 = (z : Int) + 1) := by omega
        have e'' : ¬ ((at_ : Int) = (z : Int)) := by omega
        have f : (((at_ : Int) + 1) == ((z : Int) + 1)) = false := by simpa using e''
        go_wp2_with fail
        go_roundw
        case rel => exact ⟨j + 1, by omega, by go_num, by rw [HT.out.1.2]; simp [e, HT.out.2.1], HT.out.2.2⟩
        case measure => simp [intOf]; omega
    · have hje : j = os.length := by omega
      subst hje
      rw [List.take_length] at hno
      go_wp2_with fail
      go_ret
      exact ⟨⟨-1, rfl, fun h => absurd h hno, fun _ => by omega⟩, hb⟩

set_option maxRecDepth 20000 in
set_option maxHeartbeats 4000000 in
/-- slices.Contains, of a position. -/
theorem contains_any (w : World) (os : List Nat) (v : Value) (at_ : Nat) (h : PosSl w os v) (ho : os.length ≤ 4194304) :
    Calls Tryd.prog 104 #[v, .int .i64 ((at_ : Int) + 1)] w fun r w' => r = .returned (.bool (decide (at_ ∈ os))) ∧ Below w.heap.size w w' := by
  have HI : Hid (PosSl w os v) := h
  obtain ⟨ad, c, rfl, -⟩ := h
  obtain ⟨res, hres⟩ : ∃ res, decide (at_ ∈ os) = res := ⟨_, rfl⟩
  rw [hres]
  have HS : Hid (decide (at_ ∈ os) = res) := hres
  clear hres
  go_enter Tryd.func104, Tryd.ntmps104
  go_wp2_with (go_at_call 127; refine (index_any w os _ at_ HI.out ho).mono ?_; rintro r w1 ⟨⟨z, rfl, h1, h2⟩, hb⟩; have H1 : Hid ((at_ ∈ os → 0 ≤ z) ∧ (at_ ∉ os → z < 0) ∧ Below w.heap.size w w1) := ⟨h1, h2, hb⟩; clear h1 h2 hb)
  go_ret
  refine ⟨?_, H1.out.2.2⟩
  have e : decide (0 ≤ z) = res := by
    rw [← HS.out]
    by_cases hm : at_ ∈ os
    · have := H1.out.1 hm; simp [hm, this]
    · have := H1.out.2.1 hm; simp [hm]; omega
  exact congrArg (fun b => Ending.returned (Value.bool b)) e
end Go.Proofs.YtcmoehednkaehadDoor
