import Derived.Test.YtekbkcgpjkecbalDoorSRH
namespace Go.Proofs.YtekbkcgpjkecbalDoor.S8
open Go.ChangeShapes Go.WideShapes Go.ChangeAt Go.RowKit Go.Sort

theorem store_so (w : World) (jb : Nat) : (store ⟨w.heap.size, 0, none⟩ (.func (Fn.func 68) #[] #[.pointer (some ⟨jb, 0, none⟩)])).run Tryd.prog (w.alloc (.cells #[.nilFunc] 58)) = .ok () (w.alloc (.cells #[.func (Fn.func 68) #[] #[.pointer (some ⟨jb, 0, none⟩)]] 58)) := by
  rw [run_store Tryd.prog _ _ (.func (Fn.func 68) #[] #[.pointer (some ⟨jb, 0, none⟩)]) .plain rfl]
  simp [go_sem]

/-- Those that come are sorted. -/
theorem NewL.soon {w W : World} {l : List Jb} {jv : Value} {K Lf Rn Rd C : Nat} {lf rn rd : List Value} {ov : Value} (h : NewL w W l.length jv ov K Lf Rn Rd C lf rn rd ((zI (List.range l.length)).map (Value.int .i64))) (hv : RowSl Jb.vals w l jv) (hl : l.length ≤ 4000) :
    Calls Tryd.prog 71 #[.slice (some ⟨C, 0, none⟩) l.length l.length, (.func (.func 68) #[] #[.pointer (some ⟨w.heap.size, 0, none⟩)])] W fun r W' => r = .returned (.tuple #[]) ∧ ∃ d : List (Fin l.length), Srt (cfS l) d ∧ NewL w W' l.length jv ov K Lf Rn Rd C lf rn rd ((zI (d.map (fun p => p.val))).map (Value.int .i64)) ∧ W.grownBy W' (some C) := by
  obtain ⟨l1, l2, l3, l4, l5⟩ := h.low
  have hs := h.bel.size
  refine (sortN_any W l.length C 68 #[.pointer (some ⟨w.heap.size, 0, none⟩)] (cfS l) hl (cfS_swo l _) (enters_of Tryd.func68 (by kernel_rfl) rfl) h.comes (fun W' hg x y => ?_)).mono ?_
  · have hj := (hg.block _ (lt_of_heapP h.jbox) (fun e => by have := Option.some.inj e; omega)).trans h.jbox
    exact sooner_any W' l jv w.heap.size x.val y.val ((cells_of (l := [_]) hj).1 0 _ rfl) (hv.below (h.bel.trans (grownBy_below hg hs (fun q e => by cases e; omega)))) x.isLt y.isLt
  · rintro r W' ⟨rfl, d, hd, hC, hg⟩
    exact ⟨rfl, d, hd, h.comes' hg hC, hg⟩

/-- They are ranked. -/
theorem NewL.ranking {w W : World} {l : List Jb} {jv : Value} {K Lf Rn Rd C : Nat} {lf rn cc : List Value} {pol : Int} {sb : Nat} (hp : pol = 1 ∨ pol = 2) (h : NewL w W l.length jv (.func (.func (if pol = 2 then 73 else 74)) #[] #[]) K Lf Rn Rd C lf rn ((zI (List.range l.length)).map (Value.int .i64)) cc) (hv : RowSl Jb.vals w l jv) (hl : l.length ≤ 4000) (hb : W.heap[sb]? = some (.cells #[(.func (.func 68) #[] #[.pointer (some ⟨w.heap.size, 0, none⟩)])] 58 (0, 0))) (hne : sb ≠ Rd) :
    Calls Tryd.prog 71 #[.slice (some ⟨Rd, 0, none⟩) l.length l.length, .func (.func 72) #[] #[.pointer (some ⟨w.heap.size + 1, 0, none⟩), .pointer (some ⟨w.heap.size, 0, none⟩), .pointer (some ⟨sb, 0, none⟩)]] W fun r W' => r = .returned (.tuple #[]) ∧ ∃ rk, Ranked l pol rk ∧ NewL w W' l.length jv (.func (.func (if pol = 2 then 73 else 74)) #[] #[]) K Lf Rn Rd C lf rn ((zI rk).map (Value.int .i64)) cc ∧ W.grownBy W' (some Rd) := by
  obtain ⟨l1, l2, l3, l4, l5⟩ := h.low
  have hs := h.bel.size
  refine (sortN_any W l.length Rd 72 #[.pointer (some ⟨w.heap.size + 1, 0, none⟩), .pointer (some ⟨w.heap.size, 0, none⟩), .pointer (some ⟨sb, 0, none⟩)] (cfR pol l) hl (cfR_swo hp l _) (enters_of Tryd.func72 (by kernel_rfl) rfl) h.ranked (fun W' hg x y => ?_)).mono ?_
  · have hj := (hg.block _ (lt_of_heapP h.jbox) (fun e => by have := Option.some.inj e; omega)).trans h.jbox
    have ho := (hg.block _ (lt_of_heapP h.obox) (fun e => by have := Option.some.inj e; omega)).trans h.obox
    have hs' := (hg.block _ (lt_of_heapP hb) (fun e => hne (Option.some.inj e))).trans hb
    have hr := hv.below (h.bel.trans (grownBy_below hg hs (fun q e => by cases e; omega)))
    have c1 := (cells_of (l := [_]) hj).1 0 _ rfl
    have c2 := (cells_of (l := [_]) ho).1 0 _ rfl
    have c3 := (cells_of (l := [_]) hs').1 0 _ rfl
    unfold cfR cfS
    rcases hp with rfl | rfl
    · rw [if_neg (by decide)] at c2 ⊢
      exact rankGreat_any W' l jv w.heap.size (w.heap.size + 1) sb x.val y.val c1 c2 c3 hr x.isLt y.isLt
    · rw [if_pos rfl] at c2 ⊢
      exact rankDue_any W' l jv w.heap.size (w.heap.size + 1) sb x.val y.val c1 c2 c3 hr x.isLt y.isLt
  · rintro r W' ⟨rfl, d, hd, hC, hg⟩
    exact ⟨rfl, _, ranked_srt hp hd, h.ranked' hg hC, hg⟩
end Go.Proofs.YtekbkcgpjkecbalDoor.S8
