import Derived.Test.YtcmoehednkaehahGSRe
import Derived.Test.YtcmoehednkaehahGLS
namespace Go.Proofs.Ytcmoehednkaehah
open Go.ChangeShapes Go.WideShapes Go.ChangeAt Go.RowKit

/-- A tick is told: what lies there behind it. -/
theorem append_push {W0 W : World} {d : Dd} {o : Do} {base : Nat} {pr : Int} {lv : Value} {l : List Lj} {rv : Value} {runs : List Int} {x : Rs} {cnt : Nat} {D : DataW Unit} (h : DW W0 W d o base pr lv l rv runs x cnt D) (f : Int) (hl : runs.length ≤ 100000)
    {ops : Array Oper} {rest : List Oper} {op : Oper} {a : Act} {Q : Exit → Act → World → Prop} (hgd : op.guard = none) (s y : Operand) (ho : op.op = .call { callee := .builtin .append, args := #[s, y], argTypes := #[26, 26] }) (hty : op.type = 26) (hs : a.eval s = rv) (hx : a.eval y = .slice (some ⟨W.heap.size, 0, none⟩) 1 1)
    (K : ∀ (ad7 : Option Addr) (n7 c7 : Nat) (w4 : World), w4.cell? ⟨o.O, 0, none⟩ = some rv → w4.frozen? ⟨o.O, 0, none⟩ = false → o.O < w4.heap.size → DV w4 d pr lv l x cnt D → (∀ c, c < W.heap.size → rv.ownBlock ≠ some c → c ≠ o.O → (w4.setCell ⟨o.O, 0, none⟩ (.slice ad7 n7 c7)).heap[c]? = W.heap[c]?) → DW W0 (w4.setCell ⟨o.O, 0, none⟩ (.slice ad7 n7 c7)) d o base pr lv l (.slice ad7 n7 c7) (runs ++ [f]) x cnt D → wpList Try.prog ops Q rest (a.put op.dst (.slice ad7 n7 c7)) w4) :
    wpList Try.prog ops Q (op :: rest) a (W.alloc (.cells #[.int .i64 f] 3)) := by
  obtain ⟨rv7, w4, h1, h2, h3, h4⟩ := h.stk.push2 f hl h.bs
  have hO : w4.heap[o.O]? = _ := (h3.block _ (h.lo o.O (by simp [blks])).2).trans h.hO
  obtain ⟨c, q, r⟩ := cells_of (l := [_, _, _, _]) hO
  have hdw := h.rows h3 h2
  obtain ⟨ad7, c7, hrv⟩ := hdw.rvs
  subst hrv
  have hb : ∀ {c : Nat} {ob : Obj}, c ∈ blks d o → W.heap[c]? = some ob → w4.heap[c]? = some ob := fun {c ob} hc hw => (h3.block c (h.lo c hc).2).trans hw
  have hbel : Below W0.heap.size W0 w4 := h.bel.trans (h3.mono (by have := (h.lo o.O (by simp [blks])); omega))
  refine append_known hgd s y 26 ho hs hx (by rw [hty]; exact h1) (K ad7 _ c7 w4 (c 0 _ rfl) (q 0) r ⟨hb (by simp [blks]) h.v.hS, hb (by simp [blks]) h.v.hP, hb (by simp [blks]) h.v.hA, hb (by simp [blks]) h.v.hK, hb (by simp [blks]) h.v.hB, hb (by simp [blks]) h.v.hW, hb (by simp [blks]) h.v.hD, owns_block h.v.map (h3.block _ (h.lo d.M (by simp [blks])).2), h.v.spec, h.j0.below hbel⟩ (fun c hc hne hO => (Below.heap_setCell _ _ _ _ hO).trans (h4 c hc hne)) hdw)
end Go.Proofs.Ytcmoehednkaehah
namespace Go.Proofs.Ytcmoehednkaehah
open Go.ChangeShapes Go.WideShapes Go.ChangeAt Go.RowKit

theorem endF_pos (x : Rs) (i : Nat) (e : En) (t : Int) (h : e.nx + 1 = e.x.acts.length) : endF x i e t = ⟨x.es.set i { e with nx := e.nx + 1, rn := 0 }, x.en.set i t, x.ws, x.hs⟩ := by
  unfold endF
  rw [if_pos h]
theorem endF_neg (x : Rs) (i : Nat) (e : En) (t : Int) (h : ¬ e.nx + 1 = e.x.acts.length) : endF x i e t = ⟨x.es.set i { e with nx := e.nx + 1, rn := 0 }, x.en, x.ws, x.hs⟩ := by
  unfold endF
  rw [if_neg h]

theorem set_un {es : List En} {i : Nat} {e : En} (m : Int) : ((es.set i (begF e)).map (unF m)).set i { unF m (begF e) with nx := (unF m (begF e)).nx + 1, rn := e.rn } = (es.set i { e with bg := true, nx := e.nx + 1 }).map (unF m) := by
  rw [List.map_set, List.map_set, List.set_set]
  congr 1
  by_cases h : e.wt = m
  · simp [unF, begF, h]
  · simp [unF, begF, h]
end Go.Proofs.Ytcmoehednkaehah
