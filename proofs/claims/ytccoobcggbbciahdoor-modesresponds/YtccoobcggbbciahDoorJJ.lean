import Derived.Test.YtccoobcggbbciahDoorJG
import Derived.Test.YtccoobcggbbciahDoorJP
import Derived.BigQuiet
import Derived.Deep.CutRange
namespace Go.Proofs.YtccoobcggbbciahDoor
open Go.ChangeShapes Go.WideShapes Go.ChangeAt Go.RowKit

theorem ownsRow_keep2 {w w' : World} {B n size : Nat} {e : TypeId} {v : Value} {xs : List Value} (h : w.ownsRow B e size v n xs) (hs : ∀ k, v.ownBlock = some k → w'.heap[k]? = w.heap[k]?) : w'.ownsRow B e size v n xs := by
  obtain ⟨hl, h | ⟨g, cap, cur, he, hb, hg, hr⟩⟩ := h
  · exact ⟨hl, .inl h⟩
  · exact ⟨hl, .inr ⟨g, cap, cur, he, hb, (hs g (by rw [he]; rfl)).trans hg, hr⟩⟩

theorem region_append {P : Program} {ops : Array Oper} {o : Oper} {a : Act} {w : World} {K : Act → World → Prop} {Q : Exit → Act → World → Prop} {E : Prop} [Decidable (Region.wanted o (yielded ops a.tmps) = true)] (hgd : o.guard = none) (s x : Operand) (t : TypeId)
    (ho : o.op = .call { callee := .builtin .append, args := #[s, x], argTypes := #[t, t] }) {v u v' : Value} {w' : World} (hs : a.eval s = v) (hx : a.eval x = u)
    (hrun : (Builtin.append_ #[t, t] o.type #[v, u]).run P w = .ok v' w') (h : K (a.put o.dst v') w') : if Region.wanted o (yielded ops a.tmps) = true then Oper.wp P o a w K Q else E := by
  have hw : Region.wanted o (yielded ops a.tmps) = true := by simp [Region.wanted, hgd]
  rw [if_pos hw]
  unfold Oper.wp
  simp [execOp, ho, resolve, invoke, builtin, hs, hx, hrun, Result.andThen]
  exact h

theorem Jobs_nil (w : World) (B : Nat) : w.ownsRow B 69 5 (.slice none 0 0) ([] : List Jb).length (([] : List Jb).flatMap Jb.vals) := ⟨rfl, .inl ⟨rfl, rfl⟩⟩
end Go.Proofs.YtccoobcggbbciahDoor
