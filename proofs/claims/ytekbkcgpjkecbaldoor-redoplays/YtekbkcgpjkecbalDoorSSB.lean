import Derived.Test.YtekbkcgpjkecbalDoorRows
import Derived.WalkKit
import Derived.ProofKit
import Derived.OpenShut
import Derived.Handy
import Derived.Deep.QuietTactic
import Derived.BigQuiet
import Derived.Deep.RegionHeld3
import Derived.Laws.RangeAny
import Derived.Laws.RangeString
import Derived.Laws.MakeOwn
import Derived.OwnWalk
import Derived.Maps.AppendAt
import Derived.Deep.CutRange
import Derived.Test.YtekbkcgpjkecbalDoorJP
namespace Go.Proofs.YtekbkcgpjkecbalDoor.S8
open Go.ChangeShapes Go.WideShapes Go.ChangeAt Go.RowKit

def _root_.Go.Proofs.YtekbkcgpjkecbalDoor.Jb.val (x : Jb) : Value := .agg #[.int .i64 x.k, .int .i64 x.a, .int .i64 x.c, .int .i64 x.d, .int .i64 x.p]

theorem _root_.Go.Proofs.YtekbkcgpjkecbalDoor.JbAt.below {w w' : World} {b o : Nat} {x : Jb} (h : JbAt w b o x) (hb : Below w.heap.size w w') : JbAt w' b o x :=
  ⟨below_cell hb h.1, below_cell hb h.2.1, below_cell hb h.2.2.1, below_cell hb h.2.2.2.1, below_cell hb h.2.2.2.2⟩

/-- An append that has room, as a step of a region. -/
theorem step_fits {P : Program} {ops : Array Oper} {o : Oper} {lst : List Value} {ds : List Deferred} {w : World} {K : Act → World → Prop} {Q : Exit → Act → World → Prop} {E : Prop} (hg : o.guard = none) (nd : Nat) (hnd : o.dst = some nd) (s x : Operand) (t : TypeId) (hop : o.op = Op.call { callee := Callee.builtin Builtin.append, args := #[s, x], argTypes := #[t, t] })
    (base : Nat) (e : TypeId) (i : TypeInfo) (size : Nat) (h1 : P.underlying t = some (.slice e)) (h2 : P.info? e = some i) (h4 : i.size = size)
    (g k cap : Nat) (xs : List Value) (hs : (Act.mk lst.toArray ds).eval s = .slice (some ⟨g, 0, none⟩) k cap) (hown : w.ownsRow base e size (.slice (some ⟨g, 0, none⟩) k cap) k xs) (ao : Option Addr) (m c : Nat) (news : List Value) (hx : (Act.mk lst.toArray ds).eval x = .slice ao m c) (hn : news.length = m * size)
    (hnone : ao = none → m = 0 ∧ c = 0) (hc : ∀ ad, ao = some ad → ∀ j u, news[j]? = some u → w.cell? (ad.add j) = some u) (h1c : ∀ u ∈ news, u.oneCell' = true) (b1 : k + m ≤ cap) (n' : Nat) (hn' : k + m = n') (ys : List Value) (hys : xs ++ news = ys)
    (hK : ∀ w', w'.ownsRow base e size (.slice (some ⟨g, 0, none⟩) n' cap) n' ys → w.grownBy w' (some g) → K ⟨(lst.set nd (.slice (some ⟨g, 0, none⟩) n' cap)).toArray, ds⟩ w') :
    if Region.wanted o (yielded ops (Act.mk lst.toArray ds).tmps) = true then Oper.wp P o ⟨lst.toArray, ds⟩ w K Q else E := by
  subst hn' hys
  have hw : Region.wanted o (yielded ops (Act.mk lst.toArray ds).tmps) = true := by simp [Region.wanted, hg]
  rw [if_pos hw]
  obtain ⟨w', hrun, ho, hgr⟩ : ∃ w', (Builtin.append_ #[t, t] o.type #[.slice (some ⟨g, 0, none⟩) k cap, .slice ao m c]).run P w = .ok (.slice (some ⟨g, 0, none⟩) (k + m) cap) w' ∧ w'.ownsRow base e size (.slice (some ⟨g, 0, none⟩) (k + m) cap) (k + m) (xs ++ news) ∧ w.grownBy w' (some g) := by
    cases ao with
    | some ad => exact run_append_fits w base t o.type e i size h1 h2 h4 g k cap xs hown ad m c news hn (hc ad rfl) h1c b1
    | none =>
      obtain ⟨rfl, rfl⟩ := hnone rfl
      have hnil : news = [] := List.eq_nil_of_length_eq_zero (by rw [hn]; omega)
      subst hnil
      exact ⟨w, run_append_owned_none w base t o.type e i size h1 h2 _ k xs hown, by simpa using hown, ⟨rfl, rfl, rfl, Nat.le_refl _, fun _ _ _ => rfl⟩⟩
  have hk2 := hK _ ho hgr
  have ep : Act.put ⟨lst.toArray, ds⟩ o.dst (.slice (some ⟨g, 0, none⟩) (k + m) cap) = ⟨(lst.set nd (.slice (some ⟨g, 0, none⟩) (k + m) cap)).toArray, ds⟩ := by rw [hnd]; simp [Act.put]
  rw [← ep] at hk2
  unfold Oper.wp
  simp [execOp, hop, resolve, invoke, builtin, hs, hx, hrun, Result.andThen]
  exact hk2

theorem lent_at {α : Type} {f : α → List Value} {sz : Nat} (hf : ∀ x, (f x).length = sz) {w : World} {l : List α} {m : α} {b o j k : Nat} {u : Value} (h : ∀ q u, ((l ++ [m, m, m]).flatMap f)[q]? = some u → w.cell? ⟨b, o + q, none⟩ = some u) (h1 : l.length ≤ j) (h2 : j < l.length + 3) (hk : k < sz) (hu : (f m)[k]? = some u) : w.cell? ⟨b, o + (j * sz + k), none⟩ = some u := by
  refine h _ _ ((flat_at f sz hf (l ++ [m, m, m]) j k m ?_ hk).trans hu)
  rw [List.getElem?_append_right h1]
  have : j - l.length = 0 ∨ j - l.length = 1 ∨ j - l.length = 2 := by omega
  rcases this with e | e | e <;> rw [e] <;> rfl

theorem below_setCells {N b : Nat} (hb : N ≤ b) : ∀ (l : List Value) (o : Nat) (w : World), Below N w (w.setCells b o l)
  | [], _, _ => Below.refl _ _
  | v :: r, o, w => by
    refine Below.trans ?_ (below_setCells hb r (o + 1) _)
    exact (Below.refl _ w).setCell (p := ⟨b, o, none⟩) hb v
end Go.Proofs.YtekbkcgpjkecbalDoor.S8
