import Derived.Test.YtcgncdpohaoejafDoorAT
namespace Go.Proofs.YtcgncdpohaoejafDoor
open Go.ChangeShapes Go.WideShapes Go.ChangeAt Go.RowKit

/- The document's ranks. -/
def behindP (key : Nat → Int) (i k : Nat) : Bool := decide (key i < key k ∨ (key k = key i ∧ i < k))

def behindN (key : Nat → Int) (n i : Nat) : Nat := ((List.range n).filter (behindP key i)).length

def rankR (key : Nat → Int) (l : List Ta) : List Ta := (List.range l.length).map (fun i => { Tk l i with p := 1 + (behindN key l.length i : Int) })

theorem behind_place {key : Nat → Int} {n : Nat} {od : List Nat} (h : InOrd key n od) {q i : Nat} (hq : od[q]? = some i) : behindN key n i + q + 1 = n := by
  obtain ⟨hp, hs⟩ := h
  have hlen : od.length = n := by have := hp.length_eq; simpa using this
  have hql : q < od.length := (List.getElem?_eq_some_iff.1 hq).1
  have hqe : od[q] = i := (List.getElem?_eq_some_iff.1 hq).2
  have hpw := List.pairwise_iff_getElem.1 hs
  unfold behindN
  rw [← (hp.filter (behindP key i)).length_eq]
  have hdr : od.drop q = i :: od.drop (q + 1) := by rw [List.drop_eq_getElem_cons hql, hqe]
  have e1 : (od.take q).filter (behindP key i) = [] := by
    rw [List.filter_eq_nil_iff]
    intro k hk
    obtain ⟨r, hr, e⟩ := List.getElem_of_mem hk
    have hrq : r < q := by simp at hr; omega
    have e' : od[r] = k := by rw [← e]; simp
    have := hpw r q (by omega) hql hrq
    rw [e', hqe] at this
    unfold behindP
    simp
    omega
  have e2 : (od.drop (q + 1)).filter (behindP key i) = od.drop (q + 1) := by
    rw [List.filter_eq_self]
    intro k hk
    obtain ⟨r, hr, e⟩ := List.getElem_of_mem hk
    have hrl : q + 1 + r < od.length := by simp at hr; omega
    have e' : od[q + 1 + r] = k := by rw [← e]; simp
    have := hpw q (q + 1 + r) hql hrl (by omega)
    rw [e', hqe] at this
    unfold behindP
    simp
    omega
  have e3 : behindP key i i = false := by unfold behindP; simp
  have ef : od.filter (behindP key i) = od.drop (q + 1) := by
    have ee : od.filter (behindP key i) = (od.take q ++ od.drop q).filter (behindP key i) := by rw [List.take_append_drop]
    rw [ee, List.filter_append, e1, hdr, List.filter_cons, e3]
    simp [e2]
  rw [ef]
  simp
  omega

/-- Both ways give the same. -/
theorem rk_eq {key : Nat → Int} {l : List Ta} {od : List Nat} (h : InOrd key l.length od) : rkF l od 0 l = rankR key l := by
  have hp := h.1
  have hnd : od.Nodup := hp.nodup_iff.2 List.nodup_range
  have hm : ∀ i ∈ od, i < l.length := fun i hi => by simpa using hp.mem_iff.1 hi
  obtain ⟨h1, h2, h3⟩ := rkF_spec (l := l) hnd hm od [] l rfl rfl (fun k _ => ⟨rfl, rfl, rfl, rfl, rfl, rfl⟩) (fun q i hq => by simp at hq)
  rw [List.length_nil] at h1 h2 h3
  apply List.ext_getElem?
  intro k
  by_cases hk : k < l.length
  · rw [Tk_get (l := rkF l od 0 l) (by omega)]
    unfold rankR
    rw [List.getElem?_map, List.getElem?_range hk]
    obtain ⟨q, hq, e⟩ := List.getElem_of_mem (hp.mem_iff.2 (List.mem_range.2 hk))
    have hqs : od[q]? = some k := by rw [List.getElem?_eq_getElem hq, e]
    have hpk := h3 q k hqs
    have hb := behind_place h hqs
    have hp6 : (Tk (rkF l od 0 l) k).p = 1 + (behindN key l.length k : Int) := by rw [hpk]; omega
    clear hpk hb hqs e hq
    obtain ⟨s1, s2, s3, s4, s5, s6⟩ := h2 k hk
    show some (Tk (rkF l od 0 l) k) = some { Tk l k with p := 1 + (behindN key l.length k : Int) }
    generalize Tk (rkF l od 0 l) k = x at *
    generalize Tk l k = y at *
    obtain ⟨x0, x1, x2, x3, x4, x5, x6⟩ := x
    obtain ⟨y0, y1, y2, y3, y4, y5, y6⟩ := y
    dsimp only at s1 s2 s3 s4 s5 s6 hp6
    subst s1 s2 s3 s4 s5 s6 hp6
    rfl
  · rw [List.getElem?_eq_none (by omega), List.getElem?_eq_none (by unfold rankR; simp; omega)]

end Go.Proofs.YtcgncdpohaoejafDoor
