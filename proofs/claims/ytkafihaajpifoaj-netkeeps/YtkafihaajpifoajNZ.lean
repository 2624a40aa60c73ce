import Derived.Test.YtkafihaajpifoajNY
namespace Go.Proofs.Ytkafihaajpifoaj
open Go.ChangeShapes Go.WideShapes Go.ChangeAt Go.RowKit

theorem lt_kindsN {m : Fr} {busy : Int} {q : Nat} (hm : okFr m) (h : (q : Int) * m.t < busy + m.j) : (q : Int) < kinds m busy := by
  unfold kinds
  have ht := hm.2.2.1
  have : (q : Int) + 1 ≤ (busy + m.j + m.t - 1) / m.t := by
    rw [Int.le_ediv_iff_mul_le (by omega), Int.add_mul, Int.one_mul]
    omega
  omega
theorem Tm.each {b : Int} {hd : List Fr} {m : Fr} : ∀ {K : Nat} {v : Int}, Tm b hd m K (some v) → ∀ q, q < K → ∃ w, Fx (qAsk b hd m (q : Int)) 0 (some w) ∧ m.j + w - (q : Int) * m.t + m.c ≤ v
  | _, _, .zero, q, hq => by omega
  | K + 1, _, .next (v := v) (w := w) h f, q, hq => by
    by_cases e : q = K
    · subst e
      exact ⟨w, f, by omega⟩
    · obtain ⟨w', h1, h2⟩ := h.each q (by omega)
      exact ⟨w', h1, by omega⟩
theorem sumF_take {f : Int → Fr → Int} {w : Int} {l : List Fr} : ∀ k, k ≤ l.length → sumF f w (l.take k) = FK.sumN k (fun y => f w (l.getD y fr0))
  | 0, _ => by simp [sumF, FK.sumN]
  | k + 1, h => by
    have hk : k < l.length := by omega
    rw [take_snoc (List.getElem?_eq_getElem hk), sumF_append, sumF_take k (by omega)]
    show _ = FK.sumN k _ + f w (l.getD k fr0)
    rw [List.getD_eq_getElem?_getD, List.getElem?_eq_getElem hk]
    simp [sumF]

theorem snd_each {l : List Fr} {cs : List Co} {la : List Int} (h : (chkS l cs la).1 = 0) : (sndJ l cs la).length = cs.length ∧ ∀ (i : Nat) (c : Co), cs[i]? = some c → ∃ (y : Int) (m : Fr), la[i]? = some y ∧ 0 ≤ c.k ∧ c.k.toNat < l.length ∧ l[c.k.toNat]? = some m ∧ okFr m ∧ 0 ≤ c.a ∧ c.a ≤ 20000 ∧ 0 ≤ y ∧ y ≤ m.j ∧ (sndJ l cs la)[i]? = some (⟨c.k, c.a + y, m.c, c.a + m.d, (l.length : Int) - c.k⟩ : Jb) := by
  obtain ⟨hn, hm1, hm2, hone, -⟩ := chkS_ok h
  obtain ⟨-, -, hok, -⟩ := chkN_ok hn
  refine ⟨by unfold sndJ; rw [List.length_map, List.length_zip]; omega, fun i c hc => ?_⟩
  have hi : i < cs.length := (List.getElem?_eq_some_iff.1 hc).1
  obtain ⟨y, hy⟩ : ∃ y, la[i]? = some y := ⟨_, List.getElem?_eq_getElem (by omega)⟩
  have hp : (cs.zip la)[i]? = some (c, y) := by rw [List.getElem?_zip_eq_some]; exact ⟨hc, hy⟩
  have hso := hone _ (List.mem_of_getElem? hp)
  try dsimp only at hso
  have hkk : ¬ (c.k < 0 ∨ (l.length : Int) ≤ c.k) := fun h => by unfold sndOne at hso; rw [if_pos h] at hso; cases hso
  have hkn : c.k.toNat < l.length := by omega
  have hm : l[c.k.toNat]? = some l[c.k.toNat] := List.getElem?_eq_getElem hkn
  have hFk : Fk l c.k = l[c.k.toNat] := by unfold Fk; rw [List.getD_eq_getElem?_getD, hm]; rfl
  have hrg : 0 ≤ c.a ∧ c.a ≤ 20000 ∧ 0 ≤ y ∧ y ≤ (l[c.k.toNat]).j := by
    unfold sndOne at hso
    rw [if_neg hkk, hFk] at hso
    by_cases hq : c.a < 0 ∨ 20000 < c.a ∨ y < 0 ∨ (l[c.k.toNat]).j < y
    · rw [if_pos hq] at hso; cases hso
    · omega
  refine ⟨y, l[c.k.toNat], hy, by omega, hkn, hm, hok _ (List.mem_of_getElem? hm), hrg.1, hrg.2.1, hrg.2.2.1, hrg.2.2.2, ?_⟩
  unfold sndJ
  rw [List.getElem?_map, hp]
  unfold sndJ1
  rw [← hFk]
  rfl

def co0 : Co := ⟨0, 0⟩

theorem net_pure {l : List Fr} {cs : List Co} {la ts : List Int} {N : Nat} {s : St} (hcs : (chkS l cs la).1 = 0) (hts : TmsTo l ts) (htl : ts.length = l.length)
    (hsp : ∀ (i j : Nat) (c c' : Co), i < j → cs[i]? = some c → cs[j]? = some c' → c.k = c'.k → c.a + (Fk l c.k).t ≤ c'.a)
    (hend : ∀ c ∈ cs, c.a + ts.getD c.k.toNat 0 ≤ (N : Int)) (hpl : Plays (sndJ l cs la) 1 false N s) :
    ∀ (i : Nat) (c : Co), cs[i]? = some c → ∃ e, s.ends[i]? = some e ∧ 1 ≤ e ∧ e ≤ c.a + ts.getD c.k.toNat 0 := by
  obtain ⟨hn0, -, -, -, -⟩ := chkS_ok hcs
  obtain ⟨-, -, hokl, -⟩ := chkN_ok hn0
  obtain ⟨hlen, hej⟩ := snd_each hcs
  generalize hjs : sndJ l cs la = js at *
  have hcg : ∀ i, i < js.length → cs[i]? = some (cs.getD i co0) := fun i hi => by
    rw [List.getD_eq_getElem?_getD, List.getElem?_eq_getElem (show i < cs.length by omega)]; rfl
  have hin : ∀ i, i < js.length → ∃ (y : Int) (m : Fr), 0 ≤ (cs.getD i co0).k ∧ (cs.getD i co0).k.toNat < l.length ∧ l.getD (cs.getD i co0).k.toNat fr0 = m ∧ okFr m ∧ 0 ≤ (cs.getD i co0).a ∧ (cs.getD i co0).a ≤ 20000 ∧ 0 ≤ y ∧ y ≤ m.j ∧ J js i = ⟨(cs.getD i co0).k, (cs.getD i co0).a + y, m.c, (cs.getD i co0).a + m.d, (l.length : Int) - (cs.getD i co0).k⟩ := fun i hi => by
    obtain ⟨y, m, h1, h2, h3, h4, h5, h6, h7, h8, h9, h10⟩ := hej i _ (hcg i hi)
    refine ⟨y, m, h2, h3, by rw [List.getD_eq_getElem?_getD, h4]; rfl, h5, h6, h7, h8, h9, ?_⟩
    unfold J
    rw [List.getD_eq_getElem?_getD, h10]
    rfl
  have hokj : ∀ x ∈ js, okJ x := fun x hx => by
    obtain ⟨i, hi, rfl⟩ := List.getElem_of_mem hx
    obtain ⟨y, m, h2, h3, h4, h5, h6, h7, h8, h9, h10⟩ := hin i hi
    have e : js[i] = J js i := by unfold J; rw [List.getD_eq_getElem?_getD, List.getElem?_eq_getElem hi]; rfl
    rw [e, h10]
    obtain ⟨g1, g2, g3, g4, g5, g6, g7, g8⟩ := h5
    unfold okJ
    try dsimp only
    omega
  obtain ⟨f, hf, hp, hs⟩ := plays_seqN N s hpl
  have R := nrun_of hokj hp hs
  intro i c hc
  have hi : i < js.length := by rw [hlen]; exact (List.getElem?_eq_some_iff.1 hc).1
  have hce : cs.getD i co0 = c := by
    have := hcg i hi
    rw [hc] at this
    exact (Option.some.inj this).symm
  obtain ⟨y, m, h2, h3, h4, h5, h6, h7, h8, h9, h10⟩ := hin i hi
  rw [hce] at h2 h3 h4 h6 h7 h10
  -- its time
  have hmX : l[c.k.toNat]? = some m := by
    rw [List.getElem?_eq_getElem h3]
    rw [List.getD_eq_getElem?_getD, List.getElem?_eq_getElem h3] at h4
    exact congrArg some h4
  obtain ⟨v, hv⟩ : ∃ v, ts[c.k.toNat]? = some v := ⟨_, List.getElem?_eq_getElem (by omega)⟩
  have hvd : ts.getD c.k.toNat 0 = v := by rw [List.getD_eq_getElem?_getD, hv]; rfl
  obtain ⟨hw, -⟩ := hts.2 c.k.toNat m v hmX hv
  have hdone : ∃ d : Nat, (d : Int) ≤ c.a + v ∧ L (f d).left i = 0 := by
    generalize hX : c.k.toNat = X at *
    cases hw with
    | @some busy x hfb htm =>
      have hh0 := heldF_nonneg (l.drop (X + 1))
      obtain ⟨b, hb⟩ : ∃ b : Nat, heldF (l.drop (X + 1)) = (b : Int) := ⟨(heldF (l.drop (X + 1))).toNat, by omega⟩
      obtain ⟨bz, hbz⟩ : ∃ bz : Nat, busy = (bz : Int) := ⟨busy.toNat, by have := hfb.1; omega⟩
      rw [hb] at hfb htm
      subst hbz
      have key := NK.keeps (n := js.length) (N := N) (m := l.length) (a := fun i => (cs.getD i co0).a) (r := fun i => (J js i).a) (x := fun i => (J js i).c) (kt := fun i => if i < js.length then (cs.getD i co0).k.toNat else l.length) (C := fun y => (l.getD y fr0).c) (T := fun y => (l.getD y fr0).t) (J := fun y => (l.getD y fr0).j) (bef := lexJ 1 js) (L := fun t i => L (f t).left i) (who := whoN f) R
        (fun i j => by
          have hkey : ∀ i, key 1 (J js i) = ((if i < js.length then (cs.getD i co0).k.toNat else l.length : Nat) : Int) - (l.length : Int) := fun i => by
            unfold key
            rw [if_pos rfl]
            by_cases hc : i < js.length
            · obtain ⟨y, m, g2, g3, g4, g5, g6, g7, g8, g9, g10⟩ := hin i hc
              rw [if_pos hc, g10]
              try dsimp only
              omega
            · rw [if_neg hc]
              unfold J
              rw [List.getD_eq_getElem?_getD, List.getElem?_eq_none (by omega)]
              show -(0 : Int) = _
              omega
          unfold lexJ lex
          rw [hkey, hkey]
          omega)
        (fun i hi => by
          obtain ⟨y, m, g2, g3, -⟩ := hin i hi
          try dsimp only
          rw [if_pos hi]; exact g3)
        (fun y hy => by
          have hm : l[y]? = some (l.getD y fr0) := by rw [List.getD_eq_getElem?_getD, List.getElem?_eq_getElem hy]; rfl
          obtain ⟨g1, g2, g3, g4, g5, g6, g7, g8⟩ := hokl _ (List.mem_of_getElem? hm)
          exact ⟨g1, g3, g7, g8⟩)
        (fun i hi => by
          obtain ⟨y, m, g2, g3, g4, g5, g6, g7, g8, g9, g10⟩ := hin i hi
          try dsimp only
          rw [if_pos hi, g10, g4]
          try dsimp only
          omega)
        (fun i j hij hj he => by
          try dsimp only at he ⊢
          rw [if_pos (show i < js.length by omega)] at he ⊢
          rw [if_pos hj] at he
          obtain ⟨y, m, g2, g3, g4, -⟩ := hin i (by omega)
          obtain ⟨y', m', k2, -⟩ := hin j hj
          have := hsp i j _ _ hij (hcg i (by omega)) (hcg j hj) (by omega)
          exact this)
        (k := i) (X := X) (b := b) (bz := bz) (v := v) hi (by rw [if_pos hi, hce]; exact hX)
        (fun y hy1 hy2 => by
          have hm : l[y]? = some (l.getD y fr0) := by rw [List.getD_eq_getElem?_getD, List.getElem?_eq_getElem hy2]; rfl
          have hmem : l.getD y fr0 ∈ l.drop (X + 1) := by
            refine List.mem_of_getElem? (i := y - (X + 1)) ?_
            rw [List.getElem?_drop, show X + 1 + (y - (X + 1)) = y by omega]
            exact hm
          have := heldF_le hmem
          try dsimp only
          omega)
        (by have := hfb.1; omega)
        (by
          have e := hfb.2.2.1
          unfold busyAsk at e
          rw [← take_snoc hmX, sumF_take (X + 1) (by omega)] at e
          exact e.symm)
        (fun q hq => by
          have hm4 : l.getD X fr0 = m := h4
          try dsimp only at hq ⊢
          rw [hm4] at hq ⊢
          have hlt := lt_kindsN h5 hq
          obtain ⟨w, hw1, hw2⟩ := htm.each q (by omega)
          obtain ⟨wn, hwn⟩ : ∃ wn : Nat, w = (wn : Int) := ⟨w.toNat, by have := hw1.1; omega⟩
          subst hwn
          refine ⟨wn, ?_, hw2⟩
          have e := hw1.2.2.1
          unfold qAsk at e
          rw [sumF_take X (by omega)] at e
          exact e.symm)
        (by
          have := hend c (List.mem_of_getElem? hc)
          try dsimp only
          rw [hce]
          rw [hX, hvd] at this
          exact this)
      try dsimp only at key
      rw [hce] at key
      exact key
  obtain ⟨d, hd1, hd2⟩ := hdone
  have hdN : d ≤ N := by
    have := hend c (List.mem_of_getElem? hc)
    omega
  obtain ⟨e, he1, he2, he3⟩ := ends_ofN hokj hp hs N (Nat.le_refl _) i hi d hdN hd2
  rw [hf] at he1
  exact ⟨e, he1, he2, by omega⟩
end Go.Proofs.Ytkafihaajpifoaj
