import Derived.Test.YtdligmnboalagafKA
import Derived.Test.YtdligmnboalagafSLA
namespace Go.Proofs.Ytdligmnboalagaf
open Go.ChangeShapes Go.WideShapes Go.ChangeAt Go.RowKit

theorem responsesF_split {l : List Ta} {bs rs : List Int} (h : responsesF l bs = (rs, (0, 0))) : (chkX l).1 = 0 ∧ bs.length = l.length ∧ respsFrom l bs 0 [] = (rs, (0, 0)) := by
  unfold responsesF at h
  by_cases h0 : (chkX l).1 ≠ 0
  · rw [if_pos h0] at h
    simp at h
    exact absurd (by rw [h.2]) h0
  · rw [if_neg h0] at h
    by_cases h1 : bs.length ≠ l.length
    · rw [if_pos h1] at h; simp at h
    · rw [if_neg h1] at h
      exact ⟨by omega, by omega, h⟩

theorem respF_some {l : List Ta} {k : Nat} (hk : k < l.length) (h : (respF l (k : Int) 0).2.1 = 0) : respR l k 0 ≠ 0 ∧ (respF l (k : Int) 0).1 = respR l k 0 := by
  have e : respF l (k : Int) 0 = if respR l k 0 = 0 then (0, (13, (k : Int))) else (respR l k 0, (0, 0)) := by
    unfold respF
    rw [if_neg (by omega), Int.toNat_natCast]
  rw [e] at h ⊢
  by_cases hz : respR l k 0 = 0
  · rw [if_pos hz] at h; cases h
  · rw [if_neg hz]; exact ⟨hz, rfl⟩

theorem late_none {R : Nat} : ∀ (js : List Jb) (es : List Int) (k : Nat), (∀ (i : Nat) x e, js[i]? = some x → es[i]? = some e → e ≤ x.d ∧ 0 ≤ e) → S8.lateFrom R js es k = []
  | [], es, k, h => by cases es <;> rfl
  | x :: js, [], k, h => rfl
  | x :: js, e :: es, k, h => by
    have h0 := h 0 x e rfl rfl
    unfold S8.lateFrom
    rw [if_neg (by omega)]
    exact late_none js es (k + 1) (fun i x e hx he => h (i + 1) x e (by simpa using hx) (by simpa using he))

/-- The critical instant: nobody takes longer than is told. -/
theorem keeps_pure {l : List Ta} {cs : List Co} {la tk rs : List Int} {js : List Jb} {N : Nat} {s : S8.St} (hr : responsesF l (List.replicate l.length 0) = (rs, (0, 0))) (hj : jobsF l cs la tk = ((0, 0), js))
    (hN : ∀ c ∈ cs, c.a + (Tk l c.k.toNat).d ≤ (N : Int)) (hok : ∀ x ∈ js, S8.okJ x) (hP : S8.Plays js 1 true N s) :
    ∀ (i : Nat) (c : Co), cs[i]? = some c → ∃ e, s.ends[i]? = some e ∧ 1 ≤ e ∧ e - c.a ≤ rs.getD c.k.toNat 0 ∧ e ≤ c.a + (Tk l c.k.toNat).d := by
  obtain ⟨hX, -, hr'⟩ := responsesF_split hr
  obtain ⟨-, hDT, -, h8, hst, -⟩ := chkX_ok hX
  obtain ⟨hleg, hjl, hje⟩ := jobsF_ok hj
  have hlk := legF_ok hleg
  obtain ⟨f, rfl, hp, hs⟩ := plays_seq N s hP
  intro i c hc
  have hil : i < cs.length := (List.getElem?_eq_some_iff.1 hc).1
  obtain ⟨hk0, hkl, ha0, ha1⟩ := hlk.2.2 c (List.mem_of_getElem? hc)
  obtain ⟨new, ern, hnl, hne⟩ := respsFrom_each _ 0 [] rs hr'
  rw [List.nil_append] at ern
  subst ern
  have hkn : c.k.toNat < l.length := by omega
  obtain ⟨n1, n2⟩ := hne c.k.toNat 0 (by simp [hkn])
  rw [Nat.zero_add] at n1 n2
  obtain ⟨hrr, hre⟩ := respF_some hkn n2
  rw [hre] at n1
  have hrs : rs.getD c.k.toNat 0 = respR l c.k.toNat 0 := by rw [List.getD_eq_getElem?_getD, n1]; rfl
  rw [hrs]
  obtain ⟨w, w1, w2, w3, -, w5⟩ := wOf_some (show wOf _ _ _ ≠ 0 from hrr)
  have w5' : respR l c.k.toNat 0 = w + (Tk l c.k.toNat).j := w5
  rw [w5']
  obtain ⟨wn, rfl⟩ : ∃ n : Nat, w = (n : Int) := ⟨w.toNat, by omega⟩
  -- the jobs
  have hJ : ∀ n c, cs[n]? = some c → ∃ a b : Int, S8.J js n = ⟨c.k, c.a + a, b, c.a + (Tk l c.k.toNat).d, (Tk l c.k.toNat).p⟩ ∧ 0 ≤ a ∧ a ≤ (Tk l c.k.toNat).j ∧ 1 ≤ b ∧ b ≤ (Tk l c.k.toNat).c := fun n c hn => by
    obtain ⟨a, b, g1, g2⟩ := hje n c hn
    refine ⟨a, b, ?_, g2⟩
    unfold S8.J
    rw [List.getD_eq_getElem?_getD, g1]
    rfl
  have hC : ∀ n, n < js.length → ∃ c, cs[n]? = some c ∧ cs.getD n ⟨0, 0⟩ = c := fun n hn => by
    have hn' : n < cs.length := by omega
    exact ⟨cs[n], by simp [hn'], by simp [hn']⟩
  obtain ⟨a, b, hji, a1, a2, b1, b2⟩ := hJ i c hc
  have R := run_of hok hp hs (Tk l c.k.toNat).p
  have hd := hN c (List.mem_of_getElem? hc)
  have hm : (S8.J js i).a = (((c.a + a).toNat : Nat) : Int) := by rw [hji]; show c.a + a = _; omega
  have hdone := R.done (i := i) (m := (c.a + a).toNat) (w := wn) (by omega) (by show (Tk l c.k.toNat).p ≤ (S8.J js i).p; rw [hji]; exact Int.le_refl _) hm (by omega) (by omega) (fun t0 _ => by
    have hall := FK.all_sum (n := js.length) (m := l.length) (a := fun n => (cs.getD n ⟨0, 0⟩).a) (r := fun n => (S8.J js n).a) (x := fun n => (S8.J js n).c) (kt := fun n => (S8.J js n).k.toNat) (Hk := fun k => (Tk l c.k.toNat).p ≤ (Tk l k).p) (J := fun k => (Tk l k).j) (T := fun k => (Tk l k).t) (C := fun k => (Tk l k).c) (k0 := c.k.toNat) (t0 := t0) (w := wn)
      (fun n hn => by
        obtain ⟨c', hc', -⟩ := hC n hn
        obtain ⟨a', b', e', -⟩ := hJ n c' hc'
        have := hlk.2.2 c' (List.mem_of_getElem? hc')
        show (S8.J js n).k.toNat < _
        rw [e']
        show c'.k.toNat < _
        omega) hkn (by omega)
      (fun k hk => by
        obtain ⟨g1, g2, g3, g4, g5, g6, g7, g8, -, -⟩ := stands_t (stands_mem hst hk)
        exact ⟨by show 0 < (Tk l k).t; omega, by show 0 ≤ (Tk l k).c; omega, g7⟩)
      (fun n hn => by
        obtain ⟨c', hc', hg⟩ := hC n hn
        obtain ⟨a', b', e', q1, q2, q3, q4⟩ := hJ n c' hc'
        rw [hg, e']
        try dsimp only
        exact ⟨by omega, by omega, q4⟩)
      (fun n n' hnn hn' e => by
        obtain ⟨c1, hc1, hg1⟩ := hC n (by omega)
        obtain ⟨c2, hc2, hg2⟩ := hC n' hn'
        obtain ⟨a3, b3, e3, -⟩ := hJ n c1 hc1
        obtain ⟨a4, b4, e4, -⟩ := hJ n' c2 hc2
        rw [hg1, hg2, e3]
        rw [e3, e4] at e
        try dsimp only at e ⊢
        have k1 := hlk.2.2 c1 (List.mem_of_getElem? hc1)
        have k2 := hlk.2.2 c2 (List.mem_of_getElem? hc2)
        have ek : c1.k = c2.k := by omega
        have := apart_of hleg n n' c1 c2 hnn hc1 hc2 ek
        rw [ek]
        exact this)
      (by
        have := hDT _ (Tk_mem hkn)
        show (wn : Int) + (Tk l c.k.toNat).j ≤ (Tk l c.k.toNat).t
        omega)
    have hask : (wn : Int) = (Tk l c.k.toNat).c + FK.sumN l.length (fun k => if k ≠ c.k.toNat ∧ (Tk l c.k.toNat).p ≤ (Tk l k).p then ((wn : Int) + (Tk l k).j + (Tk l k).t - 1) / (Tk l k).t * (Tk l k).c else 0) := by
      have h1 := sumO_sumN (A := aheadP l c.k.toNat) (i := c.k.toNat) (w := (wn : Int)) (l := l) l.length 0 (by omega)
      have h2 : FK.sumN l.length (fun k => if k ≠ c.k.toNat ∧ (Tk l c.k.toNat).p ≤ (Tk l k).p then ((wn : Int) + (Tk l k).j + (Tk l k).t - 1) / (Tk l k).t * (Tk l k).c else 0) = FK.sumN l.length (fun k => if k ≠ c.k.toNat ∧ aheadP l c.k.toNat k = true then up1 (wn : Int) (Tk l k) else 0) := by
        refine FK.sumN_eq _ (fun k _ => ?_)
        unfold aheadP up1
        simp
      rw [h2, h1]
      unfold askF at w3
      rw [List.drop_zero]
      show (wn : Int) = (Tk l c.k.toNat).c + (0 + _)
      omega
    have hH : FK.sumN js.length (fun n => if (Tk l c.k.toNat).p ≤ (S8.J js n).p ∧ (t0 : Int) ≤ (S8.J js n).a ∧ (S8.J js n).a < ((t0 + wn : Nat) : Int) then (S8.J js n).c else 0) = FK.sumN js.length (fun n => if (Tk l c.k.toNat).p ≤ (Tk l (S8.J js n).k.toNat).p ∧ (t0 : Int) ≤ (S8.J js n).a ∧ (S8.J js n).a < ((t0 + wn : Nat) : Int) then (S8.J js n).c else 0) := by
      refine FK.sumN_eq _ (fun n hn => ?_)
      obtain ⟨c', hc', -⟩ := hC n hn
      obtain ⟨a', b', e', -⟩ := hJ n c' hc'
      have ep : (S8.J js n).p = (Tk l (S8.J js n).k.toNat).p := by rw [e']
      rw [ep]
    refine Int.le_trans (Int.le_of_eq hH) ?_
    refine Int.le_trans hall ?_
    exact Int.le_of_eq hask.symm)
  obtain ⟨e, h1, h2, h3⟩ := ends_of hok hp hs N (Nat.le_refl N) i (by omega) ((c.a + a).toNat + wn) (by omega) hdone
  exact ⟨e, h1, h2, by omega, by omega⟩
end Go.Proofs.Ytdligmnboalagaf
