import Derived.Test.YtkafihaajpifoajNZ
import Derived.Test.YtkafihaajpifoajNJ
namespace Go.Proofs.Ytkafihaajpifoaj
open Go.ChangeShapes Go.WideShapes Go.ChangeAt Go.RowKit

/-- What the law has looked at: the first j that come, e the end so far. -/
def Seen (l : List Fr) (cs : List Co) (ts : List Int) (j : Nat) (e : Int) : Prop := 0 ≤ e ∧ ∀ (i : Nat) (c : Co), i < j → cs[i]? = some c → 0 ≤ c.k ∧ c.k < (l.length : Int) ∧ IntKind.i64.wrap (c.a + ts.getD c.k.toNat 0) ≤ e ∧ ∀ (q : Nat) (o : Co), q < i → cs[q]? = some o → o.k = c.k → (Fk l c.k).t ≤ IntKind.i64.wrap (c.a - o.a)

theorem Seen.start (l : List Fr) (cs : List Co) (ts : List Int) : Seen l cs ts 0 0 := ⟨Int.le_refl _, fun i c hi => by omega⟩

theorem Seen.next {l : List Fr} {cs : List Co} {ts : List Int} {j : Nat} {e : Int} {c : Co} (h : Seen l cs ts j e) (hc : cs[j]? = some c) (h0 : 0 ≤ c.k) (h1 : c.k < (l.length : Int)) (hq : ∀ (q : Nat) (o : Co), q < j → cs[q]? = some o → o.k = c.k → (Fk l c.k).t ≤ IntKind.i64.wrap (c.a - o.a)) : Seen l cs ts (j + 1) (max e (IntKind.i64.wrap (c.a + ts.getD c.k.toNat 0))) := by
  refine ⟨by have := h.1; omega, fun i c' hi hc' => ?_⟩
  by_cases hj : i = j
  · subst hj
    rw [hc] at hc'
    cases hc'
    exact ⟨h0, h1, by omega, hq⟩
  · obtain ⟨g0, g1, g2, g3⟩ := h.2 i c' (by omega) hc'
    exact ⟨g0, g1, by omega, g3⟩

theorem sndF_code {l : List Fr} : ∀ (ps : List (Co × Int)) (i : Nat), (∀ p ∈ ps, 0 ≤ p.1.k ∧ p.1.k < (l.length : Int)) → (sndF l ps i).1 ≠ 0 → (sndF l ps i).1 = 3
  | [], _, _, h => absurd rfl h
  | p :: r, i, hp, h => by
    rw [sndF] at h ⊢
    by_cases h0 : sndOne l p.1 p.2 = 0
    · rw [if_pos h0] at h ⊢
      exact sndF_code r (i + 1) (fun x hx => hp x (List.mem_cons_of_mem _ hx)) h
    · rw [if_neg h0] at h ⊢
      have hk := hp p List.mem_cons_self
      show sndOne l p.1 p.2 = 3
      have h0' := h0
      unfold sndOne at h0' ⊢
      rw [if_neg (by omega)] at h0' ⊢
      split at h0'
      · rename_i hh; rw [if_pos hh]
      · exact absurd rfl h0'

theorem chkFrom_code : ∀ (l : List Jb) (i : Nat), (chkFrom l i).1 = 0 ∨ (chkFrom l i).1 = 3
  | [], _ => .inl rfl
  | x :: r, i => by
    rw [chkFrom]
    split
    · exact chkFrom_code r (i + 1)
    · exact .inr rfl

theorem law_net {l : List Fr} {cs : List Co} {la ts : List Int} {e z1 z2 : Int} {rs es : List Int} (htm : TmA l ts (0, 0)) (hs : Seen l cs ts cs.length e) (he : e ≤ 3000) (h : SndRes l cs la e z1 z2 rs es) :
    (z1 = 0 ∨ z1 = 2 ∨ z1 = 3) ∧ (z1 = 0 → es.length = cs.length ∧ ts.length ≠ 0 ∧ (∀ c ∈ cs, 0 ≤ c.k ∧ c.k < (ts.length : Int) ∧ 0 ≤ c.a ∧ c.a ≤ 20000) ∧ ∀ (i : Nat) (c : Co), cs[i]? = some c → ∃ x, es[i]? = some x ∧ 1 ≤ x ∧ x ≤ 100000 ∧ x - c.a ≤ ts.getD c.k.toNat 0) := by
  obtain ⟨hcn, hto, hlen⟩ : (chkN l).1 = 0 ∧ TmsTo l ts ∧ ts.length = l.length := by
    rcases htm with ⟨h1, -, h2⟩ | ⟨h1, h2 | ⟨-, us, -, -, h2⟩⟩
    · exact absurd (by rw [← h2]) h1
    · exact ⟨h1, h2.1, h2.2.1⟩
    · cases h2
  obtain ⟨hl1, hl8, hokl, -⟩ := id (chkN_ok hcn)
  have hmem : ∀ c ∈ cs, 0 ≤ c.k ∧ c.k < (l.length : Int) := fun c hc => by
    obtain ⟨i, hi, hce⟩ := List.getElem_of_mem hc
    obtain ⟨g0, g1, -⟩ := hs.2 i c hi (by rw [List.getElem?_eq_getElem hi, hce])
    exact ⟨g0, g1⟩
  rcases h with ⟨h0, rfl, -, rfl, rfl⟩ | ⟨h0, hp⟩
  · refine ⟨.inr ?_, fun hz => absurd hz h0⟩
    unfold chkS at h0 ⊢
    rw [if_neg (by omega)] at h0 ⊢
    split at h0
    · rename_i hh; rw [if_pos hh]; exact .inl rfl
    · rename_i hh
      rw [if_neg hh]
      exact .inr (sndF_code _ _ (fun p hp => hmem _ (List.of_mem_zip (a := p.1) (b := p.2) hp).1) h0)
  · obtain ⟨hjl, hej⟩ := snd_each h0
    rcases hp with ⟨p0, rfl, -, rfl, rfl⟩ | ⟨p0, rfl, -, s, hpl, rfl, rfl⟩
    · refine ⟨.inr ?_, fun hz => absurd hz p0⟩
      unfold plE at p0 ⊢
      by_cases hj : (chkJ (sndJ l cs la)).1 ≠ 0
      · rw [if_pos hj]
        unfold chkJ at hj ⊢
        split at hj
        · rename_i hh; rw [if_pos hh]; exact .inl rfl
        · rename_i hh
          rw [if_neg hh]
          rcases chkFrom_code (sndJ l cs la) 0 with g | g
          · exact absurd g hj
          · exact .inr g
      · have := hs.1
        rw [if_neg hj, if_neg (by omega), if_neg (by omega)] at p0
        exact absurd rfl p0
    · refine ⟨.inl rfl, fun _ => ?_⟩
      have hcA : ∀ (i : Nat) (c : Co), cs[i]? = some c → 0 ≤ c.k ∧ c.k < (l.length : Int) ∧ 0 ≤ c.a ∧ c.a ≤ 20000 := fun i c hc => by
        obtain ⟨y, m, -, g1, g2, -, -, g3, g4, -⟩ := hej i c hc
        exact ⟨g1, by omega, g3, g4⟩
      have hA : ∀ c ∈ cs, 0 ≤ c.k ∧ c.k < (l.length : Int) ∧ 0 ≤ c.a ∧ c.a ≤ 20000 := fun c hc => by
        obtain ⟨i, hi, hce⟩ := List.getElem_of_mem hc
        exact hcA i c (by rw [List.getElem?_eq_getElem hi, hce])
      have hT : ∀ k : Int, 0 ≤ k → k < (l.length : Int) → ts.getD k.toNat 0 ≤ 10000 ∧ 0 ≤ ts.getD k.toNat 0 := fun k k0 k1 => by
        have hk : k.toNat < l.length := by omega
        have hk' : k.toNat < ts.length := by omega
        have e1 : l[k.toNat]? = some l[k.toNat] := List.getElem?_eq_getElem hk
        have e2 : ts[k.toNat]? = some ts[k.toNat] := List.getElem?_eq_getElem hk'
        have := hto.2 _ _ _ e1 e2
        have hm := hokl _ (List.mem_of_getElem? e1)
        have ed : ts.getD k.toNat 0 = ts[k.toNat] := by rw [List.getD_eq_getElem?_getD, e2]; rfl
        rw [ed]
        have hd := hm.2.2.2.2.2.1
        refine ⟨by omega, ?_⟩
        cases this.1 with
        | some _ t => exact (t.small hm).1
      have hN : ((e.toNat : Nat) : Int) = e := by have := hs.1; omega
      have hpure := net_pure (N := e.toNat) h0 hto hlen (fun i j c c' hij hc hc' hk => ?_) (fun c hc => ?_) hpl
      · refine ⟨?_, by omega, fun c hc => ?_, fun i c hc => ?_⟩
        · rw [← hjl]
          exact (plays_ok (chkJ_ok (plE_ok p0).1).2.1 _ _ hpl).ends
        · rw [hlen]; exact hA c hc
        · obtain ⟨x, x1, x2, x3⟩ := hpure i c hc
          obtain ⟨g0, g1, g2, g3⟩ := hcA i c hc
          have := hT c.k g0 g1
          exact ⟨x, x1, x2, by omega, by omega⟩
      · have hjn : j < cs.length := (List.getElem?_eq_some_iff.1 hc').1
        obtain ⟨-, -, -, g⟩ := hs.2 j c' hjn hc'
        have g' := g i c hij hc hk
        obtain ⟨-, -, a0, a1⟩ := hcA i c hc
        obtain ⟨-, -, b0, b1⟩ := hcA j c' hc'
        rw [IntKind.wrap_i64, ← hk] at g'
        omega
      · obtain ⟨i, hi, hce⟩ := List.getElem_of_mem hc
        have hc' : cs[i]? = some c := by rw [List.getElem?_eq_getElem hi, hce]
        obtain ⟨g0, g1, g2, -⟩ := hs.2 i c hi hc'
        obtain ⟨-, -, a0, a1⟩ := hcA i c hc'
        have := hT c.k g0 g1
        rw [IntKind.wrap_i64] at g2
        omega
end Go.Proofs.Ytkafihaajpifoaj
