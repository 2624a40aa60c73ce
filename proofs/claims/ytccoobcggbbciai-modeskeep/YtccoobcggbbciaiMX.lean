import Derived.Test.YtccoobcggbbciaiMW
namespace Go.Proofs.Ytccoobcggbbciai
open Go.ChangeShapes Go.WideShapes Go.ChangeAt Go.RowKit

theorem aheadF_snoc (f : Cr → Int) (p : Int) (x : Cr) : ∀ l : List Cr, aheadF f p (l ++ [x]) = aheadF f p l + (if p < x.p then f x else 0)
  | [] => by simp [aheadF]
  | y :: r => by rw [List.cons_append, aheadF, aheadF_snoc f p x r, aheadF]; omega

def Cd (set : List Cr) (k : Nat) : Cr := set.getD k cr0

theorem Cd_get {set : List Cr} {k : Nat} (h : k < set.length) : set[k]? = some (Cd set k) := by
  unfold Cd; rw [List.getD_eq_getElem?_getD, List.getElem?_eq_getElem h]; rfl

theorem aheadF_sum (f : Cr → Int) (p : Int) (set : List Cr) : ∀ n, n ≤ set.length → aheadF f p (set.take n) = FK.sumN n (fun k => if p < (Cd set k).p then f (Cd set k) else 0)
  | 0, _ => rfl
  | n + 1, h => by
    rw [List.take_add_one, Cd_get (by omega)]
    show aheadF f p (set.take n ++ [Cd set n]) = _
    rw [aheadF_snoc, aheadF_sum f p set n (by omega)]
    rfl

theorem aheadF_all (f : Cr → Int) (p : Int) (set : List Cr) : aheadF f p set = FK.sumN set.length (fun k => if p < (Cd set k).p then f (Cd set k) else 0) := by
  have := aheadF_sum f p set set.length (Nat.le_refl _)
  rwa [List.take_length] at this

/- What Check says of a set: priorities differ, and a low one takes C. -/
theorem chkCFrom_at2 {l : List Cr} : ∀ (r : List Cr) (k : Nat), (chkCFrom l r k).1 = 0 → ∀ n x, r[n]? = some x → wrongC x (l.take (k + n)) = 0
  | [], _, _, n, x, hx => by simp at hx
  | y :: r, k, h, n, x, hx => by
    rw [chkCFrom] at h
    by_cases hz : wrongC y (l.take k) = 0
    · rw [if_pos hz] at h
      cases n with
      | zero => simp at hx; rw [← hx]; exact hz
      | succ n =>
        have := chkCFrom_at2 r (k + 1) h n x (by simpa using hx)
        rwa [show k + 1 + n = k + (n + 1) by omega] at this
    · rw [if_neg hz] at h
      exact absurd h hz

theorem chkC_each {l : List Cr} (h : (chkC l).1 = 0) {n : Nat} (hn : n < l.length) : wrongC (Cd l n) (l.take n) = 0 := by
  unfold chkC at h
  by_cases h1 : l.length = 0 ∨ 8 < l.length
  · rw [if_pos h1] at h; cases h
  · rw [if_neg h1] at h
    have := chkCFrom_at2 l 0 h n _ (Cd_get hn)
    rwa [Nat.zero_add] at this

theorem chkC_dist {l : List Cr} (h : (chkC l).1 = 0) {i j : Nat} (hij : i < j) (hj : j < l.length) : (Cd l i).p ≠ (Cd l j).p := by
  have hw := chkC_each h hj
  unfold wrongC at hw
  intro e
  have hm : Cd l i ∈ l.take j := by
    refine List.mem_of_getElem? (i := i) ?_
    rw [List.getElem?_take, if_pos hij]
    exact Cd_get (by omega)
  have ha : (l.take j).any (fun y => y.p == (Cd l j).p) = true := List.any_eq_true.2 ⟨_, hm, by rw [e]; simp⟩
  split at hw
  · omega
  · split at hw
    · omega
    · exact absurd hw (by decide)

theorem chkC_dist' {l : List Cr} (h : (chkC l).1 = 0) {i j : Nat} (hi : i < l.length) (hj : j < l.length) (hne : i ≠ j) : (Cd l i).p ≠ (Cd l j).p := by
  rcases Nat.lt_or_gt_of_ne hne with hlt | hlt
  · exact chkC_dist h hlt hj
  · exact fun e => chkC_dist h hlt hi e.symm

theorem chkC_low {l : List Cr} (h : (chkC l).1 = 0) {n : Nat} (hn : n < l.length) (hl : (Cd l n).hi = false) : (Cd l n).h = (Cd l n).c := by
  have hw := chkC_each h hn
  unfold wrongC at hw
  split at hw
  · omega
  · split at hw
    · omega
    · rename_i h2
      unfold orderC at h2
      rw [hl] at h2
      simp at h2
      exact h2.2

theorem failC_all {l : List Cr} : ∀ (r : List Cr) (k : Nat), failC l r k = -1 → ∀ x ∈ r, (worstM l x).2.2 = true
  | [], _, _, x, hx => by simp at hx
  | y :: r, k, h, x, hx => by
    rw [failC] at h
    by_cases hz : (worstM l y).2.2 = true
    · rw [if_pos hz] at h
      rcases List.mem_cons.1 hx with rfl | hx
      · exact hz
      · exact failC_all r (k + 1) h x hx
    · rw [if_neg hz] at h
      omega

/-- What worst tells of one that has enough. -/
theorem worstM_ok {l : List Cr} {x : Cr} (h : (worstM l x).2.2 = true) : wellF l x ≠ 0 ∧ (worstM l x).1 = wellF l x ∧ (x.hi = true → illF l x ≠ 0 ∧ (worstM l x).2.1 = illF l x) := by
  unfold worstM at h ⊢
  by_cases h1 : wellF l x = 0
  · rw [if_pos h1] at h; cases h
  · rw [if_neg h1] at h ⊢
    by_cases h2 : x.hi = false
    · rw [if_pos h2]
      exact ⟨h1, rfl, fun e => by rw [h2] at e; cases e⟩
    · rw [if_neg h2] at h ⊢
      exact ⟨h1, rfl, fun _ => ⟨by simpa using h, rfl⟩⟩

/-- P13.4, of numbers. -/
theorem modes_pure {set : List Cr} {cs : List Co} {tk : List Int} {n : Nat} {s : S8.St} {T : Int} (hchk : (chkM set cs tk (n : Int)).1 = 0) (hfail : failC set set 0 = -1)
    (hap : ∀ i j ci cj, i < j → cs[i]? = some ci → cs[j]? = some cj → ci.k = cj.k → ci.a + (crOf set cs j).t ≤ cj.a) (hend : ∀ i c, cs[i]? = some c → c.a + (crOf set cs i).d ≤ (n : Int)) (hpl : PlaysT (jsF set cs tk) (hiOf set cs) (fun j => (crOf set cs j).c) n s T) :
    s.ends.length = cs.length ∧ ∀ i c, cs[i]? = some c → (hiOf set cs i = true → ∃ e, s.ends[i]? = some e ∧ 0 ≤ e ∧ e - c.a ≤ max (worstM set (crOf set cs i)).1 (worstM set (crOf set cs i)).2.1) ∧ ((T < 0 ∨ c.a + (worstM set (crOf set cs i)).1 < T) → ∃ e, s.ends[i]? = some e ∧ 0 ≤ e ∧ e - c.a ≤ (worstM set (crOf set cs i)).1) := by
  obtain ⟨hC, hcl, htl, hn, hcs, -⟩ := chkM_ok hchk
  have hjob := chkM_jobs hchk
  have hwh := chkM_whose hchk
  obtain ⟨-, -, hokC, -⟩ := chkC_ok hC
  have hlen := jsF_len set cs tk
  have hok1 := playsT_ok hjob n s T hpl
  refine ⟨by rw [hok1.ends, hlen], ?_⟩
  obtain ⟨f, g, e1, e2, hp, hs⟩ := plays_seqT n s T hpl
  have g0 : g 0 = -1 := (hp 0 (Nat.zero_le _)).2
  -- when it turns
  have hturn : ∃ Tn : Nat, Tn ≤ n ∧ (∀ v, v ≤ n → g v = if v ≤ Tn then -1 else (Tn : Int) + 1) ∧ ((T = -1 ∧ Tn = n) ∨ (Tn < n ∧ T = (Tn : Int) + 1)) := by
    rcases turn_all g0 n (fun u hu => by obtain ⟨b, -, -, h⟩ := hs u hu; exact ⟨b, h⟩) with h | ⟨Tn, hT, h⟩
    · refine ⟨n, Nat.le_refl _, fun v hv => by rw [if_pos hv]; exact h v hv, .inl ⟨by rw [← e2]; exact h n (Nat.le_refl _), rfl⟩⟩
    · refine ⟨Tn, by omega, h, .inr ⟨hT, ?_⟩⟩
      rw [← e2, h n (Nat.le_refl _), if_neg (by omega)]
  obtain ⟨Tn, hTn, hg, hTT⟩ := hturn
  -- whose each is
  let kt : Nat → Nat := fun i => (cs.getD i ⟨0, 0⟩).k.toNat
  have hktl : ∀ i, i < cs.length → kt i < set.length ∧ crOf set cs i = Cd set (kt i) := fun i hi => by
    obtain ⟨c, k, h1, h2, h3⟩ := hwh.at hi
    have e : cs.getD i ⟨0, 0⟩ = c := by rw [List.getD_eq_getElem?_getD, h1]; rfl
    have hk : kt i = k := by show (cs.getD i ⟨0, 0⟩).k.toNat = k; rw [e, h2]; rfl
    refine ⟨by rw [hk]; exact (List.getElem?_eq_some_iff.1 h3).1, ?_⟩
    rw [hk]
    have := Cd_get (List.getElem?_eq_some_iff.1 h3).1
    rw [h3] at this
    exact Option.some.inj this
  have R := mrun_of (kt := kt) (C := fun k => (Cd set k).c) (P := fun k => (Cd set k).p) (hk := fun k => (Cd set k).hi = true) hjob hp hs hg (fun i hi => by
    rw [hlen] at hi
    obtain ⟨h1, h2⟩ := hktl i hi
    refine ⟨by show (crOf set cs i).c = _; rw [h2], ?_, ?_, ?_⟩
    · have := hokC (Cd set (kt i)) (List.mem_of_getElem? (Cd_get h1))
      exact this.1
    · rw [jsF_at hi]; show (crOf set cs i).p = _; rw [h2]
    · show (crOf set cs i).hi = true ↔ _; rw [h2])
  rw [hlen] at R
  have hok' : ∀ k, k < set.length → okCr (Cd set k) := fun k hk => hokC _ (List.mem_of_getElem? (Cd_get hk))
  have ha : ∀ i c, cs[i]? = some c → (S8.J (jsF set cs tk) i).a = c.a := fun i c hc => by
    rw [jsF_at (List.getElem?_eq_some_iff.1 hc).1]
    show (cs.getD i ⟨0, 0⟩).a = c.a
    rw [List.getD_eq_getElem?_getD, hc]; rfl
  have hsp : ∀ i j, i < j → j < cs.length → kt i = kt j → (S8.J (jsF set cs tk) i).a + (Cd set (kt i)).t ≤ (S8.J (jsF set cs tk) j).a := fun i j hij hj hk => by
    obtain ⟨ci, hci⟩ : ∃ c, cs[i]? = some c := ⟨_, List.getElem?_eq_getElem (by omega)⟩
    obtain ⟨cj, hcj⟩ : ∃ c, cs[j]? = some c := ⟨_, List.getElem?_eq_getElem hj⟩
    rw [ha i ci hci, ha j cj hcj, hk, ← (hktl j hj).2]
    refine hap i j ci cj hij hci hcj ?_
    have w1 := hwh ci (List.mem_of_getElem? hci)
    have w2 := hwh cj (List.mem_of_getElem? hcj)
    have k1 : kt i = ci.k.toNat := by show (cs.getD i ⟨0, 0⟩).k.toNat = _; rw [List.getD_eq_getElem?_getD, hci]; rfl
    have k2 : kt j = cj.k.toNat := by show (cs.getD j ⟨0, 0⟩).k.toNat = _; rw [List.getD_eq_getElem?_getD, hcj]; rfl
    omega
  intro i c hc
  have hi : i < cs.length := (List.getElem?_eq_some_iff.1 hc).1
  obtain ⟨hk, hx⟩ := hktl i hi
  have hx0 := hok' _ hk
  have hworst := worstM_ok (failC_all set 0 hfail (Cd set (kt i)) (List.mem_of_getElem? (Cd_get hk)))
  have hD := hend i c hc
  rw [hx] at hD
  have hcc := (hcs i c hc).2.1
  obtain ⟨mi, hmi⟩ : ∃ m : Nat, c.a = (m : Int) := ⟨c.a.toNat, by omega⟩
  have hm : (S8.J (jsF set cs tk) i).a = (mi : Int) := by rw [ha i c hc, hmi]
  -- well
  obtain ⟨W0, w1, w2, w3, -, w5⟩ := wOf_some hworst.1
  obtain ⟨W, rfl⟩ : ∃ W : Nat, W0 = (W : Int) := ⟨W0.toNat, by omega⟩
  have hwell : wellF set (Cd set (kt i)) = (W : Int) := by unfold wellF; rw [w5]; omega
  unfold okCr at hx0
  have hWsum : (Cd set (kt i)).c + FK.sumN set.length (fun k => if k ≠ kt i ∧ (Cd set (kt i)).p ≤ (Cd set k).p then ((W : Int) + 0 + (Cd set k).t - 1) / (Cd set k).t * (Cd set k).c else 0) ≤ (W : Int) := by
    have e : FK.sumN set.length (fun k => if k ≠ kt i ∧ (Cd set (kt i)).p ≤ (Cd set k).p then ((W : Int) + 0 + (Cd set k).t - 1) / (Cd set k).t * (Cd set k).c else 0) = aheadF (upC (W : Int)) (Cd set (kt i)).p set := by
      rw [aheadF_all]
      refine FK.sumN_eq _ (fun k hkl => ?_)
      by_cases hlt : (Cd set (kt i)).p < (Cd set k).p
      · rw [if_pos hlt, if_pos ⟨fun e => by rw [e] at hlt; omega, by omega⟩]
        unfold upC
        rw [Int.add_zero]
      · rw [if_neg hlt]
        by_cases hke : k = kt i
        · rw [if_neg (fun h => h.1 hke)]
        · have := chkC_dist' hC hkl hk hke
          rw [if_neg (fun h => by omega)]
    rw [e]
    exact Int.le_of_eq w3
  have hwl := R.well (m := set.length) (T := fun k => (Cd set k).t) (i := i) (mi := mi) (W := W) (fun j hj => (hktl j hj).1) (fun k hkl => by have := hok' k hkl; unfold okCr at this; exact ⟨by omega, by omega⟩) hsp hi hm (by omega) (by show (W : Int) ≤ (Cd set (kt i)).t; omega) hWsum
  have hfin : ∀ q : Nat, q ≤ n → (S8.J (jsF set cs tk) i).c - S8.L (f q).left i = (S8.J (jsF set cs tk) i).c → ∃ e, s.ends[i]? = some e ∧ 1 ≤ e ∧ e ≤ (q : Int) := fun q hq hz => by
    have := ends_ofT hjob hp hs n (Nat.le_refl _) i (by rw [hlen]; exact hi) q hq (by omega)
    rw [e1] at this
    exact this
  rw [hx, hworst.2.1, hwell]
  constructor
  · intro hhi
    have hhi' : (Cd set (kt i)).hi = true := by rw [← hx]; exact hhi
    obtain ⟨hil, hil2⟩ := hworst.2.2 hhi'
    obtain ⟨V0, v1, v2, v3, -, v5⟩ := wOf_some hil
    obtain ⟨V, rfl⟩ : ∃ V : Nat, V0 = (V : Int) := ⟨V0.toNat, by omega⟩
    have hill : illF set (Cd set (kt i)) = (V : Int) := by unfold illF; rw [v5]; omega
    rw [hil2, hill]
    rcases hwl with ⟨q, q1, q2, q3, q4⟩ | ⟨t0, t1, t2, t3, t4⟩
    · obtain ⟨e, h1, h2, h3⟩ := hfin q (by omega) q4
      exact ⟨e, h1, by omega, by omega⟩
    · have hmin : Tn < t0 + W := by omega
      have hVsum : (Cd set (kt i)).h + FK.sumN set.length (fun k => if k ≠ kt i ∧ (Cd set (kt i)).p ≤ (Cd set k).p then (((if (Cd set k).hi = true then V else W : Nat) : Int) + 0 + (Cd set k).t - 1) / (Cd set k).t * (if (Cd set k).hi = true then (Cd set k).h else (Cd set k).c) else 0) ≤ (V : Int) := by
        have e : FK.sumN set.length (fun k => if k ≠ kt i ∧ (Cd set (kt i)).p ≤ (Cd set k).p then (((if (Cd set k).hi = true then V else W : Nat) : Int) + 0 + (Cd set k).t - 1) / (Cd set k).t * (if (Cd set k).hi = true then (Cd set k).h else (Cd set k).c) else 0) = aheadF (upI (W : Int) (V : Int)) (Cd set (kt i)).p set := by
          rw [aheadF_all]
          refine FK.sumN_eq _ (fun k hkl => ?_)
          by_cases hlt : (Cd set (kt i)).p < (Cd set k).p
          · rw [if_pos hlt, if_pos ⟨fun e => by rw [e] at hlt; omega, by omega⟩]
            unfold upI
            rw [Int.add_zero]
            by_cases hh : (Cd set k).hi = true
            · rw [if_pos hh, if_pos hh, if_pos hh]
            · rw [if_neg hh, if_neg hh, if_neg hh]
          · rw [if_neg hlt]
            by_cases hke : k = kt i
            · rw [if_neg (fun h => h.1 hke)]
            · have := chkC_dist' hC hkl hk hke
              rw [if_neg (fun h => by omega)]
        rw [e]
        have v3' : (Cd set (kt i)).h + aheadF (upI (wellF set (Cd set (kt i))) (V : Int)) (Cd set (kt i)).p set = (V : Int) := v3
        rw [hwell] at v3'
        exact Int.le_of_eq v3'
      have hdone := R.ill (m := set.length) (T := fun k => (Cd set k).t) (D := fun k => (Cd set k).h) (i := i) (mi := mi) (W := W) (V := V) (fun j hj => (hktl j hj).1) (fun k hkl => by have := hok' k hkl; unfold okCr at this; exact ⟨by omega, by omega, by omega⟩) hsp (fun j hj => by
        obtain ⟨cj, hcj⟩ : ∃ c, cs[j]? = some c := ⟨_, List.getElem?_eq_getElem hj⟩
        have h4 := (hcs j cj hcj).2.2.2
        rw [jsF_at hj]
        show tk.getD j 0 ≤ _
        rw [(hktl j hj).2] at h4
        by_cases hh : (Cd set (kt j)).hi = true
        · rw [if_pos hh]; exact h4
        · rw [if_neg hh, ← chkC_low hC (hktl j hj).1 (by simpa using hh)]; exact h4) hi hhi' hm (by omega) (by show (V : Int) ≤ (Cd set (kt i)).t; omega) (by omega) hVsum t1 t2 t3 hmin
      obtain ⟨e, h1, h2, h3⟩ := hfin (mi + V) (by omega) hdone
      exact ⟨e, h1, by omega, by omega⟩
  · intro hT
    rcases hwl with ⟨q, q1, q2, q3, q4⟩ | ⟨t0, t1, t2, t3, t4⟩
    · obtain ⟨e, h1, h2, h3⟩ := hfin q (by omega) q4
      exact ⟨e, h1, by omega, by omega⟩
    · exfalso
      rcases hTT with ⟨hT1, hT2⟩ | ⟨hT1, hT2⟩
      · omega
      · omega
end Go.Proofs.Ytccoobcggbbciai
