import Derived.Test.YtcmoehednkaehadDoorWC
namespace Go.Proofs.YtcmoehednkaehadDoor
open Go.ChangeShapes Go.WideShapes Go.ChangeAt Go.RowKit

/-- What is open ahead of an instruction. -/
def osStep (x : In) (k : Nat) (os : List Nat) : List Nat := if x.op = 13 ∨ x.op = 16 then os ++ [k] else if x.op = 14 ∨ x.op = 17 then os.dropLast else os
def osAt (l : List In) : Nat → List Nat
  | 0 => []
  | k + 1 => osStep (l.getD k in0) k (osAt l k)
/-- What closes what, as far as is seen. -/
def clStep (x : In) (k : Nat) (os cs : List Nat) : List Nat := if x.op = 14 ∨ x.op = 17 then cs.set (os.getLast?.getD 0) k else cs
def clAt (l : List In) : Nat → List Nat
  | 0 => List.replicate l.length 0
  | k + 1 => clStep (l.getD k in0) k (osAt l k) (clAt l k)
def clF (l : List In) (o : Nat) : Nat := (clAt l l.length).getD o 0

theorem clAt_len (l : List In) : ∀ k, (clAt l k).length = l.length
  | 0 => by simp [clAt]
  | k + 1 => by
    show (clStep _ _ _ _).length = _
    unfold clStep
    split
    · rw [List.length_set]; exact clAt_len l k
    · exact clAt_len l k

theorem mem_drop {os : List Nat} {o : Nat} (h : o ∈ os.dropLast) : o ∈ os := (List.dropLast_sublist _).subset h

theorem osAt_asc (l : List In) : ∀ k, (osAt l k).Pairwise (· < ·) ∧ ∀ o ∈ osAt l k, o < k
  | 0 => by simp [osAt]
  | k + 1 => by
    obtain ⟨h1, h2⟩ := osAt_asc l k
    show (osStep _ _ _).Pairwise _ ∧ ∀ o ∈ osStep _ _ _, _
    unfold osStep
    split
    · refine ⟨List.pairwise_append.2 ⟨h1, by simp, fun a ha b hb => ?_⟩, fun o ho => ?_⟩
      · simp at hb; subst hb; exact h2 a ha
      · rw [List.mem_append] at ho
        rcases ho with ho | ho
        · have := h2 o ho; omega
        · simp at ho; omega
    split
    · exact ⟨h1.sublist (List.dropLast_sublist _), fun o ho => by have := h2 o (mem_drop ho); omega⟩
    · exact ⟨h1, fun o ho => by have := h2 o ho; omega⟩

theorem last_split {os : List Nat} (h : os ≠ []) : os = os.dropLast ++ [os.getLast?.getD 0] := by
  rcases ho : os.getLast? with _ | o
  · exact absurd (List.getLast?_eq_none_iff.1 ho) h
  · obtain ⟨ys, rfl⟩ := List.getLast?_eq_some_iff.1 ho
    simp

/-- What was closed is not open again. -/
theorem osAt_gone {l : List In} {o k : Nat} (ho : o < k) (h : o ∉ osAt l k) : ∀ d, o ∉ osAt l (k + d)
  | 0 => h
  | d + 1 => by
    have ih := osAt_gone ho h d
    show o ∉ osStep _ _ _
    unfold osStep
    split
    · rw [List.mem_append]; simp; exact ⟨ih, by omega⟩
    split
    · exact fun e => ih (mem_drop e)
    · exact ih

/-- What closes a region is told at the end, too. -/
theorem clAt_stays {l : List In} {o k : Nat} (ho : o < k) (h : o ∉ osAt l k) (hne : ∀ j, k ≤ j → j < l.length → ((l.getD j in0).op = 14 ∨ (l.getD j in0).op = 17) → osAt l j ≠ []) : ∀ d, k + d ≤ l.length → (clAt l (k + d)).getD o 0 = (clAt l k).getD o 0
  | 0, _ => rfl
  | d + 1, hd => by
    have ih := clAt_stays ho h hne d (by omega)
    have hg := osAt_gone ho h d
    have e0 : clAt l (k + (d + 1)) = clStep (l.getD (k + d) in0) (k + d) (osAt l (k + d)) (clAt l (k + d)) := rfl
    rw [e0]
    unfold clStep
    split
    · rename_i e
      have hm : (osAt l (k + d)).getLast?.getD 0 ≠ o := fun e2 => by
        have h3 := last_split (hne (k + d) (by omega) (by omega) e)
        rw [e2] at h3
        exact hg (by rw [h3]; simp)
      rw [List.getD_eq_getElem?_getD, List.getElem?_set_ne hm, ← List.getD_eq_getElem?_getD]
      exact ih
    · exact ih

/-- What opens a region has been closed where nothing is open. -/
theorem osAt_shut {l : List In} {o : Nat} : ∀ d j, o ∈ osAt l j → o ∉ osAt l (j + d) → ∃ k, j ≤ k ∧ k < j + d ∧ ((l.getD k in0).op = 14 ∨ (l.getD k in0).op = 17) ∧ osAt l k = osAt l (k + 1) ++ [o]
  | 0, j, h, h' => absurd h h'
  | d + 1, j, h, h' => by
    by_cases hj : o ∈ osAt l (j + 1)
    · obtain ⟨k, h1, h2, h3⟩ := osAt_shut d (j + 1) hj (by rw [show j + 1 + d = j + (d + 1) by omega]; exact h')
      exact ⟨k, by omega, by omega, h3⟩
    · refine ⟨j, Nat.le_refl _, by omega, ?_⟩
      have e : osAt l (j + 1) = osStep (l.getD j in0) j (osAt l j) := rfl
      unfold osStep at e
      split at e
      · rw [e] at hj; exact absurd (List.mem_append.2 (.inl h)) hj
      split at e
      · rename_i h1
        have hne : osAt l j ≠ [] := fun e0 => by rw [e0] at h; cases h
        have hs := last_split hne
        rw [e] at hj
        rw [hs, List.mem_append] at h
        rcases h with h | h
        · exact absurd h hj
        · refine ⟨h1, ?_⟩
          have h2 : o = (osAt l j).getLast?.getD 0 := by simpa using h
          rw [e, h2]
          exact hs
      · rw [e] at hj; exact absurd h hj

theorem docOf_step {l : List In} {j : Nat} {x : In} {os : List Nat} (h0' : (docOf l j x os).1 = 0) : (docOf l j x os).2 = osStep x j os := by
  by_cases e : x.op = 13 ∨ x.op = 16
  · have e1 : osStep x j os = os ++ [j] := by unfold osStep; rw [if_pos e]
    rw [e1]
    unfold docOf at *
    rw [if_pos e] at *
    split at h0'
    · dsimp only at h0'; split at h0' <;> simp at h0'
    · rename_i e2; rw [if_neg e2]
  by_cases e14 : x.op = 14
  · have e1 : osStep x j os = os.dropLast := by unfold osStep; rw [if_neg e, if_pos (.inl e14)]
    rw [e1]
    unfold docOf at *
    rw [if_neg e, if_pos e14] at *
    split at h0'
    · simp at h0'
    · rename_i e2; rw [if_neg e2]
  by_cases e17 : x.op = 17
  · have e1 : osStep x j os = os.dropLast := by unfold osStep; rw [if_neg e, if_pos (.inr e17)]
    rw [e1]
    unfold docOf at *
    rw [if_neg e, if_neg e14, if_pos e17] at *
    split at h0'
    · simp at h0'
    · rename_i e2; rw [if_neg e2]
  have e1 : osStep x j os = os := by unfold osStep; rw [if_neg e, if_neg (fun z => z.elim e14 e17)]
  rw [e1]
  unfold docOf
  rw [if_neg e, if_neg e14, if_neg e17]
  split
  · split <;> rfl
  · rfl

theorem docNest_all {l : List In} : ∀ (n j : Nat) (os : List Nat) (rs rs' : List (Nat × Nat)) (os' : List Nat), l.length - j = n → j ≤ l.length → docNest l (l.drop j) j os rs = .inr (os', rs') → os = osAt l j → os' = osAt l l.length ∧ ∀ k, j ≤ k → k < l.length → (docOf l k (l.getD k in0) (osAt l k)).1 = 0
  | 0, j, os, rs, rs', os', hn, hj, h, ho => by
    have : j = l.length := by omega
    subst this
    rw [List.drop_length, docNest] at h
    cases h
    exact ⟨ho, fun k h1 h2 => by omega⟩
  | n + 1, j, os, rs, rs', os', hn, hj, h, ho => by
    rw [drop_at (by omega), docNest] at h
    split at h
    · cases h
    rename_i h0
    have h0' : (docOf l j (l.getD j in0) os).1 = 0 := Classical.not_not.1 h0
    have hst : (docOf l j (l.getD j in0) os).2 = osAt l (j + 1) := by
      show _ = osStep _ _ _
      rw [← ho]
      exact docOf_step h0'
    obtain ⟨q1, q2⟩ := docNest_all n (j + 1) _ _ rs' os' (by omega) (by omega) h hst
    refine ⟨q1, fun k h1 h2 => ?_⟩
    by_cases hk : k = j
    · subst hk; rw [← ho]; exact h0'
    · exact q2 k (by omega) h2

theorem nest_ws {l : List In} : ∀ (n j : Nat) (os : List Nat) (rs : List (Nat × Nat)) (ws : List Int) (os' : List Nat) (ws' : List Int), l.length - j = n → j ≤ l.length → NI l j os rs ws → os = osAt l j → (∀ k, k < j → ws.getD k 0 = beginOf (osAt l k).getLast?) → nestScan l (l.drop j) j os ws = .inr (os', ws') → ∀ k, k < l.length → ws'.getD k 0 = beginOf (osAt l k).getLast?
  | 0, j, os, rs, ws, os', ws', hn, hj, hni, ho, hw, h => by
    have : j = l.length := by omega
    subst this
    rw [List.drop_length, nestScan] at h
    cases h
    exact hw
  | n + 1, j, os, rs, ws, os', ws', hn, hj, hni, ho, hw, h => by
    rw [nestScan_at l (by omega)] at h
    split at h
    · cases h
    rename_i h0
    have h0' : (nestOf l j (l.getD j in0) os).1 = 0 := Classical.not_not.1 h0
    have hdn := doc_nest hni.uq j (l.getD j in0)
    refine nest_ws n (j + 1) _ _ _ os' ws' (by omega) (by omega) (hni.step (by omega) h0') ?_ (fun k hk => ?_) h
    · rw [← hdn]
      rw [← hdn] at h0'
      show _ = osStep _ _ _
      rw [← ho]
      exact docOf_step h0'
    · rw [List.getD_eq_getElem?_getD, List.getElem?_set]
      by_cases e : j = k
      · subst e
        rw [if_pos rfl, if_pos (by have := hni.len; omega), ho]; rfl
      · rw [if_neg e, ← List.getD_eq_getElem?_getD]
        exact hw k (by omega)

theorem osAt_prefix (l : List In) : ∀ k p o, (p ++ [o]) <+: osAt l k → osAt l o = p
  | 0, p, o, hp => by
    have := List.prefix_nil.1 hp
    simp at this
  | k + 1, p, o, hp => by
    have ih := osAt_prefix l k p o
    have e : osAt l (k + 1) = osStep (l.getD k in0) k (osAt l k) := rfl
    rw [e] at hp
    unfold osStep at hp
    split at hp
    · rcases List.prefix_concat_iff.1 hp with e | e
      · obtain ⟨e1, e2⟩ := List.append_inj' e rfl
        simp at e2
        subst e2 e1
        rfl
      · exact ih e
    split at hp
    · exact ih (hp.trans (List.dropLast_prefix _))
    · exact ih hp

theorem osAt_eq {l : List In} {k t : Nat} (h : beginOf (osAt l t).getLast? = beginOf (osAt l k).getLast?) : osAt l t = osAt l k := by
  rcases hk : (osAt l k).getLast? with _ | o
  · rcases ht : (osAt l t).getLast? with _ | p
    · rw [List.getLast?_eq_none_iff] at hk ht; rw [hk, ht]
    · rw [hk, ht] at h; simp only [beginOf] at h; omega
  · rcases ht : (osAt l t).getLast? with _ | p
    · rw [hk, ht] at h; simp only [beginOf] at h; omega
    · rw [hk, ht] at h
      simp only [beginOf] at h
      have : p = o := by omega
      subst this
      obtain ⟨a, ha⟩ := List.getLast?_eq_some_iff.1 hk
      obtain ⟨b, hb⟩ := List.getLast?_eq_some_iff.1 ht
      have h1 := osAt_prefix l k a p (by rw [ha]; exact List.prefix_refl _)
      have h2 := osAt_prefix l t b p (by rw [hb]; exact List.prefix_refl _)
      rw [ha, hb, ← h1, ← h2]

/-- The regions of an image with which nothing is wrong. -/
theorem nst_of {l : List In} (h : docI l = (0, 0)) : Nst l (osAt l) (clF l) ∧ (∀ k, k < l.length → ((l.getD k in0).op = 13 ∨ (l.getD k in0).op = 16) → k < clF l k ∧ clF l k < l.length) ∧ ∀ k, k < l.length → ((l.getD k in0).op = 11 ∨ (l.getD k in0).op = 12) → k < (l.getD k in0).a.toNat ∧ (l.getD k in0).a.toNat ≤ l.length := by
  unfold docI at h
  by_cases hl : 2000 < l.length
  · rw [if_pos hl] at h; simp at h
  rw [if_neg hl] at h
  rcases hf : scan (fun _ x => formErr x) l 0 with _ | ⟨c, k⟩
  rotate_left 1
  · rw [hf] at h; exact absurd (congrArg Prod.fst h) (scan_bad _ l 0 hf)
  rw [hf] at h
  dsimp only at h
  rcases hn : docNest l l 0 [] [] with ⟨c, k⟩ | ⟨_ | ⟨o, os⟩, rs⟩
  · rw [hn] at h; exact absurd (congrArg Prod.fst h) (docNest_bad l l 0 [] [] hn)
  rotate_left 1
  · rw [hn] at h
    have := congrArg Prod.fst h
    dsimp only at this
    split at this <;> simp at this
  rw [hn] at h
  dsimp only at h
  rcases hj : scan (docJump l rs) l 0 with _ | ⟨c, k⟩
  rotate_left 1
  · rw [hj] at h; exact absurd (congrArg Prod.fst h) (scan_bad _ l 0 hj)
  obtain ⟨hend, hall⟩ := docNest_all (l := l) l.length 0 [] [] rs [] (by omega) (by omega) (by rw [List.drop_zero]; exact hn) rfl
  have hall' : ∀ k, k < l.length → (docOf l k (l.getD k in0) (osAt l k)).1 = 0 := fun k hk => hall k (Nat.zero_le _) hk
  have hNI := doc_scan (l := l) l.length 0 [] [] _ rfl (Nat.zero_le _) (NI.start l)
  rw [List.drop_zero] at hNI
  rcases hNI with ⟨e, -, h1⟩ | ⟨os2, rs2, ws, h2, h1, hni⟩
  · rw [hn] at h1; cases h1
  rw [hn] at h1
  cases h1
  have hws := nest_ws (l := l) l.length 0 [] [] _ _ ws (by omega) (by omega) (NI.start l) rfl (by intro k hk; omega) (by rw [List.drop_zero]; exact h2)
  have hfin : osAt l l.length = [] := hend.symm
  have hwn : ws.getD l.length 0 = beginOf (osAt l l.length).getLast? := by rw [hni.zer _ (Nat.le_refl _), hfin]; rfl
  have hnext : ∀ k, osAt l (k + 1) = osStep (l.getD k in0) k (osAt l k) := fun _ => rfl
  have hclose : ∀ k, k < l.length → ((l.getD k in0).op = 14 ∨ (l.getD k in0).op = 17) → osAt l k ≠ [] := fun k hk e e0 => by
    have := hall' k hk
    unfold docOf at this
    rw [if_neg (by omega)] at this
    rcases e with e | e
    · rw [if_pos e, if_pos (.inl e0)] at this; simp at this
    · rw [if_neg (by omega), if_pos e, if_pos (.inl e0)] at this; simp at this
  have hcl : ∀ k o, k < l.length → ((l.getD k in0).op = 14 ∨ (l.getD k in0).op = 17) → osAt l k = osAt l (k + 1) ++ [o] → clF l o = k := fun k o hk e he => by
    have hlo : o < k := (osAt_asc l k).2 o (by rw [he]; simp)
    have hgone : o ∉ osAt l (k + 1) := fun hm => by
      have hp := (osAt_asc l k).1
      rw [he, List.pairwise_append] at hp
      have := hp.2.2 o hm o (by simp)
      omega
    have hst := clAt_stays (l := l) (o := o) (k := k + 1) (by omega) hgone (fun j _ hj ej => hclose j hj ej) (l.length - (k + 1)) (by omega)
    rw [show k + 1 + (l.length - (k + 1)) = l.length by omega] at hst
    unfold clF
    rw [hst]
    show (clStep _ _ _ _).getD o 0 = k
    unfold clStep
    rw [if_pos e]
    have hlast : (osAt l k).getLast?.getD 0 = o := by rw [he]; simp
    rw [hlast, List.getD_eq_getElem?_getD, List.getElem?_set, if_pos rfl, if_pos (by rw [clAt_len]; omega)]
    rfl
  have hpush : ∀ k, k < l.length → ((l.getD k in0).op = 13 ∨ (l.getD k in0).op = 16) → osAt l (k + 1) = osAt l k ++ [k] := fun k hk e => by
    rw [hnext]; unfold osStep; rw [if_pos e]
  have hjmp : ∀ k, k < l.length → ((l.getD k in0).op = 11 ∨ (l.getD k in0).op = 12) → k < (l.getD k in0).a.toNat ∧ (l.getD k in0).a.toNat ≤ l.length ∧ osAt l (l.getD k in0).a.toNat = osAt l k := fun k hk e => by
    have hjk := scan_none _ l 0 hj k hk
    rw [Nat.zero_add, doc_jump hni hk] at hjk
    unfold jumpErr at hjk
    rw [if_neg (by omega)] at hjk
    split at hjk
    · simp at hjk
    rename_i hno
    have ha1 : ¬ (l.getD k in0).a ≤ k := fun z => hno (.inl z)
    have ha2 : ¬ (ws.length : Int) ≤ (l.getD k in0).a := fun z => hno (.inr (.inl z))
    have ha3 : ws.getD (l.getD k in0).a.toNat 0 = ws.getD k 0 := Classical.not_not.1 fun z => hno (.inr (.inr z))
    rw [hni.len] at ha2
    rw [hws k hk] at ha3
    refine ⟨by omega, by omega, osAt_eq ?_⟩
    by_cases hlt : (l.getD k in0).a.toNat < l.length
    · rw [← ha3, hws _ hlt]
    · rw [← ha3, show (l.getD k in0).a.toNat = l.length by omega, hwn]
  refine ⟨⟨rfl, hfin, hpush, fun k hk e o ho h13 ha => ?_, fun k hk e => ?_, fun k hk e => ?_, fun k hk e13 e14 e16 e17 => ?_, fun k hk e => ?_⟩, fun k hk e => ?_, fun k hk e => ⟨(hjmp k hk e).1, (hjmp k hk e).2.1⟩⟩
  · have := hall' k hk
    unfold docOf at this
    rw [if_pos (.inl e)] at this
    split at this
    · simp at this
    · rename_i hna
      refine hna ?_
      unfold amongI
      rw [List.any_eq_true]
      exact ⟨o, ho, by simp only [Bool.and_eq_true, decide_eq_true_eq]; exact ⟨h13.trans e.symm, ha⟩⟩
  · have hne := hclose k hk (.inl e)
    have hs := last_split hne
    have hd : osAt l (k + 1) = (osAt l k).dropLast := by rw [hnext]; unfold osStep; rw [if_neg (by omega), if_pos (.inl e)]
    rw [← hd] at hs
    have := hall' k hk
    unfold docOf at this
    rw [if_neg (by omega), if_pos e] at this
    split at this
    · simp at this
    rename_i hno
    refine ⟨_, hs, ?_, ?_, ?_, hcl k _ hk (.inl e) hs⟩
    · exact Classical.not_not.1 fun z => hno (.inr (.inl z))
    · exact Classical.not_not.1 fun z => hno (.inr (.inr (.inl z)))
    · exact Classical.not_not.1 fun z => hno (.inr (.inr (.inr z)))
  · have hne := hclose k hk (.inr e)
    have hs := last_split hne
    have hd : osAt l (k + 1) = (osAt l k).dropLast := by rw [hnext]; unfold osStep; rw [if_neg (by omega), if_pos (.inr e)]
    rw [← hd] at hs
    have := hall' k hk
    unfold docOf at this
    rw [if_neg (by omega), if_neg (by omega), if_pos e] at this
    split at this
    · simp at this
    rename_i hno
    exact ⟨_, hs, Classical.not_not.1 fun z => hno (.inr (.inl z)), hcl k _ hk (.inr e) hs⟩
  · rw [hnext]; unfold osStep; rw [if_neg (by omega), if_neg (by omega)]
  · exact (hjmp k hk e).2.2
  · have hm : k ∈ osAt l (k + 1) := by rw [hpush k hk e]; simp
    obtain ⟨j, h1, h2, h3, h4⟩ := osAt_shut (l.length - (k + 1)) (k + 1) hm (by rw [show k + 1 + (l.length - (k + 1)) = l.length by omega, hfin]; simp)
    rw [hcl j k (by omega) h3 h4]
    omega


end Go.Proofs.YtcmoehednkaehadDoor
