import Derived.Test.YtcmoehednkaehahON
namespace Go.Proofs.Ytcmoehednkaehah
open Once

/-- One that comes now is not held up yet. -/
theorem up_new {l : List Lj} (ok : Ok l) {x : Rs} (hle : x.es.map En.x = l) (hrn : ∀ e ∈ x.es, 0 ≤ e.rn) {runs : List Int} {j : Nat} {xj : Lj} {now : Nat} (hj : l[j]? = some xj) (ha : now ≤ xj.a.toNat) : Up (yS l) (sx x) (lfS x) j (heldF l runs xj.p xj.a.toNat now) (mostF xj.p l) := by
  rw [heldF_none _ _ _ _ _ ha]
  refine Up.start (mostF_nonneg _ _) (fun r hr hd => ?_)
  by_cases hlr : r < x.es.length
  · have he : x.es[r]? = some x.es[r] := List.getElem?_eq_getElem hlr
    generalize x.es[r] = e at he
    have hjr : l[r]? = some e.x := by rw [← hle, List.getElem?_map, he]; rfl
    rw [sx_lf he]
    rw [yS_p hjr, yS_p hj] at hr
    have h1 := lfE_le (e := e) (ok.acts _ (List.mem_of_getElem? hjr)).2 (hrn e (List.mem_of_getElem? he))
    have h2 := mostF_ge xj.p l e.x (List.mem_of_getElem? hjr) hr
    omega
  · exfalso
    apply hd
    show (match x.es[r]? with | some e => hdE e | none => []) = []
    rw [List.getElem?_eq_none (by omega)]

theorem hc_of {l : List Lj} {i : Nat} {x : Lj} (h : l[i]? = some x) (p : Int) : hc l p (i : Int) = if x.p < p then 1 else 0 := by
  unfold hc
  rw [if_pos (by omega), Int.toNat_natCast, h]

/-- A state behind a tick of work. -/
theorem G.tick {l : List Lj} (ok : Ok l) {now : Nat} {runs : List Int} {x : Rs} (g : G l now runs x) {i : Nat} {e e2 : En} (hf : Fm (yS l) (sx x) now i) (he : x.es[i]? = some e) (hen : x.en[i]? = some (-1)) (hx : e2.x = e.x) (hw : e2.wt = -1) (hb : e2.bg = true) (hr : 0 ≤ e2.rn ∧ ∀ a, e.x.acts[e2.nx]? = some a → (a.d = 1 → e2.rn < a.n) ∧ (a.d ≠ 1 → e2.rn = 0))
    {last : Bool} (hl : last = true → e2.nx = e.x.acts.length) (hl2 : last = false → e2.nx < e.x.acts.length) (hd : hdE e2 = hdE e) (hl3 : last = true → hdE e = []) (hlf : hdE e ≠ [] → 0 ≤ lfE e2 ∧ lfE e2 + 1 ≤ lfE e) : G l (now + 1) (runs ++ [(i : Int)]) (nxt x i e2 last (now + 1) x.hs) := by
  have hs0 := sx_step (last := last) (hs := x.hs) he hen hb (z := (now : Int) + 1) (by omega)
  have hh : setH (sx x).hd i (hdE e2) = (sx x).hd := by
    funext k
    by_cases hk : k = i
    · subst hk; rw [setH_same, sx_hd he, hd]
    · exact setH_other _ _ hk
  rw [hh] at hs0
  have hjob := g.job he
  have hrn2 : ∀ e' ∈ (nxt x i e2 last ((now : Int) + 1) x.hs).es, 0 ≤ e'.rn := by
    intro e' he'
    rcases List.mem_or_eq_of_mem_set he' with h | rfl
    · exact (g.rn e' h).1
    · exact hr.1
  have hle2 : (nxt x i e2 last ((now : Int) + 1) x.hs).es.map En.x = l := by
    show (x.es.set i e2).map En.x = l
    rw [List.map_set, hx, set_same (by rw [List.getElem?_map, he]; rfl), g.le]
  refine g.plain (now2 := now + 1) (z := (now : Int) + 1) (by omega) he hen hx hw ⟨by omega, by omega⟩ hl hl2 hr g.nh ?_ ?_ (fun j xj hj hq ha => ?_) (fun j xj q hj hq hne => ?_) (by rw [List.length_append, g.rl]; rfl)
  · rw [hs0]
    exact g.hs
  · rw [hs0]
    have v := g.inv.begin hf
    by_cases hlt : last = true
    · rw [if_pos hlt]
      exact (v.done (i := i) (by show (sx x).hd i = []; rw [sx_hd he]; exact hl3 hlt)).later (by omega)
    · rw [if_neg hlt]
      exact v.later (by omega)
  · have hq' : x.en[j]? = some (-1) := by
      rcases nxt_en hen hq with ⟨h, -⟩ | ⟨-, -, h⟩
      · exact h
      · omega
    have hxa := (ok.at_ xj (List.mem_of_getElem? hj)).1
    by_cases hnew : xj.a ≤ now
    · have u := g.up j xj hj hq' hnew
      have hjl := (List.getElem?_eq_some_iff.1 hj).1
      have hth : There (yS l) (sx x) now j := ⟨hjl, by rw [yS_a hj]; exact hnew, by rw [sx_dn hq']; simp⟩
      rw [heldF_more g.rl (by omega), hc_of hjob]
      refine up_cong (s := sx x) (fun r => by rw [hs0]) ?_
      by_cases hp : e.x.p < xj.p
      · rw [if_pos hp]
        refine Up.low g.inv u hth hf (by rw [yS_p hjob, yS_p hj]; exact hp) (fun r hr => lf_step hr) (fun h => ?_)
        rw [lf_self he, sx_lf he]
        rw [sx_hd he] at h
        exact hlf h
      · rw [if_neg hp, Int.add_zero]
        exact Up.high u (f := i) (by rw [yS_p hjob, yS_p hj]; omega) (fun r hr => lf_step hr)
    · exact up_new ok hle2 hrn2 hj (by omega)
  · rcases nxt_en hen hq with ⟨h, -⟩ | ⟨rfl, -, rfl⟩
    · have hes : ∃ e', x.es[j]? = some e' := ⟨_, List.getElem?_eq_getElem (by have := (List.getElem?_eq_some_iff.1 hj).1; have := g.len; omega)⟩
      obtain ⟨e', he'⟩ := hes
      have hz := (g.st j e' q he' h).resolve_left (fun h => hne h.1)
      rw [heldF_same g.rl (by omega)]
      exact g.dn j xj q hj h hne
    · have ha := hf.1.2.1
      rw [yS_a hj] at ha
      have hxa := (ok.at_ xj (List.mem_of_getElem? hj)).1
      rw [hjob] at hj
      cases hj
      rw [show ((now : Int) + 1).toNat = now + 1 by omega, heldF_more g.rl (by omega), hc_of hjob, if_neg (by omega), Int.add_zero]
      exact (g.up j e.x hjob hen ha).1

theorem left_work {e : En} {an : Int} (ha : e.x.acts[e.nx]? = some ⟨1, an⟩) (h : hdE e ≠ []) : lfE e = an + leftF (e.x.acts.drop (e.nx + 1)) (stkF (e.x.acts.take e.nx)).length - e.rn := by
  have hnx := (List.getElem?_eq_some_iff.1 ha).1
  have hd := (List.getElem?_eq_some_iff.1 ha).2
  have hne2 : stkF (e.x.acts.take e.nx) ≠ [] := fun h' => h (by unfold hdE; rw [h']; rfl)
  obtain ⟨q, hq⟩ : ∃ q, (stkF (e.x.acts.take e.nx)).length = q + 1 := ⟨(stkF (e.x.acts.take e.nx)).length - 1, by have := List.length_pos_iff.2 hne2; omega⟩
  unfold lfE
  rw [List.drop_eq_getElem_cons hnx, hd, hq, leftF, if_neg (by simp), if_neg (by simp)]

/-- One works, and its act goes on. -/
theorem G.work {l : List Lj} (ok : Ok l) {now : Nat} {runs : List Int} {x : Rs} (g : G l now runs x) {i : Nat} {e : En} {an : Int} (hf : Fm (yS l) (sx x) now i) (he : x.es[i]? = some e) (hen : x.en[i]? = some (-1)) (ha : e.x.acts[e.nx]? = some ⟨1, an⟩) (hm : e.rn + 1 ≠ an) :
    0 ≤ e.rn ∧ e.rn + 1 < an ∧ G l (now + 1) (runs ++ [(i : Int)]) (nxt x i { e with bg := true, rn := e.rn + 1 } false (now + 1) x.hs) := by
  obtain ⟨r0, hr⟩ := g.rn e (List.mem_of_getElem? he)
  have r1 := (hr _ ha).1 rfl
  dsimp only at r1
  have hnx := (List.getElem?_eq_some_iff.1 ha).1
  refine ⟨r0, by omega, g.tick ok (e2 := { e with bg := true, rn := e.rn + 1 }) (last := false) hf he hen rfl (g.wt e (List.mem_of_getElem? he)) rfl ⟨by show 0 ≤ e.rn + 1; omega, fun a h => ?_⟩ (fun h => by cases h) (fun _ => hnx) rfl (fun h => by cases h) (fun h => ?_)⟩
  · change e.x.acts[e.nx]? = _ at h
    rw [ha] at h
    cases h
    exact ⟨fun _ => by show e.rn + 1 < an; omega, fun h => absurd rfl h⟩
  · have h1 := left_work ha h
    have h2 : lfE { e with bg := true, rn := e.rn + 1 } = lfE e - 1 := by unfold lfE; dsimp only; omega
    have h3 := leftF_nonneg (e.x.acts.drop (e.nx + 1)) (stkF (e.x.acts.take e.nx)).length (fun a h => chkA_pos (ok.acts _ (g.mem he)).2 a (List.mem_of_mem_drop h))
    omega

/-- One works, and its act is over. -/
theorem G.worked {l : List Lj} (ok : Ok l) {now : Nat} {runs : List Int} {x : Rs} (g : G l now runs x) {i : Nat} {e : En} {an : Int} (hf : Fm (yS l) (sx x) now i) (he : x.es[i]? = some e) (hen : x.en[i]? = some (-1)) (ha : e.x.acts[e.nx]? = some ⟨1, an⟩) (hm : e.rn + 1 = an) :
    0 ≤ e.rn ∧ G l (now + 1) (runs ++ [(i : Int)]) (nxt x i { e with bg := true, nx := e.nx + 1, rn := 0 } (decide (e.nx + 1 = e.x.acts.length)) (now + 1) x.hs) := by
  obtain ⟨r0, -⟩ := g.rn e (List.mem_of_getElem? he)
  have hnx := (List.getElem?_eq_some_iff.1 ha).1
  have hc := (ok.acts _ (g.mem he)).2
  have hst : stkF (e.x.acts.take (e.nx + 1)) = stkF (e.x.acts.take e.nx) := by rw [stkF_take ha]; simp [doS]
  refine ⟨r0, g.tick ok (e2 := { e with bg := true, nx := e.nx + 1, rn := 0 }) (last := decide (e.nx + 1 = e.x.acts.length)) hf he hen rfl (g.wt e (List.mem_of_getElem? he)) rfl (rn_zero hc _) (fun h => by simpa using h) (fun h => ?_) ?_ (fun h => ?_) (fun h => ?_)⟩
  · show e.nx + 1 < _
    simp at h
    omega
  · unfold hdE
    dsimp only
    rw [hst]
  · simp at h
    rw [h, List.take_length] at hst
    unfold hdE
    rw [← hst]
    have := chkA_end _ _ _ hc
    unfold stkF
    rw [this]
    rfl
  · have h1 := left_work ha h
    have h2 : lfE { e with bg := true, nx := e.nx + 1, rn := 0 } = leftF (e.x.acts.drop (e.nx + 1)) (stkF (e.x.acts.take e.nx)).length - 0 := by unfold lfE; dsimp only; rw [hst]
    have h3 := leftF_nonneg (e.x.acts.drop (e.nx + 1)) (stkF (e.x.acts.take e.nx)).length (fun a h => chkA_pos hc a (List.mem_of_mem_drop h))
    omega

/-- Nobody is there. -/
theorem G.idle {l : List Lj} (ok : Ok l) {now : Nat} {runs : List Int} {x : Rs} (g : G l now runs x) (hno : ∀ (i : Nat) (y : Lj), l[i]? = some y → x.en[i]? = some (-1) → ¬ y.a ≤ now) : G l (now + 1) (runs ++ [-1]) x := by
  refine ⟨g.le, g.ne, g.ws, g.nh, g.wt, fun i e z h1 h2 => ?_, g.rn, g.hs, g.inv.later (by omega), fun j xj hj hq ha => ?_, fun j xj z hj hq hne => ?_, by rw [List.length_append, g.rl]; rfl⟩
  · rcases g.st i e z h1 h2 with h | ⟨h1, h2, h3⟩
    · exact .inl h
    · exact .inr ⟨h1, by omega, h3⟩
  · have := hno j xj hj hq
    exact up_new ok g.le (fun e he => (g.rn e he).1) hj (by omega)
  · have hes : ∃ e', x.es[j]? = some e' := ⟨_, List.getElem?_eq_getElem (by have := (List.getElem?_eq_some_iff.1 hj).1; have := g.len; omega)⟩
    obtain ⟨e', he'⟩ := hes
    have hz := (g.st j e' z he' hq).resolve_left (fun h => hne h.1)
    rw [heldF_same g.rl (by omega)]
    exact g.dn j xj z hj hq hne

def en0 (y : Lj) : En := ⟨y, 0, 0, false, -1, 0⟩
def x0 (l : List Lj) : Rs := ⟨l.map en0, List.replicate l.length (-1), List.replicate l.length 0, [-1, -1, -1, -1]⟩

/-- Ahead of the first tick. -/
theorem G.start {l : List Lj} (ok : Ok l) : G l 0 [] (x0 l) := by
  have hat : ∀ (i : Nat) (e : En), (x0 l).es[i]? = some e → ∃ y, l[i]? = some y ∧ e = en0 y := by
    intro i e h
    unfold x0 at h
    dsimp only at h
    rw [List.getElem?_map] at h
    cases hy : l[i]? with
    | none => rw [hy] at h; simp at h
    | some y => rw [hy] at h; simp at h; exact ⟨y, rfl, h.symm⟩
  have hmem : ∀ e ∈ (x0 l).es, ∃ y ∈ l, e = en0 y := by
    intro e he
    obtain ⟨y, h1, h2⟩ := List.mem_map.1 he
    exact ⟨y, h1, h2.symm⟩
  have hhd : ∀ k, (sx (x0 l)).hd k = [] := by
    intro k
    show (match (x0 l).es[k]? with | some e => hdE e | Option.none => []) = []
    cases h : (x0 l).es[k]? with
    | none => rfl
    | some e =>
      obtain ⟨y, -, rfl⟩ := hat k e h
      simp [hdE, en0, stkF]
  have hs : sx (x0 l) = ⟨fun _ => False, fun _ => False, fun _ => []⟩ := by
    refine Sx.same (fun k => ⟨?_, False.elim⟩) (fun k => ⟨?_, False.elim⟩) hhd
    · rintro ⟨e, h1, h2⟩
      obtain ⟨y, -, rfl⟩ := hat k e h1
      cases h2
    · rintro ⟨z, h1, h2⟩
      have := List.mem_of_getElem? h1
      have := (List.mem_replicate.1 this).2
      exact h2 this
  have hle : (x0 l).es.map En.x = l := by
    show (l.map en0).map En.x = l
    rw [List.map_map]
    exact List.map_id'' (fun _ => rfl) l
  refine ⟨hle, by simp [x0], rfl, rfl, fun e he => ?_, fun i e z h1 h2 => ?_, fun e he => ?_, fun m hm => ?_, ?_, fun j xj hj hq ha => ?_, fun j xj z hj hq hne => ?_, rfl⟩
  · obtain ⟨y, -, rfl⟩ := hmem e he; rfl
  · obtain ⟨y, -, rfl⟩ := hat i e h1
    have := (List.mem_replicate.1 (List.mem_of_getElem? h2)).2
    refine .inl ⟨this, ?_⟩
    by_cases h : y.acts = []
    · exact .inr ⟨h, rfl⟩
    · exact .inl (List.length_pos_iff.2 h)
  · obtain ⟨y, hy, rfl⟩ := hmem e he
    exact rn_zero (ok.acts y hy).2 0
  · refine ⟨-1, ?_, .inl ⟨rfl, fun k => by rw [hhd]; simp⟩⟩
    have : m = 0 ∨ m = 1 ∨ m = 2 ∨ m = 3 := by omega
    rcases this with rfl | rfl | rfl | rfl <;> rfl
  · rw [hs]
    exact Inv.start _
  · exact up_new ok hle (fun e he => by obtain ⟨y, -, rfl⟩ := hmem e he; exact Int.le_refl _) hj (by omega)
  · exact absurd (List.mem_replicate.1 (List.mem_of_getElem? hq)).2 hne

/- What is left to do. -/
def mu (x : Rs) : Nat := (x.es.map (fun e => e.x.acts.length - e.nx)).sum + (x.en.map (fun z => if z = -1 then 1 else 0)).sum

theorem sum_set {α : Type} (f : α → Nat) : ∀ (l : List α) (i : Nat) (a b : α), l[i]? = some a → ((l.set i b).map f).sum + f a = (l.map f).sum + f b
  | [], _, _, _, h => by simp at h
  | c :: r, 0, a, b, h => by simp at h; subst h; simp; omega
  | c :: r, i + 1, a, b, h => by
    have := sum_set f r i a b (by simpa using h)
    simp at this ⊢
    omega

theorem mu_more {x : Rs} {i : Nat} {e e2 : En} {last : Bool} {z : Int} {hs : List Int} (he : x.es[i]? = some e) (hen : x.en[i]? = some (-1)) (hx : e2.x = e.x) (hn : e2.nx = e.nx + 1) (hlt : e.nx < e.x.acts.length) (hz : z ≠ -1) : mu (nxt x i e2 last z hs) < mu x := by
  have h1 := sum_set (fun e : En => e.x.acts.length - e.nx) x.es i e e2 he
  have h2 := sum_set (fun z : Int => if z = -1 then 1 else 0) x.en i (-1) z hen
  rw [hx, hn] at h1
  rw [if_neg hz] at h2
  unfold mu nxt
  cases last
  · simp only [Bool.false_eq_true, if_false]
    omega
  · simp only [if_true]
    simp only [if_true] at h2
    omega

theorem mu_none {x : Rs} {i : Nat} {e e2 : En} {z : Int} {hs : List Int} (he : x.es[i]? = some e) (hen : x.en[i]? = some (-1)) (hx : e2.x = e.x) (hn : e2.nx = e.nx) (hz : z ≠ -1) : mu (nxt x i e2 true z hs) < mu x := by
  have h1 := sum_set (fun e : En => e.x.acts.length - e.nx) x.es i e e2 he
  have h2 := sum_set (fun z : Int => if z = -1 then 1 else 0) x.en i (-1) z hen
  rw [hx, hn] at h1
  rw [if_neg hz] at h2
  unfold mu nxt
  simp only [if_true]
  simp only [if_true] at h2
  omega
end Go.Proofs.Ytcmoehednkaehah
