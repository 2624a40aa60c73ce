import Derived.Test.YtcmoehednkaehahOL
namespace Go.Proofs.Ytcmoehednkaehah
open Once

theorem Sx.same {s s' : Sx} (h1 : ∀ i, s.bg i ↔ s'.bg i) (h2 : ∀ i, s.dn i ↔ s'.dn i) (h3 : ∀ i, s.hd i = s'.hd i) : s = s' := by
  obtain ⟨a, b, c⟩ := s
  obtain ⟨a', b', c'⟩ := s'
  obtain rfl : a = a' := funext fun i => propext (h1 i)
  obtain rfl : b = b' := funext fun i => propext (h2 i)
  obtain rfl : c = c' := funext h3
  rfl

theorem up_cong {y : Sy} {s s' : Sx} {lf : Nat → Int} {j : Nat} {c m : Int} (h : ∀ r, s.hd r = s'.hd r) (u : Up y s lf j c m) : Up y s' lf j c m := by
  refine ⟨u.1, fun r hr ha => u.2 r hr ?_⟩
  unfold act at *
  rw [h r]
  exact ha

def nxt (x : Rs) (i : Nat) (e2 : En) (last : Bool) (z : Int) (hs : List Int) : Rs := ⟨x.es.set i e2, if last = true then x.en.set i z else x.en, x.ws, hs⟩

theorem set_same {α : Type} {l : List α} {i : Nat} {a : α} (h : l[i]? = some a) : l.set i a = l := by
  obtain ⟨h1, h2⟩ := List.getElem?_eq_some_iff.1 h
  rw [← h2, List.set_getElem_self]

theorem sx_step {x : Rs} {i : Nat} {e e2 : En} {last : Bool} {z : Int} {hs : List Int} (he : x.es[i]? = some e) (hen : x.en[i]? = some (-1)) (hb : e2.bg = true) (hz : z ≠ -1) :
    sx (nxt x i e2 last z hs) = ⟨setP (sx x).bg i, if last = true then setP (sx x).dn i else (sx x).dn, setH (sx x).hd i (hdE e2)⟩ := by
  have hi := (List.getElem?_eq_some_iff.1 he).1
  have hi2 := (List.getElem?_eq_some_iff.1 hen).1
  refine Sx.same (fun k => ?_) (fun k => ?_) (fun k => ?_)
  · by_cases hk : k = i
    · subst hk
      rw [sx_bg (x := nxt x k e2 last z hs) (e := e2) (by unfold nxt; exact List.getElem?_set_self hi)]
      exact ⟨fun _ => .inl rfl, fun _ => hb⟩
    · show (∃ e', (x.es.set i e2)[k]? = some e' ∧ _) ↔ (k = i ∨ ∃ e', x.es[k]? = some e' ∧ _)
      rw [List.getElem?_set_ne (by omega)]
      exact ⟨.inr, fun h => h.resolve_left hk⟩
  · cases last
    · exact Iff.rfl
    · show (∃ z', (x.en.set i z)[k]? = some z' ∧ _) ↔ (k = i ∨ ∃ z', x.en[k]? = some z' ∧ _)
      by_cases hk : k = i
      · subst hk
        rw [List.getElem?_set_self hi2]
        exact ⟨fun _ => .inl rfl, fun _ => ⟨z, rfl, hz⟩⟩
      · rw [List.getElem?_set_ne (by omega)]
        exact ⟨.inr, fun h => h.resolve_left hk⟩
  · by_cases hk : k = i
    · subst hk
      rw [sx_hd (x := nxt x k e2 last z hs) (e := e2) (by unfold nxt; exact List.getElem?_set_self hi)]
      exact (setH_same _ _ _).symm
    · show (match (x.es.set i e2)[k]? with | some e => hdE e | none => []) = setH _ i _ k
      rw [List.getElem?_set_ne (by omega), setH_other _ _ hk]
      rfl

theorem lf_step {x : Rs} {i : Nat} {e2 : En} {last : Bool} {z : Int} {hs : List Int} {r : Nat} (hr : r ≠ i) : lfS (nxt x i e2 last z hs) r = lfS x r := by
  unfold lfS nxt
  dsimp only
  rw [List.getElem?_set_ne (by omega)]
theorem lf_self {x : Rs} {i : Nat} {e e2 : En} {last : Bool} {z : Int} {hs : List Int} (he : x.es[i]? = some e) : lfS (nxt x i e2 last z hs) i = lfE e2 :=
  sx_lf (x := nxt x i e2 last z hs) (List.getElem?_set_self (List.getElem?_eq_some_iff.1 he).1)

theorem nxt_en {x : Rs} {i j : Nat} {e2 : En} {last : Bool} {z q : Int} {hs : List Int} (hen : x.en[i]? = some (-1)) (h : (nxt x i e2 last z hs).en[j]? = some q) : (x.en[j]? = some q ∧ (j = i → last = false)) ∨ (j = i ∧ last = true ∧ q = z) := by
  unfold nxt at h
  cases last
  · exact .inl ⟨h, fun _ => rfl⟩
  · dsimp only at h
    rw [if_pos rfl] at h
    by_cases hj : j = i
    · subst hj
      rw [List.getElem?_set_self (List.getElem?_eq_some_iff.1 hen).1] at h
      cases h
      exact .inr ⟨rfl, rfl, rfl⟩
    · rw [List.getElem?_set_ne (by omega)] at h
      exact .inl ⟨h, fun e => absurd e hj⟩

/-- What is plain of the next state. -/
theorem G.plain {l : List Lj} {now now2 : Nat} {runs runs2 : List Int} {x : Rs} (g : G l now runs x) (hnow : now ≤ now2) {i : Nat} {e e2 : En} (he : x.es[i]? = some e) (hen : x.en[i]? = some (-1)) (hx : e2.x = e.x) (hw : e2.wt = -1)
    {last : Bool} {z : Int} {hs : List Int} (hz : 0 ≤ z ∧ z ≤ now2) (hl : last = true → e2.nx = e.x.acts.length) (hl2 : last = false → e2.nx < e.x.acts.length) (hr : 0 ≤ e2.rn ∧ ∀ a, e.x.acts[e2.nx]? = some a → (a.d = 1 → e2.rn < a.n) ∧ (a.d ≠ 1 → e2.rn = 0)) (hh : hs.length = 4)
    (hhs : ∀ m : Nat, m < 4 → ∃ z', hs[m]? = some z' ∧ ((z' = -1 ∧ ∀ k, (m : Int) ∉ (sx (nxt x i e2 last z hs)).hd k) ∨ ∃ k : Nat, z' = (k : Int) ∧ k < l.length ∧ ∀ k', (m : Int) ∈ (sx (nxt x i e2 last z hs)).hd k' ↔ k' = k))
    (inv : Inv (yS l) (sx (nxt x i e2 last z hs)) now2)
    (up : ∀ (j : Nat) (xj : Lj), l[j]? = some xj → (nxt x i e2 last z hs).en[j]? = some (-1) → xj.a ≤ now2 → Up (yS l) (sx (nxt x i e2 last z hs)) (lfS (nxt x i e2 last z hs)) j (heldF l runs2 xj.p xj.a.toNat now2) (mostF xj.p l))
    (dn : ∀ (j : Nat) (xj : Lj) (q : Int), l[j]? = some xj → (nxt x i e2 last z hs).en[j]? = some q → q ≠ -1 → heldF l runs2 xj.p xj.a.toNat q.toNat ≤ mostF xj.p l)
    (rl : runs2.length = now2) : G l now2 runs2 (nxt x i e2 last z hs) := by
  refine ⟨?_, ?_, g.ws, hh, ?_, ?_, ?_, hhs, inv, up, dn, rl⟩
  · show (x.es.set i e2).map En.x = l
    rw [List.map_set, hx, set_same (by rw [List.getElem?_map, he]; rfl), g.le]
  · unfold nxt
    cases last
    · exact g.ne
    · dsimp only
      rw [if_pos rfl, List.length_set]
      exact g.ne
  · intro e' he'
    rcases List.mem_or_eq_of_mem_set he' with h | rfl
    · exact g.wt e' h
    · exact hw
  · intro k e' q hk hq
    by_cases hki : k = i
    · subst hki
      have : (nxt x k e2 last z hs).es[k]? = some e2 := List.getElem?_set_self (List.getElem?_eq_some_iff.1 he).1
      rw [this] at hk
      cases hk
      rw [hx]
      rcases nxt_en hen hq with ⟨h1, h2⟩ | ⟨-, h2, rfl⟩
      · rw [hen] at h1
        cases h1
        exact .inl ⟨rfl, .inl (hl2 (h2 rfl))⟩
      · exact .inr ⟨hz.1, hz.2, hl h2⟩
    · have hk' : x.es[k]? = some e' := by
        unfold nxt at hk
        dsimp only at hk
        rw [List.getElem?_set_ne (by omega)] at hk
        exact hk
      rcases nxt_en hen hq with ⟨h1, -⟩ | ⟨h1, -⟩
      · rcases g.st k e' q hk' h1 with h | ⟨h1, h2, h3⟩
        · exact .inl h
        · exact .inr ⟨h1, by omega, h3⟩
      · exact absurd h1 hki
  · intro e' he'
    rcases List.mem_or_eq_of_mem_set he' with h | rfl
    · exact g.rn e' h
    · rw [hx]
      exact hr

/-- A state behind an act that takes no time. -/
theorem G.quick {l : List Lj} {now : Nat} {runs : List Int} {x : Rs} (g : G l now runs x) {i : Nat} {e e2 : En} (hf : Fm (yS l) (sx x) now i) (he : x.es[i]? = some e) (hen : x.en[i]? = some (-1)) (hx : e2.x = e.x) (hw : e2.wt = -1) (hb : e2.bg = true) (hr : 0 ≤ e2.rn ∧ ∀ a, e.x.acts[e2.nx]? = some a → (a.d = 1 → e2.rn < a.n) ∧ (a.d ≠ 1 → e2.rn = 0))
    {last : Bool} {hs : List Int} (hl : last = true → e2.nx = e.x.acts.length) (hl2 : last = false → e2.nx < e.x.acts.length) (hh : hs.length = 4)
    (hhs : ∀ m : Nat, m < 4 → ∃ z', hs[m]? = some z' ∧ ((z' = -1 ∧ ∀ k, (m : Int) ∉ (sx (nxt x i e2 last now hs)).hd k) ∨ ∃ k : Nat, z' = (k : Int) ∧ k < l.length ∧ ∀ k', (m : Int) ∈ (sx (nxt x i e2 last now hs)).hd k' ↔ k' = k))
    (inv : Inv (yS l) ⟨setP (sx x).bg i, if last = true then setP (sx x).dn i else (sx x).dn, setH (sx x).hd i (hdE e2)⟩ now)
    (hlf : hdE e ≠ [] → hdE e2 ≠ [] → lfE e2 ≤ lfE e) : G l now runs (nxt x i e2 last now hs) := by
  have hs0 := sx_step (last := last) (hs := hs) he hen hb (z := (now : Int)) (by omega)
  refine g.plain (Nat.le_refl _) he hen hx hw ⟨by omega, by omega⟩ hl hl2 hr hh hhs (hs0 ▸ inv) (fun j xj hj hq ha => ?_) (fun j xj q hj hq hne => ?_) g.rl
  · have hq' : x.en[j]? = some (-1) := by
      rcases nxt_en hen hq with ⟨h, -⟩ | ⟨-, -, h⟩
      · exact h
      · omega
    have hjl := (List.getElem?_eq_some_iff.1 hj).1
    refine (g.up j xj hj hq' ha).step (f := i) (now := now) ⟨hjl, by rw [yS_a hj]; exact ha, by rw [sx_dn hq']; simp⟩ hf (fun r hr => ?_) (fun r hr => lf_step hr) (fun h1 h2 => ?_)
    · rw [hs0]
      exact setH_other _ _ hr
    · rw [hs0] at h2
      rw [sx_hd he] at h1
      rw [lf_self he, sx_lf he]
      exact hlf h1 (by rw [← setH_same (sx x).hd i (hdE e2)]; exact h2)
  · rcases nxt_en hen hq with ⟨h, -⟩ | ⟨rfl, -, rfl⟩
    · exact g.dn j xj q hj h hne
    · have ha := hf.1.2.1
      rw [yS_a hj] at ha
      have := (g.up j xj hj hen ha).1
      simpa using this

theorem chkA_nodup : ∀ (l : List Ac) (st : List Int) (j : Nat), chkA l st j = (0, 0) → st.Nodup → ∀ k, ((l.take k).foldl doS st).Nodup
  | [], _, _, _, hs, k => by simpa using hs
  | b :: r, st, j, h, hs, 0 => by simpa using hs
  | b :: r, st, j, h, hs, k + 1 => by
    have hn : (doS st b).Nodup := by
      have hf := (chkA_fine h).1
      generalize doS st b = s' at hf
      rcases hf with ⟨_, _, _⟩ | ⟨_, _, _, h3⟩ | ⟨_, _, h1⟩
      · exact hs
      · rw [List.nodup_append]
        refine ⟨hs, by simp, fun a ha b hb => ?_⟩
        simp at hb
        subst hb
        intro e
        subst e
        exact h3 ha
      · rw [h1, List.nodup_append] at hs
        exact hs.1
    have := chkA_nodup r (doS st b) (j + 1) (chkA_fine h).2 hn k
    simpa using this

theorem rn_zero {l : List Ac} (h : chkA l [] 0 = (0, 0)) (k : Nat) : (0 : Int) ≤ 0 ∧ ∀ a, l[k]? = some a → (a.d = 1 → (0 : Int) < a.n) ∧ (a.d ≠ 1 → (0 : Int) = 0) :=
  ⟨Int.le_refl _, fun a ha => ⟨fun hd => by have := chkA_pos h a (List.mem_of_getElem? ha) (by omega) (by omega); omega, fun _ => rfl⟩⟩

/-- One that has nothing to do. -/
theorem G.none {l : List Lj} {now : Nat} {runs : List Int} {x : Rs} (g : G l now runs x) {i : Nat} {e : En} (hf : Fm (yS l) (sx x) now i) (he : x.es[i]? = some e) (hen : x.en[i]? = some (-1)) (ha : e.x.acts = []) : G l now runs (nxt x i (begF e) true now x.hs) := by
  have hnx : e.nx = 0 := by
    rcases g.st i e (-1) he hen with ⟨-, h | h⟩ | h
    · rw [ha] at h; simp at h
    · exact h.2
    · omega
  have hd0 : hdE e = [] := by unfold hdE; rw [ha]; simp [stkF]
  have hd1 : hdE (begF e) = [] := hd0
  have hh : setH (sx x).hd i (hdE (begF e)) = (sx x).hd := by
    funext k
    by_cases hk : k = i
    · subst hk; rw [setH_same, hd1, sx_hd he, hd0]
    · exact setH_other _ _ hk
  refine g.quick (e2 := begF e) (last := true) (hs := x.hs) hf he hen rfl (g.wt e (List.mem_of_getElem? he)) rfl ⟨(g.rn e (List.mem_of_getElem? he)).1, fun a h => ?_⟩ (fun _ => by rw [ha]; exact hnx) (fun h => by cases h) g.nh ?_ ?_ (fun h => absurd hd0 h)
  · rw [ha] at h; simp at h
  · rw [sx_step he hen rfl (by omega), hh]
    exact g.hs
  · rw [hh]
    exact (g.inv.begin hf).done (by rw [← hd0]; exact sx_hd he)

theorem hdE_take {e : En} {a : Ac} (h : e.x.acts[e.nx]? = some a) (e2 : En) (hx : e2.x = e.x) (hn : e2.nx = e.nx + 1) : hdE e2 = (doS (stkF (e.x.acts.take e.nx)) a).reverse := by
  unfold hdE
  rw [hx, hn, stkF_take h]

/-- One takes a lock: nobody holds it. -/
theorem G.take {l : List Lj} (ok : Ok l) {now : Nat} {runs : List Int} {x : Rs} (g : G l now runs x) {i m : Nat} {e : En} (hf : Fm (yS l) (sx x) now i) (he : x.es[i]? = some e) (hen : x.en[i]? = some (-1)) (hm : m < 4) (ha : e.x.acts[e.nx]? = some ⟨2, m⟩) :
    x.hs[m]? = some (-1) ∧ e.nx + 1 ≠ e.x.acts.length ∧ G l now runs (nxt x i { e with bg := true, nx := e.nx + 1, rn := 0 } false now (x.hs.set m i)) := by
  have hc := (ok.acts _ (g.mem he)).2
  have hjob := g.job he
  have hfine := chkA_at e.x.acts [] 0 hc e.nx _ ha
  have hnx := (List.getElem?_eq_some_iff.1 ha).1
  have hnot : (m : Int) ∉ stkF (e.x.acts.take e.nx) := by
    generalize hs' : doS _ _ = s' at hfine
    rcases hfine with ⟨h, _, _⟩ | ⟨_, _, _, h3⟩ | ⟨h, _, _⟩
    · cases h
    · exact h3
    · cases h
  have htop : (yS l).p i ≤ (yS l).top m := by
    rw [yS_p hjob]
    exact topL_p m l (-1) e.x (g.mem he) _ (List.mem_of_getElem? ha) rfl rfl
  have hfree : ∀ k, (m : Int) ∉ (sx x).hd k := by
    intro k
    by_cases hk : k = i
    · subst hk
      rw [sx_hd he]
      unfold hdE
      simpa using hnot
    · exact g.inv.free hf htop hk
  have hhm : x.hs[m]? = some (-1) := by
    obtain ⟨z, h1, h2⟩ := g.hs m hm
    rcases h2 with ⟨rfl, -⟩ | ⟨k, -, -, h3⟩
    · exact h1
    · exact absurd ((h3 k).2 rfl) (hfree k)
  have hlast : e.nx + 1 ≠ e.x.acts.length := by
    intro h
    have h1 := chkA_end _ _ _ hc
    have h2 := stkF_take ha
    rw [h, List.take_length] at h2
    unfold stkF at h2
    rw [h1] at h2
    simp [doS] at h2
  have hlen4 : m < x.hs.length := by have := g.nh; omega
  have hst : stkF (e.x.acts.take (e.nx + 1)) = stkF (e.x.acts.take e.nx) ++ [(m : Int)] := by rw [stkF_take ha]; simp [doS]
  have hd2 : hdE { e with bg := true, nx := e.nx + 1, rn := 0 } = (m : Int) :: hdE e := by
    unfold hdE
    dsimp only
    rw [hst]
    simp
  refine ⟨hhm, hlast, g.quick (e2 := { e with bg := true, nx := e.nx + 1, rn := 0 }) (last := false) (hs := x.hs.set m i) hf he hen rfl (g.wt e (List.mem_of_getElem? he)) rfl (rn_zero hc _) (fun h => by cases h) (fun _ => ?_) (by rw [List.length_set]; exact g.nh) ?_ ?_ ?_⟩
  · show e.nx + 1 < _
    omega
  · rw [sx_step he hen rfl (by omega), hd2]
    intro m' hm'
    show ∃ z', _ ∧ ((_ ∧ ∀ k, (m' : Int) ∉ setH (sx x).hd i _ k) ∨ ∃ k : Nat, _ ∧ _ ∧ ∀ k', (m' : Int) ∈ setH (sx x).hd i _ k' ↔ k' = k)
    by_cases hmm : m' = m
    · subst hmm
      refine ⟨i, List.getElem?_set_self hlen4, .inr ⟨i, rfl, hf.1.1, fun k' => ?_⟩⟩
      by_cases hk : k' = i
      · subst hk
        rw [setH_same]
        simp
      · rw [setH_other _ _ hk]
        exact ⟨fun h => absurd h (hfree k'), fun h => absurd h hk⟩
    · have hmem : ∀ k', (m' : Int) ∈ setH (sx x).hd i ((m : Int) :: hdE e) k' ↔ (m' : Int) ∈ (sx x).hd k' := by
        intro k'
        by_cases hk : k' = i
        · subst hk
          rw [setH_same, sx_hd he, List.mem_cons]
          exact ⟨fun h => h.resolve_left (by omega), .inr⟩
        · rw [setH_other _ _ hk]
      obtain ⟨z, h1, h2⟩ := g.hs m' hm'
      refine ⟨z, by rw [List.getElem?_set_ne (by omega)]; exact h1, ?_⟩
      rcases h2 with ⟨h2, h3⟩ | ⟨k, h2, h3, h4⟩
      · exact .inl ⟨h2, fun k h => h3 k ((hmem k).1 h)⟩
      · exact .inr ⟨k, h2, h3, fun k' => (hmem k').trans (h4 k')⟩
  · have v := g.inv.begin hf
    have v2 := v.take (L := (m : Int)) hf.begin (.inl rfl) htop
    rw [hd2]
    have e1 : (sx x).hd i = hdE e := sx_hd he
    show Inv (yS l) ⟨setP (sx x).bg i, (sx x).dn, _⟩ now
    rw [← e1]
    exact v2
  · intro _ _
    have hr0 := ((g.rn e (List.mem_of_getElem? he)).2 _ ha).2 (by simp)
    unfold lfE
    dsimp only
    rw [hr0, hst]
    have hd := (List.getElem?_eq_some_iff.1 ha).2
    rw [List.drop_eq_getElem_cons hnx, hd]
    rename_i hne _
    have hne2 : stkF (e.x.acts.take e.nx) ≠ [] := fun h => hne (by unfold hdE; rw [h]; rfl)
    obtain ⟨q, hq⟩ : ∃ q, (stkF (e.x.acts.take e.nx)).length = q + 1 := ⟨(stkF (e.x.acts.take e.nx)).length - 1, by have := List.length_pos_iff.2 hne2; omega⟩
    rw [List.length_append, hq, leftF, if_pos rfl]
    exact Int.le_refl _

/-- One gives the lock back that it took last. -/
theorem G.give {l : List Lj} (ok : Ok l) {now : Nat} {runs : List Int} {x : Rs} (g : G l now runs x) {i m : Nat} {e : En} (hf : Fm (yS l) (sx x) now i) (he : x.es[i]? = some e) (hen : x.en[i]? = some (-1)) (ha : e.x.acts[e.nx]? = some ⟨3, m⟩) :
    m < 4 ∧ G l now runs (nxt x i { e with bg := true, nx := e.nx + 1, rn := 0 } (decide (e.nx + 1 = e.x.acts.length)) now (x.hs.set m (-1))) := by
  have hc := (ok.acts _ (g.mem he)).2
  have hnx := (List.getElem?_eq_some_iff.1 ha).1
  have hfine := chkA_at e.x.acts [] 0 hc e.nx _ ha
  obtain ⟨st', h0⟩ : ∃ st', stkF (e.x.acts.take e.nx) = st' ++ [(m : Int)] := by
    generalize hs' : doS _ _ = s' at hfine
    rcases hfine with ⟨h, _, _⟩ | ⟨h, _, _, _⟩ | ⟨_, _, h1⟩
    · cases h
    · cases h
    · exact ⟨_, h1⟩
  have hst : stkF (e.x.acts.take (e.nx + 1)) = st' := by rw [stkF_take ha, h0]; simp [doS]
  have hm : m < 4 := by
    have := chkA_locks e.x.acts [] 0 hc (fun _ h => by simp at h) e.nx (m : Int) (by change _ ∈ stkF _; rw [h0]; simp)
    omega
  have hnd : (m : Int) ∉ st' := by
    have := chkA_nodup e.x.acts [] 0 hc (by simp) e.nx
    change (stkF _).Nodup at this
    rw [h0, List.nodup_append] at this
    intro h
    exact this.2.2 _ h _ (by simp) rfl
  have hd1 : hdE e = (m : Int) :: st'.reverse := by unfold hdE; rw [h0]; simp
  have hd2 : hdE { e with bg := true, nx := e.nx + 1, rn := 0 } = st'.reverse := by unfold hdE; dsimp only; rw [hst]
  have e1 : (sx x).hd i = (m : Int) :: st'.reverse := by rw [sx_hd he, hd1]
  have hlen4 : m < x.hs.length := by have := g.nh; omega
  refine ⟨hm, g.quick (e2 := { e with bg := true, nx := e.nx + 1, rn := 0 }) (last := decide (e.nx + 1 = e.x.acts.length)) (hs := x.hs.set m (-1)) hf he hen rfl (g.wt e (List.mem_of_getElem? he)) rfl (rn_zero hc _) (fun h => by simpa using h) (fun h => ?_) (by rw [List.length_set]; exact g.nh) ?_ ?_ ?_⟩
  · show e.nx + 1 < _
    simp at h
    omega
  · rw [sx_step he hen rfl (by omega), hd2]
    intro m' hm'
    show ∃ z', _ ∧ ((_ ∧ ∀ k, (m' : Int) ∉ setH (sx x).hd i _ k) ∨ ∃ k : Nat, _ ∧ _ ∧ ∀ k', (m' : Int) ∈ setH (sx x).hd i _ k' ↔ k' = k)
    by_cases hmm : m' = m
    · subst hmm
      refine ⟨-1, List.getElem?_set_self hlen4, .inl ⟨rfl, fun k => ?_⟩⟩
      by_cases hk : k = i
      · subst hk
        rw [setH_same]
        simpa using hnd
      · rw [setH_other _ _ hk]
        obtain ⟨z, -, h2⟩ := g.hs m' hm'
        rcases h2 with ⟨-, h3⟩ | ⟨k2, -, -, h4⟩
        · exact h3 k
        · intro h
          have q1 := (h4 k).1 h
          have q2 := (h4 i).1 (by rw [e1]; simp)
          omega
    · have hmem : ∀ k', (m' : Int) ∈ setH (sx x).hd i st'.reverse k' ↔ (m' : Int) ∈ (sx x).hd k' := by
        intro k'
        by_cases hk : k' = i
        · subst hk
          rw [setH_same, e1, List.mem_cons]
          exact ⟨.inr, fun h => h.resolve_left (by omega)⟩
        · rw [setH_other _ _ hk]
      obtain ⟨z, h1, h2⟩ := g.hs m' hm'
      refine ⟨z, by rw [List.getElem?_set_ne (by omega)]; exact h1, ?_⟩
      rcases h2 with ⟨h2, h3⟩ | ⟨k, h2, h3, h4⟩
      · exact .inl ⟨h2, fun k h => h3 k ((hmem k).1 h)⟩
      · exact .inr ⟨k, h2, h3, fun k' => (hmem k').trans (h4 k')⟩
  · have v2 := (g.inv.begin hf).give (i := i) (L := (m : Int)) (r := st'.reverse) e1
    rw [hd2]
    by_cases hl : e.nx + 1 = e.x.acts.length
    · have h9 : st' = [] := by
        rw [hl, List.take_length] at hst
        rw [← hst]
        exact chkA_end _ _ _ hc
      subst h9
      simp only [hl, decide_true, if_true]
      exact v2.done (setH_same _ _ _)
    · simp only [hl, decide_false, Bool.false_eq_true, if_false]
      exact v2
  · intro _ hne
    have hr0 := ((g.rn e (List.mem_of_getElem? he)).2 _ ha).2 (by simp)
    unfold lfE
    dsimp only
    rw [hr0, hst, h0]
    have hd := (List.getElem?_eq_some_iff.1 ha).2
    rw [List.drop_eq_getElem_cons hnx, hd, List.length_append]
    show _ ≤ leftF (⟨3, m⟩ :: _) (st'.length + 1) - 0
    rw [leftF, if_neg (by simp), if_pos rfl]
    exact Int.le_refl _
end Go.Proofs.Ytcmoehednkaehah
