import Derived.Test.YtcmoehednkaehahGOL
import Derived.Deep.LoopGhost
import Derived.Test.YtcmoehednkaehahGLD
namespace Go.Proofs.Ytcmoehednkaehah
open Once

theorem Sx.same {s s' : Sx} (h1 : ∀ i, s.bg i ↔ s'.bg i) (h2 : ∀ i, s.dn i ↔ s'.dn i) (h3 : ∀ i, s.hd i = s'.hd i) : s = s' := by
  obtain ⟨a, b, c⟩ := s
  obtain ⟨a', b', c'⟩ := s'
  obtain rfl : a = a' := funext fun i => propext (h1 i)
  obtain rfl : b = b' := funext fun i => propext (h2 i)
  obtain rfl : c = c' := funext h3
  rfl

theorem up_cong {y : Sy} {s s' : Sx} {lf : Nat → Int} {j : Nat} {c m : Int} (h : ∀ r, s.hd r = s'.hd r) (u : Up y s lf j c m) : Up y s' lf j c m := by
  refine ⟨u.1, fun r hr ha => u.2 r hr ?_⟩
  unfold act at *
  rw [h r]
  exact ha

def nxt (x : Rs) (i : Nat) (e2 : En) (last : Bool) (z : Int) (hs : List Int) : Rs := ⟨x.es.set i e2, if last = true then x.en.set i z else x.en, x.ws, hs⟩

theorem set_same {α : Type} {l : List α} {i : Nat} {a : α} (h : l[i]? = some a) : l.set i a = l := by
  obtain ⟨h1, h2⟩ := List.getElem?_eq_some_iff.1 h
  rw [← h2, List.set_getElem_self]

theorem sx_step {x : Rs} {i : Nat} {e e2 : En} {last : Bool} {z : Int} {hs : List Int} (he : x.es[i]? = some e) (hen : x.en[i]? = some (-1)) (hb : e2.bg = true) (hz : z ≠ -1) :
    sx (nxt x i e2 last z hs) = ⟨setP (sx x).bg i, if last = true then setP (sx x).dn i else (sx x).dn, setH (sx x).hd i (hdE e2)⟩ := by
  have hi := (List.getElem?_eq_some_iff.1 he).1
  have hi2 := (List.getElem?_eq_some_iff.1 hen).1
  refine Sx.same (fun k => ?_) (fun k => ?_) (fun k => ?_)
  · by_cases hk : k = i
    · subst hk
      rw [sx_bg (x := nxt x k e2 last z hs) (e := e2) (by unfold nxt; exact List.getElem?_set_self hi)]
      exact ⟨fun _ => .inl rfl, fun _ => hb⟩
    · show (∃ e', (x.es.set i e2)[k]? = some e' ∧ _) ↔ (k = i ∨ ∃ e', x.es[k]? = some e' ∧ _)
      rw [List.getElem?_set_ne (by omega)]
      exact ⟨.inr, fun h => h.resolve_left hk⟩
  · cases last
    · exact Iff.rfl
    · show (∃ z', (x.en.set i z)[k]? = some z' ∧ _) ↔ (k = i ∨ ∃ z', x.en[k]? = some z' ∧ _)
      by_cases hk : k = i
      · subst hk
        rw [List.getElem?_set_self hi2]
        exact ⟨fun _ => .inl rfl, fun _ => ⟨z, rfl, hz⟩⟩
      · rw [List.getElem?_set_ne (by omega)]
        exact ⟨.inr, fun h => h.resolve_left hk⟩
  · by_cases hk : k = i
    · subst hk
      rw [sx_hd (x := nxt x k e2 last z hs) (e := e2) (by unfold nxt; exact List.getElem?_set_self hi)]
      exact (setH_same _ _ _).symm
    · show (match (x.es.set i e2)[k]? with | some e => hdE e | none => []) = setH _ i _ k
      rw [List.getElem?_set_ne (by omega), setH_other _ _ hk]
      rfl

theorem lf_step {x : Rs} {i : Nat} {e2 : En} {last : Bool} {z : Int} {hs : List Int} {r : Nat} (hr : r ≠ i) : lfS (nxt x i e2 last z hs) r = lfS x r := by
  unfold lfS nxt
  dsimp only
  rw [List.getElem?_set_ne (by omega)]
theorem lf_self {x : Rs} {i : Nat} {e e2 : En} {last : Bool} {z : Int} {hs : List Int} (he : x.es[i]? = some e) : lfS (nxt x i e2 last z hs) i = lfE e2 :=
  sx_lf (x := nxt x i e2 last z hs) (List.getElem?_set_self (List.getElem?_eq_some_iff.1 he).1)

theorem nxt_en {x : Rs} {i j : Nat} {e2 : En} {last : Bool} {z q : Int} {hs : List Int} (hen : x.en[i]? = some (-1)) (h : (nxt x i e2 last z hs).en[j]? = some q) : (x.en[j]? = some q ∧ (j = i → last = false)) ∨ (j = i ∧ last = true ∧ q = z) := by
  unfold nxt at h
  cases last
  · exact .inl ⟨h, fun _ => rfl⟩
  · dsimp only at h
    rw [if_pos rfl] at h
    by_cases hj : j = i
    · subst hj
      rw [List.getElem?_set_self (List.getElem?_eq_some_iff.1 hen).1] at h
      cases h
      exact .inr ⟨rfl, rfl, rfl⟩
    · rw [List.getElem?_set_ne (by omega)] at h
      exact .inl ⟨h, fun e => absurd e hj⟩

/-- What is plain of the next state. -/
theorem G.plain {l : List Lj} {now now2 : Nat} {runs runs2 : List Int} {x : Rs} (g : G l now runs x) (hnow : now ≤ now2) {i : Nat} {e e2 : En} (he : x.es[i]? = some e) (hen : x.en[i]? = some (-1)) (hx : e2.x = e.x) (hw : e2.wt = -1)
    {last : Bool} {z : Int} {hs : List Int} (hz : 0 ≤ z ∧ z ≤ now2) (hl : last = true → e2.nx = e.x.acts.length) (hl2 : last = false → e2.nx < e.x.acts.length) (hr : 0 ≤ e2.rn ∧ ∀ a, e.x.acts[e2.nx]? = some a → (a.d = 1 → e2.rn < a.n) ∧ (a.d ≠ 1 → e2.rn = 0)) (hh : hs.length = 4)
    (hhs : ∀ m : Nat, m < 4 → ∃ z', hs[m]? = some z' ∧ ((z' = -1 ∧ ∀ k, (m : Int) ∉ (sx (nxt x i e2 last z hs)).hd k) ∨ ∃ k : Nat, z' = (k : Int) ∧ k < l.length ∧ ∀ k', (m : Int) ∈ (sx (nxt x i e2 last z hs)).hd k' ↔ k' = k))
    (inv : Inv (yS l) (sx (nxt x i e2 last z hs)) now2)
    (up : ∀ (j : Nat) (xj : Lj), l[j]? = some xj → (nxt x i e2 last z hs).en[j]? = some (-1) → xj.a ≤ now2 → Up (yS l) (sx (nxt x i e2 last z hs)) (lfS (nxt x i e2 last z hs)) j (heldF l runs2 xj.p xj.a.toNat now2) (mostF xj.p l))
    (dn : ∀ (j : Nat) (xj : Lj) (q : Int), l[j]? = some xj → (nxt x i e2 last z hs).en[j]? = some q → q ≠ -1 → heldF l runs2 xj.p xj.a.toNat q.toNat ≤ mostF xj.p l)
    (rl : runs2.length = now2) : G l now2 runs2 (nxt x i e2 last z hs) := by
  refine ⟨?_, ?_, g.ws, hh, ?_, ?_, ?_, hhs, inv, up, dn, rl⟩
  · show (x.es.set i e2).map En.x = l
    rw [List.map_set, hx, set_same (by rw [List.getElem?_map, he]; rfl), g.le]
  · unfold nxt
    cases last
    · exact g.ne
    · dsimp only
      rw [if_pos rfl, List.length_set]
      exact g.ne
  · intro e' he'
    rcases List.mem_or_eq_of_mem_set he' with h | rfl
    · exact g.wt e' h
    · exact hw
  · intro k e' q hk hq
    by_cases hki : k = i
    · subst hki
      have : (nxt x k e2 last z hs).es[k]? = some e2 := List.getElem?_set_self (List.getElem?_eq_some_iff.1 he).1
      rw [this] at hk
      cases hk
      rw [hx]
      rcases nxt_en hen hq with ⟨h1, h2⟩ | ⟨-, h2, rfl⟩
      · rw [hen] at h1
        cases h1
        exact .inl ⟨rfl, .inl (hl2 (h2 rfl))⟩
      · exact .inr ⟨hz.1, hz.2, hl h2⟩
    · have hk' : x.es[k]? = some e' := by
        unfold nxt at hk
        dsimp only at hk
        rw [List.getElem?_set_ne (by omega)] at hk
        exact hk
      rcases nxt_en hen hq with ⟨h1, -⟩ | ⟨h1, -⟩
      · rcases g.st k e' q hk' h1 with h | ⟨h1, h2, h3⟩
        · exact .inl h
        · exact .inr ⟨h1, by omega, h3⟩
      · exact absurd h1 hki
  · intro e' he'
    rcases List.mem_or_eq_of_mem_set he' with h | rfl
    · exact g.rn e' h
    · rw [hx]
      exact hr

/-- A state behind an act that takes no time. -/
theorem G.quick {l : List Lj} {now : Nat} {runs : List Int} {x : Rs} (g : G l now runs x) {i : Nat} {e e2 : En} (hf : Fm (yS l) (sx x) now i) (he : x.es[i]? = some e) (hen : x.en[i]? = some (-1)) (hx : e2.x = e.x) (hw : e2.wt = -1) (hb : e2.bg = true) (hr : 0 ≤ e2.rn ∧ ∀ a, e.x.acts[e2.nx]? = some a → (a.d = 1 → e2.rn < a.n) ∧ (a.d ≠ 1 → e2.rn = 0))
    {last : Bool} {hs : List Int} (hl : last = true → e2.nx = e.x.acts.length) (hl2 : last = false → e2.nx < e.x.acts.length) (hh : hs.length = 4)
    (hhs : ∀ m : Nat, m < 4 → ∃ z', hs[m]? = some z' ∧ ((z' = -1 ∧ ∀ k, (m : Int) ∉ (sx (nxt x i e2 last now hs)).hd k) ∨ ∃ k : Nat, z' = (k : Int) ∧ k < l.length ∧ ∀ k', (m : Int) ∈ (sx (nxt x i e2 last now hs)).hd k' ↔ k' = k))
    (inv : Inv (yS l) ⟨setP (sx x).bg i, if last = true then setP (sx x).dn i else (sx x).dn, setH (sx x).hd i (hdE e2)⟩ now)
    (hlf : hdE e ≠ [] → hdE e2 ≠ [] → lfE e2 ≤ lfE e) : G l now runs (nxt x i e2 last now hs) := by
  have hs0 := sx_step (last := last) (hs := hs) he hen hb (z := (now : Int)) (by omega)
  refine g.plain (Nat.le_refl _) he hen hx hw ⟨by omega, by omega⟩ hl hl2 hr hh hhs (hs0 ▸ inv) (fun j xj hj hq ha => ?_) (fun j xj q hj hq hne => ?_) g.rl
  · have hq' : x.en[j]? = some (-1) := by
      rcases nxt_en hen hq with ⟨h, -⟩ | ⟨-, -, h⟩
      · exact h
      · omega
    have hjl := (List.getElem?_eq_some_iff.1 hj).1
    refine (g.up j xj hj hq' ha).step (f := i) (now := now) ⟨hjl, by rw [yS_a hj]; exact ha, by rw [sx_dn hq']; simp⟩ hf (fun r hr => ?_) (fun r hr => lf_step hr) (fun h1 h2 => ?_)
    · rw [hs0]
      exact setH_other _ _ hr
    · rw [hs0] at h2
      rw [sx_hd he] at h1
      rw [lf_self he, sx_lf he]
      exact hlf h1 (by rw [← setH_same (sx x).hd i (hdE e2)]; exact h2)
  · rcases nxt_en hen hq with ⟨h, -⟩ | ⟨rfl, -, rfl⟩
    · exact g.dn j xj q hj h hne
    · have ha := hf.1.2.1
      rw [yS_a hj] at ha
      have := (g.up j xj hj hen ha).1
      simpa using this

theorem chkA_nodup : ∀ (l : List Ac) (st : List Int) (j : Nat), chkA l st j = (0, 0) → st.Nodup → ∀ k, ((l.take k).foldl doS st).Nodup
  | [], _, _, _, hs, k => by simpa using hs
  | b :: r, st, j, h, hs, 0 => by simpa using hs
  | b :: r, st, j, h, hs, k + 1 => by
    have hn : (doS st b).Nodup := by
      have hf := (chkA_fine h).1
      generalize doS st b = s' at hf
      rcases hf with ⟨_, _, _⟩ | ⟨_, _, _, h3⟩ | ⟨_, _, h1⟩
      · exact hs
      · rw [List.nodup_append]
        refine ⟨hs, by simp, fun a ha b hb => ?_⟩
        simp at hb
        subst hb
        intro e
        subst e
        exact h3 ha
      · rw [h1, List.nodup_append] at hs
        exact hs.1
    have := chkA_nodup r (doS st b) (j + 1) (chkA_fine h).2 hn k
    simpa using this

theorem rn_zero {l : List Ac} (h : chkA l [] 0 = (0, 0)) (k : Nat) : (0 : Int) ≤ 0 ∧ ∀ a, l[k]? = some a → (a.d = 1 → (0 : Int) < a.n) ∧ (a.d ≠ 1 → (0 : Int) = 0) :=
  ⟨Int.le_refl _, fun a ha => ⟨fun hd => by have := chkA_pos h a (List.mem_of_getElem? ha) (by omega) (by omega); omega, fun _ => rfl⟩⟩

/-- One that has nothing to do. -/
theorem G.none {l : List Lj} {now : Nat} {runs : List Int} {x : Rs} (g : G l now runs x) {i : Nat} {e : En} (hf : Fm (yS l) (sx x) now i) (he : x.es[i]? = some e) (hen : x.en[i]? = some (-1)) (ha : e.x.acts = []) : G l now runs (nxt x i (begF e) true now x.hs) := by
  have hnx : e.nx = 0 := by
    rcases g.st i e (-1) he hen with ⟨-, h | h⟩ | h
    · rw [ha] at h; simp at h
    · exact h.2
    · omega
  have hd0 : hdE e = [] := by unfold hdE; rw [ha]; simp [stkF]
  have hd1 : hdE (begF e) = [] := hd0
  have hh : setH (sx x).hd i (hdE (begF e)) = (sx x).hd := by
    funext k
    by_cases hk : k = i
    · subst hk; rw [setH_same, hd1, sx_hd he, hd0]
    · exact setH_other _ _ hk
  refine g.quick (e2 := begF e) (last := true) (hs := x.hs) hf he hen rfl (g.wt e (List.mem_of_getElem? he)) rfl ⟨(g.rn e (List.mem_of_getElem? he)).1, fun a h => ?_⟩ (fun _ => by rw [ha]; exact hnx) (fun h => by cases h) g.nh ?_ ?_ (fun h => absurd hd0 h)
  · rw [ha] at h; simp at h
  · rw [sx_step he hen rfl (by omega), hh]
    exact g.hs
  · rw [hh]
    exact (g.inv.begin hf).done (by rw [← hd0]; exact sx_hd he)

theorem hdE_take {e : En} {a : Ac} (h : e.x.acts[e.nx]? = some a) (e2 : En) (hx : e2.x = e.x) (hn : e2.nx = e.nx + 1) : hdE e2 = (doS (stkF (e.x.acts.take e.nx)) a).reverse := by
  unfold hdE
  rw [hx, hn, stkF_take h]

/-- One takes a lock: nobody holds it. -/
theorem G.take {l : List Lj} (ok : Ok l) {now : Nat} {runs : List Int} {x : Rs} (g : G l now runs x) {i m : Nat} {e : En} (hf : Fm (yS l) (sx x) now i) (he : x.es[i]? = some e) (hen : x.en[i]? = some (-1)) (hm : m < 4) (ha : e.x.acts[e.nx]? = some ⟨2, m⟩) :
    x.hs[m]? = some (-1) ∧ e.nx + 1 ≠ e.x.acts.length ∧ G l now runs (nxt x i { e with bg := true, nx := e.nx + 1, rn := 0 } false now (x.hs.set m i)) := by
  have hc := (ok.acts _ (g.mem he)).2
  have hjob := g.job he
  have hfine := chkA_at e.x.acts [] 0 hc e.nx _ ha
  have hnx := (List.getElem?_eq_some_iff.1 ha).1
  have hnot : (m : Int) ∉ stkF (e.x.acts.take e.nx) := by
    generalize hs' : doS _ _ = s' at hfine
    rcases hfine with ⟨h, _, _⟩ | ⟨_, _, _, h3⟩ | ⟨h, _, _⟩
    · cases h
    · exact h3
    · cases h
  have htop : (yS l).p i ≤ (yS l).top m := by
    rw [yS_p hjob]
    exact topL_p m l (-1) e.x (g.mem he) _ (List.mem_of_getElem? ha) rfl rfl
  have hfree : ∀ k, (m : Int) ∉ (sx x).hd k := by
    intro k
    by_cases hk : k = i
    · subst hk
      rw [sx_hd he]
      unfold hdE
      simpa using hnot
    · exact g.inv.free hf htop hk
  have hhm : x.hs[m]? = some (-1) := by
    obtain ⟨z, h1, h2⟩ := g.hs m hm
    rcases h2 with ⟨rfl, -⟩ | ⟨k, -, -, h3⟩
    · exact h1
    · exact absurd ((h3 k).2 rfl) (hfree k)
  have hlast : e.nx + 1 ≠ e.x.acts.length := by
    intro h
    have h1 := chkA_end _ _ _ hc
    have h2 := stkF_take ha
    rw [h, List.take_length] at h2
    unfold stkF at h2
    rw [h1] at h2
    simp [doS] at h2
  have hlen4 : m < x.hs.length := by have := g.nh; omega
  have hst : stkF (e.x.acts.take (e.nx + 1)) = stkF (e.x.acts.take e.nx) ++ [(m : Int)] := by rw [stkF_take ha]; simp [doS]
  have hd2 : hdE { e with bg := true, nx := e.nx + 1, rn := 0 } = (m : Int) :: hdE e := by
    unfold hdE
    dsimp only
    rw [hst]
    simp
  refine ⟨hhm, hlast, g.quick (e2 := { e with bg := true, nx := e.nx + 1, rn := 0 }) (last := false) (hs := x.hs.set m i) hf he hen rfl (g.wt e (List.mem_of_getElem? he)) rfl (rn_zero hc _) (fun h => by cases h) (fun _ => ?_) (by rw [List.length_set]; exact g.nh) ?_ ?_ ?_⟩
  · show e.nx + 1 < _
    omega
  · rw [sx_step he hen rfl (by omega), hd2]
    intro m' hm'
    show ∃ z', _ ∧ ((_ ∧ ∀ k, (m' : Int) ∉ setH (sx x).hd i _ k) ∨ ∃ k : Nat, _ ∧ _ ∧ ∀ k', (m' : Int) ∈ setH (sx x).hd i _ k' ↔ k' = k)
    by_cases hmm : m' = m
    · subst hmm
      refine ⟨i, List.getElem?_set_self hlen4, .inr ⟨i, rfl, hf.1.1, fun k' => ?_⟩⟩
      by_cases hk : k' = i
      · subst hk
        rw [setH_same]
        simp
      · rw [setH_other _ _ hk]
        exact ⟨fun h => absurd h (hfree k'), fun h => absurd h hk⟩
    · have hmem : ∀ k', (m' : Int) ∈ setH (sx x).hd i ((m : Int) :: hdE e) k' ↔ (m' : Int) ∈ (sx x).hd k' := by
        intro k'
        by_cases hk : k' = i
        · subst hk
          rw [setH_same, sx_hd he, List.mem_cons]
          exact ⟨fun h => h.resolve_left (by omega), .inr⟩
        · rw [setH_other _ _ hk]
      obtain ⟨z, h1, h2⟩ := g.hs m' hm'
      refine ⟨z, by rw [List.getElem?_set_ne (by omega)]; exact h1, ?_⟩
      rcases h2 with ⟨h2, h3⟩ | ⟨k, h2, h3, h4⟩
      · exact .inl ⟨h2, fun k h => h3 k ((hmem k).1 h)⟩
      · exact .inr ⟨k, h2, h3, fun k' => (hmem k').trans (h4 k')⟩
  · have v := g.inv.begin hf
    have v2 := v.take (L := (m : Int)) hf.begin (.inl rfl) htop
    rw [hd2]
    have e1 : (sx x).hd i = hdE e := sx_hd he
    show Inv (yS l) ⟨setP (sx x).bg i, (sx x).dn, _⟩ now
    rw [← e1]
    exact v2
  · intro _ _
    have hr0 := ((g.rn e (List.mem_of_getElem? he)).2 _ ha).2 (by simp)
    unfold lfE
    dsimp only
    rw [hr0, hst]
    have hd := (List.getElem?_eq_some_iff.1 ha).2
    rw [List.drop_eq_getElem_cons hnx, hd]
    rename_i hne _
    have hne2 : stkF (e.x.acts.take e.nx) ≠ [] := fun h => hne (by unfold hdE; rw [h]; rfl)
    obtain ⟨q, hq⟩ : ∃ q, (stkF (e.x.acts.take e.nx)).length = q + 1 := ⟨(stkF (e.x.acts.take e.nx)).length - 1, by have := List.length_pos_iff.2 hne2; omega⟩
    rw [List.length_append, hq, leftF, if_pos rfl]
    exact Int.le_refl _

/-- One gives the lock back that it took last. -/
theorem G.give {l : List Lj} (ok : Ok l) {now : Nat} {runs : List Int} {x : Rs} (g : G l now runs x) {i m : Nat} {e : En} (hf : Fm (yS l) (sx x) now i) (he : x.es[i]? = some e) (hen : x.en[i]? = some (-1)) (ha : e.x.acts[e.nx]? = some ⟨3, m⟩) :
    m < 4 ∧ G l now runs (nxt x i { e with bg := true, nx := e.nx + 1, rn := 0 } (decide (e.nx + 1 = e.x.acts.length)) now (x.hs.set m (-1))) := by
  have hc := (ok.acts _ (g.mem he)).2
  have hnx := (List.getElem?_eq_some_iff.1 ha).1
  have hfine := chkA_at e.x.acts [] 0 hc e.nx _ ha
  obtain ⟨st', h0⟩ : ∃ st', stkF (e.x.acts.take e.nx) = st' ++ [(m : Int)] := by
    generalize hs' : doS _ _ = s' at hfine
    rcases hfine with ⟨h, _, _⟩ | ⟨h, _, _, _⟩ | ⟨_, _, h1⟩
    · cases h
    · cases h
    · exact ⟨_, h1⟩
  have hst : stkF (e.x.acts.take (e.nx + 1)) = st' := by rw [stkF_take ha, h0]; simp [doS]
  have hm : m < 4 := by
    have := chkA_locks e.x.acts [] 0 hc (fun _ h => by simp at h) e.nx (m : Int) (by change _ ∈ stkF _; rw [h0]; simp)
    omega
  have hnd : (m : Int) ∉ st' := by
    have := chkA_nodup e.x.acts [] 0 hc (by simp) e.nx
    change (stkF _).Nodup at this
    rw [h0, List.nodup_append] at this
    intro h
    exact this.2.2 _ h _ (by simp) rfl
  have hd1 : hdE e = (m : Int) :: st'.reverse := by unfold hdE; rw [h0]; simp
  have hd2 : hdE { e with bg := true, nx := e.nx + 1, rn := 0 } = st'.reverse := by unfold hdE; dsimp only; rw [hst]
  have e1 : (sx x).hd i = (m : Int) :: st'.reverse := by rw [sx_hd he, hd1]
  have hlen4 : m < x.hs.length := by have := g.nh; omega
  refine ⟨hm, g.quick (e2 := { e with bg := true, nx := e.nx + 1, rn := 0 }) (last := decide (e.nx + 1 = e.x.acts.length)) (hs := x.hs.set m (-1)) hf he hen rfl (g.wt e (List.mem_of_getElem? he)) rfl (rn_zero hc _) (fun h => by simpa using h) (fun h => ?_) (by rw [List.length_set]; exact g.nh) ?_ ?_ ?_⟩
  · show e.nx + 1 < _
    simp at h
    omega
  · rw [sx_step he hen rfl (by omega), hd2]
    intro m' hm'
    show ∃ z', _ ∧ ((_ ∧ ∀ k, (m' : Int) ∉ setH (sx x).hd i _ k) ∨ ∃ k : Nat, _ ∧ _ ∧ ∀ k', (m' : Int) ∈ setH (sx x).hd i _ k' ↔ k' = k)
    by_cases hmm : m' = m
    · subst hmm
      refine ⟨-1, List.getElem?_set_self hlen4, .inl ⟨rfl, fun k => ?_⟩⟩
      by_cases hk : k = i
      · subst hk
        rw [setH_same]
        simpa using hnd
      · rw [setH_other _ _ hk]
        obtain ⟨z, -, h2⟩ := g.hs m' hm'
        rcases h2 with ⟨-, h3⟩ | ⟨k2, -, -, h4⟩
        · exact h3 k
        · intro h
          have q1 := (h4 k).1 h
          have q2 := (h4 i).1 (by rw [e1]; simp)
          omega
    · have hmem : ∀ k', (m' : Int) ∈ setH (sx x).hd i st'.reverse k' ↔ (m' : Int) ∈ (sx x).hd k' := by
        intro k'
        by_cases hk : k' = i
        · subst hk
          rw [setH_same, e1, List.mem_cons]
          exact ⟨.inr, fun h => h.resolve_left (by omega)⟩
        · rw [setH_other _ _ hk]
      obtain ⟨z, h1, h2⟩ := g.hs m' hm'
      refine ⟨z, by rw [List.getElem?_set_ne (by omega)]; exact h1, ?_⟩
      rcases h2 with ⟨h2, h3⟩ | ⟨k, h2, h3, h4⟩
      · exact .inl ⟨h2, fun k h => h3 k ((hmem k).1 h)⟩
      · exact .inr ⟨k, h2, h3, fun k' => (hmem k').trans (h4 k')⟩
  · have v2 := (g.inv.begin hf).give (i := i) (L := (m : Int)) (r := st'.reverse) e1
    rw [hd2]
    by_cases hl : e.nx + 1 = e.x.acts.length
    · have h9 : st' = [] := by
        rw [hl, List.take_length] at hst
        rw [← hst]
        exact chkA_end _ _ _ hc
      subst h9
      simp only [hl, decide_true, if_true]
      exact v2.done (setH_same _ _ _)
    · simp only [hl, decide_false, Bool.false_eq_true, if_false]
      exact v2
  · intro _ hne
    have hr0 := ((g.rn e (List.mem_of_getElem? he)).2 _ ha).2 (by simp)
    unfold lfE
    dsimp only
    rw [hr0, hst, h0]
    have hd := (List.getElem?_eq_some_iff.1 ha).2
    rw [List.drop_eq_getElem_cons hnx, hd, List.length_append]
    show _ ≤ leftF (⟨3, m⟩ :: _) (st'.length + 1) - 0
    rw [leftF, if_neg (by simp), if_pos rfl]
    exact Int.le_refl _
end Go.Proofs.Ytcmoehednkaehah
namespace Go.Proofs.Ytcmoehednkaehah
open Once

/-- One that comes now is not held up yet. -/
theorem up_new {l : List Lj} (ok : Ok l) {x : Rs} (hle : x.es.map En.x = l) (hrn : ∀ e ∈ x.es, 0 ≤ e.rn) {runs : List Int} {j : Nat} {xj : Lj} {now : Nat} (hj : l[j]? = some xj) (ha : now ≤ xj.a.toNat) : Up (yS l) (sx x) (lfS x) j (heldF l runs xj.p xj.a.toNat now) (mostF xj.p l) := by
  rw [heldF_none _ _ _ _ _ ha]
  refine Up.start (mostF_nonneg _ _) (fun r hr hd => ?_)
  by_cases hlr : r < x.es.length
  · have he : x.es[r]? = some x.es[r] := List.getElem?_eq_getElem hlr
    generalize x.es[r] = e at he
    have hjr : l[r]? = some e.x := by rw [← hle, List.getElem?_map, he]; rfl
    rw [sx_lf he]
    rw [yS_p hjr, yS_p hj] at hr
    have h1 := lfE_le (e := e) (ok.acts _ (List.mem_of_getElem? hjr)).2 (hrn e (List.mem_of_getElem? he))
    have h2 := mostF_ge xj.p l e.x (List.mem_of_getElem? hjr) hr
    omega
  · exfalso
    apply hd
    show (match x.es[r]? with | some e => hdE e | none => []) = []
    rw [List.getElem?_eq_none (by omega)]

theorem hc_of {l : List Lj} {i : Nat} {x : Lj} (h : l[i]? = some x) (p : Int) : hc l p (i : Int) = if x.p < p then 1 else 0 := by
  unfold hc
  rw [if_pos (by omega), Int.toNat_natCast, h]

/-- A state behind a tick of work. -/
theorem G.tick {l : List Lj} (ok : Ok l) {now : Nat} {runs : List Int} {x : Rs} (g : G l now runs x) {i : Nat} {e e2 : En} (hf : Fm (yS l) (sx x) now i) (he : x.es[i]? = some e) (hen : x.en[i]? = some (-1)) (hx : e2.x = e.x) (hw : e2.wt = -1) (hb : e2.bg = true) (hr : 0 ≤ e2.rn ∧ ∀ a, e.x.acts[e2.nx]? = some a → (a.d = 1 → e2.rn < a.n) ∧ (a.d ≠ 1 → e2.rn = 0))
    {last : Bool} (hl : last = true → e2.nx = e.x.acts.length) (hl2 : last = false → e2.nx < e.x.acts.length) (hd : hdE e2 = hdE e) (hl3 : last = true → hdE e = []) (hlf : hdE e ≠ [] → 0 ≤ lfE e2 ∧ lfE e2 + 1 ≤ lfE e) : G l (now + 1) (runs ++ [(i : Int)]) (nxt x i e2 last (now + 1) x.hs) := by
  have hs0 := sx_step (last := last) (hs := x.hs) he hen hb (z := (now : Int) + 1) (by omega)
  have hh : setH (sx x).hd i (hdE e2) = (sx x).hd := by
    funext k
    by_cases hk : k = i
    · subst hk; rw [setH_same, sx_hd he, hd]
    · exact setH_other _ _ hk
  rw [hh] at hs0
  have hjob := g.job he
  have hrn2 : ∀ e' ∈ (nxt x i e2 last ((now : Int) + 1) x.hs).es, 0 ≤ e'.rn := by
    intro e' he'
    rcases List.mem_or_eq_of_mem_set he' with h | rfl
    · exact (g.rn e' h).1
    · exact hr.1
  have hle2 : (nxt x i e2 last ((now : Int) + 1) x.hs).es.map En.x = l := by
    show (x.es.set i e2).map En.x = l
    rw [List.map_set, hx, set_same (by rw [List.getElem?_map, he]; rfl), g.le]
  refine g.plain (now2 := now + 1) (z := (now : Int) + 1) (by omega) he hen hx hw ⟨by omega, by omega⟩ hl hl2 hr g.nh ?_ ?_ (fun j xj hj hq ha => ?_) (fun j xj q hj hq hne => ?_) (by rw [List.length_append, g.rl]; rfl)
  · rw [hs0]
    exact g.hs
  · rw [hs0]
    have v := g.inv.begin hf
    by_cases hlt : last = true
    · rw [if_pos hlt]
      exact (v.done (i := i) (by show (sx x).hd i = []; rw [sx_hd he]; exact hl3 hlt)).later (by omega)
    · rw [if_neg hlt]
      exact v.later (by omega)
  · have hq' : x.en[j]? = some (-1) := by
      rcases nxt_en hen hq with ⟨h, -⟩ | ⟨-, -, h⟩
      · exact h
      · omega
    have hxa := (ok.at_ xj (List.mem_of_getElem? hj)).1
    by_cases hnew : xj.a ≤ now
    · have u := g.up j xj hj hq' hnew
      have hjl := (List.getElem?_eq_some_iff.1 hj).1
      have hth : There (yS l) (sx x) now j := ⟨hjl, by rw [yS_a hj]; exact hnew, by rw [sx_dn hq']; simp⟩
      rw [heldF_more g.rl (by omega), hc_of hjob]
      refine up_cong (s := sx x) (fun r => by rw [hs0]) ?_
      by_cases hp : e.x.p < xj.p
      · rw [if_pos hp]
        refine Up.low g.inv u hth hf (by rw [yS_p hjob, yS_p hj]; exact hp) (fun r hr => lf_step hr) (fun h => ?_)
        rw [lf_self he, sx_lf he]
        rw [sx_hd he] at h
        exact hlf h
      · rw [if_neg hp, Int.add_zero]
        exact Up.high u (f := i) (by rw [yS_p hjob, yS_p hj]; omega) (fun r hr => lf_step hr)
    · exact up_new ok hle2 hrn2 hj (by omega)
  · rcases nxt_en hen hq with ⟨h, -⟩ | ⟨rfl, -, rfl⟩
    · have hes : ∃ e', x.es[j]? = some e' := ⟨_, List.getElem?_eq_getElem (by have := (List.getElem?_eq_some_iff.1 hj).1; have := g.len; omega)⟩
      obtain ⟨e', he'⟩ := hes
      have hz := (g.st j e' q he' h).resolve_left (fun h => hne h.1)
      rw [heldF_same g.rl (by omega)]
      exact g.dn j xj q hj h hne
    · have ha := hf.1.2.1
      rw [yS_a hj] at ha
      have hxa := (ok.at_ xj (List.mem_of_getElem? hj)).1
      rw [hjob] at hj
      cases hj
      rw [show ((now : Int) + 1).toNat = now + 1 by omega, heldF_more g.rl (by omega), hc_of hjob, if_neg (by omega), Int.add_zero]
      exact (g.up j e.x hjob hen ha).1

theorem left_work {e : En} {an : Int} (ha : e.x.acts[e.nx]? = some ⟨1, an⟩) (h : hdE e ≠ []) : lfE e = an + leftF (e.x.acts.drop (e.nx + 1)) (stkF (e.x.acts.take e.nx)).length - e.rn := by
  have hnx := (List.getElem?_eq_some_iff.1 ha).1
  have hd := (List.getElem?_eq_some_iff.1 ha).2
  have hne2 : stkF (e.x.acts.take e.nx) ≠ [] := fun h' => h (by unfold hdE; rw [h']; rfl)
  obtain ⟨q, hq⟩ : ∃ q, (stkF (e.x.acts.take e.nx)).length = q + 1 := ⟨(stkF (e.x.acts.take e.nx)).length - 1, by have := List.length_pos_iff.2 hne2; omega⟩
  unfold lfE
  rw [List.drop_eq_getElem_cons hnx, hd, hq, leftF, if_neg (by simp), if_neg (by simp)]

/-- One works, and its act goes on. -/
theorem G.work {l : List Lj} (ok : Ok l) {now : Nat} {runs : List Int} {x : Rs} (g : G l now runs x) {i : Nat} {e : En} {an : Int} (hf : Fm (yS l) (sx x) now i) (he : x.es[i]? = some e) (hen : x.en[i]? = some (-1)) (ha : e.x.acts[e.nx]? = some ⟨1, an⟩) (hm : e.rn + 1 ≠ an) :
    0 ≤ e.rn ∧ e.rn + 1 < an ∧ G l (now + 1) (runs ++ [(i : Int)]) (nxt x i { e with bg := true, rn := e.rn + 1 } false (now + 1) x.hs) := by
  obtain ⟨r0, hr⟩ := g.rn e (List.mem_of_getElem? he)
  have r1 := (hr _ ha).1 rfl
  dsimp only at r1
  have hnx := (List.getElem?_eq_some_iff.1 ha).1
  refine ⟨r0, by omega, g.tick ok (e2 := { e with bg := true, rn := e.rn + 1 }) (last := false) hf he hen rfl (g.wt e (List.mem_of_getElem? he)) rfl ⟨by show 0 ≤ e.rn + 1; omega, fun a h => ?_⟩ (fun h => by cases h) (fun _ => hnx) rfl (fun h => by cases h) (fun h => ?_)⟩
  · change e.x.acts[e.nx]? = _ at h
    rw [ha] at h
    cases h
    exact ⟨fun _ => by show e.rn + 1 < an; omega, fun h => absurd rfl h⟩
  · have h1 := left_work ha h
    have h2 : lfE { e with bg := true, rn := e.rn + 1 } = lfE e - 1 := by unfold lfE; dsimp only; omega
    have h3 := leftF_nonneg (e.x.acts.drop (e.nx + 1)) (stkF (e.x.acts.take e.nx)).length (fun a h => chkA_pos (ok.acts _ (g.mem he)).2 a (List.mem_of_mem_drop h))
    omega

/-- One works, and its act is over. -/
theorem G.worked {l : List Lj} (ok : Ok l) {now : Nat} {runs : List Int} {x : Rs} (g : G l now runs x) {i : Nat} {e : En} {an : Int} (hf : Fm (yS l) (sx x) now i) (he : x.es[i]? = some e) (hen : x.en[i]? = some (-1)) (ha : e.x.acts[e.nx]? = some ⟨1, an⟩) (hm : e.rn + 1 = an) :
    0 ≤ e.rn ∧ G l (now + 1) (runs ++ [(i : Int)]) (nxt x i { e with bg := true, nx := e.nx + 1, rn := 0 } (decide (e.nx + 1 = e.x.acts.length)) (now + 1) x.hs) := by
  obtain ⟨r0, -⟩ := g.rn e (List.mem_of_getElem? he)
  have hnx := (List.getElem?_eq_some_iff.1 ha).1
  have hc := (ok.acts _ (g.mem he)).2
  have hst : stkF (e.x.acts.take (e.nx + 1)) = stkF (e.x.acts.take e.nx) := by rw [stkF_take ha]; simp [doS]
  refine ⟨r0, g.tick ok (e2 := { e with bg := true, nx := e.nx + 1, rn := 0 }) (last := decide (e.nx + 1 = e.x.acts.length)) hf he hen rfl (g.wt e (List.mem_of_getElem? he)) rfl (rn_zero hc _) (fun h => by simpa using h) (fun h => ?_) ?_ (fun h => ?_) (fun h => ?_)⟩
  · show e.nx + 1 < _
    simp at h
    omega
  · unfold hdE
    dsimp only
    rw [hst]
  · simp at h
    rw [h, List.take_length] at hst
    unfold hdE
    rw [← hst]
    have := chkA_end _ _ _ hc
    unfold stkF
    rw [this]
    rfl
  · have h1 := left_work ha h
    have h2 : lfE { e with bg := true, nx := e.nx + 1, rn := 0 } = leftF (e.x.acts.drop (e.nx + 1)) (stkF (e.x.acts.take e.nx)).length - 0 := by unfold lfE; dsimp only; rw [hst]
    have h3 := leftF_nonneg (e.x.acts.drop (e.nx + 1)) (stkF (e.x.acts.take e.nx)).length (fun a h => chkA_pos hc a (List.mem_of_mem_drop h))
    omega

/-- Nobody is there. -/
theorem G.idle {l : List Lj} (ok : Ok l) {now : Nat} {runs : List Int} {x : Rs} (g : G l now runs x) (hno : ∀ (i : Nat) (y : Lj), l[i]? = some y → x.en[i]? = some (-1) → ¬ y.a ≤ now) : G l (now + 1) (runs ++ [-1]) x := by
  refine ⟨g.le, g.ne, g.ws, g.nh, g.wt, fun i e z h1 h2 => ?_, g.rn, g.hs, g.inv.later (by omega), fun j xj hj hq ha => ?_, fun j xj z hj hq hne => ?_, by rw [List.length_append, g.rl]; rfl⟩
  · rcases g.st i e z h1 h2 with h | ⟨h1, h2, h3⟩
    · exact .inl h
    · exact .inr ⟨h1, by omega, h3⟩
  · have := hno j xj hj hq
    exact up_new ok g.le (fun e he => (g.rn e he).1) hj (by omega)
  · have hes : ∃ e', x.es[j]? = some e' := ⟨_, List.getElem?_eq_getElem (by have := (List.getElem?_eq_some_iff.1 hj).1; have := g.len; omega)⟩
    obtain ⟨e', he'⟩ := hes
    have hz := (g.st j e' z he' hq).resolve_left (fun h => hne h.1)
    rw [heldF_same g.rl (by omega)]
    exact g.dn j xj z hj hq hne

def en0 (y : Lj) : En := ⟨y, 0, 0, false, -1, 0⟩
def x0 (l : List Lj) : Rs := ⟨l.map en0, List.replicate l.length (-1), List.replicate l.length 0, [-1, -1, -1, -1]⟩

/-- Ahead of the first tick. -/
theorem G.start {l : List Lj} (ok : Ok l) : G l 0 [] (x0 l) := by
  have hat : ∀ (i : Nat) (e : En), (x0 l).es[i]? = some e → ∃ y, l[i]? = some y ∧ e = en0 y := by
    intro i e h
    unfold x0 at h
    dsimp only at h
    rw [List.getElem?_map] at h
    cases hy : l[i]? with
    | none => rw [hy] at h; simp at h
    | some y => rw [hy] at h; simp at h; exact ⟨y, rfl, h.symm⟩
  have hmem : ∀ e ∈ (x0 l).es, ∃ y ∈ l, e = en0 y := by
    intro e he
    obtain ⟨y, h1, h2⟩ := List.mem_map.1 he
    exact ⟨y, h1, h2.symm⟩
  have hhd : ∀ k, (sx (x0 l)).hd k = [] := by
    intro k
    show (match (x0 l).es[k]? with | some e => hdE e | Option.none => []) = []
    cases h : (x0 l).es[k]? with
    | none => rfl
    | some e =>
      obtain ⟨y, -, rfl⟩ := hat k e h
      simp [hdE, en0, stkF]
  have hs : sx (x0 l) = ⟨fun _ => False, fun _ => False, fun _ => []⟩ := by
    refine Sx.same (fun k => ⟨?_, False.elim⟩) (fun k => ⟨?_, False.elim⟩) hhd
    · rintro ⟨e, h1, h2⟩
      obtain ⟨y, -, rfl⟩ := hat k e h1
      cases h2
    · rintro ⟨z, h1, h2⟩
      have := List.mem_of_getElem? h1
      have := (List.mem_replicate.1 this).2
      exact h2 this
  have hle : (x0 l).es.map En.x = l := by
    show (l.map en0).map En.x = l
    rw [List.map_map]
    exact List.map_id'' (fun _ => rfl) l
  refine ⟨hle, by simp [x0], rfl, rfl, fun e he => ?_, fun i e z h1 h2 => ?_, fun e he => ?_, fun m hm => ?_, ?_, fun j xj hj hq ha => ?_, fun j xj z hj hq hne => ?_, rfl⟩
  · obtain ⟨y, -, rfl⟩ := hmem e he; rfl
  · obtain ⟨y, -, rfl⟩ := hat i e h1
    have := (List.mem_replicate.1 (List.mem_of_getElem? h2)).2
    refine .inl ⟨this, ?_⟩
    by_cases h : y.acts = []
    · exact .inr ⟨h, rfl⟩
    · exact .inl (List.length_pos_iff.2 h)
  · obtain ⟨y, hy, rfl⟩ := hmem e he
    exact rn_zero (ok.acts y hy).2 0
  · refine ⟨-1, ?_, .inl ⟨rfl, fun k => by rw [hhd]; simp⟩⟩
    have : m = 0 ∨ m = 1 ∨ m = 2 ∨ m = 3 := by omega
    rcases this with rfl | rfl | rfl | rfl <;> rfl
  · rw [hs]
    exact Inv.start _
  · exact up_new ok hle (fun e he => by obtain ⟨y, -, rfl⟩ := hmem e he; exact Int.le_refl _) hj (by omega)
  · exact absurd (List.mem_replicate.1 (List.mem_of_getElem? hq)).2 hne

/- What is left to do. -/
def mu (x : Rs) : Nat := (x.es.map (fun e => e.x.acts.length - e.nx)).sum + (x.en.map (fun z => if z = -1 then 1 else 0)).sum

theorem sum_set {α : Type} (f : α → Nat) : ∀ (l : List α) (i : Nat) (a b : α), l[i]? = some a → ((l.set i b).map f).sum + f a = (l.map f).sum + f b
  | [], _, _, _, h => by simp at h
  | c :: r, 0, a, b, h => by simp at h; subst h; simp; omega
  | c :: r, i + 1, a, b, h => by
    have := sum_set f r i a b (by simpa using h)
    simp at this ⊢
    omega

theorem mu_more {x : Rs} {i : Nat} {e e2 : En} {last : Bool} {z : Int} {hs : List Int} (he : x.es[i]? = some e) (hen : x.en[i]? = some (-1)) (hx : e2.x = e.x) (hn : e2.nx = e.nx + 1) (hlt : e.nx < e.x.acts.length) (hz : z ≠ -1) : mu (nxt x i e2 last z hs) < mu x := by
  have h1 := sum_set (fun e : En => e.x.acts.length - e.nx) x.es i e e2 he
  have h2 := sum_set (fun z : Int => if z = -1 then 1 else 0) x.en i (-1) z hen
  rw [hx, hn] at h1
  rw [if_neg hz] at h2
  unfold mu nxt
  cases last
  · simp only [Bool.false_eq_true, if_false]
    omega
  · simp only [if_true]
    simp only [if_true] at h2
    omega

theorem mu_none {x : Rs} {i : Nat} {e e2 : En} {z : Int} {hs : List Int} (he : x.es[i]? = some e) (hen : x.en[i]? = some (-1)) (hx : e2.x = e.x) (hn : e2.nx = e.nx) (hz : z ≠ -1) : mu (nxt x i e2 true z hs) < mu x := by
  have h1 := sum_set (fun e : En => e.x.acts.length - e.nx) x.es i e e2 he
  have h2 := sum_set (fun z : Int => if z = -1 then 1 else 0) x.en i (-1) z hen
  rw [hx, hn] at h1
  rw [if_neg hz] at h2
  unfold mu nxt
  simp only [if_true]
  simp only [if_true] at h2
  omega
end Go.Proofs.Ytcmoehednkaehah
namespace Go.Proofs.Ytcmoehednkaehah
open Go.ChangeShapes Go.WideShapes Go.ChangeAt Go.RowKit
open Once

theorem nrm_end (x : Rs) (hs : List Int) (i : Nat) (e : En) (z : Int) (last : Bool) (hlast : last = decide (e.nx + 1 = e.x.acts.length)) :
    nrm (endF ⟨x.es.set i e, x.en, x.ws, hs⟩ i e z) = nxt (nrm x) i { nac e with nx := e.nx + 1, rn := 0 } last z hs := by
  subst hlast
  unfold endF nrm nxt
  dsimp only
  rw [List.set_set, List.map_set]
  by_cases hl : e.nx + 1 = e.x.acts.length
  · simp only [hl, decide_true, if_true]
    rfl
  · simp only [hl, decide_false, Bool.false_eq_true, if_false]
    rfl

/-- What a job does that goes first. -/
theorem act_G {l : List Lj} (ok : Ok l) (w0 w : World) (A : Ad) (rv : Value) (x : Rs) (hr : RunW w0 w A 3 (topsF l) l.length rv x) (hacts : ∀ y ∈ l, RowSl Ac.vals w0 y.acts y.v) (now : Nat) (hnow : now ≤ 20000) (runs : List Int) (g : G l now runs (nrm x)) (i : Nat) (hf : Fm (yS l) (sx (nrm x)) now i) (hen : x.en[i]? = some (-1)) :
    Calls Try.prog 35 #[.pointer (some ⟨A.R, 0, none⟩), .int .i64 (i : Int), .int .i64 (now : Int)] w fun r w' => ∃ (b : Bool) (x' : Rs), r = .returned (.bool b) ∧ RunW w0 w' A 3 (topsF l) l.length rv x' ∧ (b = true → G l (now + 1) (runs ++ [(i : Int)]) (nrm x')) ∧ (b = false → G l now runs (nrm x') ∧ mu (nrm x') < mu (nrm x)) := by
  have hi : i < l.length := hf.1.1
  obtain ⟨e, he⟩ := at_lt hr.ln.1 hi
  have hne := nrm_at he
  have hmem : e.x ∈ l := by
    have := g.mem hne
    exact this
  have hrow := hacts _ hmem
  obtain ⟨hlen, hc⟩ := ok.acts _ hmem
  have hid : ∀ m : Nat, ∀ es : List En, (∀ e ∈ es, e.wt = -1) → es.map (unF m) = es := fun m es h => by
    have : es.map (unF m) = es.map id := List.map_congr_left (fun e he => by unfold unF; rw [if_neg (by rw [h e he]; omega)]; rfl)
    rw [this, List.map_id]
  by_cases h0 : e.x.acts = []
  · obtain ⟨ad, c, hv⟩ := hrow.len
    rw [h0] at hv
    refine (act_none w0 w A 3 (topsF l) l.length rv x hr i e now he ad c hv).mono ?_
    rintro r w' ⟨rfl, hw⟩
    refine ⟨false, _, rfl, hw, (fun h => by cases h), fun _ => ?_⟩
    have e1 : nrm { x with es := x.es.set i (begF e), en := x.en.set i now } = nxt (nrm x) i (begF (nac e)) true now (nrm x).hs := by
      unfold nrm nxt
      dsimp only
      rw [List.map_set]
      rfl
    rw [e1]
    exact ⟨g.none hf hne hen h0, mu_none hne hen rfl rfl (by omega)⟩
  · have hnx : e.nx < e.x.acts.length := by
      rcases g.st i _ (-1) hne hen with ⟨-, h | h⟩ | h
      · exact h
      · exact absurd h.1 h0
      · omega
    have ha : e.x.acts[e.nx]? = some e.x.acts[e.nx] := List.getElem?_eq_getElem hnx
    generalize e.x.acts[e.nx] = a at ha
    have hfine := chkA_at _ _ _ hc _ _ ha
    have hwt : ∀ e' ∈ x.es.set i (begF e), e'.wt = -1 := by
      intro e' he'
      rcases List.mem_or_eq_of_mem_set he' with h | rfl
      · exact g.wt (nac e') (List.mem_map.2 ⟨e', h, rfl⟩)
      · exact g.wt (nac e) (List.mem_of_getElem? hne)
    obtain ⟨ad0, an⟩ := a
    generalize doS _ _ = s' at hfine
    rcases hfine with ⟨h, h1, h2⟩ | ⟨h, h1, h2, h3⟩ | ⟨h, _, h1⟩
    · dsimp only at h h1 h2
      subst h
      by_cases hm : e.rn + 1 = an
      · obtain ⟨r0, hg⟩ := g.worked ok hf hne hen ha hm
        refine (act_worked w0 w A 3 (topsF l) l.length rv x hr ok.few i e now he hrow hlen an ha hm h2 r0 (by omega) (by omega)).mono ?_
        rintro r w' ⟨rfl, hw⟩
        refine ⟨true, _, rfl, hw, fun _ => ?_, (fun h => by cases h)⟩
        rw [nrm_end x _ i _ _ _ rfl]
        exact hg
      · obtain ⟨r0, r1, hg⟩ := g.work ok hf hne hen ha hm
        refine (act_work w0 w A 3 (topsF l) l.length rv x hr ok.few i e now he hrow hlen an ha r0 r1 h2).mono ?_
        rintro r w' ⟨rfl, hw⟩
        refine ⟨true, _, rfl, hw, fun _ => ?_, (fun h => by cases h)⟩
        have e1 : nrm { x with es := x.es.set i { e with bg := true, rn := e.rn + 1 } } = nxt (nrm x) i { nac e with bg := true, rn := e.rn + 1 } false ((now : Int) + 1) (nrm x).hs := by
          unfold nrm nxt
          dsimp only
          rw [List.map_set]
          rfl
        rw [e1]
        exact hg
    · dsimp only at h h1 h2
      subst h
      obtain ⟨m, rfl⟩ : ∃ m : Nat, an = (m : Int) := ⟨an.toNat, by omega⟩
      have hm : m < 4 := by omega
      obtain ⟨q1, q2, hg⟩ := g.take ok hf hne hen hm ha
      refine (act_take w0 w A 3 (topsF l) l.length rv x hr ok.few i e now he hrow hlen m ha hm q1).mono ?_
      rintro r w' ⟨rfl, hw⟩
      refine ⟨false, _, rfl, hw, (fun h => by cases h), fun _ => ?_⟩
      rw [nrm_end x _ i _ _ false (by symm; exact decide_eq_false q2)]
      exact ⟨hg, mu_more hne hen rfl rfl hnx (by omega)⟩
    · dsimp only at h
      subst h
      have hlk := chkA_locks _ _ _ hc (fun _ h => by simp at h) e.nx an (by rw [h1]; simp)
      obtain ⟨m, rfl⟩ : ∃ m : Nat, an = (m : Int) := ⟨an.toNat, by omega⟩
      obtain ⟨hm, hg⟩ := g.give ok hf hne hen ha
      refine (act_give w0 w A 3 (topsF l) l.length rv x hr ok.few i e now he hrow hlen m ha hm).mono ?_
      rintro r w' ⟨rfl, hw⟩
      refine ⟨false, _, rfl, hw, (fun h => by cases h), fun _ => ?_⟩
      have hun : unF m (begF e) = begF e := by unfold unF; rw [if_neg (by have := g.wt (nac e) (List.mem_of_getElem? hne); change e.wt = -1 at this; show ¬ e.wt = _; omega)]
      rw [hun, hid m _ hwt, nrm_end x _ i _ _ _ rfl]
      exact ⟨hg, mu_more hne hen rfl rfl hnx (by omega)⟩

theorem G.holds {l : List Lj} {now : Nat} {runs : List Int} {x : Rs} (g : G l now runs (nrm x)) : ∀ z ∈ x.hs, z = -1 ∨ (0 ≤ z ∧ z < (l.length : Int)) := by
  intro z hz
  obtain ⟨m, hm⟩ := List.getElem?_of_mem hz
  have hm4 : m < 4 := by have := (List.getElem?_eq_some_iff.1 hm).1; have := g.nh; change x.hs.length = 4 at this; omega
  obtain ⟨z', h1, h2⟩ := g.hs m hm4
  change x.hs[m]? = some z' at h1
  rw [hm] at h1
  cases h1
  rcases h2 with ⟨h2, -⟩ | ⟨i, h2, h3, -⟩
  · exact .inl h2
  · exact .inr (by omega)

theorem nrm_up (x : Rs) (tp : List Int) : nrm { x with es := upAll x.hs tp (x.es.map loF) } = nrm x := by
  unfold nrm
  dsimp only
  rw [nac_up, nac_lo]

theorem G.nobody {l : List Lj} {now : Nat} {runs : List Int} {x : Rs} (g : G l now runs (nrm x)) (hb : Best x now l.length (-1)) : ∀ (i : Nat) (y : Lj), l[i]? = some y → (nrm x).en[i]? = some (-1) → ¬ y.a ≤ (now : Int) := by
  intro i y hy hen ha
  have hi := (List.getElem?_eq_some_iff.1 hy).1
  rcases hb with ⟨-, h⟩ | ⟨i', -, h, -⟩
  · obtain ⟨e, he⟩ : ∃ e, x.es[i]? = some e := ⟨_, List.getElem?_eq_getElem (by have := g.len; unfold nrm at this; simp at this; omega)⟩
    have hj := g.job (nrm_at he)
    rw [hy] at hj
    cases hj
    exact h i hi ⟨e, he, hen, ha, g.wt (nac e) (List.mem_of_getElem? (nrm_at he))⟩
  · omega

set_option maxRecDepth 20000 in
set_option maxHeartbeats 2000000 in
/-- What is done at a tick, till one works. -/
theorem begin_any {l : List Lj} (ok : Ok l) (w0 w : World) (A : Ad) (rv : Value) (x : Rs) (hr : RunW w0 w A 3 (topsF l) l.length rv x) (hacts : ∀ y ∈ l, RowSl Ac.vals w0 y.acts y.v) (now : Nat) (hnow : now ≤ 20000) (runs : List Int) (g : G l now runs (nrm x)) :
    Calls Try.prog 30 #[.pointer (some ⟨A.R, 0, none⟩), .int .i64 (now : Int)] w fun r w' => ∃ (f : Int) (x' : Rs), r = .returned (.int .i64 f) ∧ RunW w0 w' A 3 (topsF l) l.length rv x' ∧ G l (now + 1) (runs ++ [f]) (nrm x') := by
  have H0 : Hid (RunW w0 w A 3 (topsF l) l.length rv x ∧ G l now runs (nrm x)) := ⟨hr, g⟩
  have HA : Hid (∀ y ∈ l, RowSl Ac.vals w0 y.acts y.v) := hacts
  have HOk : Hid (Ok l) := ok
  clear hr g hacts ok
  go_enter Try.func30, Try.ntmps30
  go_wp2_with fail
  go_loopg [] (mu (nrm x)) (fun k wr => ∃ x1, RunW w0 wr A 3 (topsF l) l.length rv x1 ∧ G l now runs (nrm x1) ∧ mu (nrm x1) ≤ k)
  case atStart => exact ⟨x, H0.out.1, H0.out.2, Nat.le_refl _⟩
  case round =>
    obtain ⟨x1, hr1, g1, hm1⟩ := hrel
    have HF := foremost_any w0 wr A 3 (topsF l) l.length rv _ now HOk.out.few (raise_any w0 wr A (topsF l) l.length rv x1 hr1 HOk.out.few g1.holds)
    have HG : Hid (G l now runs (nrm x1) ∧ mu (nrm x1) ≤ gk) := ⟨g1, hm1⟩
    clear hr1 g1 hm1
    go_wp2_with (go_at_call 34; refine HF.mono ?_; rintro r w1 ⟨f, rfl, hb, hw⟩; have HB : Hid (Best { x1 with es := upAll x1.hs (topsF l) (x1.es.map loF) } now l.length f ∧ RunW w0 w1 A 3 (topsF l) l.length rv { x1 with es := upAll x1.hs (topsF l) (x1.es.map loF) }) := ⟨hb, hw⟩; clear hb hw HF)
    · have hf : f = -1 := by assumption
      subst hf
      go_ret
      refine ⟨-1, _, rfl, HB.out.2, ?_⟩
      have g2 : G l now runs (nrm { x1 with es := upAll x1.hs (topsF l) (x1.es.map loF) }) := by rw [nrm_up]; exact HG.out.1
      exact g2.idle HOk.out (g2.nobody HB.out.1)
    · have hf : ¬ f = -1 := by assumption
      obtain ⟨i, rfl⟩ : ∃ i : Nat, f = (i : Int) := by
        rcases HB.out.1 with ⟨h, -⟩ | ⟨i, -, h, -⟩
        · exact absurd h hf
        · exact ⟨i, h⟩
      obtain ⟨hfm, hil, hen⟩ := HG.out.1.first HOk.out HB.out.1
      have HAct := act_G HOk.out w0 w1 A rv { x1 with es := upAll x1.hs (topsF l) (x1.es.map loF) } HB.out.2 HA.out now hnow runs (by rw [nrm_up]; exact HG.out.1) i (by rw [nrm_up]; exact hfm) hen
      rw [nrm_up] at HAct
      clear hfm hil hen
      go_wp2_with (go_at_call 35; refine HAct.mono ?_; rintro r w2 ⟨b, x2, rfl, hw2, hb1, hb2⟩; have H2 : Hid (RunW w0 w2 A 3 (topsF l) l.length rv x2 ∧ (b = true → G l (now + 1) (runs ++ [(i : Int)]) (nrm x2)) ∧ (b = false → G l now runs (nrm x2) ∧ mu (nrm x2) < mu (nrm x1))) := ⟨hw2, hb1, hb2⟩; clear hw2 hb1 hb2 HAct; cases b)
      · obtain ⟨h1, h2⟩ := H2.out.2.2 (by first | rfl | trivial)
        have h3 := HG.out.2
        go_roundg (mu (nrm x2))
        case measure => omega
        case rel => exact ⟨x2, H2.out.1, h1, Nat.le_refl _⟩
      · go_ret
        exact ⟨_, x2, rfl, H2.out.1, H2.out.2.1 (by first | rfl | trivial)⟩
end Go.Proofs.Ytcmoehednkaehah
namespace Go.Proofs.Ytcmoehednkaehah
open Go.ChangeShapes Go.WideShapes Go.ChangeAt Go.RowKit

section

variable {P : Program} {ops : Array Oper} {Q : Exit → Act → World → Prop} {md : Region.Mode} {S : World → Prop} {L : Nat}

/-- What has come up has behind it what it waits for. -/
def shutB (md : Region.Mode) (ops : Array Oper) (l : Array Bool) : Bool :=
  (List.range ops.size).all fun k => !l.getD k false || match ops[k]? with
    | some o => o.after.all fun e => !Region.binds md e || l.getD e.on false
    | none => true

def ShutP (md : Region.Mode) (ops : Array Oper) (l : Array Bool) : Prop :=
  ∀ k o, ops[k]? = some o → l.getD k false = true → ∀ e ∈ o.after, Region.binds md e = true → l.getD e.on false = true

theorem shut_spec {l : Array Bool} (h : shutB md ops l = true) : ShutP md ops l := fun k o hk hl e he hb => by
  simp only [shutB, List.all_eq_true, List.mem_range] at h
  have h1 := h k (Array.getElem?_eq_some_iff.1 hk).1
  simp only [hk, hl, Bool.not_true, Bool.false_or] at h1
  have h2 := Array.all_eq_true_iff_forall_mem.1 h1 e he
  simpa [hb] using h2

theorem shut_set {l : Array Bool} {j : Nat} (h : ShutP md ops l) (hj : j ∈ Region.ready md ops l) : ShutP md ops (l.setIfInBounds j true) := fun k o hk hl e he hb => by
  by_cases hkj : j = k
  · subst hkj
    obtain ⟨-, o', ho', hall⟩ := mem_ready.1 hj
    rw [hk] at ho'; cases ho'
    exact getD_set_true (hall e he hb)
  · rw [getD_set_ne false hkj] at hl
    exact getD_set_true (h k o hk hl e he hb)

/-- All wait, one for the other, to be followed by number L, the last one. -/
def lastB (md : Region.Mode) (ops : Array Oper) (L : Nat) : Bool :=
  L + 1 == ops.size && (List.range L).all fun i => (List.range (L + 1)).any fun j => decide (i < j) && match ops[j]? with
    | some o => o.after.any fun e => Region.binds md e && e.on == i
    | none => false

theorem last_spec {l : Array Bool} (hL : lastB md ops L = true) (h : ShutP md ops l) (hr : L ∈ Region.ready md ops l) : ∀ (d i : Nat), i < L → L - i ≤ d → l.getD i false = true
  | 0, i, hi, hd => by omega
  | d + 1, i, hi, hd => by
    simp only [lastB, Bool.and_eq_true, List.all_eq_true, List.mem_range, List.any_eq_true, decide_eq_true_eq] at hL
    obtain ⟨j, hj, hij, hm⟩ := hL.2 i hi
    cases ho : ops[j]? with
    | none => simp [ho] at hm
    | some o =>
      simp only [ho] at hm
      obtain ⟨e, he, hb⟩ := Array.any_eq_true'.1 hm
      simp only [Bool.and_eq_true, beq_iff_eq] at hb
      rw [← hb.2]
      by_cases hjL : j = L
      · subst hjL
        obtain ⟨-, o', ho', hall⟩ := mem_ready.1 hr
        rw [ho] at ho'; cases ho'
        exact hall e he hb.1
      · exact h j o ho (last_spec (by simp only [lastB, Bool.and_eq_true, List.all_eq_true, List.mem_range, List.any_eq_true, decide_eq_true_eq]; exact hL) h hr d j (by omega) (by omega)) e he hb.1

/-- Whatever order is picked, and S holds behind each operation but the last. -/
def wpAnyL (P : Program) (md : Region.Mode) (ops : Array Oper) (Q : Exit → Act → World → Prop) (S : World → Prop) (L : Nat) : Nat → Array Bool → Act → World → Prop
  | 0, l, a, w => Region.ready md ops l = [] ∧ Q .normal a w
  | f + 1, l, a, w => (Region.ready md ops l = [] → Q .normal a w) ∧ ∀ i ∈ Region.ready md ops l, wpOp P ops Q i (fun a' w' => (i ≠ L → S w') ∧ wpAnyL P md ops Q S L f (l.setIfInBounds i true) a' w') a w

theorem wpAnyL.any : ∀ (f : Nat) (l : Array Bool) (a : Act) (w : World), wpAnyL P md ops Q S L f l a w → wpAny P md ops Q f l a w
  | 0, _, _, _, h => h
  | f + 1, _, _, _, h => ⟨h.1, fun i hi => wpOp_mono (fun a' w' h' => wpAnyL.any f _ a' w' h'.2) (h.2 i hi)⟩

theorem wpAnyL_first {i : Nat} {oi : Oper} {v : Value} (hi : ops[i]? = some oi) (hsel : ∀ (j : Nat) (o : Oper) cs b, ops[j]? = some o → o.op ≠ .select cs b)
    (hQ : ∀ c a w, Q (.panic c) (a.put oi.dst v) w → Q (.panic c) a w) (hL : lastB md ops L = true) (hiL : i < L) :
    ∀ (f : Nat) (l : Array Bool) (a : Act) (w : World), ShutP md ops l →
      (∀ j oj, ops[j]? = some oj → j ≠ i → l.getD j true = false → (∀ e ∈ oj.after, Region.binds md e = true → e.on ≠ i) → oi.apart ops oj = true) →
      i ∈ Region.ready md ops l → YieldsIf P ops S oi v a → S w →
      wpAnyL P md ops Q S L f (l.setIfInBounds i true) (a.put oi.dst v) w → wpAnyL P md ops Q S L (f + 1) l a w
  | f, l, a, w => fun hsh hfree hr hy hS H => by
    refine ⟨fun h => (by rw [h] at hr; cases hr), fun j hj => ?_⟩
    by_cases hji : j = i
    · subst hji; exact hy.wpOp hi hS ⟨fun _ => hS, H⟩
    have h0 := (mem_ready.1 hr).1
    have hjL : j ≠ L := fun e => by
      subst e
      have h1 := last_spec hL hsh hj (j - i) i hiL (Nat.le_refl _)
      rcases Nat.lt_or_ge i l.size with h' | h'
      · simp [h'] at h0 h1; rw [h0] at h1; cases h1
      · simp [Array.getElem?_eq_none h'] at h1
    cases f with
    | zero =>
      have := ready_mono hj hji
      rw [H.1] at this
      cases this
    | succ f =>
      obtain ⟨hjun, oj, hoj, hall⟩ := mem_ready.1 hj
      have hnot : ∀ e ∈ oj.after, Region.binds md e = true → e.on ≠ i := fun e he hb heq => by
        have h1 := hall e he hb
        rw [heq] at h1
        rcases Nat.lt_or_ge i l.size with h' | h'
        · simp [h'] at h0 h1; rw [h0] at h1; cases h1
        · simp [Array.getElem?_eq_none h'] at h1
      refine wpOp_mono (fun a' w' h3 => ?_) (wpOp_putIf hoj (hfree j oj hoj hji hjun hnot) (fun cs b => hsel i oi cs b hi) (fun cs b => hsel j oj cs b hoj) hQ hy (H.2 j (ready_mono hj hji)))
      refine ⟨h3.2.1, wpAnyL_first hi hsel hQ hL hiL f (l.setIfInBounds j true) a' w' (shut_set hsh hj) (fun k ok hk hki hun hno => ?_) (ready_mono hr (Ne.symm hji)) h3.1 (h3.2.1 hjL) (by rw [Array.setIfInBounds_comm _ _ hji]; exact h3.2.2)⟩
      refine hfree k ok hk hki ?_ hno
      by_cases hjk : j = k
      · subst hjk; exact hjun
      · rw [getD_set_ne true hjk] at hun; exact hun

/-- One that is taken first, its slot written out. -/
theorem takeL_at {i n : Nat} {oi : Oper} {v : Value} {f : Nat} {l : Array Bool} {xs : List Value} {ds : List Deferred} {w : World}
    (hi : ops[i]? = some oi) (hd : oi.dst = some n) (hs : Region.noSelect ops = true) (hL : lastB md ops L = true) (hiL : i < L) (hsh : shutB md ops l = true) (hf : Region.free md ops l i = true) (hr : (Region.ready md ops l).contains i = true)
    (hQ : ∀ c a w, Q (.panic c) (a.put oi.dst v) w → Q (.panic c) a w) (hy : YieldsIf P ops S oi v ⟨xs.toArray, ds⟩) (hS : S w)
    (h : wpAnyL P md ops Q S L f (l.setIfInBounds i true) ⟨(xs.set n v).toArray, ds⟩ w) : wpAnyL P md ops Q S L (f + 1) l ⟨xs.toArray, ds⟩ w := by
  refine wpAnyL_first hi (Region.noSelect_spec hs) hQ hL hiL f l _ w (shut_spec hsh) (Region.free_spec hi hf) (by simpa using hr) hy hS ?_
  have e : Act.put ⟨xs.toArray, ds⟩ oi.dst v = ⟨(xs.set n v).toArray, ds⟩ := by rw [hd]; simp [Act.put]
  rw [e]
  exact h

/-- One that is alone. -/
theorem wpAnyL_one {i : Nat} {o : Oper} {f : Nat} {l : Array Bool} {a : Act} {w : World} (hr : Region.ready md ops l = [i]) (ho : ops[i]? = some o)
    (h : ∀ K' : Act → World → Prop, Shut (∀ a w, (i ≠ L → S w) → wpAnyL P md ops Q S L f (l.setIfInBounds i true) a w → K' a w) → if Region.wanted o (yielded ops a.tmps) = true then Oper.wp P o a w K' Q else K' (a.put o.dst undef) w) : wpAnyL P md ops Q S L (f + 1) l a w :=
  ⟨(fun h0 => absurd (hr.symm.trans h0) (by simp)), fun j hj => by
    rw [hr, List.mem_singleton] at hj
    subst hj
    exact wpOp_step ho (fun K' hK => h K' (fun a w hS hW => hK a w ⟨hS, hW⟩))⟩

theorem wpAnyL_done {l : Array Bool} {a : Act} {w : World} (hr : Region.ready md ops l = []) (h : Q .normal a w) : ∀ f, wpAnyL P md ops Q S L f l a w
  | 0 => ⟨hr, h⟩
  | _ + 1 => ⟨fun _ => h, by rw [hr]; simp⟩

theorem wp_region_last {id : Nat} {a : Act} {w : World} (hm : P.follows .mixedOrders = true)
    (h : wpAnyL P .any ops Q S L ops.size (Array.replicate ops.size false) a w.drew) : (Code.region id ops true).wp P Q a w :=
  wp_region_any hm (h.any _ _ _ _)

end
end Go.Proofs.Ytcmoehednkaehah
namespace Go.Proofs.Ytcmoehednkaehah
open Go.ChangeShapes Go.WideShapes Go.ChangeAt Go.RowKit
open Once

theorem region_append {P : Program} {ops : Array Oper} {o : Oper} {a : Act} {w : World} {K : Act → World → Prop} {Q : Exit → Act → World → Prop} {E : Prop} [Decidable (Region.wanted o (yielded ops a.tmps) = true)] (hgd : o.guard = none) (s x : Operand) (t : TypeId)
    (ho : o.op = .call { callee := .builtin .append, args := #[s, x], argTypes := #[t, t] }) {v u v' : Value} {w' : World} (hs : a.eval s = v) (hx : a.eval x = u)
    (hrun : (Builtin.append_ #[t, t] o.type #[v, u]).run P w = .ok v' w') (h : K (a.put o.dst v') w') : if Region.wanted o (yielded ops a.tmps) = true then Oper.wp P o a w K Q else E := by
  have hw : Region.wanted o (yielded ops a.tmps) = true := by simp [Region.wanted, hgd]
  rw [if_pos hw]
  unfold Oper.wp
  simp [execOp, ho, resolve, invoke, builtin, hs, hx, hrun, Result.andThen]
  exact h

/-- One number more. -/
theorem Stk.push {W : World} {B : Nat} {rv : Value} {runs : List Int} (h : Stk W B rv runs) (f : Int) (hl : runs.length ≤ 100000) (hB : B ≤ W.heap.size) :
    ∃ rv' w4, (Builtin.append_ #[26, 26] 26 #[rv, .slice (some ⟨W.heap.size, 0, none⟩) 1 1]).run Try.prog (W.alloc (.cells #[.int .i64 f] 3)) = .ok rv' w4 ∧ Stk w4 B rv' (runs ++ [f]) ∧ Below B W w4 := by
  obtain ⟨i0, hi0, hz0, hz1, hz2⟩ := info_parts info3
  have h1 := h.grow (below_new W (.cells #[.int .i64 f] 3))
  obtain ⟨v4, w4, hrun, ho4, hg4, -, -⟩ := run_append_own_at (P := Try.prog) (w := W.alloc (.cells #[.int .i64 f] 3)) B 26 26 3 i0 _ 1 8 Try.underlying26 hi0 hz0 hz1 hz2 rfl (by decide) rv runs.length (runs.map (Value.int .i64)) h1 ⟨W.heap.size, 0, none⟩ 1 1 [.int .i64 f] rfl (fun j u hj => by rw [Addr.add_lit]; have := (cells_of (l := [.int .i64 f]) (heap_alloc_new W (.cells #[.int .i64 f] 3))).1 j u hj; simpa using this) (fun u hu => by simp at hu; subst hu; rfl) (by unfold maxLen; omega) (by omega) (by simp; omega)
  refine ⟨v4, w4, hrun, ?_, ((below_new W _).mono hB).grown hg4 (by simp; omega) (fun k hk => h.low hk)⟩
  unfold Stk
  rw [List.length_append, List.map_append]
  exact ho4

/-- All of a run lies below B, and who ran above it. -/
structure Lows (w0 : World) (A : Ad) (B : Nat) : Prop where
  bs : A.R < B ∧ A.J < B ∧ A.E < B ∧ A.T < B ∧ A.C < B
  w : w0.heap.size ≤ B
  F : A.F = fun _ => none
  top : B = A.T + 1

theorem RunW.other {w0 w w' : World} {A : Ad} {pr : Int} {tp : List Int} {n B : Nat} {rv : Value} {x : Rs} (h : RunW w0 w A pr tp n rv x) (hb : Below B w w') (hl : Lows w0 A B) : RunW w0 w' A pr tp n rv x := by
  obtain ⟨b1, b2, b3, b4, b5⟩ := hl.bs
  exact ⟨h.bel.trans (hb.mono hl.w), h.lo, h.ne, (hb.block _ b1).trans h.hR, (hb.block _ b2).trans h.hJ, (hb.block _ b3).trans h.hE, (hb.block _ b4).trans h.hT, (hb.block _ b5).trans h.hC, h.ln, fun k o hk => by rw [hl.F] at hk; cases hk⟩

/-- What a run is at the beginning of a tick. -/
structure TW (l : List Lj) (w0 w : World) (A : Ad) (B now : Nat) (runs : List Int) : Prop where
  run : ∃ rv x, RunW w0 w A 3 (topsF l) l.length rv x ∧ Stk w B rv runs ∧ G l now runs (nrm x)
  low : Lows w0 A B

set_option maxRecDepth 20000 in
set_option maxHeartbeats 4000000 in
/-- A tick. -/
theorem tick_any {l : List Lj} (ok : Ok l) (w0 w : World) (A : Ad) (B now : Nat) (runs : List Int) (h : TW l w0 w A B now runs) (hacts : ∀ y ∈ l, RowSl Ac.vals w0 y.acts y.v) (hnow : now ≤ 20000) :
    Calls Try.prog 22 #[.pointer (some ⟨A.R, 0, none⟩), .int .i64 (now : Int)] w fun r w' => r = .returned (.tuple #[]) ∧ ∃ f, TW l w0 w' A B (now + 1) (runs ++ [f]) := by
  obtain ⟨⟨rv, x, hr, hst, g⟩, hlow⟩ := h
  obtain ⟨ad, c, rfl⟩ := owns_value hst
  obtain ⟨b1, b2, b3, b4, b5⟩ := hlow.bs
  have hrl : runs.length = now := g.rl
  have hr2 := hr.drew.beside (fun k => if (Value.slice ad runs.length c).ownBlock = some k then w.heap[k]? else none) (fun k o hk => by
    by_cases hkk : (Value.slice ad runs.length c).ownBlock = some k
    · rw [if_pos hkk] at hk
      have := hst.low hkk
      exact ⟨⟨by omega, by omega, by omega, by omega⟩, hk⟩
    · rw [if_neg hkk] at hk; cases hk)
  have HBeg := begin_any ok w0 w.drew _ (.slice ad runs.length c) x hr2 hacts now hnow runs g
  dsimp only at HBeg
  have HB : Hid (∀ w1 f x', RunW w0 w1 { A with F := fun k => if (Value.slice ad runs.length c).ownBlock = some k then w.heap[k]? else none } 3 (topsF l) l.length (.slice ad runs.length c) x' → G l (now + 1) (runs ++ [f]) (nrm x') → w1.cell? ⟨A.R, 0, none⟩ = some (.slice ad runs.length c) ∧ A.R < w1.heap.size ∧ ∃ ad4 c4 w4, (Builtin.append_ #[26, 26] 26 #[.slice ad runs.length c, .slice (some ⟨w1.heap.size, 0, none⟩) 1 1]).run Try.prog (w1.alloc (.cells #[.int .i64 f] 3)) = .ok (.slice ad4 (runs.length + 1) c4) w4 ∧ w4.cell? ⟨A.R, 0, none⟩ = some (.slice ad runs.length c) ∧ w4.frozen? ⟨A.R, 0, none⟩ = false ∧ A.R < w4.heap.size ∧ RunW w0 (w4.setCell ⟨A.R, 0, none⟩ (.slice ad4 (runs.length + 1) c4)) A 3 (topsF l) l.length (.slice ad4 (runs.length + 1) c4) x' ∧ TW l w0 (w4.setCell ⟨A.R, 0, none⟩ (.slice ad4 (runs.length + 1) c4)) A B (now + 1) (runs ++ [f])) := by
    intro w1 f x' h1 hg1
    have h1' : RunW w0 w1 A 3 (topsF l) l.length (.slice ad runs.length c) x' := h1.beside A.F (fun k o hk => by rw [hlow.F] at hk; cases hk)
    have hst1 : Stk w1 B (.slice ad runs.length c) runs := hst.keep (fun k hk => by
      have hlt : ∃ o, w.heap[k]? = some o := by
        rcases hst.cases with ⟨h0, -⟩ | ⟨g', cap, cur, h0, -, h2, -⟩
        · rw [h0] at hk; cases hk
        · rw [h0] at hk; cases hk; exact ⟨_, h2⟩
      obtain ⟨o, ho⟩ := hlt
      have := (h1.fr k o (by dsimp only; rw [if_pos hk]; exact ho)).2
      rw [this, ho])
    have hB1 : B ≤ w1.heap.size := by
      have := h1'.lts.2.2.2.1
      have := hlow.top
      omega
    obtain ⟨rv', w4, q1, q2, q3⟩ := hst1.push f (by omega) hB1
    obtain ⟨ad4, c4, e4⟩ := owns_value q2
    rw [List.length_append] at e4
    subst e4
    have h4 := h1'.other q3 hlow
    have h5 := h4.setR (.slice ad4 (runs.length + [f].length) c4)
    refine ⟨h1'.own.1, h1'.lts.1, ad4, c4, w4, q1, h4.own.1, h4.frz.1 0, h4.lts.1, h5, ⟨⟨_, x', h5, ?_, hg1⟩, hlow⟩⟩
    refine q2.keep (fun k hk => Below.heap_setCell _ _ _ _ ?_)
    have := q2.low hk
    show k ≠ A.R
    omega
  have hS0 : w.drew.cell? ⟨A.R, 0, none⟩ = some (.slice ad runs.length c) := hr.own.1
  have HW : Hid (G l now runs (nrm x) ∧ l.length ≤ 100) := ⟨g, ok.few⟩
  clear hr hst g hr2 hlow hacts b1 b2 b3 b4 b5 hrl ok
  go_enter Try.func22, Try.ntmps22
  go_wp2_with fail
  refine wp_region_noPanic ?_
  refine wp_region_last (S := fun w' => w'.cell? ⟨A.R, 0, none⟩ = some (.slice ad runs.length c)) (L := 16) (by kernel_rfl) ?_
  refine takeL_at (i := 0) (n := 5) (v := ?_) rfl rfl (by kernel_rfl) (by kernel_rfl) (by decide) (by kernel_rfl) (by kernel_rfl) (by kernel_rfl) (fun _ _ _ h => h) (Or.inl ⟨by rfl, ?_⟩) (by assumption) ?_
  rotate_left 1
  · intro wz hSw
    first | (go_simp; done) | (go_simp; with_reducible rfl)
  simp only [List.set_cons_zero, List.set_cons_succ]
  refine takeL_at (i := 1) (n := 6) (v := ?_) rfl rfl (by kernel_rfl) (by kernel_rfl) (by decide) (by kernel_rfl) (by kernel_rfl) (by kernel_rfl) (fun _ _ _ h => h) (Or.inl ⟨by rfl, ?_⟩) (by assumption) ?_
  rotate_left 1
  · intro wz hSw
    first | (go_simp; done) | (go_simp; with_reducible rfl)
  simp only [List.set_cons_zero, List.set_cons_succ]
  refine takeL_at (i := 2) (n := 7) (v := ?_) rfl rfl (by kernel_rfl) (by kernel_rfl) (by decide) (by kernel_rfl) (by kernel_rfl) (by kernel_rfl) (fun _ _ _ h => h) (Or.inl ⟨by rfl, ?_⟩) (by assumption) ?_
  rotate_left 1
  · intro wz hSw
    first | (go_simp; done) | (go_simp; with_reducible rfl)
  simp only [List.set_cons_zero, List.set_cons_succ]
  refine takeL_at (i := 3) (n := 8) (v := ?_) rfl rfl (by kernel_rfl) (by kernel_rfl) (by decide) (by kernel_rfl) (by kernel_rfl) (by kernel_rfl) (fun _ _ _ h => h) (Or.inl ⟨by rfl, ?_⟩) (by assumption) ?_
  rotate_left 1
  · intro wz hSw
    first | (go_simp; done) | (go_simp; with_reducible rfl)
  simp only [List.set_cons_zero, List.set_cons_succ]
  refine takeL_at (i := 4) (n := 9) (v := ?_) rfl rfl (by kernel_rfl) (by kernel_rfl) (by decide) (by kernel_rfl) (by kernel_rfl) (by kernel_rfl) (fun _ _ _ h => h) (Or.inl ⟨by rfl, ?_⟩) (by assumption) ?_
  rotate_left 1
  · intro wz hSw
    first | (go_simp; done) | (go_simp; with_reducible rfl)
  simp only [List.set_cons_zero, List.set_cons_succ]
  refine takeL_at (i := 5) (n := 10) (v := ?_) rfl rfl (by kernel_rfl) (by kernel_rfl) (by decide) (by kernel_rfl) (by kernel_rfl) (by kernel_rfl) (fun _ _ _ h => h) (Or.inl ⟨by rfl, ?_⟩) (by assumption) ?_
  rotate_left 1
  · intro wz hSw
    first | (go_simp; done) | (go_simp; with_reducible rfl)
  simp only [List.set_cons_zero, List.set_cons_succ]
  refine takeL_at (i := 6) (n := 11) (v := ?_) rfl rfl (by kernel_rfl) (by kernel_rfl) (by decide) (by kernel_rfl) (by kernel_rfl) (by kernel_rfl) (fun _ _ _ h => h) (Or.inl ⟨by rfl, ?_⟩) (by assumption) ?_
  rotate_left 1
  · intro wz hSw
    first | (go_simp; done) | (go_simp; with_reducible rfl)
  simp only [List.set_cons_zero, List.set_cons_succ]
  refine takeL_at (i := 7) (n := 12) (v := ?_) rfl rfl (by kernel_rfl) (by kernel_rfl) (by decide) (by kernel_rfl) (by kernel_rfl) (by kernel_rfl) (fun _ _ _ h => h) (Or.inl ⟨by rfl, ?_⟩) (by assumption) ?_
  rotate_left 1
  · intro wz hSw
    first | (go_simp; done) | (go_simp; with_reducible rfl)
  simp only [List.set_cons_zero, List.set_cons_succ]
  refine takeL_at (i := 8) (n := 13) (v := ?_) rfl rfl (by kernel_rfl) (by kernel_rfl) (by decide) (by kernel_rfl) (by kernel_rfl) (by kernel_rfl) (fun _ _ _ h => h) (Or.inl ⟨by rfl, ?_⟩) (by assumption) ?_
  rotate_left 1
  · intro wz hSw
    first | (go_simp; done) | (go_simp; with_reducible rfl)
  simp only [List.set_cons_zero, List.set_cons_succ]
  refine wpAnyL_one (i := 9) (by kernel_rfl) rfl (fun K' hK' => ?_)
  go_simp
  go_wp2_with (go_at_call 30; refine HBeg.mono ?_; rintro r w1 ⟨f, x1, rfl, hw1, hg1⟩; obtain ⟨s1, l1, ad4, c4, w4, hrun, s4, f4, l4, r4, t4⟩ := HB.out w1 f x1 hw1 hg1; have H4 : Hid (RunW w0 (w4.setCell ⟨A.R, 0, none⟩ (.slice ad4 (runs.length + 1) c4)) A 3 (topsF l) l.length (.slice ad4 (runs.length + 1) c4) x1 ∧ TW l w0 (w4.setCell ⟨A.R, 0, none⟩ (.slice ad4 (runs.length + 1) c4)) A B (now + 1) (runs ++ [f]) ∧ G l (now + 1) (runs ++ [f]) (nrm x1)) := ⟨r4, t4, hg1⟩; clear hw1 hg1 HBeg HB r4 t4)
  refine hK'.out _ _ (fun _ => s1) ?_
  clear hK' K'
  refine wpAnyL_one (i := 10) (by kernel_rfl) rfl (fun K' hK' => ?_)
  go_simp
  refine hK'.out _ _ (fun _ => below_cell (below_new _ _) s1) ?_
  clear hK' K'
  refine wpAnyL_one (i := 11) (by kernel_rfl) rfl (fun K' hK' => ?_)
  refine region_append rfl (.tmp 11) (.tmp 15) 26 rfl rfl rfl hrun ?_
  refine hK'.out _ _ (fun _ => s4) ?_
  clear hK' K'
  refine takeL_at (i := 12) (n := 17) (v := ?_) rfl rfl (by kernel_rfl) (by kernel_rfl) (by decide) (by kernel_rfl) (by kernel_rfl) (by kernel_rfl) (fun _ _ _ h => h) (Or.inl ⟨by rfl, ?_⟩) (by assumption) ?_
  rotate_left 1
  · intro wz hSw
    first | (go_simp; done) | (go_simp; with_reducible rfl)
  simp only [List.set_cons_zero, List.set_cons_succ]
  refine takeL_at (i := 13) (n := 18) (v := ?_) rfl rfl (by kernel_rfl) (by kernel_rfl) (by decide) (by kernel_rfl) (by kernel_rfl) (by kernel_rfl) (fun _ _ _ h => h) (Or.inl ⟨by rfl, ?_⟩) (by assumption) ?_
  rotate_left 1
  · intro wz hSw
    first | (go_simp; done) | (go_simp; with_reducible rfl)
  simp only [List.set_cons_zero, List.set_cons_succ]
  refine takeL_at (i := 14) (n := 19) (v := ?_) rfl rfl (by kernel_rfl) (by kernel_rfl) (by decide) (by kernel_rfl) (by kernel_rfl) (by kernel_rfl) (fun _ _ _ h => h) (Or.inl ⟨by rfl, ?_⟩) (by assumption) ?_
  rotate_left 1
  · intro wz hSw
    first | (go_simp; done) | (go_simp; with_reducible rfl)
  simp only [List.set_cons_zero, List.set_cons_succ]
  refine takeL_at (i := 15) (n := 20) (v := ?_) rfl rfl (by kernel_rfl) (by kernel_rfl) (by decide) (by kernel_rfl) (by kernel_rfl) (by kernel_rfl) (fun _ _ _ h => h) (Or.inl ⟨by rfl, ?_⟩) (by assumption) ?_
  rotate_left 1
  · intro wz hSw
    first | (go_simp; done) | (go_simp; with_reducible rfl)
  simp only [List.set_cons_zero, List.set_cons_succ]
  refine wpAnyL_one (i := 16) (by kernel_rfl) rfl (fun K' hK' => ?_)
  go_simp
  refine hK'.out _ _ (fun h => absurd rfl h) ?_
  clear hK' K'
  refine wpAnyL_done (by kernel_rfl) ?_ _
  refine NoPanic.normal ?_
  have H5 : Hid (∃ w5, w4.setCell ⟨A.R, 0, none⟩ (.slice ad4 (runs.length + 1) c4) = w5) := ⟨_, rfl⟩
  obtain ⟨w5, h5⟩ := H5.out
  rw [h5] at H4
  rw [h5]
  have c5 := H4.out.1.own.2.2.2.1
  have HJ : Hid (∀ k, k < l.length → w5.cell? ⟨A.J, k * 8 + 6, none⟩ = some (.int .i64 (-1))) := by
    intro k hk
    obtain ⟨e, he⟩ := at_lt H4.out.1.ln.1 hk
    have h6 := (H4.out.1.job he).2.2.2.2.2.2.1
    have hw := H4.out.2.2.wt (nac e) (List.mem_of_getElem? (nrm_at he))
    change e.wt = -1 at hw
    rw [hw] at h6
    exact h6
  clear hrun s1 l1 s4 f4 l4 hS0 h5 H5
  have hfew : l.length ≤ 100 := HW.out.2
  go_wp2_with fail
  go_loopw [26] (fun i wr => ∃ k : Nat, k ≤ l.length ∧ i = .int .i64 k ∧ wr = w5) (fun i _ => l.length - (intOf i).toNat)
  case atStart => exact ⟨0, Nat.zero_le _, rfl, rfl⟩
  case round =>
    obtain ⟨k, hk, rfl, rfl⟩ := hrel
    by_cases hlt : k < l.length
    · have j6 := HJ.out k hlt
      have hki : (k : Int) < (l.length : Int) := by omega
      go_wp2_with fail
      exact ⟨⟨k + 1, by omega, by simp, by first | rfl | trivial⟩, by simp [intOf]; omega⟩
    · have hke : k = l.length := by omega
      subst hke
      go_wp2_with fail
      go_end0
      exact ⟨rfl, f, H4.out.2.1⟩
end Go.Proofs.Ytcmoehednkaehah
