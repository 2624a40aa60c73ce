import Derived.Test.YtccoobcggbbcialDoorHO0
namespace Go.Proofs.YtccoobcggbbcialDoor
open Go.ChangeShapes Go.WideShapes Go.ChangeAt Go.RowKit

/- The first good way of all is the first one of those that take cores in their order. -/
def allF (good : List Int → Bool) (cores : Nat) : Nat → List Int → Option (List Int)
  | 0, pre => if good pre = true then some pre else none
  | k + 1, pre => (List.range cores).findSome? fun (c : Nat) => allF good cores k (pre ++ [(c : Int)])

def sw (a b x : Int) : Int := if x = a then b else if x = b then a else x

theorem sw_in {a b x : Int} {n : Nat} (ha : 0 ≤ a ∧ a < (n : Int)) (hb : 0 ≤ b ∧ b < (n : Int)) (hx : 0 ≤ x ∧ x < (n : Int)) : 0 ≤ sw a b x ∧ sw a b x < (n : Int) := by
  unfold sw
  split
  · exact hb
  · split
    · exact ha
    · exact hx

theorem allF_some {good : List Int → Bool} {cores : Nat} : ∀ (k : Nat) (pre : List Int), (allF good cores k pre).isSome = true ↔ ∃ s : List Int, s.length = k ∧ (∀ x ∈ s, 0 ≤ x ∧ x < (cores : Int)) ∧ good (pre ++ s) = true
  | 0, pre => by
    unfold allF
    constructor
    · intro h
      split at h
      · next hg => exact ⟨[], rfl, (fun x hx => by simp at hx), by simpa using hg⟩
      · cases h
    · rintro ⟨s, h1, -, h3⟩
      have : s = [] := List.eq_nil_of_length_eq_zero h1
      subst this
      rw [List.append_nil] at h3
      rw [if_pos h3]
      rfl
  | k + 1, pre => by
    unfold allF
    rw [List.findSome?_isSome_iff]
    constructor
    · rintro ⟨c, hc, h⟩
      obtain ⟨s, h1, h2, h3⟩ := (allF_some k _).1 h
      refine ⟨(c : Int) :: s, by simp [h1], fun x hx => ?_, by simpa using h3⟩
      rcases List.mem_cons.1 hx with rfl | hx
      · have := List.mem_range.1 hc
        omega
      · exact h2 x hx
    · rintro ⟨s, h1, h2, h3⟩
      cases s with
      | nil => simp at h1
      | cons x s =>
        have hx := h2 x List.mem_cons_self
        refine ⟨x.toNat, List.mem_range.2 (by omega), (allF_some k _).2 ⟨s, by simpa using h1, fun y hy => h2 y (List.mem_cons_of_mem _ hy), ?_⟩⟩
        have e : ((x.toNat : Nat) : Int) = x := by omega
        rw [e]
        simpa using h3

theorem findSome_more {α : Type} {f : Nat → Option α} : ∀ (d m : Nat), (∀ c, m ≤ c → c < m + d → (∀ j, j < m → f j = none) → f c = none) → (List.range (m + d)).findSome? f = (List.range m).findSome? f
  | 0, m, _ => rfl
  | d + 1, m, h => by
    rw [show m + (d + 1) = (m + d) + 1 by omega, List.range_succ, List.findSome?_append, findSome_more d m (fun c h1 h2 => h c h1 (by omega))]
    cases e : (List.range m).findSome? f with
    | some r => rfl
    | none =>
      have hn := fun j (hj : j < m) => (List.findSome?_eq_none_iff.1 e) j (List.mem_range.2 hj)
      simp [h (m + d) (by omega) (by omega) hn]

theorem findSome_same {α : Type} {f g : Nat → Option α} : ∀ (xs : List Nat), (∀ c ∈ xs, f c = g c) → xs.findSome? f = xs.findSome? g
  | [], _ => rfl
  | x :: r, h => by
    rw [List.findSome?_cons, List.findSome?_cons, h x List.mem_cons_self, findSome_same r (fun c hc => h c (List.mem_cons_of_mem _ hc))]

theorem all_lay {good : List Int → Bool} {cores n : Nat} (hinv : ∀ (a b : Int) (ws : List Int), 0 ≤ a ∧ a < (cores : Int) → 0 ≤ b ∧ b < (cores : Int) → ws.length = n → (∀ x ∈ ws, 0 ≤ x ∧ x < (cores : Int)) → good ws = true → good (ws.map (sw a b)) = true) : ∀ (k : Nat) (pre : List Int) (used : Nat), pre.length + k = n → used ≤ cores → (∀ x ∈ pre, 0 ≤ x ∧ x < (used : Int)) → allF good cores k pre = layF good cores k pre used
  | 0, pre, used, _, _, _ => rfl
  | k + 1, pre, used, hk, hu, hp => by
    unfold allF layF
    have step : ∀ c : Nat, c < min (used + 1) cores → allF good cores k (pre ++ [(c : Int)]) = layF good cores k (pre ++ [(c : Int)]) (max used (c + 1)) := fun c hc => all_lay hinv k _ _ (by simp; omega) (by omega) (fun x hx => by
      rcases List.mem_append.1 hx with hx | hx
      · have := hp x hx; omega
      · have := List.mem_singleton.1 hx; omega)
    have e1 : (List.range (min (used + 1) cores)).findSome? (fun (c : Nat) => layF good cores k (pre ++ [(c : Int)]) (max used (c + 1))) = (List.range (min (used + 1) cores)).findSome? (fun (c : Nat) => allF good cores k (pre ++ [(c : Int)])) := by
      refine findSome_same _ fun c hc => ?_
      exact (step c (List.mem_range.1 hc)).symm
    rw [e1]
    obtain ⟨d, hd⟩ : ∃ d, cores = min (used + 1) cores + d := ⟨cores - min (used + 1) cores, by omega⟩
    have key := findSome_more (f := fun (c : Nat) => allF good cores k (pre ++ [(c : Int)])) d (min (used + 1) cores) (fun c h1 h2 hno => by
      have hc : c < cores := by omega
      have huc : used < c := by omega
      have h9 := hno used (by omega)
      cases e : allF good cores k (pre ++ [(c : Int)]) with
      | none => rfl
      | some r =>
        have h3 : (allF good cores k (pre ++ [(c : Int)])).isSome = true := by rw [e]; rfl
        obtain ⟨s, s1, s2, s3⟩ := (allF_some k _).1 h3
        have h4 := hinv (c : Int) (used : Int) (pre ++ [(c : Int)] ++ s) (by omega) (by omega) (by simp; omega) (fun x hx => by
          rcases List.mem_append.1 hx with hx | hx
          · rcases List.mem_append.1 hx with hx | hx
            · have := hp x hx; omega
            · have := List.mem_singleton.1 hx; omega
          · exact s2 x hx) s3
        have h5 : (allF good cores k (pre ++ [(used : Int)])).isSome = true := (allF_some k _).2 ⟨s.map (sw (c : Int) (used : Int)), by simp [s1], (fun x hx => by
          obtain ⟨y, hy, rfl⟩ := List.mem_map.1 hx
          exact sw_in (by omega) (by omega) (s2 y hy)), by
            rw [List.map_append, List.map_append] at h4
            have e2 : pre.map (sw (c : Int) (used : Int)) = pre := by
              conv => rhs; rw [← List.map_id pre]
              refine List.map_congr_left fun x hx => ?_
              have := hp x hx
              unfold sw
              rw [if_neg (by omega), if_neg (by omega)]
              rfl
            have e3 : [(c : Int)].map (sw (c : Int) (used : Int)) = [(used : Int)] := by simp [sw]
            rw [e2, e3] at h4
            exact h4⟩
        rw [h9] at h5
        cases h5)
    rw [← hd] at key
    exact key
end Go.Proofs.YtccoobcggbbcialDoor
namespace Go.Proofs.YtccoobcggbbcialDoor
open Go.ChangeShapes Go.WideShapes Go.ChangeAt Go.RowKit

/- Whether a way is good does not hang on how cores are named. -/
theorem frFrom_on {tk : List Int} : ∀ (l : List Pa) (cs : List Int) (k : Nat), cs.length = l.length → frFrom (onC l cs) tk k = frFrom l tk k
  | [], cs, k, h => by cases cs <;> rfl
  | x :: r, [], k, h => by simp at h
  | x :: r, c :: s, k, h => by
    simp only [onC, frFrom]
    rw [frFrom_on r s (k + 1) (by simpa using h)]
theorem lat0_on {tk : List Int} : ∀ (l : List Pa) (cs : List Int), cs.length = l.length → lat0 (onC l cs) tk = lat0 l tk
  | [], cs, h => by cases cs <;> rfl
  | x :: r, [], h => by simp at h
  | x :: r, c :: s, h => by
    have ih := lat0_on (tk := tk) r s (by simpa using h)
    unfold lat0 at ih ⊢
    simp only [onC, List.map_cons]
    rw [ih]
theorem LatR_on {l : List Pa} {cs tk : List Int} {r : Option (List Int)} (h : cs.length = l.length) : LatR (onC l cs) tk r ↔ LatR l tk r := by
  unfold LatR frsP
  rw [frFrom_on l cs 0 h, lat0_on l cs h]

theorem sumP_on {f : Int → Int} {i : Nat} {xi : Pa} {c0 : Int} {late : List Int} {w : Int} : ∀ (l : List Pa) (cs : List Int) (k : Nat), (∀ a ∈ cs, f a = f c0 ↔ a = c0) → sumP i { xi with co := f c0 } late w (onC l (cs.map f)) k = sumP i { xi with co := c0 } late w (onC l cs) k
  | [], cs, k, _ => by cases cs <;> rfl
  | x :: r, [], k, _ => rfl
  | x :: r, c :: s, k, h => by
    have ih := sumP_on (f := f) (i := i) (xi := xi) (c0 := c0) (late := late) (w := w) r s (k + 1) (fun a ha => h a (List.mem_cons_of_mem _ ha))
    have hc := h c List.mem_cons_self
    simp only [List.map_cons, onC, sumP, ih, upP]
    by_cases e : k ≠ i ∧ c = c0 ∧ xi.p ≤ x.p
    · rw [if_pos e, if_pos ⟨e.1, hc.2 e.2.1, e.2.2⟩]
    · rw [if_neg e, if_neg (fun g => e ⟨g.1, hc.1 g.2.1, g.2.2⟩)]

theorem onC_get {l : List Pa} {cs : List Int} {i : Nat} {y : Pa} (h : cs.length = l.length) (hy : (onC l cs)[i]? = some y) : ∃ x c, l[i]? = some x ∧ cs[i]? = some c ∧ y = { x with co := c } := by
  have hi := (List.getElem?_eq_some_iff.1 hy).1
  rw [onC_len l cs h] at hi
  have h1 := List.getElem?_eq_getElem hi
  have h2 := List.getElem?_eq_getElem (show i < cs.length by omega)
  refine ⟨_, _, h1, h2, ?_⟩
  have h3 := onC_at l cs i _ _ h1 h2
  rw [hy] at h3
  exact Option.some.inj h3

theorem wPx_on {f : Int → Int} {l : List Pa} {cs late : List Int} {i : Nat} {x : Pa} {c : Int} (hf : ∀ a ∈ cs, ∀ b ∈ cs, f a = f b ↔ a = b) (hc : cs[i]? = some c) : wPx (onC l (cs.map f)) late i { x with co := f c } = wPx (onC l cs) late i { x with co := c } := by
  unfold wPx
  congr 1
  funext w
  rw [sumP_on l cs 0 (fun a ha => hf a ha c (List.mem_of_getElem? hc))]

theorem RsR_on {f : Int → Int} {l : List Pa} {cs late : List Int} {r : Option (List Int)} (hlen : cs.length = l.length) (hf : ∀ a ∈ cs, ∀ b ∈ cs, f a = f b ↔ a = b) (h : RsR (onC l cs) late r) : RsR (onC l (cs.map f)) late r := by
  have hl2 : (cs.map f).length = l.length := by rw [List.length_map]; exact hlen
  rcases h with ⟨rfl, i, y, h1, h2⟩ | ⟨all, rfl, h1, h2⟩
  · obtain ⟨x, c, e1, e2, rfl⟩ := onC_get hlen h1
    refine .inl ⟨rfl, i, { x with co := f c }, onC_at _ _ _ _ _ e1 (by rw [List.getElem?_map, e2]; rfl), ?_⟩
    rw [wPx_on hf e2]
    exact h2
  · refine .inr ⟨all, rfl, by rw [h1, onC_len _ _ hlen, onC_len _ _ hl2], fun i y hy => ?_⟩
    obtain ⟨x, c', e1, e2, rfl⟩ := onC_get hl2 hy
    rw [List.getElem?_map] at e2
    cases e3 : cs[i]? with
    | none => rw [e3] at e2; cases e2
    | some c =>
      rw [e3] at e2
      simp only [Option.map_some, Option.some.injEq] at e2
      subst e2
      rw [wPx_on hf e3]
      exact h2 i _ (onC_at _ _ _ _ _ e1 e3)

theorem StepR_on {f : Int → Int} {l : List Pa} {cs tk : List Int} {r : Option (List Int)} (hlen : cs.length = l.length) (hf : ∀ a ∈ cs, ∀ b ∈ cs, f a = f b ↔ a = b) (hok : PsOk (onC l cs)) (hok2 : PsOk (onC l (cs.map f))) (ht : TkOk (onC l cs) tk) (h : StepR (onC l cs) tk r) : StepR (onC l (cs.map f)) tk r := by
  have hl2 : (cs.map f).length = l.length := by rw [List.length_map]; exact hlen
  obtain ⟨lt, h1, h2⟩ := h
  refine ⟨lt, (LatR_on hl2).2 ((LatR_on hlen).1 h1), ?_⟩
  rcases h2 with h2 | ⟨late, rfl, rfl⟩
  · exact .inl h2
  · refine .inr ⟨late, rfl, ?_⟩
    have hlt := LatR.ok hok ht h1
    have hlt2 : LtOk (onC l (cs.map f)) late := ⟨by rw [hlt.1, onC_len _ _ hlen, onC_len _ _ hl2], hlt.2⟩
    exact (RsR_on hlen hf (respC_is hok hlt)).one (respC_is hok2 hlt2)

theorem Sett_on {f : Int → Int} {l : List Pa} {cs : List Int} (hlen : cs.length = l.length) (hf : ∀ a ∈ cs, ∀ b ∈ cs, f a = f b ↔ a = b) (hok : PsOk (onC l cs)) (hok2 : PsOk (onC l (cs.map f))) {tk : List Int} {r : Option (List Int)} (h : Sett (onC l cs) tk r) : TkOk (onC l cs) tk → Sett (onC l (cs.map f)) tk r := by
  induction h with
  | stop h => intro ht; exact .stop (StepR_on hlen hf hok hok2 ht h)
  | fix h => intro ht; exact .fix (StepR_on hlen hf hok hok2 ht h)
  | go h e _ ih => intro ht; exact .go (StepR_on hlen hf hok hok2 ht h) e (ih (h.ok hok ht))

theorem wrongP_of {a r : List Pa} {x : Pa} (h : PaOk (a ++ x :: r) a.length x) : wrongP x a = 0 := by
  obtain ⟨h1, h2, h3, h4, h5, h6, h7, h8⟩ := h
  unfold wrongP
  rw [if_neg, if_neg, if_neg]
  · rintro (e | ⟨e1, e2⟩)
    · simp only [within, Bool.and_eq_false_iff, decide_eq_false_iff_not] at e; omega
    · rcases h8 with h8 | ⟨g1, g2, y, g3, g4⟩
      · exact e1 h8.1
      · rw [List.getElem?_append_left (by omega)] at g3
        rw [List.getD_eq_getElem?_getD, g3] at e2
        exact e2 g4
  · rintro (e | ⟨e1, e2⟩)
    · simp only [within, Bool.and_eq_false_iff, decide_eq_false_iff_not] at e; omega
    · rcases h8 with h8 | h8
      · exact e2 h8.2
      · omega
  · simp only [mayP, within, Bool.and_eq_true, decide_eq_true_eq, Bool.not_eq_false]
    omega

theorem chkGo_of : ∀ (r a : List Pa), (∀ i x, (a ++ r)[i]? = some x → PaOk (a ++ r) i x) → (chkGo a r).1 = 0
  | [], a, _ => rfl
  | x :: r, a, h => by
    rw [chkGo, if_neg (by rw [wrongP_of (h a.length x (by simp))]; simp)]
    exact chkGo_of r (a ++ [x]) (by rw [List.append_assoc]; exact h)

theorem chkP_of {l : List Pa} (h : PsOk l) : (chkP l).1 = 0 := by
  have h1 := h.one
  have h2 := h.most
  unfold chkP
  rw [if_neg (by simp only [within, Bool.and_eq_false_iff, decide_eq_false_iff_not]; omega)]
  exact chkGo_of l [] h.at_

theorem PsOk.on {l : List Pa} {cs ds : List Int} (h : PsOk (onC l cs)) (hc : cs.length = l.length) (hd : ds.length = l.length) (hr : ∀ x ∈ ds, 0 ≤ x ∧ x ≤ 3) : PsOk (onC l ds) := by
  refine ⟨by rw [onC_len _ _ hd, ← onC_len _ _ hc]; exact h.one, by rw [onC_len _ _ hd, ← onC_len _ _ hc]; exact h.most, fun i y hy => ?_⟩
  obtain ⟨x, d, e1, e2, rfl⟩ := onC_get hd hy
  have hi : i < cs.length := by rw [hc]; exact (List.getElem?_eq_some_iff.1 e1).1
  obtain ⟨g1, g2, g3, g4, g5, g6, g7, g8⟩ := h.at_ i _ (onC_at _ _ _ _ _ e1 (List.getElem?_eq_getElem hi))
  refine ⟨hr d (List.mem_of_getElem? e2), g2, g3, g4, g5, g6, g7, ?_⟩
  rcases g8 with g8 | ⟨k1, k2, z, k3, k4⟩
  · exact .inl g8
  · obtain ⟨x', c', f1, f2, rfl⟩ := onC_get hc k3
    have hj : x.fr.toNat < ds.length := by rw [hd]; exact (List.getElem?_eq_some_iff.1 f1).1
    exact .inr ⟨k1, k2, _, onC_at _ _ _ _ _ f1 (List.getElem?_eq_getElem hj), k4⟩

theorem good_on {good : List Int → Bool} {l : List Pa} {cores : Nat} (hc4 : cores ≤ 4) (hgood : ∀ ws, good ws = true ↔ ∃ ts, RespsR (onC l ws) ts (0, 0)) (a b : Int) (ws : List Int) (ha : 0 ≤ a ∧ a < (cores : Int)) (hb : 0 ≤ b ∧ b < (cores : Int)) (hlen : ws.length = l.length) (hw : ∀ x ∈ ws, 0 ≤ x ∧ x < (cores : Int)) (hg : good ws = true) : good (ws.map (sw a b)) = true := by
  obtain ⟨ts, h⟩ := (hgood ws).1 hg
  have hl2 : (ws.map (sw a b)).length = l.length := by rw [List.length_map]; exact hlen
  rcases h with ⟨h1, -, h2⟩ | ⟨h1, res, h2, h3⟩
  · rw [← h2] at h1; exact absurd rfl h1
  · have hok := chkP_ok h1
    have hok2 := hok.on hlen hl2 (fun x hx => by
      obtain ⟨y, hy, rfl⟩ := List.mem_map.1 hx
      have := sw_in ha hb (hw y hy)
      omega)
    have hf : ∀ x ∈ ws, ∀ y ∈ ws, sw a b x = sw a b y ↔ x = y := fun x _ y _ => by
      unfold sw
      split <;> split <;> (try split) <;> (try split) <;> omega
    rcases h3 with ⟨-, -, h3⟩ | ⟨rfl, h4, -⟩
    · cases h3
    · have h5 := Sett_on hlen hf hok hok2 h2 (zeros_ok hok)
      refine (hgood _).2 ⟨ts, .inr ⟨chkP_of hok2, some ts, ?_, .inr ⟨rfl, by rw [h4, onC_len _ _ hlen, onC_len _ _ hl2], rfl⟩⟩⟩
      rw [onC_len _ _ hlen] at h5
      rw [onC_len _ _ hl2]
      exact h5
end Go.Proofs.YtccoobcggbbcialDoor
namespace Go.Proofs.YtccoobcggbbcialDoor
open Go.ChangeShapes Go.WideShapes Go.ChangeAt Go.RowKit

/- Chapter 18, pure: how the document counts ways. -/
/-- The way that has a number. -/
def dgF (cores n way : Nat) : List Int := (List.range n).map fun i => ((way / cores ^ (n - 1 - i) % cores : Nat) : Int)
theorem dgF_len (cores n way : Nat) : (dgF cores n way).length = n := by simp [dgF]
theorem dgF_at {cores n way i : Nat} (h : i < n) : (dgF cores n way)[i]? = some ((way / cores ^ (n - 1 - i) % cores : Nat) : Int) := by
  unfold dgF
  rw [List.getElem?_map, List.getElem?_range h]
  rfl
theorem dgF_cons {cores k c w : Nat} (hc : c < cores) (hw : w < cores ^ k) : dgF cores (k + 1) (c * cores ^ k + w) = (c : Int) :: dgF cores k w := by
  have hp : 0 < cores := by omega
  refine List.ext_getElem? fun i => ?_
  cases i with
  | zero =>
    rw [dgF_at (by omega), List.getElem?_cons_zero]
    congr 1
    rw [show k + 1 - 1 - 0 = k by omega, Nat.add_comm, Nat.add_mul_div_right _ _ (Nat.pow_pos hp), Nat.div_eq_of_lt hw, Nat.zero_add, Nat.mod_eq_of_lt hc]
  | succ i =>
    rw [List.getElem?_cons_succ]
    by_cases hi : i < k
    · rw [dgF_at (by omega), dgF_at hi]
      congr 1
      rw [show k + 1 - 1 - (i + 1) = k - 1 - i by omega]
      have e : cores ^ k = cores ^ (k - 1 - i) * cores ^ (i + 1) := by rw [← Nat.pow_add]; congr 1; omega
      have e2 : c * cores ^ k + w = w + cores ^ (k - 1 - i) * (c * cores ^ (i + 1)) := by
        rw [e]
        generalize cores ^ (k - 1 - i) = A
        generalize cores ^ (i + 1) = B
        rw [Nat.mul_left_comm, Nat.add_comm]
      rw [e2, Nat.add_mul_div_left _ _ (Nat.pow_pos hp), Nat.pow_succ, ← Nat.mul_assoc, Nat.add_mul_mod_self_right]
    · rw [List.getElem?_eq_none (by rw [dgF_len]; omega), List.getElem?_eq_none (by rw [dgF_len]; omega)]
theorem findSome_blocks {α : Type} {f : Nat → Option α} (b : Nat) : ∀ a : Nat, (List.range (a * b)).findSome? f = (List.range a).findSome? fun c => (List.range b).findSome? fun w => f (c * b + w)
  | 0 => by simp
  | a + 1 => by
    rw [Nat.succ_mul, List.range_add, List.findSome?_append, findSome_blocks b a, List.range_succ, List.findSome?_append, List.findSome?_map]
    congr 1
    simp [Function.comp_def]
theorem all_dg {good : List Int → Bool} {cores : Nat} : ∀ (k : Nat) (pre : List Int), allF good cores k pre = (List.range (cores ^ k)).findSome? fun w => if good (pre ++ dgF cores k w) = true then some (pre ++ dgF cores k w) else none
  | 0, pre => by
    rw [Nat.pow_zero, List.range_one]
    simp [allF, dgF]
  | k + 1, pre => by
    unfold allF
    rw [Nat.pow_succ, Nat.mul_comm, findSome_blocks]
    refine findSome_same _ fun c hc => ?_
    rw [all_dg k (pre ++ [(c : Int)])]
    refine findSome_same _ fun w hw => ?_
    rw [dgF_cons (List.mem_range.1 hc) (List.mem_range.1 hw)]
    simp
theorem dg_rest {cores n way i : Nat} (hi : i < n) : way / cores ^ (n - 1 - i) / cores = way / cores ^ (n - i) := by
  rw [Nat.div_div_eq_div_mul, ← Nat.pow_succ, show (n - 1 - i).succ = n - i by omega]
/-- What is laid when i parts are left. -/
def dgUp (cores n way i : Nat) : List Int := List.replicate i 0 ++ (dgF cores n way).drop i
theorem dgUp_len {cores n way i : Nat} (hi : i ≤ n) : (dgUp cores n way i).length = n := by
  unfold dgUp
  rw [List.length_append, List.length_replicate, List.length_drop, dgF_len]
  omega
theorem dgUp_full (cores n way : Nat) : dgUp cores n way n = List.replicate n 0 := by
  unfold dgUp
  rw [List.drop_of_length_le (by rw [dgF_len]; exact Nat.le_refl _), List.append_nil]
theorem dgUp_zero (cores n way : Nat) : dgUp cores n way 0 = dgF cores n way := by
  unfold dgUp
  simp
theorem dgUp_set {cores n way i : Nat} (hi : i < n) : (dgUp cores n way (i + 1)).set i ((way / cores ^ (n - 1 - i) % cores : Nat) : Int) = dgUp cores n way i := by
  unfold dgUp
  have hl : i < (dgF cores n way).length := by rw [dgF_len]; exact hi
  have e : (dgF cores n way).drop i = ((way / cores ^ (n - 1 - i) % cores : Nat) : Int) :: (dgF cores n way).drop (i + 1) := by
    rw [List.drop_eq_getElem_cons hl]
    congr 1
    have h9 := dgF_at (cores := cores) (way := way) hi
    rw [List.getElem?_eq_getElem hl] at h9
    exact Option.some.inj h9
  rw [e, List.replicate_succ', List.append_assoc, List.set_append_right _ _ (by simp)]
  simp
theorem dgF_rng {cores n way : Nat} (hc : 0 < cores) : ∀ x ∈ dgF cores n way, 0 ≤ x ∧ x < (cores : Int) := fun x hx => by
  unfold dgF at hx
  obtain ⟨i, -, rfl⟩ := List.mem_map.1 hx
  have := Nat.mod_lt (way / cores ^ (n - 1 - i)) hc
  omega
theorem layF_first {good : List Int → Bool} {cores n way : Nat} (hinv : allF good cores n [] = layF good cores n [] 0) (hw : way < cores ^ n) (hn : ∀ u, u < way → good (dgF cores n u) = false) (hg : good (dgF cores n way) = true) : layF good cores n [] 0 = some (dgF cores n way) := by
  rw [← hinv, all_dg]
  refine findSome_range _ way _ hw (fun j hj => ?_) ?_
  · simp [hn j hj]
  · simp [hg]
theorem layF_none {good : List Int → Bool} {cores n : Nat} (hinv : allF good cores n [] = layF good cores n [] 0) (hn : ∀ u, u < cores ^ n → good (dgF cores n u) = false) : layF good cores n [] 0 = none := by
  rw [← hinv, all_dg, List.findSome?_eq_none_iff]
  intro u hu
  simp [hn u (List.mem_range.1 hu)]
end Go.Proofs.YtccoobcggbbcialDoor
