import Derived.Test.YtccoobcggbbciamKC5
import Derived.Test.YtccoobcggbbciamHK0
namespace Go.Proofs.Ytccoobcggbbciam
open Go.ChangeShapes Go.WideShapes Go.ChangeAt Go.RowKit

/- Chapter 18, pure: the bus as a run of its own. -/
namespace Keep
def frZ : Fr := ⟨1, 1, 1, 0⟩
theorem lt_kindsN {m : Fr} {busy : Int} {q : Nat} (hm : okFr m) (h : (q : Int) * m.t < busy + m.j) : (q : Int) < kinds m busy := by
  unfold kinds
  have ht := hm.2.2.1
  have : (q : Int) + 1 ≤ (busy + m.j + m.t - 1) / m.t := by
    rw [Int.le_ediv_iff_mul_le (by omega), Int.add_mul, Int.one_mul]
    omega
  omega
theorem tm_each {b : Int} {hd : List Fr} {m : Fr} : ∀ {K : Nat} {v : Int}, Tm b hd m K (some v) → ∀ q, q < K → ∃ w, Fx (qAsk b hd m (q : Int)) 0 (some w) ∧ m.j + w - (q : Int) * m.t + m.c ≤ v
  | _, _, .zero, q, hq => by omega
  | K + 1, _, .next (v := v) (w := w) h f, q, hq => by
    by_cases e : q = K
    · subst e
      exact ⟨w, f, by omega⟩
    · obtain ⟨w', h1, h2⟩ := tm_each h q (by omega)
      exact ⟨w', h1, by omega⟩
theorem sumF_take {f : Int → Fr → Int} {w : Int} {l : List Fr} : ∀ k, k ≤ l.length → sumF f w (l.take k) = FK.sumN k (fun y => f w (l.getD y frZ))
  | 0, _ => by simp [sumF, FK.sumN]
  | k + 1, h => by
    have hk : k < l.length := by omega
    rw [take_snoc (List.getElem?_eq_getElem hk), sumF_append, sumF_take k (by omega)]
    show _ = FK.sumN k _ + f w (l.getD k frZ)
    rw [List.getD_eq_getElem?_getD, List.getElem?_eq_getElem hk]
    simp [sumF]

/-- The messages, by numbers: cm says which one a part's is. -/
structure Ms (l : List Pa) (ts late : List Int) (fs : List Fr) (cm : Nat → Nat) : Prop where
  ok : ∀ m ∈ fs, okFr m
  at_ : ∀ k f : Nat, k < l.length → se l k ≠ 0 → fr l k = (f : Int) → cm k < fs.length ∧ fs.getD (cm k) frZ = ⟨se l k, (l.getD k paZ).t, (l.getD k paZ).d, ts.getD f 0⟩ ∧ Wst (fs.take (cm k)) (fs.getD (cm k) frZ) (fs.drop (cm k + 1)) (some (late.getD k 0))
  up : ∀ k k', k < k' → k' < l.length → se l k ≠ 0 → se l k' ≠ 0 → cm k < cm k'

section
variable {l : List Pa} {tk : List Int} {cs : List Co} {ord : List Nat}
section
variable (l tk cs ord)
def isM (i : Nat) : Prop := Real l cs (nnI ord l.length i) (i % l.length) ∧ se l (i % l.length) ≠ 0
instance (i : Nat) : Decidable (isM l cs ord i) := inferInstanceAs (Decidable (_ ∧ _))
def aM (N i : Nat) : Int := if isM l cs ord i then at_ cs (nnI ord l.length i) else ((N + i : Nat) : Int)
def rM (ts : List Int) (N i : Nat) : Int := if isM l cs ord i then (if fstT (fun t => RM l tk cs ord t (i % l.length) (nnI ord l.length i)) N < N then (fstT (fun t => RM l tk cs ord t (i % l.length) (nnI ord l.length i)) N : Int) else at_ cs (nnI ord l.length i) + ts.getD (fr l (i % l.length)).toNat 0) else ((N + i : Nat) : Int)
def xM (i : Nat) : Int := if isM l cs ord i then se l (i % l.length) else 1
def LMI (t i : Nat) : Int := if isM l cs ord i then LM l tk cs ord t (i % l.length) (nnI ord l.length i) else 1
def kM (cm : Nat → Nat) (nf i : Nat) : Nat := if isM l cs ord i then cm (i % l.length) else nf
def ixM (z k n : Nat) : Nat := ord.idxOf n * z + k
def whoM (t : Nat) : Option Nat := (Wm l tk cs ord t).map (fun y => ixM ord l.length y.1 y.2)
end

theorem ixM_of (h : Lg l cs ord) {k n : Nat} (hk : k < l.length) (hn : n < cs.length) : ixM ord l.length k n < ord.length * l.length ∧ ixM ord l.length k n % l.length = k ∧ nnI ord l.length (ixM ord l.length k n) = n := by
  have hz : 0 < l.length := by omega
  have hpl : ord.idxOf n < ord.length := List.idxOf_lt_length_of_mem ((h.mem n).2 hn)
  have hp : ord[ord.idxOf n]'hpl = n := List.getElem_idxOf hpl
  unfold ixM
  generalize ord.idxOf n = p at *
  have e1 : (p * l.length + k) / l.length = p := by
    rw [Nat.mul_comm, Nat.mul_add_div hz, Nat.div_eq_of_lt hk]; rfl
  have e2 : (p * l.length + k) % l.length = k := by
    rw [Nat.mul_comm, Nat.mul_add_mod, Nat.mod_eq_of_lt hk]
  refine ⟨?_, e2, ?_⟩
  · have : (p + 1) * l.length ≤ ord.length * l.length := Nat.mul_le_mul_right _ hpl
    rw [Nat.add_mul, Nat.one_mul] at this
    omega
  · unfold nnI
    rw [e1, List.getD_eq_getElem?_getD, List.getElem?_eq_getElem hpl]
    exact hp
theorem ixM_one (h : Lg l cs ord) (hz : 0 < l.length) {i k n : Nat} (hi : i < ord.length * l.length) (hk : k < l.length) (hn : n < cs.length) : ixM ord l.length k n = i ↔ i % l.length = k ∧ nnI ord l.length i = n := by
  obtain ⟨a1, a2, a3⟩ := ixM_of h hk hn
  constructor
  · rintro rfl; exact ⟨a2, a3⟩
  · rintro ⟨b1, b2⟩
    exact idx_one h hz a1 hi (by omega) (by omega)

theorem Lg.afterM (h : Lg l cs ord) {t k n : Nat} (hk : k < l.length) (hs : se l k ≠ 0) (hr : RM l tk cs ord t k n = true) : at_ cs n ≤ (t : Int) := by
  obtain ⟨f, g1, g2, -, g4⟩ := h.rm_real hk hs hr
  exact h.after _ t f n (Nat.lt_succ_self _) (by omega) (Lg.dn_rj g4)

theorem Lg.rM_le (h : Lg l cs ord) {ts : List Int} {N : Nat} (hl0 : ∀ k : Nat, 0 ≤ ts.getD k 0) (hD : ∀ k n, Real l cs n k → at_ cs n + ts.getD k 0 < (N : Int) → Dn l tk cs ord (at_ cs n + ts.getD k 0).toNat k n) {i : Nat} (hr : isM l cs ord i) :
    at_ cs (nnI ord l.length i) ≤ rM l tk cs ord ts N i ∧ rM l tk cs ord ts N i ≤ at_ cs (nnI ord l.length i) + ts.getD (fr l (i % l.length)).toNat 0 ∧ (∀ t : Nat, t < N → (rM l tk cs ord ts N i ≤ (t : Int) ↔ RM l tk cs ord t (i % l.length) (nnI ord l.length i) = true)) ∧ ∀ s : Nat, s < N → RM l tk cs ord s (i % l.length) (nnI ord l.length i) = true → (∀ q, q < s → RM l tk cs ord q (i % l.length) (nnI ord l.length i) = false) → rM l tk cs ord ts N i = (s : Int) := by
  obtain ⟨hr1, hr2⟩ := hr
  have hk := hr1.2.1
  have ha := h.a0 _ hr1.1
  have hR : at_ cs (nnI ord l.length i) + ts.getD (fr l (i % l.length)).toNat 0 < (N : Int) → RM l tk cs ord (at_ cs (nnI ord l.length i) + ts.getD (fr l (i % l.length)).toNat 0).toNat (i % l.length) (nnI ord l.length i) = true := fun hc => by
    rcases fr_at h.ok hk with ⟨-, g⟩ | ⟨f, g1, g2, -⟩
    · exact absurd g hr2
    · rw [g1, Int.toNat_natCast] at hc ⊢
      exact ((h.hang hr1).2 f g1 (hD f _ (hr1.down h.ok g1) hc)).2 hr2
  have hl := hl0 (fr l (i % l.length)).toNat
  unfold rM
  rw [if_pos ⟨hr1, hr2⟩]
  generalize ts.getD (fr l (i % l.length)).toNat 0 = lt at *
  rcases fstT_cases (fun t => RM l tk cs ord t (i % l.length) (nnI ord l.length i)) N with ⟨g1, g2, g3⟩ | ⟨g1, g2⟩
  · rw [if_pos g1]
    generalize fstT (fun t => RM l tk cs ord t (i % l.length) (nnI ord l.length i)) N = q at *
    try dsimp only at g2 g3
    refine ⟨h.afterM hk hr2 g2, ?_, fun t ht => ⟨fun e => h.rm_le hk (by omega) g2, fun e => ?_⟩, fun s hs hs1 hs2 => ?_⟩
    · by_cases hc : at_ cs (nnI ord l.length i) + lt < (N : Int)
      · have := hR hc
        apply Classical.byContradiction
        intro hn
        have h3 := g3 (at_ cs (nnI ord l.length i) + lt).toNat (by omega)
        rw [this] at h3
        cases h3
      · omega
    · apply Classical.byContradiction
      intro hn
      have h3 := g3 t (by omega)
      rw [e] at h3
      cases h3
    · rcases Nat.lt_trichotomy q s with g | g | g
      · have := hs2 q g
        rw [g2] at this
        cases this
      · omega
      · have := g3 s g
        rw [hs1] at this
        cases this
  · rw [if_neg (by omega)]
    try dsimp only at g2
    have hge : (N : Int) ≤ at_ cs (nnI ord l.length i) + lt := by
      apply Classical.byContradiction
      intro hn
      have h1 := hR (by omega)
      have h3 := g2 (at_ cs (nnI ord l.length i) + lt).toNat (by omega)
      rw [h1] at h3
      cases h3
    refine ⟨by omega, Int.le_refl _, fun t ht => ⟨fun e => by omega, fun e => ?_⟩, fun s hs hs1 _ => ?_⟩
    · have h3 := g2 t ht
      rw [e] at h3
      cases h3
    · have h3 := g2 s hs
      rw [hs1] at h3
      cases h3

/-- The bus' run. -/
theorem Lg.runM (h : Lg l cs ord) {ts late : List Int} {fs : List Fr} {cm : Nat → Nat} {N : Nat} (hm : Ms l ts late fs cm) (hl0 : ∀ k : Nat, 0 ≤ ts.getD k 0) (hD : ∀ k n, Real l cs n k → at_ cs n + ts.getD k 0 < (N : Int) → Dn l tk cs ord (at_ cs n + ts.getD k 0).toNat k n) :
    NK.Run (ord.length * l.length) N (rM l tk cs ord ts N) (xM l cs ord) (fun i j => kM l cs ord cm fs.length i < kM l cs ord cm fs.length j ∨ (kM l cs ord cm fs.length i = kM l cs ord cm fs.length j ∧ (rM l tk cs ord ts N i < rM l tk cs ord ts N j ∨ (rM l tk cs ord ts N i = rM l tk cs ord ts N j ∧ i < j)))) (fun t i => LMI l tk cs ord t i) (whoM l tk cs ord) := by
  have hz : 0 < l.length := h.ok.one
  have hsame : ∀ t i, ¬ isM l cs ord i → LMI l tk cs ord t i = 1 := fun t i hn => by unfold LMI; rw [if_neg hn]
  have hreal : ∀ t i, isM l cs ord i → LMI l tk cs ord t i = LM l tk cs ord t (i % l.length) (nnI ord l.length i) := fun t i hn => by unfold LMI; rw [if_pos hn]
  have hfar : ∀ i, ¬ isM l cs ord i → rM l tk cs ord ts N i = ((N + i : Nat) : Int) := fun i hn => by unfold rM; rw [if_neg hn]
  have hwho : ∀ t i, whoM l tk cs ord t = some i → ∃ k n, Wm l tk cs ord t = some (k, n) ∧ i < ord.length * l.length ∧ i % l.length = k ∧ nnI ord l.length i = n ∧ isM l cs ord i := fun t i hw => by
    unfold whoM at hw
    cases e : Wm l tk cs ord t with
    | none => rw [e] at hw; cases hw
    | some y =>
      obtain ⟨k, n⟩ := y
      rw [e] at hw
      have hw' : ixM ord l.length k n = i := Option.some.inj hw
      obtain ⟨g1, g2, g3, g4, -⟩ := h.mail_some e
      obtain ⟨f, -, -, q3, -⟩ := h.rm_real g1 g2 g3
      obtain ⟨b1, b2, b3⟩ := ixM_of h g1 q3.1
      rw [hw'] at b1 b2 b3
      exact ⟨k, n, rfl, b1, b2, b3, by rw [b2, b3]; exact q3, by rw [b2]; exact g2⟩
  refine ⟨fun i hi => ?_, fun i hi => ?_, fun i hi => ?_, fun t i ht hi => ?_, fun t ht hw => ?_, fun t i ht hw => ?_, fun t i ht hw hp => ?_, fun t i ht hw hn j hj hrj' hLj hne => ?_⟩
  · by_cases hr : isM l cs ord i
    · have := (h.rM_le hl0 hD hr).1
      have := h.a0 _ hr.1.1
      omega
    · rw [hfar i hr]; omega
  · unfold xM
    by_cases hr : isM l cs ord i
    · rw [if_pos hr]
      have := Iv.se0 h.ok hr.1.2.1
      have := hr.2
      omega
    · rw [if_neg hr]; omega
  · unfold xM
    try dsimp only
    by_cases hr : isM l cs ord i
    · rw [hreal 0 i hr, if_pos hr]
      exact (h.zero _ _ hr.1.2.1).2 hr.2
    · rw [hsame 0 i hr, if_neg hr]
  · by_cases hr : isM l cs ord i
    · rw [hreal t i hr]
      exact (h.lm t _ _ hr.1.2.1 hr.2).1
    · rw [hsame t i hr]; omega
  · have hw' : Wm l tk cs ord t = none := by
      unfold whoM at hw
      cases e : Wm l tk cs ord t with
      | none => rfl
      | some y => rw [e] at hw; cases hw
    have hno := h.mail_none hw'
    refine ⟨fun i hi => ?_, fun i hi hri => ?_⟩
    · by_cases hr : isM l cs ord i
      · rw [hreal t i hr, hreal (t + 1) i hr]
        exact (hno _ _ hr.1.2.1 hr.2).1
      · rw [hsame t i hr, hsame (t + 1) i hr]
    · by_cases hr : isM l cs ord i
      · rw [hreal t i hr]
        exact (hno _ _ hr.1.2.1 hr.2).2 (((h.rM_le hl0 hD hr).2.2.1 t ht).1 hri)
      · rw [hfar i hr] at hri
        omega
  · obtain ⟨k, n, w1, w2, w3, w4, hr⟩ := hwho t i hw
    obtain ⟨g1, g2, g3, g4, -, -, g7⟩ := h.mail_some w1
    refine ⟨w2, ?_, ?_, ?_, fun j hj hne => ?_⟩
    · rw [(h.rM_le hl0 hD hr).2.2.1 t ht, w3, w4]
      exact g3
    · rw [hreal t i hr, w3, w4]
      exact g4
    · rw [hreal t i hr, hreal (t + 1) i hr, w3, w4, g7 k n g1 g2, if_pos ⟨rfl, rfl⟩]
    · by_cases hrj : isM l cs ord j
      · rw [hreal t j hrj, hreal (t + 1) j hrj, g7 _ _ hrj.1.2.1 hrj.2, if_neg]
        rintro ⟨a1, a2⟩
        exact hne (idx_one h hz hj w2 (by omega) (by omega))
      · rw [hsame t j hrj, hsame (t + 1) j hrj]
  · obtain ⟨k, n, w1, w2, w3, w4, hr⟩ := hwho t i hw
    obtain ⟨g1, g2, g3, g4, -, -, g7⟩ := h.mail_some w1
    rw [hreal (t + 1) i hr, w3, w4, g7 k n g1 g2, if_pos ⟨rfl, rfl⟩] at hp
    rcases h.mail_on w1 with ⟨-, b2⟩ | ⟨b1, -⟩
    · omega
    · unfold whoM at hw ⊢
      rw [w1] at hw
      rw [b1]
      exact hw
  · obtain ⟨k, n, w1, w2, w3, w4, hr⟩ := hwho t i hw
    by_cases hrj : isM l cs ord j
    · have hrm := ((h.rM_le hl0 hD hrj).2.2.1 t ht).1 hrj'
      rw [hreal t j hrj] at hLj
      have hb := h.mail_best w1 (fun u e hu => by
        refine hn u e ?_
        unfold whoM at hw ⊢
        rw [w1] at hw
        rw [hu]
        exact hw) hrj.1.2.1 hrj.2 hrm hLj (fun hc => by
        refine hne ?_
        exact idx_one h hz hj w2 (by omega) (by omega))
      have e1 : kM l cs ord cm fs.length i = cm k := by unfold kM; rw [if_pos hr, w3]
      have e2 : kM l cs ord cm fs.length j = cm (j % l.length) := by unfold kM; rw [if_pos hrj]
      rw [e1, e2]
      rcases hb with hb | ⟨hb, s, s', c1, c2, c3, c4, c5, c6⟩
      · exact .inl (hm.up k _ hb hrj.1.2.1 (by rw [← w3]; exact hr.2) hrj.2)
      · refine .inr ⟨by rw [hb], .inl ?_⟩
        rw [(h.rM_le hl0 hD hr).2.2.2 s (by omega) (by rw [w3, w4]; exact c3) (by rw [w3, w4]; exact c4), (h.rM_le hl0 hD hrj).2.2.2 s' (by omega) c5 c6]
        omega
    · rw [hfar j hrj] at hrj'
      omega

/-- Each message is over so soon behind the coming of its chain. -/
theorem Lg.over (h : Lg l cs ord) (hsp : Sp l cs) {ts late : List Int} {fs : List Fr} {cm : Nat → Nat} {N : Nat} (hm : Ms l ts late fs cm) (hl0 : ∀ k : Nat, 0 ≤ ts.getD k 0) (hD : ∀ k n, Real l cs n k → at_ cs n + ts.getD k 0 < (N : Int) → Dn l tk cs ord (at_ cs n + ts.getD k 0).toNat k n)
    {k n : Nat} (hrl : Real l cs n k) (hs : se l k ≠ 0) (hN : at_ cs n + late.getD k 0 ≤ (N : Int)) : RJ l tk cs ord (at_ cs n + late.getD k 0).toNat k n = true := by
  have hz : 0 < l.length := h.ok.one
  have hk := hrl.2.1
  obtain ⟨i1, i2, i3⟩ := ixM_of h hk hrl.1
  generalize ixM ord l.length k n = i at *
  have hr : isM l cs ord i := ⟨by rw [i2, i3]; exact hrl, by rw [i2]; exact hs⟩
  obtain ⟨f, hf, hfk⟩ : ∃ f : Nat, fr l k = f ∧ f < k := by
    rcases fr_at h.ok hk with ⟨-, g⟩ | ⟨f, g1, g2, -⟩
    · exact absurd g hs
    · exact ⟨f, g1, g2⟩
  obtain ⟨m1, m2, m3⟩ := hm.at_ k f hk hs hf
  have hok : ∀ y, y < fs.length → okFr (fs.getD y frZ) := fun y hy => hm.ok _ (by rw [List.getD_eq_getElem?_getD, List.getElem?_eq_getElem hy]; exact List.getElem_mem hy)
  have hmX : fs[cm k]? = some (fs.getD (cm k) frZ) := by rw [List.getD_eq_getElem?_getD, List.getElem?_eq_getElem m1]; rfl
  have hka : ∀ j, isM l cs ord j → ∃ f' : Nat, fr l (j % l.length) = f' ∧ cm (j % l.length) < fs.length ∧ fs.getD (cm (j % l.length)) frZ = ⟨se l (j % l.length), (l.getD (j % l.length) paZ).t, (l.getD (j % l.length) paZ).d, ts.getD f' 0⟩ := fun j hj => by
    rcases fr_at h.ok hj.1.2.1 with ⟨-, g⟩ | ⟨f', g1, g2, -⟩
    · exact absurd g hj.2
    · obtain ⟨b1, b2, -⟩ := hm.at_ _ f' hj.1.2.1 hj.2 g1
      exact ⟨f', g1, b1, b2⟩
  have hinj : ∀ j j', isM l cs ord j → isM l cs ord j' → cm (j % l.length) = cm (j' % l.length) → j % l.length = j' % l.length := fun j j' a b e => by
    rcases Nat.lt_trichotomy (j % l.length) (j' % l.length) with g | g | g
    · have := hm.up _ _ g b.1.2.1 a.2 b.2
      omega
    · exact g
    · have := hm.up _ _ g a.1.2.1 b.2 a.2
      omega
  generalize late.getD k 0 = v at *
  have hdone : ∃ d : Nat, (d : Int) ≤ at_ cs n + v ∧ LMI l tk cs ord d i = 0 := by
    cases m3 with
    | @some busy x hfb htm =>
      have hh0 := heldF_nonneg (fs.drop (cm k + 1))
      obtain ⟨b, hb⟩ : ∃ b : Nat, heldF (fs.drop (cm k + 1)) = (b : Int) := ⟨(heldF (fs.drop (cm k + 1))).toNat, by omega⟩
      obtain ⟨bz, hbz⟩ : ∃ bz : Nat, busy = (bz : Int) := ⟨busy.toNat, by have := hfb.1; omega⟩
      rw [hb] at hfb htm
      subst hbz
      have ea : aM l cs ord N i = at_ cs n := by unfold aM; rw [if_pos hr, i3]
      have key := NK.keeps (n := ord.length * l.length) (N := N) (m := fs.length + 1) (a := aM l cs ord N) (r := rM l tk cs ord ts N) (x := xM l cs ord) (kt := kM l cs ord cm fs.length) (C := fun y => (fs.getD y frZ).c) (T := fun y => (fs.getD y frZ).t) (J := fun y => (fs.getD y frZ).j) (L := fun t i => LMI l tk cs ord t i) (who := whoM l tk cs ord) (h.runM hm hl0 hD)
        (fun i j => Iff.rfl)
        (fun j hj => by
          unfold kM
          by_cases hrj : isM l cs ord j
          · rw [if_pos hrj]
            obtain ⟨f', -, g2, -⟩ := hka j hrj
            omega
          · rw [if_neg hrj]; omega)
        (fun y hy => by
          try dsimp only
          by_cases e : y < fs.length
          · obtain ⟨g1, g2, g3, g4, g5, g6, g7, g8⟩ := hok y e
            exact ⟨g1, g3, g7, g8⟩
          · rw [getD_ge (a := fs) (by omega)]
            decide)
        (fun j hj => by
          try dsimp only
          by_cases hrj : isM l cs ord j
          · obtain ⟨f', g1, g2, g3⟩ := hka j hrj
            obtain ⟨a1, a2, -⟩ := h.rM_le (tk := tk) (N := N) hl0 hD hrj
            rw [g1, Int.toNat_natCast] at a2
            have e1 : aM l cs ord N j = at_ cs (nnI ord l.length j) := by unfold aM; rw [if_pos hrj]
            have e2 : kM l cs ord cm fs.length j = cm (j % l.length) := by unfold kM; rw [if_pos hrj]
            have e3 : xM l cs ord j = se l (j % l.length) := by unfold xM; rw [if_pos hrj]
            rw [e1, e2, e3, g3]
            exact ⟨a1, a2, rfl⟩
          · have e1 : aM l cs ord N j = ((N + j : Nat) : Int) := by unfold aM; rw [if_neg hrj]
            have e0 : rM l tk cs ord ts N j = ((N + j : Nat) : Int) := by unfold rM; rw [if_neg hrj]
            have e2 : kM l cs ord cm fs.length j = fs.length := by unfold kM; rw [if_neg hrj]
            have e3 : xM l cs ord j = 1 := by unfold xM; rw [if_neg hrj]
            rw [e0, e1, e2, e3, getD_ge (a := fs) (Nat.le_refl _)]
            unfold frZ
            try dsimp only
            omega)
        (fun j j' hjj hj' e => by
          try dsimp only
          by_cases hrj : isM l cs ord j
          · obtain ⟨f', g1, g2, g3⟩ := hka j hrj
            have e2 : kM l cs ord cm fs.length j = cm (j % l.length) := by unfold kM; rw [if_pos hrj]
            by_cases hrj' : isM l cs ord j'
            · have e2' : kM l cs ord cm fs.length j' = cm (j' % l.length) := by unfold kM; rw [if_pos hrj']
              have e1 : aM l cs ord N j = at_ cs (nnI ord l.length j) := by unfold aM; rw [if_pos hrj]
              have e1' : aM l cs ord N j' = at_ cs (nnI ord l.length j') := by unfold aM; rw [if_pos hrj']
              rw [e2, e2'] at e
              have ek := hinj j j' hrj hrj' e
              obtain ⟨b1, b2⟩ := idx_ord h hz hjj hj' ek
              have c1 := hrj.1.2.2
              have c2 := hrj'.1.2.2
              rw [← ek] at c2
              obtain ⟨k1, d1, -⟩ := h.cs_ _ hrj.1.1
              obtain ⟨k2, d2, -⟩ := h.cs_ _ hrj'.1.1
              have := hsp _ _ hrj.1.1 hrj'.1.1 b1 (by omega) b2
              rw [e1, e1', e2, g3]
              try dsimp only
              rw [(rt_t h.ok _ _ (Nat.lt_succ_self _) hrj.1.2.1).1, c1]
              exact this
            · have e2' : kM l cs ord cm fs.length j' = fs.length := by unfold kM; rw [if_neg hrj']
              omega
          · have e2 : kM l cs ord cm fs.length j = fs.length := by unfold kM; rw [if_neg hrj]
            have e1 : aM l cs ord N j = ((N + j : Nat) : Int) := by unfold aM; rw [if_neg hrj]
            by_cases hrj' : isM l cs ord j'
            · obtain ⟨f', g1, g2, g3⟩ := hka j' hrj'
              have e2' : kM l cs ord cm fs.length j' = cm (j' % l.length) := by unfold kM; rw [if_pos hrj']
              omega
            · have e1' : aM l cs ord N j' = ((N + j' : Nat) : Int) := by unfold aM; rw [if_neg hrj']
              rw [e1, e1', e2, getD_ge (a := fs) (Nat.le_refl _)]
              unfold frZ
              try dsimp only
              omega)
        (k := i) (X := cm k) (b := b) (bz := bz) (v := v) i1 (by unfold kM; rw [if_pos hr, i2])
        (fun y hy1 hy2 => by
          try dsimp only
          by_cases e : y < fs.length
          · have hmem : fs.getD y frZ ∈ fs.drop (cm k + 1) := by
              refine List.mem_of_getElem? (i := y - (cm k + 1)) ?_
              rw [List.getElem?_drop, show cm k + 1 + (y - (cm k + 1)) = y by omega, List.getD_eq_getElem?_getD, List.getElem?_eq_getElem e]
              rfl
            have := heldF_le hmem
            omega
          · rw [getD_ge (a := fs) (by omega)]
            unfold frZ
            try dsimp only
            omega)
        (by have := hfb.1; omega)
        (by
          have e := hfb.2.2.1
          unfold busyAsk at e
          rw [← take_snoc hmX, sumF_take (cm k + 1) (by omega)] at e
          exact e.symm)
        (fun q hq => by
          try dsimp only at hq ⊢
          have hlt := lt_kindsN (hok _ m1) hq
          obtain ⟨w, hw1, hw2⟩ := tm_each htm q (by omega)
          obtain ⟨wn, hwn⟩ : ∃ wn : Nat, w = (wn : Int) := ⟨w.toNat, by have := hw1.1; omega⟩
          subst hwn
          refine ⟨wn, ?_, hw2⟩
          have e := hw1.2.2.1
          unfold qAsk at e
          rw [sumF_take (cm k) (by omega)] at e
          exact e.symm)
        (by rw [ea]; exact hN)
      rw [ea] at key
      exact key
  obtain ⟨d, hd1, hd2⟩ := hdone
  have hL : LMI l tk cs ord d i = LM l tk cs ord d k n := by unfold LMI; rw [if_pos hr, i2, i3]
  rw [hL] at hd2
  exact h.rj_le hk (by omega) ((h.lm d k n hk hs).2.1 hd2)
end
end Keep
end Go.Proofs.Ytccoobcggbbciam
namespace Go.Proofs.Ytccoobcggbbciam
open Go.ChangeShapes Go.WideShapes Go.ChangeAt Go.RowKit

/- Chapter 18, pure: no part takes longer than Responses says. -/
namespace Keep
theorem sett_fix {l : List Pa} {tk : List Int} {r : Option (List Int)} (h : Sett l tk r) : ∀ ts, r = some ts → StepR l ts (some ts) := by
  induction h with
  | stop _ => intro ts e; cases e
  | fix h => intro ts e; cases e; exact h
  | go _ _ _ ih => exact ih
theorem sett_ok {l : List Pa} {tk : List Int} {r : Option (List Int)} (hok : PsOk l) (h : Sett l tk r) : TkOk l tk → ∀ ts, r = some ts → TkOk l ts := by
  induction h with
  | stop _ => intro _ ts e; cases e
  | fix h => intro ht ts e; cases e; exact ht
  | go h _ _ ih => intro ht; exact ih (h.ok hok ht)

theorem frF_mem : ∀ (r : List Pa) (tk : List Int) (k : Nat) (y : Nat × Fr), y ∈ frFrom r tk k → ∃ q x, y.1 = k + q ∧ r[q]? = some x ∧ x.fr ≠ -1 ∧ x.se ≠ 0
  | [], _, _, y, hy => by simp [frFrom] at hy
  | x :: r, tk, k, y, hy => by
    rw [frFrom, List.mem_append] at hy
    rcases hy with hy | hy
    · split at hy
      · next h =>
        rw [List.mem_singleton.1 hy]
        exact ⟨0, x, rfl, rfl, h.1, h.2⟩
      · cases hy
    · obtain ⟨q, z, h1, h2, h3⟩ := frF_mem r tk (k + 1) y hy
      exact ⟨q + 1, z, by omega, h2, h3⟩
theorem frF_inc : ∀ (r : List Pa) (tk : List Int) (k : Nat), (frFrom r tk k).Pairwise (fun a b => a.1 < b.1)
  | [], _, _ => by simp [frFrom]
  | x :: r, tk, k => by
    have ih := frF_inc r tk (k + 1)
    rw [frFrom]
    split
    · refine List.pairwise_cons.2 ⟨fun y hy => ?_, ih⟩
      have := (frFrom_idx r tk (k + 1) y hy).1
      show k < y.1
      omega
    · exact ih
def cmF (l : List Pa) (ts : List Int) (k : Nat) : Nat := (frsP (l.take k) ts).length
theorem frs_at {l : List Pa} {ts : List Int} {k f : Nat} (hk : k < l.length) (hs : se l k ≠ 0) (hf : fr l k = (f : Int)) : (frsP l ts)[cmF l ts k]? = some (k, ⟨se l k, (l.getD k paZ).t, (l.getD k paZ).d, ts.getD f 0⟩) := by
  have hx : l[k]? = some (l.getD k paZ) := some_getD hk
  have e1 : frsP l ts = frsP (l.take (k + 1)) ts ++ frFrom (l.drop (k + 1)) ts (k + 1) := by
    unfold frsP
    have := frFrom_append (l.take (k + 1)) (l.drop (k + 1)) ts 0
    rw [List.take_append_drop, List.length_take, show min (k + 1) l.length = k + 1 by omega, Nat.zero_add] at this
    exact this
  rw [e1, frsP_snoc hx]
  rw [if_pos ⟨by have : (l.getD k paZ).fr = (f : Int) := hf; omega, hs⟩]
  unfold cmF
  rw [List.append_assoc, List.getElem?_append_right (Nat.le_refl _), Nat.sub_self]
  have : (l.getD k paZ).fr.toNat = f := by
    have : (l.getD k paZ).fr = (f : Int) := hf
    omega
  rw [this]
  rfl
theorem cmF_up {l : List Pa} {ts : List Int} (hok : PsOk l) {k k' : Nat} (h : k < k') (hk' : k' < l.length) (hs : se l k ≠ 0) : cmF l ts k < cmF l ts k' := by
  have hx : l[k]? = some (l.getD k paZ) := some_getD (by omega)
  have hf : (l.getD k paZ).fr ≠ -1 := by
    rcases fr_at hok (show k < l.length by omega) with ⟨-, g⟩ | ⟨f, g, -⟩
    · exact absurd g hs
    · unfold fr at g; omega
  have e1 : frsP (l.take k') ts = frsP (l.take (k + 1)) ts ++ frFrom ((l.take k').drop (k + 1)) ts (k + 1) := by
    unfold frsP
    have := frFrom_append ((l.take k').take (k + 1)) ((l.take k').drop (k + 1)) ts 0
    rw [List.take_append_drop, List.take_take, show min (k + 1) k' = k + 1 by omega, List.length_take, show min (k + 1) l.length = k + 1 by omega, Nat.zero_add] at this
    exact this
  unfold cmF
  rw [e1, frsP_snoc hx, if_pos ⟨hf, hs⟩]
  simp only [List.length_append, List.length_singleton]
  omega

/-- What Responses' numbers are. -/
theorem late_facts {l : List Pa} {ts late : List Int} (hok : PsOk l) (ht : TkOk l ts) (h : LatR l ts (some late)) : (∀ k, 0 ≤ late.getD k 0) ∧ (∀ k, k < l.length → fr l k = -1 → late.getD k 0 = 0) ∧ (∀ k f : Nat, k < l.length → fr l k = f → se l k = 0 → late.getD k 0 = ts.getD f 0) ∧ Ms l ts late ((frsP l ts).map (·.2)) (cmF l ts) := by
  have hL := h.ok hok ht
  have key : ∃ times, (∀ x ∈ (frsP l ts).map (·.2), okFr x) ∧ TmsTo ((frsP l ts).map (·.2)) times ∧ times.length = ((frsP l ts).map (·.2)).length ∧ late = putAll (lat0 l ts) ((frsP l ts).map (·.1)) times := by
    rcases h with ⟨h1, h2⟩ | ⟨h1, times, e, h2, ⟨-, h3⟩ | ⟨h3, h4⟩⟩
    · cases h2
      rw [h1]
      exact ⟨[], by simp, ⟨Nat.le_refl _, fun i m v h => by simp at h⟩, rfl, rfl⟩
    · cases h3
    · cases h4
      obtain ⟨a, b, c⟩ := h2.ok h3
      exact ⟨times, a, b, c, rfl⟩
  obtain ⟨times, k1, k2, k3, k4⟩ := key
  have hpw : ((frsP l ts).map (·.1)).Pairwise (· < ·) := by
    rw [List.pairwise_map]
    exact frF_inc l ts 0
  have hout : ∀ k, k < l.length → (fr l k = -1 ∨ se l k = 0) → late.getD k 0 = (lat0 l ts).getD k 0 := fun k hk hc => by
    rw [k4, List.getD_eq_getElem?_getD, List.getD_eq_getElem?_getD, putAll_out]
    intro hm
    rw [List.mem_map] at hm
    obtain ⟨y, hy, rfl⟩ := hm
    obtain ⟨q, x, h1, h2, h3, h4⟩ := frF_mem l ts 0 y hy
    rw [Nat.zero_add] at h1
    have hx : l.getD y.1 paZ = x := by rw [h1]; exact getD_some h2
    rcases hc with hc | hc
    · unfold fr at hc; rw [hx] at hc; exact h3 hc
    · unfold se at hc; rw [hx] at hc; exact h4 hc
  have hl0 : ∀ k, k < l.length → (lat0 l ts).getD k 0 = if fr l k = -1 then 0 else ts.getD (fr l k).toNat 0 := fun k hk => by
    unfold lat0
    rw [List.getD_eq_getElem?_getD, List.getElem?_map, some_getD (d := paZ) hk]
    rfl
  refine ⟨fun k => (hL.2 k).1, fun k hk hf => ?_, fun k f hk hf hs => ?_, k1, fun k f hk hs hf => ?_, fun k k' hkk hk' hs _ => cmF_up hok hkk hk' hs⟩
  · rw [hout k hk (.inl hf), hl0 k hk, if_pos hf]
  · rw [hout k hk (.inr hs), hl0 k hk, if_neg (by omega), hf, Int.toNat_natCast]
  · have hat := frs_at (ts := ts) hk hs hf
    have hlt : cmF l ts k < (frsP l ts).length := (List.getElem?_eq_some_iff.1 hat).1
    have h2 : ((frsP l ts).map (·.2))[cmF l ts k]? = some (⟨se l k, (l.getD k paZ).t, (l.getD k paZ).d, ts.getD f 0⟩ : Fr) := by rw [List.getElem?_map, hat]; rfl
    have h3 : ((frsP l ts).map (·.2)).getD (cmF l ts k) frZ = ⟨se l k, (l.getD k paZ).t, (l.getD k paZ).d, ts.getD f 0⟩ := getD_some h2
    have hlt2 : cmF l ts k < times.length := by rw [k3, List.length_map]; exact hlt
    have h4 := k2.2 (cmF l ts k) _ _ h2 (List.getElem?_eq_getElem hlt2)
    have h5 : late[k]? = some times[cmF l ts k] := by
      rw [k4]
      exact putAll_in _ _ _ (cmF l ts k) k _ hpw (by rw [List.getElem?_map, hat]; rfl) (List.getElem?_eq_getElem hlt2) (by rw [lat0_len]; exact hk)
    refine ⟨by rw [List.length_map]; exact hlt, h3, ?_⟩
    rw [h3, getD_some h5]
    exact h4.1

/-- Nobody is late. -/
theorem keeps_all {l : List Pa} {tk ts late : List Int} {cs : List Co} {ord : List Nat} (h : Lg l cs ord) (hsp : Sp l cs) (ht : TkOk l ts) (hl : LatR l ts (some late)) (hr : RsR l late (some ts)) :
    ∀ N : Nat, ∀ k n, Real l cs n k → (at_ cs n + ts.getD k 0 < (N : Int) → Dn l tk cs ord (at_ cs n + ts.getD k 0).toNat k n) ∧ (at_ cs n + late.getD k 0 < (N : Int) → RJ l tk cs ord (at_ cs n + late.getD k 0).toNat k n = true) := by
  obtain ⟨f1, f2, f3, f4⟩ := late_facts h.ok ht hl
  have hts0 : ∀ k : Nat, 0 ≤ ts.getD k 0 := fun k => by
    rcases Nat.lt_or_ge k l.length with hk | hk
    · exact (ht.2 k _ (some_getD (d := paZ) hk)).1
    · rw [getD_ge (by rw [ht.1]; exact hk)]; omega
  have hw : ∀ k, k < l.length → ∃ w : Nat, 1 ≤ w ∧ (w : Int) + late.getD k 0 ≤ (l.getD k paZ).d ∧ (l.getD k paZ).c + sumP k (l.getD k paZ) late w l 0 = (w : Int) ∧ ts.getD k 0 = (w : Int) + late.getD k 0 := fun k hk => by
    rcases hr with ⟨e, -⟩ | ⟨all, e, h1, h2⟩
    · cases e
    · cases e
      obtain ⟨g1, g2⟩ := h2 k _ (some_getD (d := paZ) hk)
      obtain ⟨w, w1, w2, w3, -, w5⟩ := wOf_some (show wOf _ _ _ ≠ 0 from g2)
      refine ⟨w.toNat, by omega, by omega, ?_, ?_⟩
      · rw [show ((w.toNat : Nat) : Int) = w by omega]
        exact w3
      · rw [getD_some g1, show ((w.toNat : Nat) : Int) = w by omega]
        exact w5
  intro N
  induction N with
  | zero =>
    intro k n hrl
    have := h.a0 n hrl.1
    have := hts0 k
    have := f1 k
    exact ⟨fun g => by omega, fun g => by omega⟩
  | succ N ih =>
    have hR := fun k n hrl => (ih k n hrl).2
    have hD := fun k n hrl => (ih k n hrl).1
    have hd : ∀ k n, Real l cs n k → at_ cs n + ts.getD k 0 < ((N + 1 : Nat) : Int) → Dn l tk cs ord (at_ cs n + ts.getD k 0).toNat k n := fun k n hrl hN => by
      obtain ⟨w, w1, w2, w3, w4⟩ := hw k hrl.2.1
      have := h.done (tk := tk) (N := N) hsp f1 hR hrl w1 w2 w3 (by omega)
      rwa [show at_ cs n + late.getD k 0 + (w : Int) = at_ cs n + ts.getD k 0 by omega] at this
    refine fun k n hrl => ⟨hd k n hrl, fun hN => ?_⟩
    have ha := h.a0 n hrl.1
    have hl0 := f1 k
    rcases fr_at h.ok hrl.2.1 with ⟨e, -⟩ | ⟨f, e, e2, -⟩
    · exact (h.hang hrl).1 e (by rw [f2 k hrl.2.1 e]; omega)
    · by_cases hs : se l k = 0
      · have e3 := f3 k f hrl.2.1 e hs
        have hdf := hd f n (hrl.down h.ok e) (by omega)
        rw [e3]
        exact ((h.hang hrl).2 f e hdf).1 hs
      · exact h.over (tk := tk) (N := N) hsp f4 hts0 hD hrl hs (by omega)

/-- What Play tells where Responses says OK. -/
theorem chain_pure {l : List Pa} {tk ts : List Int} {cs : List Co} {ord : List Nat} {N : Nat} (hr : RespsR l ts (0, 0)) (h : Lg l cs ord) (hsp : Sp l cs) (hN : ∀ n, n < cs.length → at_ cs n + (l.getD (cs.getD n ⟨0, 0⟩).k.toNat paZ).t ≤ (N : Int)) :
    ∀ n k, n < cs.length → k < l.length → (rt l k = (cs.getD n ⟨0, 0⟩).k.toNat → 0 ≤ En (Ss l tk cs ord N) n k ∧ En (Ss l tk cs ord N) n k - at_ cs n ≤ ts.getD k 0) ∧ (rt l k ≠ (cs.getD n ⟨0, 0⟩).k.toNat → En (Ss l tk cs ord N) n k = -1) := by
  rcases hr with ⟨h1, -, h2⟩ | ⟨h1, res, h2, ⟨-, -, h3⟩ | ⟨rfl, h4, -⟩⟩
  · rw [← h2] at h1; exact absurd rfl h1
  · cases h3
  have ht := sett_ok h.ok h2 (zeros_ok h.ok) ts rfl
  obtain ⟨lt, g1, ⟨-, g2⟩ | ⟨late, rfl, g2⟩⟩ := sett_fix h2 ts rfl
  · cases g2
  have hl := g1.ok h.ok ht
  have hR : RsR l late (some ts) := by rw [g2]; exact respC_is h.ok hl
  have hall := keeps_all (tk := tk) h hsp ht g1 hR
  intro n k hn hk
  obtain ⟨-, -, -, -, hZ, -⟩ := h.trace (tk := tk) N
  constructor
  · intro hrt
    have hrl : Real l cs n k := ⟨hn, hk, hrt⟩
    have hd := (hall ((at_ cs n + ts.getD k 0).toNat + 1) k n hrl).1 (by omega)
    have ha := h.a0 n hn
    have ht2 := ht.2 k _ (some_getD (d := paZ) hk)
    have hdt := (h.ok.at_ k _ (some_getD (d := paZ) hk)).dt
    have htt := (rt_t h.ok (k + 1) k (Nat.lt_succ_self k) hk).1
    have hNn := hN n hn
    rw [hrt] at htt
    generalize hq : (at_ cs n + ts.getD k 0).toNat = q at *
    obtain ⟨-, -, -, -, hZq, -⟩ := h.trace (tk := tk) q
    have hu := (h.dn_up hk hd (N - q)).2
    rw [show q + (N - q) = N by omega, h.en N] at hu
    rw [hu]
    have hd' : En (Zs l tk cs ord q) n k ≠ -1 := hd
    rcases hZq.ev n k with g | g
    · exact absurd g hd'
    · omega
  · intro hrt
    rw [← h.en]
    apply Classical.byContradiction
    intro hne
    have := (h.rj_real (t := N) (tk := tk) hk (Lg.dn_rj hne)).1.2.2
    exact hrt this
end Keep
end Go.Proofs.Ytccoobcggbbciam
