import Derived.Test.YtccoobcggbbciamXE
namespace Go.Proofs.Ytccoobcggbbciam
open Go.ChangeShapes Go.WideShapes Go.ChangeAt Go.RowKit

/-- A message. -/
structure Fr where
  c : Int
  t : Int
  d : Int
  j : Int

def badFr (m : Fr) : Bool := !(decide (1 ≤ m.c) && decide (m.c ≤ 10000) && decide (1 ≤ m.t) && decide (m.t ≤ 10000) && decide (1 ≤ m.d) && decide (m.d ≤ 10000) && decide (0 ≤ m.j) && decide (m.j ≤ 10000))

def wrFr (m : Fr) : Int := if badFr m = true then 3 else if m.t < m.j then 12 else 0

def okFr (m : Fr) : Prop := 1 ≤ m.c ∧ m.c ≤ 10000 ∧ 1 ≤ m.t ∧ m.t ≤ 10000 ∧ 1 ≤ m.d ∧ m.d ≤ 10000 ∧ 0 ≤ m.j ∧ m.j ≤ m.t

/-- The least w from `a` on, up to 100000, that is what it asks for. -/
def Fx (ask : Int → Int) (a : Int) : Option Int → Prop
  | some w => a ≤ w ∧ w ≤ 100000 ∧ ask w = w ∧ ∀ v, a ≤ v → v < w → ask v ≠ v
  | none => ∀ v, a ≤ v → v ≤ 100000 → ask v ≠ v

theorem Fx.one {ask : Int → Int} {a : Int} {x y : Option Int} (h : Fx ask a x) (h' : Fx ask a y) : x = y := by
  cases x with
  | none => cases y with
    | none => rfl
    | some w => exact absurd h'.2.2.1 (h w h'.1 h'.2.1)
  | some v => cases y with
    | none => exact absurd h.2.2.1 (h' v h.1 h.2.1)
    | some w =>
      rcases Int.lt_trichotomy v w with e | e | e
      · exact absurd h.2.2.1 (h'.2.2.2 v h.1 e)
      · rw [e]
      · exact absurd h'.2.2.1 (h.2.2.2 w h'.1 e)

/-- It never grows less. -/
def Mo (ask : Int → Int) (a : Int) : Prop := ∀ v w, a ≤ v → v ≤ w → ask v ≤ ask w

/-- From below: what lies between w and what it asks for is no answer. -/
theorem Mo.step {ask : Int → Int} {a w : Int} (h : Mo ask a) (ha : a ≤ w) (hle : w ≤ ask w) (hn : ∀ v, a ≤ v → v < w → ask v ≠ v) : a ≤ ask w ∧ ask w ≤ ask (ask w) ∧ (∀ v, a ≤ v → v < ask w → ask v ≠ v) := by
  refine ⟨by omega, h _ _ ha hle, fun v hv hlt e => ?_⟩
  by_cases hc : v < w
  · exact hn v hv hc e
  · have := h w v ha (by omega)
    omega

/-- Nothing is lost where the look begins later, as long as no answer lies ahead of it. -/
theorem Fx.from' {ask : Int → Int} {a b : Int} {x : Option Int} (hab : a ≤ b) (hno : ∀ v, a ≤ v → v < b → ask v ≠ v) (h : Fx ask b x) : Fx ask a x := by
  cases x with
  | none =>
    intro v hv hv2
    by_cases e : v < b
    · exact hno v hv e
    · exact h v (by omega) hv2
  | some w =>
    refine ⟨by have := h.1; omega, h.2.1, h.2.2.1, fun v hv hlt => ?_⟩
    by_cases e : v < b
    · exact hno v hv e
    · exact h.2.2.2 v (by omega) hlt

def upF (w : Int) (m : Fr) : Int := (w + m.j + m.t - 1) / m.t * m.c

def dnF (w : Int) (m : Fr) : Int := ((w + m.j) / m.t + 1) * m.c

def sumF (f : Int → Fr → Int) (w : Int) : List Fr → Int
  | [] => 0
  | m :: r => f w m + sumF f w r

theorem ediv_mono {a b t : Int} (ht : 1 ≤ t) (h : a ≤ b) : a / t ≤ b / t := Int.ediv_le_ediv (by omega) h

theorem upF_mono {m : Fr} (h : okFr m) {v w : Int} (hvw : v ≤ w) : upF v m ≤ upF w m := by
  unfold upF
  obtain ⟨h1, -, h3, -⟩ := h
  exact Int.mul_le_mul_of_nonneg_right (ediv_mono h3 (by omega)) (by omega)

theorem dnF_mono {m : Fr} (h : okFr m) {v w : Int} (hvw : v ≤ w) : dnF v m ≤ dnF w m := by
  unfold dnF
  obtain ⟨h1, -, h3, -⟩ := h
  have := ediv_mono h3 (show v + m.j ≤ w + m.j by omega)
  exact Int.mul_le_mul_of_nonneg_right (by omega) (by omega)

theorem upF_c {m : Fr} (h : okFr m) {w : Int} (hw : 1 ≤ w) : m.c ≤ upF w m := by
  unfold upF
  obtain ⟨h1, -, h3, -, -, -, h7, -⟩ := h
  have e : 1 ≤ (w + m.j + m.t - 1) / m.t := by
    rw [Int.le_ediv_iff_mul_le (by omega)]; omega
  have := Int.mul_le_mul_of_nonneg_right e (show 0 ≤ m.c by omega)
  omega

theorem dnF_c {m : Fr} (h : okFr m) {w : Int} (hw : 0 ≤ w) : m.c ≤ dnF w m := by
  unfold dnF
  obtain ⟨h1, -, h3, -, -, -, h7, -⟩ := h
  have e : 0 ≤ (w + m.j) / m.t := Int.ediv_nonneg (by omega) (by omega)
  have := Int.mul_le_mul_of_nonneg_right (show (1 : Int) ≤ (w + m.j) / m.t + 1 by omega) (show 0 ≤ m.c by omega)
  omega

theorem sumF_mono {f : Int → Fr → Int} {l : List Fr} (hf : ∀ m ∈ l, ∀ v w, v ≤ w → f v m ≤ f w m) {v w : Int} (h : v ≤ w) : sumF f v l ≤ sumF f w l := by
  induction l with
  | nil => exact Int.le_refl _
  | cons m r ih =>
    have h1 := hf m List.mem_cons_self v w h
    have h2 := ih (fun x hx => hf x (List.mem_cons_of_mem _ hx))
    simp only [sumF]
    omega

theorem sumF_nonneg {f : Int → Fr → Int} {l : List Fr} {w : Int} (hf : ∀ m ∈ l, 0 ≤ f w m) : 0 ≤ sumF f w l := by
  induction l with
  | nil => exact Int.le_refl _
  | cons m r ih =>
    have h1 := hf m List.mem_cons_self
    have h2 := ih (fun x hx => hf x (List.mem_cons_of_mem _ hx))
    simp only [sumF]
    omega

theorem sumF_append {f : Int → Fr → Int} {w : Int} : ∀ (a b : List Fr), sumF f w (a ++ b) = sumF f w a + sumF f w b
  | [], b => by simp [sumF]
  | m :: r, b => by simp [sumF, sumF_append r b]; omega

/-- How long those behind hold one up. -/
def heldF : List Fr → Int
  | [] => 0
  | m :: r => max (m.c - 1) (heldF r)

theorem heldF_nonneg : ∀ l, 0 ≤ heldF l
  | [] => Int.le_refl _
  | m :: r => by have := heldF_nonneg r; simp only [heldF]; omega

theorem heldF_le {m : Fr} : ∀ {l : List Fr}, m ∈ l → m.c - 1 ≤ heldF l
  | x :: r, h => by
    rcases List.mem_cons.1 h with rfl | h
    · simp only [heldF]; omega
    · have := heldF_le h; simp only [heldF]; omega

theorem heldF_small {l : List Fr} (h : ∀ m ∈ l, m.c ≤ 10000) : heldF l ≤ 9999 := by
  induction l with
  | nil => simp [heldF]
  | cons m r ih =>
    have h1 := h m List.mem_cons_self
    have h2 := ih (fun x hx => h x (List.mem_cons_of_mem _ hx))
    simp only [heldF]; omega

def busyAsk (b : Int) (hd : List Fr) (m : Fr) (w : Int) : Int := b + sumF upF w (hd ++ [m])

def qAsk (b : Int) (hd : List Fr) (m : Fr) (q : Int) (w : Int) : Int := b + q * m.c + sumF dnF w hd

/-- How many of its kind are looked at. -/
def kinds (m : Fr) (busy : Int) : Int := (busy + m.j + m.t - 1) / m.t

/-- Below what asks for no more than it is lies an answer. -/
theorem Mo.pre {ask : Int → Int} {a : Int} (h : Mo ask a) (ha : a ≤ ask a) : ∀ (n : Nat) (v : Int), (v - a).toNat ≤ n → a ≤ v → ask v ≤ v → ∃ w, a ≤ w ∧ w ≤ v ∧ ask w = w
  | 0, v, hn, hv, hp => ⟨v, hv, Int.le_refl _, by have : v = a := by omega
                                                  subst this; omega⟩
  | n + 1, v, hn, hv, hp => by
    by_cases e : ask v = v
    · exact ⟨v, hv, Int.le_refl _, e⟩
    · have h1 : a ≤ ask v := Int.le_trans ha (h a v (Int.le_refl _) hv)
      obtain ⟨w, g1, g2, g3⟩ := Mo.pre h ha n (ask v) (by omega) h1 (h _ _ h1 hp)
      exact ⟨w, g1, by omega, g3⟩

theorem qAsk_mo {b : Int} {hd : List Fr} {m : Fr} {q : Int} (hh : ∀ x ∈ hd, okFr x) : Mo (qAsk b hd m q) 0 := fun v w _ h => by
  unfold qAsk
  have := sumF_mono (f := dnF) (l := hd) (fun x hx v w h => dnF_mono (hh x hx) h) h
  omega

theorem qAsk_low {b : Int} {hd : List Fr} {m : Fr} {q v : Int} (hh : ∀ x ∈ hd, okFr x) (hv : 0 ≤ v) : b + q * m.c ≤ qAsk b hd m q v := by
  unfold qAsk
  have := sumF_nonneg (f := dnF) (l := hd) (w := v) (fun x hx => by have := dnF_c (hh x hx) hv; have := (hh x hx).1; omega)
  omega

theorem busyAsk_mo {b : Int} {hd : List Fr} {m : Fr} (hh : ∀ x ∈ hd, okFr x) (hm : okFr m) : Mo (busyAsk b hd m) 1 := fun v w _ h => by
  unfold busyAsk
  have := sumF_mono (f := upF) (l := hd ++ [m]) (fun x hx v w h => upF_mono (by rcases List.mem_append.1 hx with hx | hx; exact hh x hx; simp at hx; exact hx ▸ hm) h) h
  omega

theorem busyAsk_low {b : Int} {hd : List Fr} {m : Fr} {v : Int} (hh : ∀ x ∈ hd, okFr x) (hm : okFr m) (hv : 1 ≤ v) : b + m.c ≤ busyAsk b hd m v := by
  unfold busyAsk
  rw [sumF_append]
  have h1 := sumF_nonneg (f := upF) (l := hd) (w := v) (fun x hx => by have := upF_c (hh x hx) hv; have := (hh x hx).1; omega)
  have h2 := upF_c hm hv
  simp only [sumF]
  omega

/-- The document looks for the busy time from b and C on. -/
theorem busy_from {b : Int} {hd : List Fr} {m : Fr} {x : Option Int} (hh : ∀ x ∈ hd, okFr x) (hm : okFr m) (hb : 0 ≤ b) (h : Fx (busyAsk b hd m) (b + m.c) x) : Fx (busyAsk b hd m) 1 x :=
  h.from' (by have := hm.1; omega) (fun v hv hlt e => by have := busyAsk_low (b := b) hh hm hv; omega)

/-- And each q's from b and q times C on. -/
theorem q_from {b q : Int} {hd : List Fr} {m : Fr} {x : Option Int} (hh : ∀ x ∈ hd, okFr x) (hm : okFr m) (hb : 0 ≤ b) (hq : 0 ≤ q) (h : Fx (qAsk b hd m q) (b + q * m.c) x) : Fx (qAsk b hd m q) 0 x :=
  h.from' (by have := Int.mul_nonneg hq (show 0 ≤ m.c by have := hm.1; omega); omega) (fun v hv hlt e => by have := qAsk_low (b := b) (m := m) (q := q) hh hv; omega)

/-- The program looks from the one ahead of it on. -/
theorem q_next {b q p : Int} {hd : List Fr} {m : Fr} {x : Option Int} (hh : ∀ x ∈ hd, okFr x) (hm : okFr m) (hb : 0 ≤ b) (hq : 0 ≤ q) (hp : Fx (qAsk b hd m q) 0 (some p)) (h : Fx (qAsk b hd m (q + 1)) p x) : Fx (qAsk b hd m (q + 1)) 0 x := by
  refine h.from' hp.1 (fun v hv hlt e => ?_)
  have hle : qAsk b hd m q v ≤ v := by
    have : qAsk b hd m q v ≤ qAsk b hd m (q + 1) v := by
      unfold qAsk
      have := hm.1
      rw [Int.add_mul, Int.one_mul]
      omega
    omega
  have h0 : 0 ≤ qAsk b hd m q 0 := by
    have := qAsk_low (b := b) (m := m) (q := q) (v := 0) hh (Int.le_refl _)
    have := Int.mul_nonneg hq (show 0 ≤ m.c by have := hm.1; omega)
    omega
  obtain ⟨w, g1, g2, g3⟩ := (qAsk_mo (b := b) (m := m) (q := q) hh).pre h0 v.toNat v (by omega) hv hle
  exact hp.2.2.2 w g1 (by omega) g3

/-- What is asked for at the one ahead isn't below it. -/
theorem q_start {b q p : Int} {hd : List Fr} {m : Fr} (hm : okFr m) (hp : Fx (qAsk b hd m q) 0 (some p)) : p ≤ qAsk b hd m (q + 1) p := by
  have h := hp.2.2.1
  unfold qAsk at h ⊢
  have := hm.1
  rw [Int.add_mul, Int.one_mul]
  omega

/-- The greatest of the times of those up to q; none: one isn't there. -/
inductive Tm (b : Int) (hd : List Fr) (m : Fr) : Nat → Option Int → Prop

  | zero : Tm b hd m 0 (some 0)

  | gone {q : Nat} : Tm b hd m q none → Tm b hd m (q + 1) none

  | stop {q : Nat} {v : Int} : Tm b hd m q (some v) → Fx (qAsk b hd m q) 0 none → Tm b hd m (q + 1) none

  | next {q : Nat} {v w : Int} : Tm b hd m q (some v) → Fx (qAsk b hd m q) 0 (some w) → Tm b hd m (q + 1) (some (max v (m.j + w - q * m.t + m.c)))

theorem Tm.one {b : Int} {hd : List Fr} {m : Fr} : ∀ {q : Nat} {x y : Option Int}, Tm b hd m q x → Tm b hd m q y → x = y
  | 0, _, _, .zero, .zero => rfl
  | q + 1, _, _, .gone h, .gone _ => rfl
  | q + 1, _, _, .gone h, .stop h' _ => by cases h.one h'
  | q + 1, _, _, .gone h, .next h' _ => by cases h.one h'
  | q + 1, _, _, .stop h _, .gone h' => by cases h.one h'
  | q + 1, _, _, .stop h _, .stop h' _ => rfl
  | q + 1, _, _, .stop h f, .next h' f' => by cases h.one h'; cases f.one f'
  | q + 1, _, _, .next h _, .gone h' => by cases h.one h'
  | q + 1, _, _, .next h f, .stop h' f' => by cases h.one h'; cases f.one f'
  | q + 1, _, _, .next h f, .next h' f' => by
    have e1 := h.one h'
    have e2 := f.one f'
    cases e1; cases e2; rfl

theorem Tm.gone_to {b : Int} {hd : List Fr} {m : Fr} {q : Nat} (h : Tm b hd m q none) : ∀ k, Tm b hd m (q + k) none
  | 0 => h
  | k + 1 => (h.gone_to k).gone

theorem Tm.small {b : Int} {hd : List Fr} {m : Fr} (hm : okFr m) : ∀ {q : Nat} {v : Int}, Tm b hd m q (some v) → 0 ≤ v ∧ v ≤ 120000
  | _, _, .zero => by omega
  | q + 1, _, .next h f => by
    have h1 := h.small hm
    have h2 := f.2.1
    obtain ⟨g1, g2, g3, g4, g5, g6, g7, g8⟩ := hm
    have : 0 ≤ (q : Int) * m.t := Int.mul_nonneg (by omega) (by omega)
    omega

/-- The time of message m: behind those of hd, ahead of those of tl. -/
inductive Wst (hd : List Fr) (m : Fr) (tl : List Fr) : Option Int → Prop

  | none : Fx (busyAsk (heldF tl) hd m) 1 none → Wst hd m tl none

  | some {busy : Int} {x : Option Int} : Fx (busyAsk (heldF tl) hd m) 1 (some busy) → Tm (heldF tl) hd m (kinds m busy).toNat x → Wst hd m tl x

theorem Wst.one {hd tl : List Fr} {m : Fr} {x y : Option Int} (h : Wst hd m tl x) (h' : Wst hd m tl y) : x = y := by
  cases h with
  | none f => cases h' with
    | none f' => rfl
    | some f' t' => cases f.one f'
  | some f t => cases h' with
    | none f' => cases f.one f'
    | some f' t' => cases f.one f'; exact t.one t'

/-- The first so many messages have times, and each is in time. -/
def TmsTo (l : List Fr) (ts : List Int) : Prop := ts.length ≤ l.length ∧ ∀ i m v, l[i]? = some m → ts[i]? = some v → Wst (l.take i) m (l.drop (i + 1)) (some v) ∧ v ≤ m.d

/-- Message i has none, or one that is too long. -/
def NoTm (l : List Fr) (i : Nat) : Prop := ∃ m x, l[i]? = some m ∧ Wst (l.take i) m (l.drop (i + 1)) x ∧ ∀ v, x = some v → m.d < v

/-- What is told. -/
def Told (l : List Fr) (ts : List Int) (e : Int × Int) : Prop :=
  (TmsTo l ts ∧ ts.length = l.length ∧ e = (0, 0)) ∨ (ts = [] ∧ ∃ us, TmsTo l us ∧ NoTm l us.length ∧ e = (13, (us.length : Int)))

theorem TmsTo.start (l : List Fr) : TmsTo l [] := ⟨Nat.zero_le _, fun i m v _ h => by simp at h⟩

theorem TmsTo.snoc {l : List Fr} {ts : List Int} {m : Fr} {v : Int} (h : TmsTo l ts) (hm : l[ts.length]? = some m) (hw : Wst (l.take ts.length) m (l.drop (ts.length + 1)) (some v)) (hv : v ≤ m.d) : TmsTo l (ts ++ [v]) := by
  have hlt : ts.length < l.length := (List.getElem?_eq_some_iff.1 hm).1
  refine ⟨by simp; omega, fun i m' v' h1 h2 => ?_⟩
  by_cases hi : i < ts.length
  · rw [List.getElem?_append_left hi] at h2
    exact h.2 i m' v' h1 h2
  · rw [List.getElem?_append_right (by omega)] at h2
    have e : i = ts.length := by
      have := (List.getElem?_eq_some_iff.1 h2).1
      simp at this
      omega
    subst e
    rw [hm] at h1
    cases h1
    simp at h2
    subst h2
    exact ⟨hw, hv⟩

theorem TmsTo.pre {l : List Fr} {ts us : List Int} (h : TmsTo l ts) (h' : TmsTo l us) (hle : ts.length ≤ us.length) : ts = us.take ts.length := by
  apply List.ext_getElem?
  intro i
  by_cases hi : i < ts.length
  · have hl : i < l.length := by have := h.1; omega
    have e1 := (h.2 i l[i] ts[i] (List.getElem?_eq_getElem hl) (List.getElem?_eq_getElem hi)).1
    have e2 := (h'.2 i l[i] (us[i]'(by omega)) (List.getElem?_eq_getElem hl) (List.getElem?_eq_getElem (by omega))).1
    have e3 := Option.some.inj (e1.one e2)
    rw [List.getElem?_take, if_pos hi, List.getElem?_eq_getElem hi, List.getElem?_eq_getElem (show i < us.length by omega), e3]
  · rw [List.getElem?_eq_none (by omega), List.getElem?_eq_none (by rw [List.length_take]; omega)]

theorem TmsTo.no {l : List Fr} {ts : List Int} {i : Nat} (h : TmsTo l ts) (hn : NoTm l i) : ¬ i < ts.length := fun hi => by
  obtain ⟨m, x, h1, h2, h3⟩ := hn
  have := h.2 i m ts[i] h1 (List.getElem?_eq_getElem hi)
  have e := h2.one this.1
  have := h3 _ e
  omega

theorem Told.one {l : List Fr} {ts us : List Int} {e f : Int × Int} (h : Told l ts e) (h' : Told l us f) : ts = us ∧ e = f := by
  rcases h with ⟨h1, h2, rfl⟩ | ⟨rfl, ts', h1, h2, rfl⟩
  · rcases h' with ⟨g1, g2, rfl⟩ | ⟨rfl, us', g1, g2, rfl⟩
    · refine ⟨?_, rfl⟩
      rw [h1.pre g1 (by omega), h2, ← g2, List.take_length]
    · have := h1.no g2
      obtain ⟨m, x, q1, -⟩ := g2
      have := (List.getElem?_eq_some_iff.1 q1).1
      omega
  · rcases h' with ⟨g1, g2, rfl⟩ | ⟨rfl, us', g1, g2, rfl⟩
    · have := g1.no h2
      obtain ⟨m, x, q1, -⟩ := h2
      have := (List.getElem?_eq_some_iff.1 q1).1
      omega
    · refine ⟨rfl, ?_⟩
      have a1 := h1.no g2
      have a2 := g1.no h2
      have : ts'.length = us'.length := by omega
      rw [this]

def Fr.vals (x : Fr) : List Value := [.int .i64 x.c, .int .i64 x.t, .int .i64 x.d, .int .i64 x.j]

def Fr.val (x : Fr) : Value := .agg #[.int .i64 x.c, .int .i64 x.t, .int .i64 x.d, .int .i64 x.j]

theorem Fr.len (x : Fr) : x.vals.length = 4 := rfl

def FrAt (w : World) (b o : Nat) (x : Fr) : Prop := w.cell? ⟨b, o, none⟩ = some (.int .i64 x.c) ∧ w.cell? ⟨b, o + 1, none⟩ = some (.int .i64 x.t) ∧ w.cell? ⟨b, o + 2, none⟩ = some (.int .i64 x.d) ∧ w.cell? ⟨b, o + 3, none⟩ = some (.int .i64 x.j)

theorem fr_at {w : World} {l : List Fr} {b o j : Nat} {x : Fr} (h : ∀ q u, (l.flatMap Fr.vals)[q]? = some u → w.cell? ⟨b, o + q, none⟩ = some u) (hj : l[j]? = some x) : FrAt w b (o + j * 4) x := by
  have k : ∀ k u, k < 4 → x.vals[k]? = some u → w.cell? ⟨b, o + j * 4 + k, none⟩ = some u := fun k u hk hu => by
    rw [Nat.add_assoc]
    exact h _ u ((flat_at Fr.vals 4 Fr.len l j k x hj hk).trans hu)
  exact ⟨k 0 _ (by omega) rfl, k 1 _ (by omega) rfl, k 2 _ (by omega) rfl, k 3 _ (by omega) rfl⟩

theorem FrAt.below {w w' : World} {b o : Nat} {x : Fr} (h : FrAt w b o x) (hb : Below w.heap.size w w') : FrAt w' b o x :=
  ⟨below_cell hb h.1, below_cell hb h.2.1, below_cell hb h.2.2.1, below_cell hb h.2.2.2⟩

def chkNF : List Fr → Nat → Int × Int
  | [], _ => (0, 0)
  | m :: r, i => if wrFr m = 0 then chkNF r (i + 1) else (wrFr m, (i : Int))

def chkN (l : List Fr) : Int × Int := if l.length = 0 ∨ 8 < l.length then (2, 0) else chkNF l 0

theorem chkNF_at {l : List Fr} {j : Nat} {x : Fr} (h : l.drop j = x :: l.drop (j + 1)) : chkNF (l.drop j) j = if wrFr x = 0 then chkNF (l.drop (j + 1)) (j + 1) else (wrFr x, (j : Int)) := by
  rw [h, chkNF]

theorem wrFr_ok {m : Fr} (h : wrFr m = 0) : okFr m := by
  unfold wrFr at h
  by_cases h1 : badFr m = true
  · rw [if_pos h1] at h; cases h
  · rw [if_neg h1] at h
    by_cases h2 : m.t < m.j
    · rw [if_pos h2] at h; cases h
    · unfold badFr at h1
      simp at h1
      unfold okFr
      omega

theorem chkNF_ok : ∀ (l : List Fr) (i : Nat), (chkNF l i).1 = 0 → (∀ x ∈ l, okFr x) ∧ chkNF l i = (0, 0)
  | [], _, _ => ⟨fun _ h => by simp at h, rfl⟩
  | m :: r, i, h => by
    rw [chkNF] at h ⊢
    by_cases hm : wrFr m = 0
    · rw [if_pos hm] at h ⊢
      obtain ⟨h1, h2⟩ := chkNF_ok r (i + 1) h
      exact ⟨fun x hx => by
        rcases List.mem_cons.1 hx with rfl | hx
        · exact wrFr_ok hm
        · exact h1 x hx, h2⟩
    · rw [if_neg hm] at h
      exact absurd h hm

theorem chkN_ok {l : List Fr} (h : (chkN l).1 = 0) : 1 ≤ l.length ∧ l.length ≤ 8 ∧ (∀ x ∈ l, okFr x) ∧ chkN l = (0, 0) := by
  unfold chkN at h ⊢
  by_cases h1 : l.length = 0 ∨ 8 < l.length
  · rw [if_pos h1] at h; cases h
  · rw [if_neg h1] at h ⊢
    obtain ⟨h2, h3⟩ := chkNF_ok l 0 h
    exact ⟨by omega, by omega, h2, h3⟩
end Go.Proofs.Ytccoobcggbbciam
namespace Go.Proofs.Ytccoobcggbbciam
open Go.ChangeShapes Go.WideShapes Go.ChangeAt Go.RowKit

theorem withinN_any (w : World) (n a b : Int) : Calls Try.prog 54 #[.int .i64 n, .int .i64 a, .int .i64 b] w fun r w' => r = .returned (.bool (within n a b)) ∧ w' = w := by
  by_cases h : a ≤ n
  · by_cases h2 : n ≤ b
    · have e : within n a b = true := by simp [within, h, h2]
      rw [e]
      go_enter Try.func54, Try.ntmps54
      go_wp2_with fail
      go_ret
      exact ⟨rfl, rfl⟩
    · have e : within n a b = false := by simp [within, h2]
      rw [e]
      go_enter Try.func54, Try.ntmps54
      go_wp2_with fail
      go_ret
      exact ⟨rfl, rfl⟩
  · have e : within n a b = false := by simp [within, h]
    rw [e]
    go_enter Try.func54, Try.ntmps54
    go_wp2_with fail
    go_ret
    exact ⟨rfl, rfl⟩

def isT (n : Int) : Bool := within n 1 10000

theorem isTimeN_any (w : World) (n : Int) : Calls Try.prog 74 #[.int .i64 n] w fun r w' => r = .returned (.bool (isT n)) ∧ w' = w := by
  unfold isT
  go_enter Try.func74, Try.ntmps74
  go_wp2_with (go_at_call 54; refine (withinN_any _ _ _ _).mono ?_; rintro r w1 ⟨rfl, hw1⟩; have hw2 := hw1.symm; subst hw2)
  go_ret
  exact ⟨rfl, rfl⟩

set_option maxRecDepth 20000 in
set_option maxHeartbeats 1000000 in
theorem wrongN_any (w : World) (x : Fr) : Calls Try.prog 55 #[x.val] w fun r w' => r = .returned (.int .i64 (wrFr x)) ∧ Below w.heap.size w w' := by
  obtain ⟨c, t, d, j⟩ := x
  show Calls Try.prog 55 #[.agg #[.int .i64 c, .int .i64 t, .int .i64 d, .int .i64 j]] w _
  by_cases h1 : isT c = true
  rotate_left 1
  · have h1 : isT c = false := by simpa using h1
    have e : wrFr ⟨c, t, d, j⟩ = 3 := by unfold wrFr badFr; unfold isT within at *; simp at *; omega
    rw [e]
    go_enter Try.func55, Try.ntmps55
    go_wp2_with (first | (go_at_call 74; refine (isTimeN_any _ _).mono ?_; rintro r w1 ⟨rfl, hw1⟩; have hw2 := hw1.symm; subst hw2; first | rw [h1] | rw [h2] | rw [h3]) | (go_at_call 54; refine (withinN_any _ _ _ _).mono ?_; rintro r w1 ⟨rfl, hw1⟩; have hw2 := hw1.symm; subst hw2; rw [h4]))
    go_ret
    exact ⟨rfl, below_new _ _⟩
  by_cases h2 : isT t = true
  rotate_left 1
  · have h2 : isT t = false := by simpa using h2
    have e : wrFr ⟨c, t, d, j⟩ = 3 := by unfold wrFr badFr; unfold isT within at *; simp at *; omega
    rw [e]
    go_enter Try.func55, Try.ntmps55
    go_wp2_with (first | (go_at_call 74; refine (isTimeN_any _ _).mono ?_; rintro r w1 ⟨rfl, hw1⟩; have hw2 := hw1.symm; subst hw2; first | rw [h1] | rw [h2] | rw [h3]) | (go_at_call 54; refine (withinN_any _ _ _ _).mono ?_; rintro r w1 ⟨rfl, hw1⟩; have hw2 := hw1.symm; subst hw2; rw [h4]))
    go_ret
    exact ⟨rfl, below_new _ _⟩
  by_cases h3 : isT d = true
  rotate_left 1
  · have h3 : isT d = false := by simpa using h3
    have e : wrFr ⟨c, t, d, j⟩ = 3 := by unfold wrFr badFr; unfold isT within at *; simp at *; omega
    rw [e]
    go_enter Try.func55, Try.ntmps55
    go_wp2_with (first | (go_at_call 74; refine (isTimeN_any _ _).mono ?_; rintro r w1 ⟨rfl, hw1⟩; have hw2 := hw1.symm; subst hw2; first | rw [h1] | rw [h2] | rw [h3]) | (go_at_call 54; refine (withinN_any _ _ _ _).mono ?_; rintro r w1 ⟨rfl, hw1⟩; have hw2 := hw1.symm; subst hw2; rw [h4]))
    go_ret
    exact ⟨rfl, below_new _ _⟩
  by_cases h4 : within j 0 10000 = true
  rotate_left 1
  · have h4 : within j 0 10000 = false := by simpa using h4
    have e : wrFr ⟨c, t, d, j⟩ = 3 := by unfold wrFr badFr; unfold isT within at *; simp at *; omega
    rw [e]
    go_enter Try.func55, Try.ntmps55
    go_wp2_with (first | (go_at_call 74; refine (isTimeN_any _ _).mono ?_; rintro r w1 ⟨rfl, hw1⟩; have hw2 := hw1.symm; subst hw2; first | rw [h1] | rw [h2] | rw [h3]) | (go_at_call 54; refine (withinN_any _ _ _ _).mono ?_; rintro r w1 ⟨rfl, hw1⟩; have hw2 := hw1.symm; subst hw2; rw [h4]))
    go_ret
    exact ⟨rfl, below_new _ _⟩
  by_cases h5 : t < j
  · have e : wrFr ⟨c, t, d, j⟩ = 12 := by unfold wrFr badFr; unfold isT within at *; simp at *; omega
    rw [e]
    go_enter Try.func55, Try.ntmps55
    go_wp2_with (first | (go_at_call 74; refine (isTimeN_any _ _).mono ?_; rintro r w1 ⟨rfl, hw1⟩; have hw2 := hw1.symm; subst hw2; first | rw [h1] | rw [h2] | rw [h3]) | (go_at_call 54; refine (withinN_any _ _ _ _).mono ?_; rintro r w1 ⟨rfl, hw1⟩; have hw2 := hw1.symm; subst hw2; rw [h4]))
    go_ret
    exact ⟨rfl, below_new _ _⟩
  · have e : wrFr ⟨c, t, d, j⟩ = 0 := by unfold wrFr badFr; unfold isT within at *; simp at *; omega
    rw [e]
    go_enter Try.func55, Try.ntmps55
    go_wp2_with (first | (go_at_call 74; refine (isTimeN_any _ _).mono ?_; rintro r w1 ⟨rfl, hw1⟩; have hw2 := hw1.symm; subst hw2; first | rw [h1] | rw [h2] | rw [h3]) | (go_at_call 54; refine (withinN_any _ _ _ _).mono ?_; rintro r w1 ⟨rfl, hw1⟩; have hw2 := hw1.symm; subst hw2; rw [h4]))
    go_ret
    exact ⟨rfl, below_new _ _⟩
end Go.Proofs.Ytccoobcggbbciam
namespace Go.Proofs.Ytccoobcggbbciam
open Go.ChangeShapes Go.WideShapes Go.ChangeAt Go.RowKit

theorem CheckN_ends {w : World} {g : Nat} {c k : Value} {a : Act} (h : w.heap[g]? = some (.cells #[c, k] 29 (0, 0))) (h3 : a.tmps[2]?.getD undef = .pointer (some ⟨g, 0, none⟩)) :
    (results Try.f41 a.tmps).run Try.prog w = .ok (.agg #[c, k]) w := by
  obtain ⟨c1, f1, l1⟩ := cells_of (l := [_, _]) h
  have c10 := c1 0 _ rfl
  have c11 := c1 1 _ rfl
  simp [results, Try.results41, go_sem, h3, c10, c11]

set_option maxRecDepth 20000 in
set_option maxHeartbeats 1000000 in
theorem CheckN_any (w : World) (l : List Fr) (v : Value) (hv : RowSl Fr.vals w l v) : Calls Try.prog 41 #[v] w fun r w' => r = .returned (.agg #[.int .i64 (chkN l).1, .int .i64 (chkN l).2]) ∧ Below w.heap.size w w' := by
  by_cases hn : l.length = 0 ∨ 8 < l.length
  · have e0 : chkN l = (2, 0) := by unfold chkN; rw [if_pos hn]
    rw [e0]
    obtain ⟨ad, c, rfl⟩ := hv.len
    have HN : Hid (l.length = 0 ∨ 8 < l.length) := hn
    clear hv e0
    have hw : within (l.length : Int) 1 8 = false := by unfold within; simp; have := HN.out; omega
    clear hn
    go_enter Try.func41, Try.ntmps41
    go_wp2_with (go_at_call 54; refine (withinN_any _ _ _ _).mono ?_; rintro r w1 ⟨rfl, hw1⟩; have hw2 := hw1.symm; subst hw2; rw [hw])
    refine bodyPost_ret (CheckN_ends (g := w.heap.size) (c := .int .i64 2) (k := .int .i64 0) (heap_alloc_new _ _) rfl) rfl ?_
    exact ⟨rfl, below_new _ _⟩
  have e0 : chkN l = chkNF l 0 := by unfold chkN; rw [if_neg hn]
  rw [e0]
  have hw : within (l.length : Int) 1 8 = true := by unfold within; simp; omega
  have hl8 : l.length ≤ 8 := by omega
  clear e0 hn
  obtain ⟨ad, c, rfl, -, hcap, hrow⟩ := hv
  have HR : Hid (l = [] ∨ ∃ b o, ad = some ⟨b, o, none⟩ ∧ ∀ q u, (l.flatMap Fr.vals)[q]? = some u → w.cell? ⟨b, o + q, none⟩ = some u) := hrow
  clear hrow
  go_enter Try.func41, Try.ntmps41
  go_wp2_with (go_at_call 54; refine (withinN_any _ _ _ _).mono ?_; rintro r w1 ⟨rfl, hw1⟩; have hw2 := hw1.symm; subst hw2; rw [hw])
  go_loopw [13] (fun i wr => ∃ j : Nat, j ≤ l.length ∧ i = .int .i64 j ∧ FB w wr w.heap.size ∧ chkNF (l.drop j) j = chkNF l 0) (fun i _ => l.length - (intOf i).toNat)
  case atStart => exact ⟨0, Nat.zero_le _, rfl, FB.start _, rfl⟩
  case round =>
    obtain ⟨j, hj, rfl, hg, hac⟩ := hrel
    have HG : Hid (FB w wr w.heap.size) := hg
    by_cases hjl : j < l.length
    · obtain ⟨x, hx, hd⟩ := drop_at hjl
      rcases HR.out with h | ⟨gb, go, rfl, hr1⟩
      · rw [h] at hjl; simp at hjl
      obtain ⟨y0, y1, y2, y3⟩ := fr_at (fun q u hq => below_cell hg.bel (hr1 q u hq)) hx
      rw [chkNF_at hd] at hac
      obtain ⟨xc, xt, xd, xj⟩ := x
      dsimp only at y0 y1 y2 y3
      have HA : Hid ((if wrFr ⟨xc, xt, xd, xj⟩ = 0 then chkNF (l.drop (j + 1)) (j + 1) else (wrFr ⟨xc, xt, xd, xj⟩, (j : Int))) = chkNF l 0) := hac
      have hgl := hg.lt
      clear hac hd hr1 hx hg
      by_cases h0 : wrFr ⟨xc, xt, xd, xj⟩ = 0
      · have hwr := fun W => wrongN_any W ⟨xc, xt, xd, xj⟩
        rw [h0] at hwr
        simp only [Fr.val] at hwr
        go_wp2_with (go_at_call 55; refine (hwr _).mono ?_; rintro r w2 ⟨rfl, hb2⟩; have H2 : Hid (FB w w2 w.heap.size) := (HG.out.grow (below_new _ _)).grow hb2; clear hb2)
        have HA2 := HA.out
        rw [if_pos h0] at HA2
        exact ⟨⟨j + 1, by omega, by simp, H2.out, HA2⟩, by simp [intOf]; omega⟩
      · have hwr := fun W => wrongN_any W ⟨xc, xt, xd, xj⟩
        simp only [Fr.val] at hwr
        have HA2 := HA.out
        rw [if_neg h0] at HA2
        have HA3 : Hid ((wrFr ⟨xc, xt, xd, xj⟩, (j : Int)) = chkNF l 0) := HA2
        clear HA2 HA
        generalize wrFr ⟨xc, xt, xd, xj⟩ = z at *
        have hz : (z != 0) = true := by simpa using h0
        clear h0
        go_wp2_with (go_at_call 55; refine (hwr _).mono ?_; rintro r w2 ⟨rfl, hb2⟩; have H2 : Hid (FB w w2 w.heap.size) := (HG.out.grow (below_new _ _)).grow hb2; obtain ⟨qs, qf, ql⟩ := cells_of (l := [_, _]) H2.out.res; have q0 := qs 0 _ rfl; have q1 := qs 1 _ rfl; have qf0 := qf 0; have qf1 := qf 1; clear qs qf hb2)
        refine bodyPost_ret (CheckN_ends (g := w.heap.size) (c := .int .i64 z) (k := .int .i64 (j : Int)) (set_two H2.out.res) rfl) rfl ?_
        rw [← HA3.out]
        exact ⟨rfl, H2.out.set _ _⟩
    · have hje : j = l.length := by omega
      subst hje
      rw [List.drop_length] at hac
      have HA : Hid ((0, 0) = chkNF l 0) := hac
      obtain ⟨qs, qf, ql⟩ := cells_of (l := [_, _]) hg.res
      have q0 := qs 0 _ rfl
      have q1 := qs 1 _ rfl
      have qf0 := qf 0
      have qf1 := qf 1
      clear qs qf hac hg
      go_wp2_with fail
      refine bodyPost_ret (CheckN_ends (g := w.heap.size) (c := .int .i64 0) (k := .int .i64 0) (set_two HG.out.res) rfl) rfl ?_
      rw [← HA.out]
      exact ⟨rfl, HG.out.set _ _⟩
end Go.Proofs.Ytccoobcggbbciam
