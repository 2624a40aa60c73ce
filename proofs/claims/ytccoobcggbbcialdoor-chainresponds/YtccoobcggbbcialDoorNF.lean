import Derived.Test.YtccoobcggbbcialDoorPU
namespace Go.Proofs.YtccoobcggbbcialDoor
open Go.ChangeShapes Go.WideShapes Go.ChangeAt Go.RowKit

/-- A message. -/
structure Fr where
  c : Int
  t : Int
  d : Int
  j : Int

def badFr (m : Fr) : Bool := !(decide (1 ≤ m.c) && decide (m.c ≤ 10000) && decide (1 ≤ m.t) && decide (m.t ≤ 10000) && decide (1 ≤ m.d) && decide (m.d ≤ 10000) && decide (0 ≤ m.j) && decide (m.j ≤ 10000))

def wrFr (m : Fr) : Int := if badFr m = true then 3 else if m.t < m.j then 12 else 0

def okFr (m : Fr) : Prop := 1 ≤ m.c ∧ m.c ≤ 10000 ∧ 1 ≤ m.t ∧ m.t ≤ 10000 ∧ 1 ≤ m.d ∧ m.d ≤ 10000 ∧ 0 ≤ m.j ∧ m.j ≤ m.t

/-- The least w from `a` on, up to 100000, that is what it asks for. -/
def Fx (ask : Int → Int) (a : Int) : Option Int → Prop
  | some w => a ≤ w ∧ w ≤ 100000 ∧ ask w = w ∧ ∀ v, a ≤ v → v < w → ask v ≠ v
  | none => ∀ v, a ≤ v → v ≤ 100000 → ask v ≠ v

theorem Fx.one {ask : Int → Int} {a : Int} {x y : Option Int} (h : Fx ask a x) (h' : Fx ask a y) : x = y := by
  cases x with
  | none => cases y with
    | none => rfl
    | some w => exact absurd h'.2.2.1 (h w h'.1 h'.2.1)
  | some v => cases y with
    | none => exact absurd h.2.2.1 (h' v h.1 h.2.1)
    | some w =>
      rcases Int.lt_trichotomy v w with e | e | e
      · exact absurd h.2.2.1 (h'.2.2.2 v h.1 e)
      · rw [e]
      · exact absurd h'.2.2.1 (h.2.2.2 w h'.1 e)

/-- It never grows less. -/
def Mo (ask : Int → Int) (a : Int) : Prop := ∀ v w, a ≤ v → v ≤ w → ask v ≤ ask w

/-- From below: what lies between w and what it asks for is no answer. -/
theorem Mo.step {ask : Int → Int} {a w : Int} (h : Mo ask a) (ha : a ≤ w) (hle : w ≤ ask w) (hn : ∀ v, a ≤ v → v < w → ask v ≠ v) : a ≤ ask w ∧ ask w ≤ ask (ask w) ∧ (∀ v, a ≤ v → v < ask w → ask v ≠ v) := by
  refine ⟨by omega, h _ _ ha hle, fun v hv hlt e => ?_⟩
  by_cases hc : v < w
  · exact hn v hv hc e
  · have := h w v ha (by omega)
    omega

/-- Nothing is lost where the look begins later, as long as no answer lies ahead of it. -/
theorem Fx.from' {ask : Int → Int} {a b : Int} {x : Option Int} (hab : a ≤ b) (hno : ∀ v, a ≤ v → v < b → ask v ≠ v) (h : Fx ask b x) : Fx ask a x := by
  cases x with
  | none =>
    intro v hv hv2
    by_cases e : v < b
    · exact hno v hv e
    · exact h v (by omega) hv2
  | some w =>
    refine ⟨by have := h.1; omega, h.2.1, h.2.2.1, fun v hv hlt => ?_⟩
    by_cases e : v < b
    · exact hno v hv e
    · exact h.2.2.2 v (by omega) hlt

def upF (w : Int) (m : Fr) : Int := (w + m.j + m.t - 1) / m.t * m.c

def dnF (w : Int) (m : Fr) : Int := ((w + m.j) / m.t + 1) * m.c

def sumF (f : Int → Fr → Int) (w : Int) : List Fr → Int
  | [] => 0
  | m :: r => f w m + sumF f w r

theorem ediv_mono {a b t : Int} (ht : 1 ≤ t) (h : a ≤ b) : a / t ≤ b / t := Int.ediv_le_ediv (by omega) h

theorem upF_mono {m : Fr} (h : okFr m) {v w : Int} (hvw : v ≤ w) : upF v m ≤ upF w m := by
  unfold upF
  obtain ⟨h1, -, h3, -⟩ := h
  exact Int.mul_le_mul_of_nonneg_right (ediv_mono h3 (by omega)) (by omega)

theorem dnF_mono {m : Fr} (h : okFr m) {v w : Int} (hvw : v ≤ w) : dnF v m ≤ dnF w m := by
  unfold dnF
  obtain ⟨h1, -, h3, -⟩ := h
  have := ediv_mono h3 (show v + m.j ≤ w + m.j by omega)
  exact Int.mul_le_mul_of_nonneg_right (by omega) (by omega)

theorem upF_c {m : Fr} (h : okFr m) {w : Int} (hw : 1 ≤ w) : m.c ≤ upF w m := by
  unfold upF
  obtain ⟨h1, -, h3, -, -, -, h7, -⟩ := h
  have e : 1 ≤ (w + m.j + m.t - 1) / m.t := by
    rw [Int.le_ediv_iff_mul_le (by omega)]; omega
  have := Int.mul_le_mul_of_nonneg_right e (show 0 ≤ m.c by omega)
  omega

theorem dnF_c {m : Fr} (h : okFr m) {w : Int} (hw : 0 ≤ w) : m.c ≤ dnF w m := by
  unfold dnF
  obtain ⟨h1, -, h3, -, -, -, h7, -⟩ := h
  have e : 0 ≤ (w + m.j) / m.t := Int.ediv_nonneg (by omega) (by omega)
  have := Int.mul_le_mul_of_nonneg_right (show (1 : Int) ≤ (w + m.j) / m.t + 1 by omega) (show 0 ≤ m.c by omega)
  omega

theorem sumF_mono {f : Int → Fr → Int} {l : List Fr} (hf : ∀ m ∈ l, ∀ v w, v ≤ w → f v m ≤ f w m) {v w : Int} (h : v ≤ w) : sumF f v l ≤ sumF f w l := by
  induction l with
  | nil => exact Int.le_refl _
  | cons m r ih =>
    have h1 := hf m List.mem_cons_self v w h
    have h2 := ih (fun x hx => hf x (List.mem_cons_of_mem _ hx))
    simp only [sumF]
    omega

theorem sumF_nonneg {f : Int → Fr → Int} {l : List Fr} {w : Int} (hf : ∀ m ∈ l, 0 ≤ f w m) : 0 ≤ sumF f w l := by
  induction l with
  | nil => exact Int.le_refl _
  | cons m r ih =>
    have h1 := hf m List.mem_cons_self
    have h2 := ih (fun x hx => hf x (List.mem_cons_of_mem _ hx))
    simp only [sumF]
    omega

theorem sumF_append {f : Int → Fr → Int} {w : Int} : ∀ (a b : List Fr), sumF f w (a ++ b) = sumF f w a + sumF f w b
  | [], b => by simp [sumF]
  | m :: r, b => by simp [sumF, sumF_append r b]; omega

/-- How long those behind hold one up. -/
def heldF : List Fr → Int
  | [] => 0
  | m :: r => max (m.c - 1) (heldF r)

theorem heldF_nonneg : ∀ l, 0 ≤ heldF l
  | [] => Int.le_refl _
  | m :: r => by have := heldF_nonneg r; simp only [heldF]; omega

theorem heldF_le {m : Fr} : ∀ {l : List Fr}, m ∈ l → m.c - 1 ≤ heldF l
  | x :: r, h => by
    rcases List.mem_cons.1 h with rfl | h
    · simp only [heldF]; omega
    · have := heldF_le h; simp only [heldF]; omega

theorem heldF_small {l : List Fr} (h : ∀ m ∈ l, m.c ≤ 10000) : heldF l ≤ 9999 := by
  induction l with
  | nil => simp [heldF]
  | cons m r ih =>
    have h1 := h m List.mem_cons_self
    have h2 := ih (fun x hx => h x (List.mem_cons_of_mem _ hx))
    simp only [heldF]; omega

def busyAsk (b : Int) (hd : List Fr) (m : Fr) (w : Int) : Int := b + sumF upF w (hd ++ [m])

def qAsk (b : Int) (hd : List Fr) (m : Fr) (q : Int) (w : Int) : Int := b + q * m.c + sumF dnF w hd

/-- How many of its kind are looked at. -/
def kinds (m : Fr) (busy : Int) : Int := (busy + m.j + m.t - 1) / m.t

/-- Below what asks for no more than it is lies an answer. -/
theorem Mo.pre {ask : Int → Int} {a : Int} (h : Mo ask a) (ha : a ≤ ask a) : ∀ (n : Nat) (v : Int), (v - a).toNat ≤ n → a ≤ v → ask v ≤ v → ∃ w, a ≤ w ∧ w ≤ v ∧ ask w = w
  | 0, v, hn, hv, hp => ⟨v, hv, Int.le_refl _, by have : v = a := by omega
                                                  subst this; omega⟩
  | n + 1, v, hn, hv, hp => by
    by_cases e : ask v = v
    · exact ⟨v, hv, Int.le_refl _, e⟩
    · have h1 : a ≤ ask v := Int.le_trans ha (h a v (Int.le_refl _) hv)
      obtain ⟨w, g1, g2, g3⟩ := Mo.pre h ha n (ask v) (by omega) h1 (h _ _ h1 hp)
      exact ⟨w, g1, by omega, g3⟩

theorem qAsk_mo {b : Int} {hd : List Fr} {m : Fr} {q : Int} (hh : ∀ x ∈ hd, okFr x) : Mo (qAsk b hd m q) 0 := fun v w _ h => by
  unfold qAsk
  have := sumF_mono (f := dnF) (l := hd) (fun x hx v w h => dnF_mono (hh x hx) h) h
  omega

theorem qAsk_low {b : Int} {hd : List Fr} {m : Fr} {q v : Int} (hh : ∀ x ∈ hd, okFr x) (hv : 0 ≤ v) : b + q * m.c ≤ qAsk b hd m q v := by
  unfold qAsk
  have := sumF_nonneg (f := dnF) (l := hd) (w := v) (fun x hx => by have := dnF_c (hh x hx) hv; have := (hh x hx).1; omega)
  omega

theorem busyAsk_mo {b : Int} {hd : List Fr} {m : Fr} (hh : ∀ x ∈ hd, okFr x) (hm : okFr m) : Mo (busyAsk b hd m) 1 := fun v w _ h => by
  unfold busyAsk
  have := sumF_mono (f := upF) (l := hd ++ [m]) (fun x hx v w h => upF_mono (by rcases List.mem_append.1 hx with hx | hx; exact hh x hx; simp at hx; exact hx ▸ hm) h) h
  omega

theorem busyAsk_low {b : Int} {hd : List Fr} {m : Fr} {v : Int} (hh : ∀ x ∈ hd, okFr x) (hm : okFr m) (hv : 1 ≤ v) : b + m.c ≤ busyAsk b hd m v := by
  unfold busyAsk
  rw [sumF_append]
  have h1 := sumF_nonneg (f := upF) (l := hd) (w := v) (fun x hx => by have := upF_c (hh x hx) hv; have := (hh x hx).1; omega)
  have h2 := upF_c hm hv
  simp only [sumF]
  omega

/-- The document looks for the busy time from b and C on. -/
theorem busy_from {b : Int} {hd : List Fr} {m : Fr} {x : Option Int} (hh : ∀ x ∈ hd, okFr x) (hm : okFr m) (hb : 0 ≤ b) (h : Fx (busyAsk b hd m) (b + m.c) x) : Fx (busyAsk b hd m) 1 x :=
  h.from' (by have := hm.1; omega) (fun v hv hlt e => by have := busyAsk_low (b := b) hh hm hv; omega)

/-- And each q's from b and q times C on. -/
theorem q_from {b q : Int} {hd : List Fr} {m : Fr} {x : Option Int} (hh : ∀ x ∈ hd, okFr x) (hm : okFr m) (hb : 0 ≤ b) (hq : 0 ≤ q) (h : Fx (qAsk b hd m q) (b + q * m.c) x) : Fx (qAsk b hd m q) 0 x :=
  h.from' (by have := Int.mul_nonneg hq (show 0 ≤ m.c by have := hm.1; omega); omega) (fun v hv hlt e => by have := qAsk_low (b := b) (m := m) (q := q) hh hv; omega)

/-- The program looks from the one ahead of it on. -/
theorem q_next {b q p : Int} {hd : List Fr} {m : Fr} {x : Option Int} (hh : ∀ x ∈ hd, okFr x) (hm : okFr m) (hb : 0 ≤ b) (hq : 0 ≤ q) (hp : Fx (qAsk b hd m q) 0 (some p)) (h : Fx (qAsk b hd m (q + 1)) p x) : Fx (qAsk b hd m (q + 1)) 0 x := by
  refine h.from' hp.1 (fun v hv hlt e => ?_)
  have hle : qAsk b hd m q v ≤ v := by
    have : qAsk b hd m q v ≤ qAsk b hd m (q + 1) v := by
      unfold qAsk
      have := hm.1
      rw [Int.add_mul, Int.one_mul]
      omega
    omega
  have h0 : 0 ≤ qAsk b hd m q 0 := by
    have := qAsk_low (b := b) (m := m) (q := q) (v := 0) hh (Int.le_refl _)
    have := Int.mul_nonneg hq (show 0 ≤ m.c by have := hm.1; omega)
    omega
  obtain ⟨w, g1, g2, g3⟩ := (qAsk_mo (b := b) (m := m) (q := q) hh).pre h0 v.toNat v (by omega) hv hle
  exact hp.2.2.2 w g1 (by omega) g3

/-- What is asked for at the one ahead isn't below it. -/
theorem q_start {b q p : Int} {hd : List Fr} {m : Fr} (hm : okFr m) (hp : Fx (qAsk b hd m q) 0 (some p)) : p ≤ qAsk b hd m (q + 1) p := by
  have h := hp.2.2.1
  unfold qAsk at h ⊢
  have := hm.1
  rw [Int.add_mul, Int.one_mul]
  omega

/-- The greatest of the times of those up to q; none: one isn't there. -/
inductive Tm (b : Int) (hd : List Fr) (m : Fr) : Nat → Option Int → Prop

  | zero : Tm b hd m 0 (some 0)

  | gone {q : Nat} : Tm b hd m q none → Tm b hd m (q + 1) none

  | stop {q : Nat} {v : Int} : Tm b hd m q (some v) → Fx (qAsk b hd m q) 0 none → Tm b hd m (q + 1) none

  | next {q : Nat} {v w : Int} : Tm b hd m q (some v) → Fx (qAsk b hd m q) 0 (some w) → Tm b hd m (q + 1) (some (max v (m.j + w - q * m.t + m.c)))

theorem Tm.one {b : Int} {hd : List Fr} {m : Fr} : ∀ {q : Nat} {x y : Option Int}, Tm b hd m q x → Tm b hd m q y → x = y
  | 0, _, _, .zero, .zero => rfl
  | q + 1, _, _, .gone h, .gone _ => rfl
  | q + 1, _, _, .gone h, .stop h' _ => by cases h.one h'
  | q + 1, _, _, .gone h, .next h' _ => by cases h.one h'
  | q + 1, _, _, .stop h _, .gone h' => by cases h.one h'
  | q + 1, _, _, .stop h _, .stop h' _ => rfl
  | q + 1, _, _, .stop h f, .next h' f' => by cases h.one h'; cases f.one f'
  | q + 1, _, _, .next h _, .gone h' => by cases h.one h'
  | q + 1, _, _, .next h f, .stop h' f' => by cases h.one h'; cases f.one f'
  | q + 1, _, _, .next h f, .next h' f' => by
    have e1 := h.one h'
    have e2 := f.one f'
    cases e1; cases e2; rfl

theorem Tm.gone_to {b : Int} {hd : List Fr} {m : Fr} {q : Nat} (h : Tm b hd m q none) : ∀ k, Tm b hd m (q + k) none
  | 0 => h
  | k + 1 => (h.gone_to k).gone

theorem Tm.small {b : Int} {hd : List Fr} {m : Fr} (hm : okFr m) : ∀ {q : Nat} {v : Int}, Tm b hd m q (some v) → 0 ≤ v ∧ v ≤ 120000
  | _, _, .zero => by omega
  | q + 1, _, .next h f => by
    have h1 := h.small hm
    have h2 := f.2.1
    obtain ⟨g1, g2, g3, g4, g5, g6, g7, g8⟩ := hm
    have : 0 ≤ (q : Int) * m.t := Int.mul_nonneg (by omega) (by omega)
    omega

/-- The time of message m: behind those of hd, ahead of those of tl. -/
inductive Wst (hd : List Fr) (m : Fr) (tl : List Fr) : Option Int → Prop

  | none : Fx (busyAsk (heldF tl) hd m) 1 none → Wst hd m tl none

  | some {busy : Int} {x : Option Int} : Fx (busyAsk (heldF tl) hd m) 1 (some busy) → Tm (heldF tl) hd m (kinds m busy).toNat x → Wst hd m tl x

theorem Wst.one {hd tl : List Fr} {m : Fr} {x y : Option Int} (h : Wst hd m tl x) (h' : Wst hd m tl y) : x = y := by
  cases h with
  | none f => cases h' with
    | none f' => rfl
    | some f' t' => cases f.one f'
  | some f t => cases h' with
    | none f' => cases f.one f'
    | some f' t' => cases f.one f'; exact t.one t'

/-- The first so many messages have times, and each is in time. -/
def TmsTo (l : List Fr) (ts : List Int) : Prop := ts.length ≤ l.length ∧ ∀ i m v, l[i]? = some m → ts[i]? = some v → Wst (l.take i) m (l.drop (i + 1)) (some v) ∧ v ≤ m.d

/-- Message i has none, or one that is too long. -/
def NoTm (l : List Fr) (i : Nat) : Prop := ∃ m x, l[i]? = some m ∧ Wst (l.take i) m (l.drop (i + 1)) x ∧ ∀ v, x = some v → m.d < v

/-- What is told. -/
def Told (l : List Fr) (ts : List Int) (e : Int × Int) : Prop :=
  (TmsTo l ts ∧ ts.length = l.length ∧ e = (0, 0)) ∨ (ts = [] ∧ ∃ us, TmsTo l us ∧ NoTm l us.length ∧ e = (13, (us.length : Int)))

theorem TmsTo.start (l : List Fr) : TmsTo l [] := ⟨Nat.zero_le _, fun i m v _ h => by simp at h⟩

theorem TmsTo.snoc {l : List Fr} {ts : List Int} {m : Fr} {v : Int} (h : TmsTo l ts) (hm : l[ts.length]? = some m) (hw : Wst (l.take ts.length) m (l.drop (ts.length + 1)) (some v)) (hv : v ≤ m.d) : TmsTo l (ts ++ [v]) := by
  have hlt : ts.length < l.length := (List.getElem?_eq_some_iff.1 hm).1
  refine ⟨by simp; omega, fun i m' v' h1 h2 => ?_⟩
  by_cases hi : i < ts.length
  · rw [List.getElem?_append_left hi] at h2
    exact h.2 i m' v' h1 h2
  · rw [List.getElem?_append_right (by omega)] at h2
    have e : i = ts.length := by
      have := (List.getElem?_eq_some_iff.1 h2).1
      simp at this
      omega
    subst e
    rw [hm] at h1
    cases h1
    simp at h2
    subst h2
    exact ⟨hw, hv⟩

theorem TmsTo.pre {l : List Fr} {ts us : List Int} (h : TmsTo l ts) (h' : TmsTo l us) (hle : ts.length ≤ us.length) : ts = us.take ts.length := by
  apply List.ext_getElem?
  intro i
  by_cases hi : i < ts.length
  · have hl : i < l.length := by have := h.1; omega
    have e1 := (h.2 i l[i] ts[i] (List.getElem?_eq_getElem hl) (List.getElem?_eq_getElem hi)).1
    have e2 := (h'.2 i l[i] (us[i]'(by omega)) (List.getElem?_eq_getElem hl) (List.getElem?_eq_getElem (by omega))).1
    have e3 := Option.some.inj (e1.one e2)
    rw [List.getElem?_take, if_pos hi, List.getElem?_eq_getElem hi, List.getElem?_eq_getElem (show i < us.length by omega), e3]
  · rw [List.getElem?_eq_none (by omega), List.getElem?_eq_none (by rw [List.length_take]; omega)]

theorem TmsTo.no {l : List Fr} {ts : List Int} {i : Nat} (h : TmsTo l ts) (hn : NoTm l i) : ¬ i < ts.length := fun hi => by
  obtain ⟨m, x, h1, h2, h3⟩ := hn
  have := h.2 i m ts[i] h1 (List.getElem?_eq_getElem hi)
  have e := h2.one this.1
  have := h3 _ e
  omega

theorem Told.one {l : List Fr} {ts us : List Int} {e f : Int × Int} (h : Told l ts e) (h' : Told l us f) : ts = us ∧ e = f := by
  rcases h with ⟨h1, h2, rfl⟩ | ⟨rfl, ts', h1, h2, rfl⟩
  · rcases h' with ⟨g1, g2, rfl⟩ | ⟨rfl, us', g1, g2, rfl⟩
    · refine ⟨?_, rfl⟩
      rw [h1.pre g1 (by omega), h2, ← g2, List.take_length]
    · have := h1.no g2
      obtain ⟨m, x, q1, -⟩ := g2
      have := (List.getElem?_eq_some_iff.1 q1).1
      omega
  · rcases h' with ⟨g1, g2, rfl⟩ | ⟨rfl, us', g1, g2, rfl⟩
    · have := g1.no h2
      obtain ⟨m, x, q1, -⟩ := h2
      have := (List.getElem?_eq_some_iff.1 q1).1
      omega
    · refine ⟨rfl, ?_⟩
      have a1 := h1.no g2
      have a2 := g1.no h2
      have : ts'.length = us'.length := by omega
      rw [this]

def Fr.vals (x : Fr) : List Value := [.int .i64 x.c, .int .i64 x.t, .int .i64 x.d, .int .i64 x.j]

def Fr.val (x : Fr) : Value := .agg #[.int .i64 x.c, .int .i64 x.t, .int .i64 x.d, .int .i64 x.j]

theorem Fr.len (x : Fr) : x.vals.length = 4 := rfl

def FrAt (w : World) (b o : Nat) (x : Fr) : Prop := w.cell? ⟨b, o, none⟩ = some (.int .i64 x.c) ∧ w.cell? ⟨b, o + 1, none⟩ = some (.int .i64 x.t) ∧ w.cell? ⟨b, o + 2, none⟩ = some (.int .i64 x.d) ∧ w.cell? ⟨b, o + 3, none⟩ = some (.int .i64 x.j)

theorem fr_at {w : World} {l : List Fr} {b o j : Nat} {x : Fr} (h : ∀ q u, (l.flatMap Fr.vals)[q]? = some u → w.cell? ⟨b, o + q, none⟩ = some u) (hj : l[j]? = some x) : FrAt w b (o + j * 4) x := by
  have k : ∀ k u, k < 4 → x.vals[k]? = some u → w.cell? ⟨b, o + j * 4 + k, none⟩ = some u := fun k u hk hu => by
    rw [Nat.add_assoc]
    exact h _ u ((flat_at Fr.vals 4 Fr.len l j k x hj hk).trans hu)
  exact ⟨k 0 _ (by omega) rfl, k 1 _ (by omega) rfl, k 2 _ (by omega) rfl, k 3 _ (by omega) rfl⟩

theorem FrAt.below {w w' : World} {b o : Nat} {x : Fr} (h : FrAt w b o x) (hb : Below w.heap.size w w') : FrAt w' b o x :=
  ⟨below_cell hb h.1, below_cell hb h.2.1, below_cell hb h.2.2.1, below_cell hb h.2.2.2⟩

def chkNF : List Fr → Nat → Int × Int
  | [], _ => (0, 0)
  | m :: r, i => if wrFr m = 0 then chkNF r (i + 1) else (wrFr m, (i : Int))

def chkN (l : List Fr) : Int × Int := if l.length = 0 ∨ 8 < l.length then (2, 0) else chkNF l 0

theorem chkNF_at {l : List Fr} {j : Nat} {x : Fr} (h : l.drop j = x :: l.drop (j + 1)) : chkNF (l.drop j) j = if wrFr x = 0 then chkNF (l.drop (j + 1)) (j + 1) else (wrFr x, (j : Int)) := by
  rw [h, chkNF]

theorem wrFr_ok {m : Fr} (h : wrFr m = 0) : okFr m := by
  unfold wrFr at h
  by_cases h1 : badFr m = true
  · rw [if_pos h1] at h; cases h
  · rw [if_neg h1] at h
    by_cases h2 : m.t < m.j
    · rw [if_pos h2] at h; cases h
    · unfold badFr at h1
      simp at h1
      unfold okFr
      omega

theorem chkNF_ok : ∀ (l : List Fr) (i : Nat), (chkNF l i).1 = 0 → (∀ x ∈ l, okFr x) ∧ chkNF l i = (0, 0)
  | [], _, _ => ⟨fun _ h => by simp at h, rfl⟩
  | m :: r, i, h => by
    rw [chkNF] at h ⊢
    by_cases hm : wrFr m = 0
    · rw [if_pos hm] at h ⊢
      obtain ⟨h1, h2⟩ := chkNF_ok r (i + 1) h
      exact ⟨fun x hx => by
        rcases List.mem_cons.1 hx with rfl | hx
        · exact wrFr_ok hm
        · exact h1 x hx, h2⟩
    · rw [if_neg hm] at h
      exact absurd h hm

theorem chkN_ok {l : List Fr} (h : (chkN l).1 = 0) : 1 ≤ l.length ∧ l.length ≤ 8 ∧ (∀ x ∈ l, okFr x) ∧ chkN l = (0, 0) := by
  unfold chkN at h ⊢
  by_cases h1 : l.length = 0 ∨ 8 < l.length
  · rw [if_pos h1] at h; cases h
  · rw [if_neg h1] at h ⊢
    obtain ⟨h2, h3⟩ := chkNF_ok l 0 h
    exact ⟨by omega, by omega, h2, h3⟩
end Go.Proofs.YtccoobcggbbcialDoor
namespace Go.Proofs.YtccoobcggbbcialDoor
open Go.ChangeShapes Go.WideShapes Go.ChangeAt Go.RowKit

set_option maxRecDepth 20000 in
set_option maxHeartbeats 1000000 in
theorem holds_any (w : World) (l : List Fr) (v : Value) (hl : l.length ≤ 8) (hok : ∀ x ∈ l, okFr x) (hv : RowSl Fr.vals w l v) : Calls Tryd.prog 146 #[v] w fun r w' => r = .returned (.int .i64 (heldF l)) ∧ Below w.heap.size w w' := by
  obtain ⟨ad, c, rfl, -, hcap, hrow⟩ := hv
  have HR : Hid ((l = [] ∨ ∃ b o, ad = some ⟨b, o, none⟩ ∧ ∀ q u, (l.flatMap Fr.vals)[q]? = some u → w.cell? ⟨b, o + q, none⟩ = some u) ∧ ∀ x ∈ l, okFr x) := ⟨hrow, hok⟩
  clear hrow hok
  go_enter Tryd.func146, Tryd.ntmps146
  go_wp2_with fail
  go_loopw [3, 8] (fun mv i wr => ∃ (j : Nat) (mm : Int), j ≤ l.length ∧ i = .int .i64 j ∧ mv = .int .i64 mm ∧ Below w.heap.size w wr ∧ 1 ≤ mm ∧ mm ≤ 10000 ∧ Hid (max (mm - 1) (heldF (l.drop j)) = heldF l)) (fun _ i _ => l.length - (intOf i).toNat)
  case atStart => exact ⟨0, 1, Nat.zero_le _, rfl, rfl, Below.refl _ _, by omega, by omega, by have := heldF_nonneg l; show max (1 - 1) (heldF l) = heldF l; omega⟩
  case round =>
    obtain ⟨j, mm, hj, rfl, rfl, hb, h1, h2, HM⟩ := hrel
    by_cases hjl : j < l.length
    · obtain ⟨x, hx, hd⟩ := drop_at hjl
      rcases HR.out.1 with h | ⟨gb, go, rfl, hr1⟩
      · rw [h] at hjl; simp at hjl
      obtain ⟨y0, y1, y2, y3⟩ := fr_at (fun q u hq => below_cell hb (hr1 q u hq)) hx
      have hxo := HR.out.2 x (List.mem_of_getElem? hx)
      obtain ⟨xc, xt, xd, xj⟩ := x
      dsimp only at y0 y1 y2 y3
      have hc1 : 1 ≤ xc := hxo.1
      have hc2 : xc ≤ 10000 := hxo.2.1
      have HB : Hid (Below w.heap.size w wr) := hb
      have HD : Hid (heldF (l.drop j) = max (xc - 1) (heldF (l.drop (j + 1)))) := by rw [hd]; rfl
      clear hxo hd hx hr1 hb
      go_wp2_with fail
      refine ⟨⟨j + 1, max mm xc, by omega, by simp, ?_, below_seq HB.out (below_new _ _), by omega, by omega, ?_⟩, by simp [intOf]; omega⟩
      · first | rfl | (simp; done) | (congr 1; omega)
      · have e : max (max mm xc - 1) (heldF (l.drop (j + 1))) = heldF l := by
          rw [← HM.out, HD.out]; omega
        exact e
    · have hje : j = l.length := by omega
      subst hje
      go_wp2_with fail
      go_ret
      refine ⟨?_, hb⟩
      have := HM.out
      rw [List.drop_length] at this
      have e : mm - 1 = heldF l := by rw [← this]; simp only [heldF]; omega
      rw [e]
      rfl

theorem roundUp_any (w : World) (a b : Int) (h0 : 0 ≤ a) (h1 : a ≤ 1000000) (h2 : 1 ≤ b) (h3 : b ≤ 10000) : Calls Tryd.prog 151 #[.int .i64 a, .int .i64 b] w fun r w' => r = .returned (.int .i64 ((a + b - 1) / b)) ∧ w' = w := by
  have e5 : (a + b - 1).tdiv b = (a + b - 1) / b := Int.tdiv_eq_ediv_of_nonneg (by omega)
  have q0 : 0 ≤ (a + b - 1) / b := Int.ediv_nonneg (by omega) (by omega)
  have q1 : (a + b - 1) / b ≤ a + b - 1 := Int.ediv_le_self b (by omega)
  have e6 : IntKind.i64.wrap ((a + b - 1) / b) = (a + b - 1) / b := by rw [IntKind.wrap_i64]; omega
  have e7 : IntKind.i64.wrap (a + b) = a + b := by rw [IntKind.wrap_i64]; omega
  have e8 : IntKind.i64.wrap (a + b - 1) = a + b - 1 := by rw [IntKind.wrap_i64]; omega
  have hb : (b == 0) = false := by simp; omega
  have hb' : ¬ b = 0 := by omega
  go_enter Tryd.func151, Tryd.ntmps151
  go_wp2_with fail
  go_ret
  exact ⟨rfl, rfl⟩

theorem up_eq' {a b : Int} (hb : 1 ≤ b) : (if a / b * b < a then a / b + 1 else a / b) = (a + b - 1) / b := by
  have e := Int.mul_ediv_add_emod a b
  have e1 := Int.emod_nonneg a (show b ≠ 0 by omega)
  have e2 := Int.emod_lt_of_pos a (show 0 < b by omega)
  rw [Int.mul_comm] at e
  by_cases h : a / b * b < a
  · rw [if_pos h]
    symm
    rw [Int.ediv_eq_iff_of_pos (by omega)]
    rw [Int.add_mul, Int.one_mul]
    omega
  · rw [if_neg h]
    symm
    rw [Int.ediv_eq_iff_of_pos (by omega)]
    omega
end Go.Proofs.YtccoobcggbbcialDoor
namespace Go.Proofs.YtccoobcggbbcialDoor
open Go.ChangeShapes Go.WideShapes Go.ChangeAt Go.RowKit

theorem upF_range {m : Fr} (h : okFr m) {w : Int} (h0 : 0 ≤ w) (h1 : w ≤ 100000) : 0 ≤ upF w m ∧ upF w m ≤ 3000000000 := by
  obtain ⟨g1, g2, g3, g4, g5, g6, g7, g8⟩ := h
  unfold upF
  have q0 : 0 ≤ (w + m.j + m.t - 1) / m.t := Int.ediv_nonneg (by omega) (by omega)
  have q1 : (w + m.j + m.t - 1) / m.t ≤ w + m.j + m.t - 1 := Int.ediv_le_self m.t (by omega)
  refine ⟨Int.mul_nonneg q0 (by omega), ?_⟩
  have := Int.mul_le_mul (show (w + m.j + m.t - 1) / m.t ≤ 130000 by omega) g2 (by omega) (by omega)
  omega

theorem dnF_range {m : Fr} (h : okFr m) {w : Int} (h0 : 0 ≤ w) (h1 : w ≤ 100000) : 0 ≤ dnF w m ∧ dnF w m ≤ 3000000000 := by
  obtain ⟨g1, g2, g3, g4, g5, g6, g7, g8⟩ := h
  unfold dnF
  have q0 : 0 ≤ (w + m.j) / m.t := Int.ediv_nonneg (by omega) (by omega)
  have q1 : (w + m.j) / m.t ≤ w + m.j := Int.ediv_le_self m.t (by omega)
  refine ⟨Int.mul_nonneg (by omega) (by omega), ?_⟩
  have := Int.mul_le_mul (show (w + m.j) / m.t + 1 ≤ 130000 by omega) g2 (by omega) (by omega)
  omega

theorem roundUp_q (w : World) (a b : Int) (h0 : 0 ≤ a) (h1 : a ≤ 1000000) (h2 : 1 ≤ b) (h3 : b ≤ 10000) : Calls Tryd.prog 151 #[.int .i64 a, .int .i64 b] w fun r w' => r = .returned (.int .i64 ((a + b - 1) / b)) ∧ ∃ n, w' = w.drewN n :=
  (roundUp_any w a b h0 h1 h2 h3).mono (by rintro r w' ⟨rfl, rfl⟩; exact ⟨rfl, 0, rfl⟩)

set_option maxRecDepth 20000 in
set_option maxHeartbeats 1000000 in
theorem wup_any (w : World) (x : Fr) (gw : Nat) (y : Int) (hx : okFr x) (hy : 0 ≤ y ∧ y ≤ 100000) (hw : w.cell? ⟨gw, 0, none⟩ = some (.int .i64 y)) : Calls Tryd.prog 150 #[x.val, .pointer (some ⟨gw, 0, none⟩)] w fun r w' => r = .returned (.int .i64 (upF y x)) ∧ Below w.heap.size w w' := by
  have hr := upF_range hx hy.1 hy.2
  obtain ⟨c, t, d, j⟩ := x
  show Calls Tryd.prog 150 #[.agg #[.int .i64 c, .int .i64 t, .int .i64 d, .int .i64 j], _] w _
  obtain ⟨g1, g2, g3, g4, g5, g6, g7, g8⟩ := hx
  dsimp only at g1 g2 g3 g4 g5 g6 g7 g8
  unfold upF at hr ⊢
  dsimp only at hr ⊢
  have l1 : gw < w.heap.size := World.block_lt_of_cell? _ _ hw
  have e1 : IntKind.i64.wrap (y + j) = y + j := by rw [IntKind.wrap_i64]; omega
  have e2 : IntKind.i64.wrap ((y + j + t - 1) / t * c) = (y + j + t - 1) / t * c := by rw [IntKind.wrap_i64]; omega
  have HQ := fun W => roundUp_q W (y + j) t (by omega) (by omega) (by omega) (by omega)
  clear hr
  go_enter Tryd.func150, Tryd.ntmps150
  go_wp2_with fail
  go_quiet (first | (go_at_call 151; exact Calls.quiet_of (HQ _)))
  go_wp2_with fail
  go_ret
  exact ⟨rfl, below_seq (below_new _ _) below_drewN'⟩

set_option maxRecDepth 20000 in
set_option maxHeartbeats 1000000 in
theorem wdn_any (w : World) (x : Fr) (gw : Nat) (y : Int) (hx : okFr x) (hy : 0 ≤ y ∧ y ≤ 100000) (hw : w.cell? ⟨gw, 0, none⟩ = some (.int .i64 y)) : Calls Tryd.prog 153 #[x.val, .pointer (some ⟨gw, 0, none⟩)] w fun r w' => r = .returned (.int .i64 (dnF y x)) ∧ Below w.heap.size w w' := by
  have hr := dnF_range hx hy.1 hy.2
  obtain ⟨c, t, d, j⟩ := x
  show Calls Tryd.prog 153 #[.agg #[.int .i64 c, .int .i64 t, .int .i64 d, .int .i64 j], _] w _
  obtain ⟨g1, g2, g3, g4, g5, g6, g7, g8⟩ := hx
  dsimp only at g1 g2 g3 g4 g5 g6 g7 g8
  unfold dnF at hr ⊢
  dsimp only at hr ⊢
  have l1 : gw < w.heap.size := World.block_lt_of_cell? _ _ hw
  have e1 : IntKind.i64.wrap (y + j) = y + j := by rw [IntKind.wrap_i64]; omega
  have q0 : 0 ≤ (y + j) / t := Int.ediv_nonneg (by omega) (by omega)
  have q1 : (y + j) / t ≤ y + j := Int.ediv_le_self t (by omega)
  have e5 : (y + j).tdiv t = (y + j) / t := Int.tdiv_eq_ediv_of_nonneg (by omega)
  have e3 : IntKind.i64.wrap ((y + j) / t) = (y + j) / t := by rw [IntKind.wrap_i64]; omega
  have e4 : IntKind.i64.wrap ((y + j) / t + 1) = (y + j) / t + 1 := by rw [IntKind.wrap_i64]; omega
  have e2 : IntKind.i64.wrap (((y + j) / t + 1) * c) = ((y + j) / t + 1) * c := by rw [IntKind.wrap_i64]; omega
  have hb : (t == 0) = false := by simp; omega
  have hb' : ¬ t = 0 := by omega
  clear hr
  go_enter Tryd.func153, Tryd.ntmps153
  go_wp2_with fail
  go_quiet (fail)
  go_wp2_with fail
  go_ret
  exact ⟨rfl, below_seq (below_new _ _) below_drewN'⟩

set_option maxRecDepth 20000 in
set_option maxHeartbeats 1000000 in
theorem sum_up_any (w : World) (l : List Fr) (v : Value) (gw : Nat) (y : Int) (hl : l.length ≤ 8) (hok : ∀ x ∈ l, okFr x) (hy : 0 ≤ y ∧ y ≤ 100000) (hv : RowSl Fr.vals w l v) (hw : w.cell? ⟨gw, 0, none⟩ = some (.int .i64 y)) : Calls Tryd.prog 149 #[v, .func (Fn.func 150) #[] #[.pointer (some ⟨gw, 0, none⟩)]] w fun r w' => r = .returned (.int .i64 (sumF upF y l)) ∧ Below w.heap.size w w' := by
  obtain ⟨ad, c, rfl, -, hcap, hrow⟩ := hv
  have HR : Hid ((l = [] ∨ ∃ b o, ad = some ⟨b, o, none⟩ ∧ ∀ q u, (l.flatMap Fr.vals)[q]? = some u → w.cell? ⟨b, o + q, none⟩ = some u) ∧ ∀ x ∈ l, okFr x) := ⟨hrow, hok⟩
  have HW : Hid (w.cell? ⟨gw, 0, none⟩ = some (.int .i64 y)) := hw
  clear hrow hok hw
  go_enter Tryd.func149, Tryd.ntmps149
  go_wp2_with fail
  go_loopw [5, 10] (fun mv i wr => ∃ (j : Nat) (mm : Int), j ≤ l.length ∧ i = .int .i64 j ∧ mv = .int .i64 mm ∧ Below w.heap.size w wr ∧ 0 ≤ mm ∧ mm ≤ (j : Int) * 3000000000 ∧ Hid (mm + sumF upF y (l.drop j) = sumF upF y l)) (fun _ i _ => l.length - (intOf i).toNat)
  case atStart => exact ⟨0, 0, Nat.zero_le _, rfl, rfl, Below.refl _ _, by omega, by omega, by show 0 + sumF upF y l = _; omega⟩
  case round =>
    obtain ⟨j, mm, hj, rfl, rfl, hb, h1, h2, HM⟩ := hrel
    by_cases hjl : j < l.length
    · obtain ⟨x, hx, hd⟩ := drop_at hjl
      rcases HR.out.1 with h | ⟨gb, go, rfl, hr1⟩
      · rw [h] at hjl; simp at hjl
      obtain ⟨y0, y1, y2, y3⟩ := fr_at (fun q u hq => below_cell hb (hr1 q u hq)) hx
      have hxo := HR.out.2 x (List.mem_of_getElem? hx)
      have hf := upF_range hxo hy.1 hy.2
      have HF := fun W (h : Below w.heap.size w W) => wup_any W x gw y hxo hy (below_cell h HW.out)
      have HD : Hid (sumF upF y (l.drop j) = upF y x + sumF upF y (l.drop (j + 1))) := by rw [hd]; rfl
      obtain ⟨xc, xt, xd, xj⟩ := x
      dsimp only at y0 y1 y2 y3
      simp only [Fr.val] at HF
      have HB : Hid (Below w.heap.size w wr) := hb
      have HFH : Hid (∀ W, Below w.heap.size w W → Calls Tryd.prog 150 #[.agg #[.int .i64 xc, .int .i64 xt, .int .i64 xd, .int .i64 xj], .pointer (some ⟨gw, 0, none⟩)] W fun r w' => r = .returned (.int .i64 (upF y ⟨xc, xt, xd, xj⟩)) ∧ Below W.heap.size W w') := HF
      clear hxo hd hx hr1 hb HF
      generalize upF y ⟨xc, xt, xd, xj⟩ = z at *
      have e1 : IntKind.i64.wrap (mm + z) = mm + z := by rw [IntKind.wrap_i64]; omega
      go_wp2_with (go_at_call 150; refine (HFH.out _ (below_seq HB.out (below_new _ _))).mono ?_; rintro r w2 ⟨rfl, hb2⟩; have H2 : Hid (Below w.heap.size w w2) := below_seq (below_seq HB.out (below_new _ _)) hb2; clear hb2)
      refine ⟨⟨j + 1, mm + z, by omega, by simp, rfl, H2.out, by omega, by omega, ?_⟩, by simp [intOf]; omega⟩
      have e : mm + z + sumF upF y (l.drop (j + 1)) = sumF upF y l := by
        rw [← HM.out, HD.out]; omega
      exact e
    · have hje : j = l.length := by omega
      subst hje
      go_wp2_with fail
      go_ret
      refine ⟨?_, hb⟩
      have := HM.out
      rw [List.drop_length] at this
      have e : mm = sumF upF y l := by rw [← this]; simp only [sumF]; omega
      rw [e]
      rfl

set_option maxRecDepth 20000 in
set_option maxHeartbeats 1000000 in
theorem sum_dn_any (w : World) (l : List Fr) (v : Value) (gw : Nat) (y : Int) (hl : l.length ≤ 8) (hok : ∀ x ∈ l, okFr x) (hy : 0 ≤ y ∧ y ≤ 100000) (hv : RowSl Fr.vals w l v) (hw : w.cell? ⟨gw, 0, none⟩ = some (.int .i64 y)) : Calls Tryd.prog 149 #[v, .func (Fn.func 153) #[] #[.pointer (some ⟨gw, 0, none⟩)]] w fun r w' => r = .returned (.int .i64 (sumF dnF y l)) ∧ Below w.heap.size w w' := by
  obtain ⟨ad, c, rfl, -, hcap, hrow⟩ := hv
  have HR : Hid ((l = [] ∨ ∃ b o, ad = some ⟨b, o, none⟩ ∧ ∀ q u, (l.flatMap Fr.vals)[q]? = some u → w.cell? ⟨b, o + q, none⟩ = some u) ∧ ∀ x ∈ l, okFr x) := ⟨hrow, hok⟩
  have HW : Hid (w.cell? ⟨gw, 0, none⟩ = some (.int .i64 y)) := hw
  clear hrow hok hw
  go_enter Tryd.func149, Tryd.ntmps149
  go_wp2_with fail
  go_loopw [5, 10] (fun mv i wr => ∃ (j : Nat) (mm : Int), j ≤ l.length ∧ i = .int .i64 j ∧ mv = .int .i64 mm ∧ Below w.heap.size w wr ∧ 0 ≤ mm ∧ mm ≤ (j : Int) * 3000000000 ∧ Hid (mm + sumF dnF y (l.drop j) = sumF dnF y l)) (fun _ i _ => l.length - (intOf i).toNat)
  case atStart => exact ⟨0, 0, Nat.zero_le _, rfl, rfl, Below.refl _ _, by omega, by omega, by show 0 + sumF dnF y l = _; omega⟩
  case round =>
    obtain ⟨j, mm, hj, rfl, rfl, hb, h1, h2, HM⟩ := hrel
    by_cases hjl : j < l.length
    · obtain ⟨x, hx, hd⟩ := drop_at hjl
      rcases HR.out.1 with h | ⟨gb, go, rfl, hr1⟩
      · rw [h] at hjl; simp at hjl
      obtain ⟨y0, y1, y2, y3⟩ := fr_at (fun q u hq => below_cell hb (hr1 q u hq)) hx
      have hxo := HR.out.2 x (List.mem_of_getElem? hx)
      have hf := dnF_range hxo hy.1 hy.2
      have HF := fun W (h : Below w.heap.size w W) => wdn_any W x gw y hxo hy (below_cell h HW.out)
      have HD : Hid (sumF dnF y (l.drop j) = dnF y x + sumF dnF y (l.drop (j + 1))) := by rw [hd]; rfl
      obtain ⟨xc, xt, xd, xj⟩ := x
      dsimp only at y0 y1 y2 y3
      simp only [Fr.val] at HF
      have HB : Hid (Below w.heap.size w wr) := hb
      have HFH : Hid (∀ W, Below w.heap.size w W → Calls Tryd.prog 153 #[.agg #[.int .i64 xc, .int .i64 xt, .int .i64 xd, .int .i64 xj], .pointer (some ⟨gw, 0, none⟩)] W fun r w' => r = .returned (.int .i64 (dnF y ⟨xc, xt, xd, xj⟩)) ∧ Below W.heap.size W w') := HF
      clear hxo hd hx hr1 hb HF
      generalize dnF y ⟨xc, xt, xd, xj⟩ = z at *
      have e1 : IntKind.i64.wrap (mm + z) = mm + z := by rw [IntKind.wrap_i64]; omega
      go_wp2_with (go_at_call 153; refine (HFH.out _ (below_seq HB.out (below_new _ _))).mono ?_; rintro r w2 ⟨rfl, hb2⟩; have H2 : Hid (Below w.heap.size w w2) := below_seq (below_seq HB.out (below_new _ _)) hb2; clear hb2)
      refine ⟨⟨j + 1, mm + z, by omega, by simp, rfl, H2.out, by omega, by omega, ?_⟩, by simp [intOf]; omega⟩
      have e : mm + z + sumF dnF y (l.drop (j + 1)) = sumF dnF y l := by
        rw [← HM.out, HD.out]; omega
      exact e
    · have hje : j = l.length := by omega
      subst hje
      go_wp2_with fail
      go_ret
      refine ⟨?_, hb⟩
      have := HM.out
      rw [List.drop_length] at this
      have e : mm = sumF dnF y l := by rw [← this]; simp only [sumF]; omega
      rw [e]
      rfl
end Go.Proofs.YtccoobcggbbcialDoor
