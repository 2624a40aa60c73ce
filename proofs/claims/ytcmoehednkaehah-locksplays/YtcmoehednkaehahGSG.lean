import Derived.Test.YtcmoehednkaehahGOL
import Derived.Test.YtcmoehednkaehahGSE
import Derived.Maps.RangeWalk
import Derived.Maps.OwnOps
import Derived.Maps.Views
namespace Go.Proofs.Ytcmoehednkaehah
open Go.ChangeShapes Go.WideShapes Go.ChangeAt Go.RowKit

/-- So many are measured. -/
def topsAt (l : List Lj) (m : Nat) (k : Nat) : Int := if k < m then topL (k : Int) l (-1) else -1

/-- Four numbers, one of which is being measured. -/
def FZ (w W : World) (g m : Nat) (z a0 a1 a2 a3 : Int) : Prop := Four w W g (if m = 0 then z else a0) (if m = 1 then z else a1) (if m = 2 then z else a2) (if m = 3 then z else a3)

theorem FZ.at {w W : World} {g m : Nat} {z a0 a1 a2 a3 : Int} (h : FZ w W g m z a0 a1 a2 a3) (hm : m < 4) : W.cell? ⟨g, m, none⟩ = some (.int .i64 z) ∧ W.frozen? ⟨g, m, none⟩ = false ∧ g < W.heap.size := by
  have := Four.at h m hm
  have hc : m = 0 ∨ m = 1 ∨ m = 2 ∨ m = 3 := by omega
  rcases hc with rfl | rfl | rfl | rfl <;> simpa using this

theorem FZ.set {w W : World} {g m : Nat} {z a0 a1 a2 a3 : Int} (h : FZ w W g m z a0 a1 a2 a3) (hm : m < 4) (z' : Int) : FZ w (W.setCell ⟨g, m, none⟩ (.int .i64 z')) g m z' a0 a1 a2 a3 := by
  have := Four.set h m hm z'
  have hc : m = 0 ∨ m = 1 ∨ m = 2 ∨ m = 3 := by omega
  unfold FZ
  rcases hc with rfl | rfl | rfl | rfl <;> simpa using this

theorem FZ.grow {w W W' : World} {g m : Nat} {z a0 a1 a2 a3 : Int} (h : FZ w W g m z a0 a1 a2 a3) (hb : Below W.heap.size W W') : FZ w W' g m z a0 a1 a2 a3 := Four.grow h hb

theorem FZ.first {w W : World} {g m : Nat} {l : List Lj} (hm : m < 4) (h : Four w W g (topsAt l m 0) (topsAt l m 1) (topsAt l m 2) (topsAt l m 3)) : FZ w W g m (-1) (topsAt l m 0) (topsAt l m 1) (topsAt l m 2) (topsAt l m 3) := by
  have hc : m = 0 ∨ m = 1 ∨ m = 2 ∨ m = 3 := by omega
  unfold FZ
  rcases hc with rfl | rfl | rfl | rfl <;> simpa [topsAt] using h

theorem FZ.last {w W : World} {g m : Nat} {l : List Lj} (hm : m < 4) (h : FZ w W g m (topL (m : Int) l (-1)) (topsAt l m 0) (topsAt l m 1) (topsAt l m 2) (topsAt l m 3)) : Four w W g (topsAt l (m + 1) 0) (topsAt l (m + 1) 1) (topsAt l (m + 1) 2) (topsAt l (m + 1) 3) := by
  have hc : m = 0 ∨ m = 1 ∨ m = 2 ∨ m = 3 := by omega
  unfold FZ at h
  rcases hc with rfl | rfl | rfl | rfl <;> simpa [topsAt] using h

set_option maxRecDepth 20000 in
set_option maxHeartbeats 4000000 in
/-- punctualref.Tops. -/
theorem Tops_any (w : World) (l : List Lj) (v : Value) (hv : LkSl w l v) (hl : l.length ≤ 100) (hok : ∀ x ∈ l, chkActs x.acts = (0, 0)) : Calls Try.prog 17 #[v] w fun r w' => ∃ u, r = .returned u ∧ RowSl nuV w' (topsF l) u ∧ Below w.heap.size w w' := by
  obtain ⟨⟨ad, c, rfl, -, hcap, hrow⟩, hacts⟩ := hv
  have HR : Hid ((∀ W, Below w.heap.size w W → (l = [] ∨ ∃ b o, ad = some ⟨b, o, none⟩ ∧ ∀ q u, (l.flatMap Lj.vals)[q]? = some u → W.cell? ⟨b, o + q, none⟩ = some u)) ∧ (∀ x ∈ l, RowSl Ac.vals w x.acts x.v) ∧ ∀ x ∈ l, chkActs x.acts = (0, 0)) := ⟨fun W hb => hrow.imp id (fun ⟨b, o, e, h⟩ => ⟨b, o, e, fun q u hq => below_cell hb (h q u hq)⟩), hacts, hok⟩
  clear hrow hacts hok
  go_enter Try.func17, Try.ntmps17
  go_wp2_with fail
  go_loopw [12] (fun i wr => ∃ m : Nat, m ≤ 4 ∧ i = .int .i64 m ∧ Four w wr w.heap.size (topsAt l m 0) (topsAt l m 1) (topsAt l m 2) (topsAt l m 3)) (fun i _ => 4 - (intOf i).toNat)
  case atStart => exact ⟨0, Nat.zero_le _, rfl, below_new _ _, Nat.le_refl _, heap_alloc_new _ _⟩
  case round =>
    obtain ⟨m, hm, rfl, hf⟩ := hrel
    by_cases hlt : m < 4
    · have hmi : (m : Int) < 4 := by omega
      generalize hA : topsAt l m 0 = a0 at *
      generalize hB : topsAt l m 1 = a1 at *
      generalize hC : topsAt l m 2 = a2 at *
      generalize hD : topsAt l m 3 = a3 at *
      have HT : Hid (topsAt l m 0 = a0 ∧ topsAt l m 1 = a1 ∧ topsAt l m 2 = a2 ∧ topsAt l m 3 = a3) := ⟨hA, hB, hC, hD⟩
      have HF0 : Hid (Four w wr w.heap.size a0 a1 a2 a3) := hf
      have hfz : FZ w wr w.heap.size m (-1) a0 a1 a2 a3 := by
        have := FZ.first (l := l) hlt (by rw [hA, hB, hC, hD]; exact hf)
        rw [hA, hB, hC, hD] at this
        exact this
      have HZ : Hid (FZ w wr w.heap.size m (-1) a0 a1 a2 a3 ∧ m < 4) := ⟨hfz, hlt⟩
      clear hA hB hC hD hf hfz HF0
      go_wp2_with fail
      go_loopw [17] (fun i wl => ∃ (j : Nat) (z : Int), j ≤ l.length ∧ i = .int .i64 j ∧ FZ w wl w.heap.size m z a0 a1 a2 a3 ∧ topL (m : Int) (l.drop j) z = topL (m : Int) l (-1)) (fun i _ => l.length - (intOf i).toNat)
      case atStart => exact ⟨0, -1, Nat.zero_le _, rfl, HZ.out.1, rfl⟩
      case round =>
        obtain ⟨j, z, hj, rfl, hf, hq⟩ := hrel
        by_cases hjl : j < l.length
        · obtain ⟨x, hx, hd⟩ := drop_at hjl
          rw [hd, topL] at hq
          rcases HR.out.1 wr hf.bel with h | ⟨b, o, rfl, hrow⟩
          · rw [h] at hjl; simp at hjl
          have ha := lj_at hrow hx
          have hmem := List.mem_of_getElem? hx
          have hacW := HR.out.2.1 x hmem
          obtain ⟨hal, -⟩ := chkActs_fine (HR.out.2.2 x hmem)
          obtain ⟨xa, xp, xacts, xv⟩ := x
          dsimp only at hacW hq hal
          obtain ⟨aad, ac, rfl⟩ := hacW.len
          obtain ⟨c0, c1, c2⟩ := ha
          dsimp only at c0 c1 c2
          have lb : b < wr.heap.size := World.block_lt_of_cell? _ _ c0
          have hji : (j : Int) < (l.length : Int) := by omega
          have HQ : Hid (topL (m : Int) (l.drop (j + 1)) (topA xp (m : Int) xacts z) = topL (m : Int) l (-1)) := hq
          have HB : Hid (FZ w (wr.alloc (.cells #[.int .i64 xa, .int .i64 xp, .slice aad xacts.length ac] 47)) w.heap.size m z a0 a1 a2 a3) := hf.grow (below_new _ _)
          have H9 : Hid (∀ W, Below w.heap.size w W → (xacts = [] ∨ ∃ b o, aad = some ⟨b, o, none⟩ ∧ ∀ q u, (xacts.flatMap Ac.vals)[q]? = some u → W.cell? ⟨b, o + q, none⟩ = some u)) := fun W hb => by
            obtain ⟨_, _, e9, -, -, h9⟩ := hacW.below hb
            cases e9
            exact h9
          have hcap2 : xacts.length ≤ ac := by
            obtain ⟨_, _, e9, -, h9, -⟩ := hacW
            cases e9
            exact h9
          obtain ⟨wo, hwo⟩ : ∃ wo, wo = wr := ⟨_, rfl⟩
          subst hwo
          have hgl : w.heap.size < wo.heap.size := (hf.at HZ.out.2).2.2
          clear hf hq hrow hx hd hacW hmem
          go_wp2_with fail
          go_loopw [24] (fun i wl => ∃ (k : Nat) (z' : Int), k ≤ xacts.length ∧ i = .int .i64 k ∧ FZ w wl w.heap.size m z' a0 a1 a2 a3 ∧ wl.heap[wo.heap.size]? = some (.cells #[.int .i64 xa, .int .i64 xp, .slice aad xacts.length ac] 47 (0, 0)) ∧ topA xp (m : Int) (xacts.drop k) z' = topA xp (m : Int) xacts z) (fun i _ => xacts.length - (intOf i).toNat)
          case atStart => exact ⟨0, z, Nat.zero_le _, rfl, HB.out, heap_alloc_new _ _, rfl⟩
          case round =>
            obtain ⟨k, z', hk, rfl, hf, hjb, hq⟩ := hrel
            obtain ⟨jc, jf, jl⟩ := cells_of (l := [_, _, _]) hjb
            have jc1 := jc 1 _ rfl
            by_cases hkl : k < xacts.length
            · obtain ⟨y, hy, hyd⟩ := drop_at hkl
              rw [hyd, topA] at hq
              rcases H9.out wr hf.bel with h | ⟨rb, ro, rfl, hrow⟩
              · rw [h] at hkl; simp at hkl
              obtain ⟨e0, e1⟩ := ac_at hrow hy
              have rlb : rb < wr.heap.size := World.block_lt_of_cell? _ _ e0
              have hki : (k : Int) < (xacts.length : Int) := by omega
              obtain ⟨yd, yn⟩ := y
              dsimp only at e0 e1 hq
              have HF : Hid (FZ w (wr.alloc (.cells #[.int .i64 yd, .int .i64 yn] 61)) w.heap.size m z' a0 a1 a2 a3 ∧ (wr.alloc (.cells #[.int .i64 yd, .int .i64 yn] 61)).heap[wo.heap.size]? = some (.cells #[.int .i64 xa, .int .i64 xp, .slice (some ⟨rb, ro, none⟩) xacts.length ac] 47 (0, 0))) := ⟨hf.grow (below_new _ _), ((below_new _ _).block _ jl).trans hjb⟩
              obtain ⟨f1, f2, f3⟩ := hf.at HZ.out.2
              clear hf hjb jc jf hrow hy hyd
              by_cases hy2 : yd = 2
              · subst hy2
                by_cases hyn : yn = (m : Int)
                · subst hyn
                  by_cases hp : z' < xp
                  · rw [if_pos ⟨rfl, rfl⟩, show max z' xp = xp by omega] at hq
                    have HQ2 : Hid (topA xp (m : Int) (xacts.drop (k + 1)) xp = topA xp (m : Int) xacts z) := hq
                    clear hq
                    go_wp2_with fail
                    go_quiet (fail)
                    go_wp2_with fail
                    refine ⟨⟨k + 1, xp, by omega, by simp, (HF.out.1.grow below_drewN').set HZ.out.2 xp, ?_, HQ2.out⟩, by simp [intOf]; omega⟩
                    rw [Below.heap_setCell _ _ _ _ (by show ¬ (wo.heap.size = w.heap.size); omega)]
                    exact (below_drewN'.block _ (by simp; omega)).trans HF.out.2
                  · rw [if_pos ⟨rfl, rfl⟩, show max z' xp = z' by omega] at hq
                    have HQ2 : Hid (topA xp (m : Int) (xacts.drop (k + 1)) z' = topA xp (m : Int) xacts z) := hq
                    clear hq
                    go_wp2_with fail
                    go_quiet (fail)
                    go_wp2_with fail
                    exact ⟨⟨k + 1, z', by omega, by simp, HF.out.1.grow below_drewN', (below_drewN'.block _ (by simp; omega)).trans HF.out.2, HQ2.out⟩, by simp [intOf]; omega⟩
                · have hyn' : (yn == (m : Int)) = false := by simpa using hyn
                  rw [if_neg (by simp [hyn])] at hq
                  have HQ2 : Hid (topA xp (m : Int) (xacts.drop (k + 1)) z' = topA xp (m : Int) xacts z) := hq
                  clear hq
                  go_wp2_with fail
                  go_quiet (fail)
                  go_wp2_with fail
                  exact ⟨⟨k + 1, z', by omega, by simp, HF.out.1.grow below_drewN', (below_drewN'.block _ (by simp; omega)).trans HF.out.2, HQ2.out⟩, by simp [intOf]; omega⟩
              · have hy2' : (yd == 2) = false := by simpa using hy2
                rw [if_neg (by simp [hy2])] at hq
                have HQ2 : Hid (topA xp (m : Int) (xacts.drop (k + 1)) z' = topA xp (m : Int) xacts z) := hq
                clear hq
                go_wp2_with fail
                go_quiet (fail)
                go_wp2_with fail
                exact ⟨⟨k + 1, z', by omega, by simp, HF.out.1.grow below_drewN', (below_drewN'.block _ (by simp; omega)).trans HF.out.2, HQ2.out⟩, by simp [intOf]; omega⟩
            · have hke : k = xacts.length := by omega
              subst hke
              rw [List.drop_length, topA] at hq
              have HF : Hid (FZ w wr w.heap.size m z' a0 a1 a2 a3) := hf
              have HQ2 : Hid (z' = topA xp (m : Int) xacts z) := hq
              clear hf hq hjb jc jf
              go_wp2_with fail
              have e9 := HQ2.out
              subst e9
              exact ⟨⟨j + 1, _, by omega, by simp, HF.out, HQ.out⟩, by simp [intOf]; omega⟩
        · have hje : j = l.length := by omega
          subst hje
          rw [List.drop_length, topL] at hq
          have HF : Hid (FZ w wr w.heap.size m z a0 a1 a2 a3) := hf
          have HQ : Hid (z = topL (m : Int) l (-1)) := hq
          clear hf hq
          go_wp2_with fail
          have e9 := HQ.out
          subst e9
          refine ⟨⟨m + 1, by omega, by simp, ?_⟩, by simp [intOf]; omega⟩
          obtain ⟨t0, t1, t2, t3⟩ := HT.out
          refine FZ.last (l := l) hlt ?_
          rw [t0, t1, t2, t3]
          exact HF.out
    · have hme : m = 4 := by omega
      subst hme
      have HF : Hid (Four w wr w.heap.size (topsAt l 4 0) (topsAt l 4 1) (topsAt l 4 2) (topsAt l 4 3)) := hf
      clear hf
      go_wp2_with fail
      go_ret
      exact ⟨_, rfl, HF.out.sl, HF.out.bel⟩
end Go.Proofs.Ytcmoehednkaehah
namespace Go.Proofs.Ytcmoehednkaehah
open Go.ChangeShapes Go.WideShapes Go.ChangeAt Go.RowKit

/- The document's own way to the active priorities: all locks over and over. -/
def uns (a b : Nat → Int) : Nat → Nat
  | 0 => 0
  | n + 1 => uns a b n + if b n < a n then 1 else 0

theorem uns_le (a b : Nat → Int) : ∀ n, uns a b n ≤ n
  | 0 => Nat.le_refl _
  | n + 1 => by have := uns_le a b n; rw [uns]; split <;> omega

theorem uns_mono {a b b' : Nat → Int} : ∀ n, (∀ i, i < n → b' i < a i → b i < a i) → uns a b' n ≤ uns a b n
  | 0, _ => Nat.le_refl _
  | n + 1, h => by
    have := uns_mono n (fun i hi => h i (by omega))
    rw [uns, uns]
    by_cases q : b' n < a n
    · rw [if_pos q, if_pos (h n (by omega) q)]; omega
    · rw [if_neg q]; omega

theorem uns_lt {a b b' : Nat → Int} {j : Nat} (h1 : b j < a j) (h2 : ¬ b' j < a j) : ∀ n, j < n → (∀ i, i < n → b' i < a i → b i < a i) → uns a b' n < uns a b n
  | 0, hj, _ => by omega
  | n + 1, hj, h => by
    rw [uns, uns]
    by_cases e : n = j
    · subst e
      rw [if_neg h2, if_pos h1]
      have := uns_mono n (fun i hi => h i (by omega))
      omega
    · have := uns_lt h1 h2 n (by omega) (fun i hi => h i (by omega))
      by_cases q : b' n < a n
      · rw [if_pos q, if_pos (h n (by omega) q)]; omega
      · rw [if_neg q]; omega

theorem uns_zero {a b : Nat → Int} : ∀ n, uns a b n = 0 → ∀ i, i < n → a i ≤ b i
  | 0, _, i, hi => by omega
  | n + 1, h, i, hi => by
    rw [uns] at h
    by_cases e : i = n
    · subst e
      by_cases q : b i < a i
      · rw [if_pos q] at h; omega
      · omega
    · exact uns_zero n (by omega) i (by omega)

theorem uns_none {a b : Nat → Int} : ∀ n, (∀ i, i < n → ¬ b i < a i) → uns a b n = 0
  | 0, _ => rfl
  | n + 1, h => by rw [uns, uns_none n (fun i hi => h i (by omega)), if_neg (h n (by omega))]

theorem unset_found {tp : List Int} {x : Rs} {a b b' : Nat → Int} (ha : IsAc 2 tp x a)
    (hb : ∀ (i : Nat) (e : En), x.es[i]? = some e → e.x.p ≤ b i ∧ b i ≤ b' i ∧ b' i ≤ a i) (h2 : ∀ u v, Edge x u v → b u ≤ b' v) {k i : Nat} {ek : En} (hk : x.es[k]? = some ek) (hr : Reach x k i) :
    ∀ e, x.es[i]? = some e → a i = ek.x.p → b' i < a i → ∃ j ej, x.es[j]? = some ej ∧ b j < a j ∧ ¬ b' j < a j := by
  induction hr with
  | refl =>
    intro e he h1 h3
    have := hb k e he
    rw [hk] at he
    cases he
    omega
  | step h3 h4 ih =>
    rename_i j i
    intro e he h1 h5
    obtain ⟨ej, m, hj, h6⟩ := id h4
    have q1 := (ha i e he).2.2.1 rfl j h4
    have q2 := ha.reach h3 ej hj
    have q3 := (ha k ek hk).1
    have q4 : a j = ek.x.p := by omega
    by_cases q5 : b j < a j
    · by_cases q6 : b' j < a j
      · exact ih ej hj q4 q6
      · exact ⟨j, ej, hj, q5, q6⟩
    · have := h2 j i h4
      omega

theorem uns_round {pr : Int} {tp : List Int} {x : Rs} {n : Nat} {a b b' : Nat → Int} (hpr : pr = 1 ∨ pr = 2 ∨ pr = 3) (ha : IsAc pr tp x a) (hl : x.es.length = n)
    (hb : ∀ (i : Nat) (e : En), x.es[i]? = some e → e.x.p ≤ b i ∧ b i ≤ b' i ∧ b' i ≤ a i)
    (h3 : pr = 3 → ∀ (m h : Nat) (t : Int), x.hs[m]? = some (h : Int) → tp[m]? = some t → t ≤ b' h) (h2 : pr = 2 → ∀ u v, Edge x u v → b u ≤ b' v) : uns a b' n = 0 ∨ uns a b' n < uns a b n := by
  by_cases hall : ∀ i, i < n → ¬ b' i < a i
  · exact .inl (uns_none n hall)
  · refine .inr ?_
    obtain ⟨i, hi⟩ := Classical.not_forall.1 hall
    obtain ⟨hin, hi2⟩ := Classical.not_imp.1 hi
    have hi3 : b' i < a i := Classical.byContradiction hi2
    obtain ⟨e, he⟩ := at_lt hl hin
    have hbi := hb i e he
    have hmon : ∀ i, i < n → b' i < a i → b i < a i := fun j hj h => by
      obtain ⟨ej, hej⟩ := at_lt hl hj
      have := hb j ej hej
      omega
    rcases (ha i e he).2.2.2 with q | ⟨rfl, m, t, h4, h5, q⟩ | ⟨rfl, k, ek, h4, h5, q⟩
    · omega
    · have := h3 rfl m i t h4 h5
      omega
    · obtain ⟨j, ej, hj, q1, q2⟩ := unset_found ha hb (h2 rfl) h4 h5 e he q hi3
      exact uns_lt q1 q2 n (by rw [← hl]; exact (List.getElem?_eq_some_iff.1 hj).1) hmon

/- The document's state. -/
structure Dd where
  S : Nat
  P : Nat
  A : Nat
  K : Nat
  B : Nat
  W : Nat
  D : Nat
  M : Nat

def blV (l : List Bool) : List Value := l.map Value.bool
def sl0 (b n : Nat) : Value := .slice (some ⟨b, 0, none⟩) n n

/-- What the map of holders holds. -/
structure MSpec (D : DataW Unit) (hs : List Int) : Prop where
  key : ∀ kl, Go.Maps.has D kl = true → ∃ m : Nat, m < 4 ∧ kl = .int .i64 (m : Int)
  has : ∀ (m : Nat) (z : Int), hs[m]? = some z → Go.Maps.has D (.int .i64 (m : Int)) = (z != -1)
  at_ : ∀ (m : Nat) (z : Int), hs[m]? = some z → z ≠ -1 → ∀ zd, D.atKey (.int .i64 (m : Int)) zd = .lit (.int .i64 z)

structure DV (W : World) (d : Dd) (pr : Int) (lv : Value) (l : List Lj) (x : Rs) (cnt : Nat) (D : DataW Unit) : Prop where
  hS : W.heap[d.S]? = some (.cells #[lv, .int .i64 pr, sl0 d.P 4, sl0 d.A l.length, sl0 d.K l.length, sl0 d.B l.length, sl0 d.W l.length, sl0 d.D l.length, .map (some d.M)] 58 (0, 0))
  hP : W.heap[d.P]? = some (.cells (inV (topsF l)).toArray 3 (0, 0))
  hA : W.heap[d.A]? = some (.cells (inV (x.es.map (fun e => (e.nx : Int)))).toArray 3 (0, 0))
  hK : W.heap[d.K]? = some (.cells (inV (x.es.map En.rn)).toArray 3 (0, 0))
  hB : W.heap[d.B]? = some (.cells (blV (x.es.map En.bg)).toArray 4 (0, 0))
  hW : W.heap[d.W]? = some (.cells (inV (x.es.map En.wt)).toArray 3 (0, 0))
  hD : W.heap[d.D]? = some (.cells (blV (x.en.map (fun z => z != -1))).toArray 4 (0, 0))
  map : W.ownsMap Try.prog 3 (plainElem Try.prog 3) d.M cnt D
  spec : MSpec D x.hs
  job : LkSl W l lv

theorem owns_block {W W' : World} {b cnt : Nat} {D : DataW Unit} (h : W.ownsMap Try.prog 3 (plainElem Try.prog 3) b cnt D) (hb : W'.heap[b]? = W.heap[b]?) : W'.ownsMap Try.prog 3 (plainElem Try.prog 3) b cnt D := by
  obtain ⟨es, clock, h1, h2⟩ := h
  exact ⟨es, clock, hb.trans h1, h2⟩

theorem DV.grow {W W' : World} {d : Dd} {pr : Int} {lv : Value} {l : List Lj} {x : Rs} {cnt : Nat} {D : DataW Unit} (h : DV W d pr lv l x cnt D) (hb : Below W.heap.size W W') : DV W' d pr lv l x cnt D :=
  ⟨(hb.block _ (heap_lt h.hS)).trans h.hS, (hb.block _ (heap_lt h.hP)).trans h.hP, (hb.block _ (heap_lt h.hA)).trans h.hA, (hb.block _ (heap_lt h.hK)).trans h.hK, (hb.block _ (heap_lt h.hB)).trans h.hB, (hb.block _ (heap_lt h.hW)).trans h.hW, (hb.block _ (heap_lt h.hD)).trans h.hD, owns_block h.map (hb.block _ h.map.lt), h.spec, h.job.below hb⟩

theorem DV.own {W : World} {d : Dd} {pr : Int} {lv : Value} {l : List Lj} {x : Rs} {cnt : Nat} {D : DataW Unit} (h : DV W d pr lv l x cnt D) : W.cell? ⟨d.S, 0, none⟩ = some lv ∧ W.cell? ⟨d.S, 1, none⟩ = some (.int .i64 pr) ∧ W.cell? ⟨d.S, 2, none⟩ = some (sl0 d.P 4) ∧ W.cell? ⟨d.S, 3, none⟩ = some (sl0 d.A l.length) ∧ W.cell? ⟨d.S, 4, none⟩ = some (sl0 d.K l.length) ∧ W.cell? ⟨d.S, 5, none⟩ = some (sl0 d.B l.length) ∧ W.cell? ⟨d.S, 6, none⟩ = some (sl0 d.W l.length) ∧ W.cell? ⟨d.S, 7, none⟩ = some (sl0 d.D l.length) ∧ W.cell? ⟨d.S, 8, none⟩ = some (.map (some d.M)) := by
  obtain ⟨c, -, -⟩ := cells_of (l := [_, _, _, _, _, _, _, _, _]) h.hS
  exact ⟨c 0 _ rfl, c 1 _ rfl, c 2 _ rfl, c 3 _ rfl, c 4 _ rfl, c 5 _ rfl, c 6 _ rfl, c 7 _ rfl, c 8 _ rfl⟩

theorem blV_at {l : List Bool} {i : Nat} {z : Bool} (h : l[i]? = some z) : (blV l)[i]? = some (.bool z) := by unfold blV; rw [List.getElem?_map, h]; rfl

theorem DV.ent {W : World} {d : Dd} {pr : Int} {lv : Value} {l : List Lj} {x : Rs} {cnt : Nat} {D : DataW Unit} (h : DV W d pr lv l x cnt D) {i : Nat} {e : En} (he : x.es[i]? = some e) : W.cell? ⟨d.A, i, none⟩ = some (.int .i64 (e.nx : Int)) ∧ W.cell? ⟨d.K, i, none⟩ = some (.int .i64 e.rn) ∧ W.cell? ⟨d.B, i, none⟩ = some (.bool e.bg) ∧ W.cell? ⟨d.W, i, none⟩ = some (.int .i64 e.wt) :=
  ⟨(cells_of h.hA).1 _ _ (inV_at (by rw [List.getElem?_map, he]; rfl)), (cells_of h.hK).1 _ _ (inV_at (by rw [List.getElem?_map, he]; rfl)), (cells_of h.hB).1 _ _ (blV_at (by rw [List.getElem?_map, he]; rfl)), (cells_of h.hW).1 _ _ (inV_at (by rw [List.getElem?_map, he]; rfl))⟩
theorem DV.dn {W : World} {d : Dd} {pr : Int} {lv : Value} {l : List Lj} {x : Rs} {cnt : Nat} {D : DataW Unit} (h : DV W d pr lv l x cnt D) {i : Nat} {z : Int} (hz : x.en[i]? = some z) : W.cell? ⟨d.D, i, none⟩ = some (.bool (z != -1)) := (cells_of h.hD).1 _ _ (blV_at (by rw [List.getElem?_map, hz]; rfl))
theorem DV.top {W : World} {d : Dd} {pr : Int} {lv : Value} {l : List Lj} {x : Rs} {cnt : Nat} {D : DataW Unit} (h : DV W d pr lv l x cnt D) {m : Nat} {t : Int} (hz : (topsF l)[m]? = some t) : W.cell? ⟨d.P, m, none⟩ = some (.int .i64 t) := (cells_of h.hP).1 _ _ (inV_at hz)
theorem DV.lts {W : World} {d : Dd} {pr : Int} {lv : Value} {l : List Lj} {x : Rs} {cnt : Nat} {D : DataW Unit} (h : DV W d pr lv l x cnt D) : d.S < W.heap.size ∧ d.P < W.heap.size ∧ d.A < W.heap.size ∧ d.K < W.heap.size ∧ d.B < W.heap.size ∧ d.W < W.heap.size ∧ d.D < W.heap.size ∧ d.M < W.heap.size :=
  ⟨heap_lt h.hS, heap_lt h.hP, heap_lt h.hA, heap_lt h.hK, heap_lt h.hB, heap_lt h.hW, heap_lt h.hD, h.map.lt⟩

/-- A row of numbers by a function. -/
def rowF (b : Nat → Int) (n : Nat) : List Int := (List.range n).map b
theorem rowF_at (b : Nat → Int) {n i : Nat} (h : i < n) : (rowF b n)[i]? = some (b i) := by unfold rowF; rw [List.getElem?_map, List.getElem?_range h]; rfl
theorem rowF_set (b : Nat → Int) {n h : Nat} (p : Int) (hh : h < n) : (rowF b n).set h p = rowF (upd b h p) n := by
  apply List.ext_getElem?
  intro i
  by_cases hi : i < n
  · rw [rowF_at _ hi]
    by_cases e : h = i
    · subst e
      rw [List.getElem?_set_self (by unfold rowF; simpa using hh), upd_self]
    · rw [List.getElem?_set_ne e, rowF_at _ hi, upd_ne _ _ (Ne.symm e)]
  · rw [List.getElem?_eq_none (by unfold rowF; simp; omega), List.getElem?_eq_none (by unfold rowF; simp; omega)]

theorem law3 : Go.Maps.Keyed Try.prog 3 := Go.Maps.int_keyed Try.underlying3
theorem zero3 (w : World) : (zeroValue 3).run Try.prog w = .ok (.int .i64 0) w := by kernel_rfl
end Go.Proofs.Ytcmoehednkaehah
