import Derived.Test.YtccoobcggbbciaiGreatDoorTK
namespace Go.Proofs.YtccoobcggbbciaiGreatDoor
open Go.ChangeShapes Go.WideShapes Go.ChangeAt Go.RowKit

/-- A window. -/
structure Wi where
  at_ : Int
  ln : Int

def wthin (n a b : Int) : Bool := decide (a ≤ n) && decide (n ≤ b)

/-- A frame's windows, one by one: e is where the one ahead ends. -/
def frmFrom (n : Int) : List Wi → Nat → Int → Int × Int
  | [], _, _ => (0, 0)
  | x :: r, k, e => if (wthin x.at_ 0 n && wthin x.ln 1 (n - x.at_)) = false then (3, (k : Int)) else if x.at_ < e then (12, (k : Int)) else frmFrom n r (k + 1) (x.at_ + x.ln)
/-- chapter 13's Frame. -/
def frmF (n : Int) (l : List Wi) : Int × Int := if wthin n 1 10000 = false then (3, 0) else if 20 < l.length then (2, 0) else frmFrom n l 0 0

/-- Windows of a frame of n ticks, in order, from e on. -/
def Srt (n : Int) : Int → List Wi → Prop
  | _, [] => True
  | e, x :: r => e ≤ x.at_ ∧ 1 ≤ x.ln ∧ x.at_ + x.ln ≤ n ∧ Srt n (x.at_ + x.ln) r

theorem frmFrom_srt {n : Int} : ∀ {l : List Wi} {k : Nat} {e : Int} {z : Int}, frmFrom n l k e = (0, z) → Srt n e l ∧ z = 0
  | [], _, _, _, h => by cases h; exact ⟨trivial, rfl⟩
  | x :: r, k, e, z, h => by
    rw [frmFrom] at h
    split at h
    · cases h
    · rename_i h1
      split at h
      · cases h
      · rename_i h2
        obtain ⟨h3, h4⟩ := frmFrom_srt h
        simp [wthin] at h1
        exact ⟨⟨by omega, by omega, by omega, h3⟩, h4⟩

theorem frmF_good {n z : Int} {l : List Wi} (h : frmF n l = (0, z)) : (1 ≤ n ∧ n ≤ 10000) ∧ l.length ≤ 20 ∧ Srt n 0 l ∧ z = 0 := by
  unfold frmF at h
  split at h
  · cases h
  · rename_i h1
    split at h
    · cases h
    · rename_i h2
      obtain ⟨h3, h4⟩ := frmFrom_srt h
      simp [wthin] at h1
      exact ⟨h1, by omega, h3, h4⟩

theorem Srt.mono {n : Int} : ∀ {l : List Wi} {e e' : Int}, Srt n e l → e' ≤ e → Srt n e' l
  | [], _, _, _, _ => trivial
  | x :: r, e, e', h, he => ⟨by have := h.1; omega, h.2⟩

theorem Srt.mem {n : Int} : ∀ {l : List Wi} {e : Int} {x : Wi}, Srt n e l → x ∈ l → e ≤ x.at_ ∧ 1 ≤ x.ln ∧ x.at_ + x.ln ≤ n
  | y :: r, e, x, h, hx => by
    rcases List.mem_cons.1 hx with rfl | hx
    · exact ⟨h.1, h.2.1, h.2.2.1⟩
    · have := Srt.mem h.2.2.2 hx
      have h1 := h.1
      have h2 := h.2.1
      exact ⟨by omega, this.2⟩

def inW (r : Int) (x : Wi) : Bool := decide (x.at_ ≤ r) && decide (r < x.at_ + x.ln)
/-- Is the core there? -/
def thr (n : Int) (l : List Wi) (t : Int) : Bool := l.any (inW (t % n))

def bit (b : Bool) : Int := if b then 1 else 0

/-- In how many ticks ahead of t. -/
def cnt (n : Int) (l : List Wi) : Nat → Int
  | 0 => 0
  | t + 1 => cnt n l t + bit (thr n l t)

def aheadW (n t : Int) (x : Wi) : Int := (t / n) * x.ln + min (max (t % n - x.at_) 0) x.ln
def aheadF (n : Int) (l : List Wi) (t : Int) : Int := (l.map (aheadW n t)).sum

theorem divmod_succ {n t : Int} (hn : 1 ≤ n) : (t % n + 1 < n ∧ (t + 1) / n = t / n ∧ (t + 1) % n = t % n + 1) ∨ (t % n + 1 = n ∧ (t + 1) / n = t / n + 1 ∧ (t + 1) % n = 0) := by
  have h1 := Int.emod_nonneg t (show n ≠ 0 by omega)
  have h2 := Int.emod_lt_of_pos t (show 0 < n by omega)
  have h3 := Int.emod_add_mul_ediv t n
  by_cases h : t % n + 1 < n
  · have := (Int.ediv_emod_unique (a := t + 1) (b := n) (r := t % n + 1) (q := t / n) (by omega)).2 ⟨by omega, by omega, h⟩
    exact .inl ⟨h, this⟩
  · have h4 : n * (t / n + 1) = n * (t / n) + n := by rw [Int.mul_add, Int.mul_one]
    have := (Int.ediv_emod_unique (a := t + 1) (b := n) (r := 0) (q := t / n + 1) (by omega)).2 ⟨by omega, by omega, by omega⟩
    exact .inr ⟨by omega, this⟩

theorem aheadW_succ {n t : Int} {x : Wi} (hn : 1 ≤ n) (h0 : 0 ≤ x.at_) (h1 : 1 ≤ x.ln) (h2 : x.at_ + x.ln ≤ n) : aheadW n (t + 1) x = aheadW n t x + bit (inW (t % n) x) := by
  have h3 := Int.emod_nonneg t (show n ≠ 0 by omega)
  unfold aheadW inW bit
  rcases divmod_succ (t := t) hn with ⟨h, e1, e2⟩ | ⟨h, e1, e2⟩
  · rw [e1, e2]
    by_cases ha : x.at_ ≤ t % n <;> by_cases hb : t % n < x.at_ + x.ln <;> simp [ha, hb] <;> omega
  · rw [e1, e2, Int.add_mul, Int.one_mul]
    by_cases hb : t % n < x.at_ + x.ln <;> simp [show x.at_ ≤ t % n by omega, hb] <;> omega

theorem inW_after {n e r : Int} : ∀ {l : List Wi}, Srt n e l → r < e → l.any (inW r) = false
  | [], _, _ => rfl
  | x :: t, h, hr => by
    have h1 := h.1
    have h2 := h.2.1
    rw [List.any_cons, inW_after (Srt.mono h.2.2.2 (e' := e) (by omega)) hr]
    simp [inW]
    omega

theorem bits_sum {n r : Int} : ∀ {e : Int} {l : List Wi}, Srt n e l → (l.map (fun x => bit (inW r x))).sum = bit (l.any (inW r))
  | _, [], _ => rfl
  | e, x :: t, h => by
    rw [List.map_cons, List.sum_cons, bits_sum h.2.2.2, List.any_cons]
    cases hx : inW r x
    · simp [bit]
    · have : r < x.at_ + x.ln := by simp [inW] at hx; omega
      rw [inW_after h.2.2.2 this]
      rfl

theorem sum_add {α : Type} (f g : α → Int) : ∀ l : List α, (l.map (fun x => f x + g x)).sum = (l.map f).sum + (l.map g).sum
  | [] => rfl
  | x :: t => by simp only [List.map_cons, List.sum_cons, sum_add f g t]; omega

theorem aheadF_succ {n t e : Int} {l : List Wi} (hn : 1 ≤ n) (he : 0 ≤ e) (h : Srt n e l) : aheadF n l (t + 1) = aheadF n l t + bit (thr n l t) := by
  unfold aheadF thr
  rw [← bits_sum h, ← sum_add]
  congr 1
  refine List.map_congr_left fun x hx => ?_
  have := h.mem hx
  exact aheadW_succ hn (by omega) this.2.1 this.2.2

theorem aheadF_zero {n e : Int} {l : List Wi} (he : 0 ≤ e) (h : Srt n e l) : aheadF n l 0 = 0 := by
  unfold aheadF
  have : l.map (aheadW n 0) = l.map (fun _ => 0) := List.map_congr_left fun x hx => by
    have := h.mem hx
    unfold aheadW
    simp
    omega
  rw [this]
  clear this h
  induction l with
  | nil => rfl
  | cons x t ih => simp only [List.map_cons, List.sum_cons, ih]; rfl

theorem ahead_cnt {n : Int} {l : List Wi} (hn : 1 ≤ n) (h : Srt n 0 l) : ∀ t : Nat, aheadF n l t = cnt n l t
  | 0 => aheadF_zero (Int.le_refl _) h
  | t + 1 => by
    rw [cnt, ← ahead_cnt hn h t]
    exact aheadF_succ (t := (t : Int)) hn (Int.le_refl _) h

/-- In how many of k ticks from s on. -/
def sup (n : Int) (l : List Wi) (s k : Nat) : Int := cnt n l (s + k) - cnt n l s

theorem bit_le (b : Bool) : 0 ≤ bit b ∧ bit b ≤ 1 := by cases b <;> simp [bit]

theorem sup_zero (n : Int) (l : List Wi) (s : Nat) : sup n l s 0 = 0 := by unfold sup; simp
theorem sup_succ (n : Int) (l : List Wi) (s k : Nat) : sup n l s (k + 1) = sup n l s k + bit (thr n l ((s + k : Nat) : Int)) := by
  unfold sup
  rw [show s + (k + 1) = (s + k) + 1 by omega, cnt]
  omega
theorem sup_le (n : Int) (l : List Wi) (s : Nat) : ∀ k : Nat, 0 ≤ sup n l s k ∧ sup n l s k ≤ k
  | 0 => by rw [sup_zero]; omega
  | k + 1 => by
    have := sup_le n l s k
    have h := bit_le (thr n l ((s + k : Nat) : Int))
    rw [sup_succ]
    omega

theorem sup_shift (n : Int) (l : List Wi) (s k : Nat) : sup n l (s + 1) k = sup n l s k - bit (thr n l (s : Int)) + bit (thr n l ((s + k : Nat) : Int)) := by
  unfold sup
  rw [show s + 1 + k = (s + k) + 1 by omega, cnt, cnt]
  omega

theorem thr_period {n : Int} {l : List Wi} (t : Int) : thr n l (t + n) = thr n l t := by
  unfold thr
  rw [Int.add_emod_right]

theorem sup_period {n : Nat} {l : List Wi} (s : Nat) : ∀ k, sup n l (s + n) k = sup n l s k
  | 0 => by rw [sup_zero, sup_zero]
  | k + 1 => by
    rw [sup_succ, sup_succ, sup_period s k]
    have : ((s + n + k : Nat) : Int) = ((s + k : Nat) : Int) + n := by omega
    rw [this, thr_period]

/-- Within a window each tick later gives one away. -/
theorem sup_on {n : Int} {l : List Wi} {x : Wi} (h : Srt n 0 l) (hx : x ∈ l) (k : Nat) : ∀ (d s : Nat), (s : Int) + d = x.at_ + x.ln → x.at_ ≤ s → sup n l (s + d) k ≤ sup n l s k
  | 0, s, _, _ => by simp
  | d + 1, s, he, ha => by
    have ih := sup_on h hx k d (s + 1) (by omega) (by omega)
    rw [sup_shift] at ih
    have hm := h.mem hx
    have : thr n l (s : Int) = true := by
      unfold thr
      rw [List.any_eq_true]
      refine ⟨x, hx, ?_⟩
      have e : (s : Int) % n = s := Int.emod_eq_of_lt (by omega) (by omega)
      simp [inW, e]
      omega
    rw [this] at ih
    have hb := bit_le (thr n l ((s + k : Nat) : Int))
    rw [show s + (d + 1) = s + 1 + d by omega]
    have h1 : bit true = 1 := rfl
    omega

/-- From no time on is it less than from the end of a window on, or from 0 on. -/
theorem sup_worst {n : Int} {l : List Wi} (h : Srt n 0 l) (k : Nat) : ∀ s : Nat, (s : Int) < n → (∃ x ∈ l, sup n l (x.at_ + x.ln).toNat k ≤ sup n l s k) ∨ sup n l 0 k ≤ sup n l s k
  | 0, _ => .inr (Int.le_refl _)
  | s + 1, hs => by
    cases hb : thr n l (s : Int)
    · have e : sup n l s k ≤ sup n l (s + 1) k := by
        rw [sup_shift, hb]
        have := bit_le (thr n l ((s + k : Nat) : Int))
        simp [bit] at *
        omega
      rcases sup_worst h k s (by omega) with ⟨x, hx, h1⟩ | h1
      · exact .inl ⟨x, hx, by omega⟩
      · exact .inr (by omega)
    · unfold thr at hb
      obtain ⟨x, hx, hi⟩ := List.any_eq_true.1 hb
      have em : (s : Int) % n = s := Int.emod_eq_of_lt (by omega) (by omega)
      simp [inW, em] at hi
      have hm := h.mem hx
      refine .inl ⟨x, hx, ?_⟩
      have := sup_on h hx k ((x.at_ + x.ln) - (s + 1)).toNat (s + 1) (by omega) (by omega)
      rw [show s + 1 + ((x.at_ + x.ln) - (s + 1)).toNat = (x.at_ + x.ln).toNat by omega] at this
      exact this

/-- chapter 13's Least, as the program reckons it. -/
def leastF (n : Int) (l : List Wi) (k : Nat) : Int := l.foldl (fun m x => min m (sup n l (x.at_ + x.ln).toNat k)) (sup n l 0 k)

theorem foldl_min {α : Type} (f : α → Int) : ∀ (l : List α) (m : Int), (l.foldl (fun m x => min m (f x)) m ≤ m ∧ ∀ x ∈ l, l.foldl (fun m x => min m (f x)) m ≤ f x) ∧ (l.foldl (fun m x => min m (f x)) m = m ∨ ∃ x ∈ l, l.foldl (fun m x => min m (f x)) m = f x)
  | [], m => ⟨⟨Int.le_refl _, fun x hx => by cases hx⟩, .inl rfl⟩
  | y :: t, m => by
    obtain ⟨⟨h1, h2⟩, h3⟩ := foldl_min f t (min m (f y))
    rw [List.foldl_cons]
    refine ⟨⟨by omega, fun x hx => ?_⟩, ?_⟩
    · rcases List.mem_cons.1 hx with rfl | hx
      · omega
      · exact h2 x hx
    · rcases h3 with h3 | ⟨x, hx, h3⟩
      · by_cases h : m ≤ f y
        · exact .inl (by omega)
        · exact .inr ⟨y, by simp, by omega⟩
      · exact .inr ⟨x, by simp [hx], h3⟩

/-- The least of all times ahead of m, as the document reckons it. -/
def leanF (n : Int) (l : List Wi) (k : Nat) : Nat → Int
  | 0 => k
  | m + 1 => min (leanF n l k m) (sup n l m k)

theorem leanF_le (n : Int) (l : List Wi) (k : Nat) : ∀ m : Nat, (leanF n l k m ≤ k ∧ ∀ s, s < m → leanF n l k m ≤ sup n l s k) ∧ (leanF n l k m = k ∨ ∃ s, s < m ∧ leanF n l k m = sup n l s k)
  | 0 => ⟨⟨Int.le_refl _, fun s h => by omega⟩, .inl rfl⟩
  | m + 1 => by
    obtain ⟨⟨h1, h2⟩, h3⟩ := leanF_le n l k m
    rw [leanF]
    refine ⟨⟨by omega, fun s hs => ?_⟩, ?_⟩
    · by_cases h : s < m
      · have := h2 s h
        omega
      · obtain rfl : s = m := by omega
        omega
    · by_cases h : leanF n l k m ≤ sup n l m k
      · rcases h3 with h3 | ⟨s, hs, h3⟩
        · exact .inl (by omega)
        · exact .inr ⟨s, by omega, by omega⟩
      · exact .inr ⟨m, by omega, by omega⟩

/-- Both say the same. -/
theorem least_lean {n : Nat} {l : List Wi} (hn : 1 ≤ n) (h : Srt n 0 l) (k : Nat) : leastF n l k = leanF n l k n := by
  obtain ⟨⟨h1, h2⟩, h3⟩ := foldl_min (fun x : Wi => sup n l (x.at_ + x.ln).toNat k) l (sup n l 0 k)
  obtain ⟨⟨h4, h5⟩, h6⟩ := leanF_le n l k n
  change leastF n l k ≤ _ at h1
  change ∀ x ∈ l, leastF n l k ≤ _ at h2
  change leastF n l k = _ ∨ ∃ x ∈ l, leastF n l k = _ at h3
  apply Int.le_antisymm
  · rcases h6 with h6 | ⟨s, hs, h6⟩
    · have := (sup_le n l 0 k).2
      omega
    · rcases sup_worst h k s (by omega) with ⟨x, hx, h7⟩ | h7
      · have := h2 x hx
        omega
      · omega
  · rcases h3 with h3 | ⟨x, hx, h3⟩
    · have := h5 0 (by omega)
      omega
    · have hm := h.mem hx
      by_cases he : x.at_ + x.ln = n
      · have := h5 0 (by omega)
        have e : (x.at_ + x.ln).toNat = 0 + n := by omega
        rw [e, sup_period] at h3
        omega
      · have := h5 (x.at_ + x.ln).toNat (by omega)
        omega

def Wi.vals (x : Wi) : List Value := [.int .i64 x.at_, .int .i64 x.ln]
def Wi.val (x : Wi) : Value := .agg #[.int .i64 x.at_, .int .i64 x.ln]
theorem Wi.len (x : Wi) : x.vals.length = 2 := rfl
theorem Wi.one {x : Wi} {u : Value} (h : u ∈ x.vals) : u.oneCell' = true := by
  simp only [Wi.vals, List.mem_cons, List.not_mem_nil, or_false] at h
  rcases h with rfl | rfl <;> rfl

/-- The two cells of a window. -/
def WiAt (w : World) (b o : Nat) (x : Wi) : Prop := w.cell? ⟨b, o, none⟩ = some (.int .i64 x.at_) ∧ w.cell? ⟨b, o + 1, none⟩ = some (.int .i64 x.ln)

theorem wi_at {w : World} {l : List Wi} {b o j : Nat} {x : Wi} (h : ∀ q u, (l.flatMap Wi.vals)[q]? = some u → w.cell? ⟨b, o + q, none⟩ = some u) (hj : l[j]? = some x) : WiAt w b (o + j * 2) x := by
  have key : ∀ k u, k < 2 → x.vals[k]? = some u → w.cell? ⟨b, o + j * 2 + k, none⟩ = some u := fun k u hk hu => by
    rw [Nat.add_assoc]
    exact h _ _ ((flat_at Wi.vals 2 Wi.len l j k x hj hk).trans hu)
  exact ⟨key 0 _ (by omega) rfl, key 1 _ (by omega) rfl⟩

set_option maxRecDepth 20000 in
theorem wthin_any (w : World) (n a b : Int) : Calls Tryz.prog 55 #[.int .i64 n, .int .i64 a, .int .i64 b] w fun r w' => r = .returned (.bool (wthin n a b)) ∧ w' = w := by
  go_enter Tryz.func55, Tryz.ntmps55
  go_wp2_with fail
  all_goals
    go_ret
    refine ⟨?_, rfl⟩
    show Ending.returned (Value.bool _) = _
    congr 2
    unfold wthin
    first | (simp; done) | (simp; omega)

end Go.Proofs.YtccoobcggbbciaiGreatDoor
namespace Go.Proofs.YtccoobcggbbciaiGreatDoor
open Go.ChangeShapes Go.WideShapes Go.ChangeAt Go.RowKit

theorem FB.res2 {w W : World} {g : Nat} (h : FB w W g) : W.cell? ⟨g, 0, none⟩ = some (.int .i64 0) ∧ W.cell? ⟨g, 1, none⟩ = some (.int .i64 0) ∧ W.frozen? ⟨g, 0, none⟩ = false ∧ W.frozen? ⟨g, 1, none⟩ = false ∧ g < W.heap.size := by
  obtain ⟨rs1, rf1, rl1⟩ := cells_of (l := [_, _]) h.res
  exact ⟨rs1 0 _ rfl, rs1 1 _ rfl, rf1 0, rf1 1, rl1⟩

theorem FB.setA {w W : World} {g : Nat} (h : FB w W g) (a b : Value) (o : Obj) : (((W.setCell ⟨g, 0, none⟩ a).setCell ⟨g, 1, none⟩ b).alloc o).heap[g]? = some (.cells #[a, b] 30 (0, 0)) ∧ Below w.heap.size w (((W.setCell ⟨g, 0, none⟩ a).setCell ⟨g, 1, none⟩ b).alloc o) := by
  have h1 := set_two (a := a) (b := b) h.res
  exact ⟨((below_new _ o).block _ (Array.getElem?_eq_some_iff.1 h1).1).trans h1, below_seq (h.set a b) (below_new _ _)⟩

theorem Frame_ends {w : World} {g : Nat} {c k : Value} {a : Act} (h : w.heap[g]? = some (.cells #[c, k] 30 (0, 0))) (h3 : a.tmps[4]?.getD undef = .pointer (some ⟨g, 0, none⟩)) :
    (results Tryz.f42 a.tmps).run Tryz.prog w = .ok (.agg #[c, k]) w := by
  obtain ⟨c1, f1, l1⟩ := cells_of (l := [_, _]) h
  have c10 := c1 0 _ rfl
  have c11 := c1 1 _ rfl
  simp [results, Tryz.results42, go_sem, h3, c10, c11]

theorem CheckFrame_ends {w : World} {g : Nat} {c k : Value} {a : Act} (h : w.heap[g]? = some (.cells #[c, k] 30 (0, 0))) (h3 : a.tmps[4]?.getD undef = .pointer (some ⟨g, 0, none⟩)) :
    (results Tryz.f46 a.tmps).run Tryz.prog w = .ok (.agg #[c, k]) w := by
  obtain ⟨c1, f1, l1⟩ := cells_of (l := [_, _]) h
  have c10 := c1 0 _ rfl
  have c11 := c1 1 _ rfl
  simp [results, Tryz.results46, go_sem, h3, c10, c11]

set_option maxRecDepth 20000 in
theorem Frame_out (w : World) (n : Int) (ad : Option Addr) (m c : Nat) (h : wthin n 1 10000 = false) : Calls Tryz.prog 42 #[.int .i64 n, .slice ad m c] w fun r w' => r = .returned (.agg #[.int .i64 3, .int .i64 0]) ∧ Below w.heap.size w w' := by
  go_enter Tryz.func42, Tryz.ntmps42
  go_wp2_with (go_at_call 55; refine (wthin_any _ _ _ _).mono ?_; rintro r w1 ⟨rfl, rfl⟩; rw [h])
  refine bodyPost_ret (Frame_ends (heap_alloc_new _ _) rfl) rfl ?_
  exact ⟨rfl, below_new _ _⟩

set_option maxRecDepth 20000 in
theorem Frame_many (w : World) (n : Int) (ad : Option Addr) (m c : Nat) (h : wthin n 1 10000 = true) (hm : 20 < m) : Calls Tryz.prog 42 #[.int .i64 n, .slice ad m c] w fun r w' => r = .returned (.agg #[.int .i64 2, .int .i64 0]) ∧ Below w.heap.size w w' := by
  have hm' : (20 : Int) < (m : Int) := by omega
  go_enter Tryz.func42, Tryz.ntmps42
  go_wp2_with (go_at_call 55; refine (wthin_any _ _ _ _).mono ?_; rintro r w1 ⟨rfl, rfl⟩; rw [h])
  refine bodyPost_ret (Frame_ends (heap_alloc_new _ _) rfl) rfl ?_
  exact ⟨rfl, below_new _ _⟩

set_option maxRecDepth 20000 in
set_option maxHeartbeats 4000000 in
theorem Frame_few (w : World) (n : Int) (l : List Wi) (ad : Option Addr) (c : Nat) (h : wthin n 1 10000 = true) (hm : l.length ≤ 20) (hv : RowSl Wi.vals w l (.slice ad l.length c)) : Calls Tryz.prog 42 #[.int .i64 n, .slice ad l.length c] w fun r w' => r = .returned (.agg #[.int .i64 (frmFrom n l 0 0).1, .int .i64 (frmFrom n l 0 0).2]) ∧ Below w.heap.size w w' := by
  have hm' : ¬ (20 : Int) < (l.length : Int) := by omega
  have hn : 1 ≤ n ∧ n ≤ 10000 := by simpa [wthin] using h
  obtain ⟨_, _, e, -, hcap, hrow⟩ := hv
  cases e
  have HR : Hid (l = [] ∨ ∃ b o, ad = some ⟨b, o, none⟩ ∧ ∀ q u, (l.flatMap Wi.vals)[q]? = some u → w.cell? ⟨b, o + q, none⟩ = some u) := hrow
  clear hrow
  go_enter Tryz.func42, Tryz.ntmps42
  go_wp2_with (go_at_call 55; refine (wthin_any _ _ _ _).mono ?_; rintro r w1 ⟨rfl, rfl⟩; rw [h])
  go_loopw [5, 18] (fun e i wr => ∃ (j : Nat) (ev : Int), j ≤ l.length ∧ e = .int .i64 ev ∧ i = .int .i64 j ∧ (0 ≤ ev ∧ ev ≤ 10000) ∧ FB w wr w.heap.size ∧ frmFrom n (l.drop j) j ev = frmFrom n l 0 0) (fun _ i _ => l.length - (intOf i).toNat)
  case atStart => exact ⟨0, 0, Nat.zero_le _, rfl, rfl, by omega, FB.start w, rfl⟩
  case round =>
    obtain ⟨j, ev, hj, rfl, rfl, hev, hb, hf⟩ := hrel
    obtain ⟨r10, r11, f10, f11, rl⟩ := hb.res2
    by_cases hlt : j < l.length
    · obtain ⟨x, hx, hd⟩ := drop_at hlt
      rw [hd, frmFrom] at hf
      rcases HR.out with h' | ⟨b, o, rfl, hrow⟩
      · rw [h'] at hlt; simp at hlt
      obtain ⟨c0, c1⟩ := wi_at (fun q u hq => below_cell hb.bel (hrow q u hq)) hx
      have lb : b < wr.heap.size := World.block_lt_of_cell? _ _ c0
      have HB : Hid (FB w wr w.heap.size) := hb
      have hji : (j : Int) < (l.length : Int) := by omega
      clear hb hrow
      cases hA : wthin x.at_ 0 n
      · rw [hA] at hf
        have HF : Hid ((3, (j : Int)) = frmFrom n l 0 0) := hf
        clear hf
        go_wp2_with (go_at_call 55; refine (wthin_any _ _ _ _).mono ?_; rintro r w1 ⟨rfl, rfl⟩; rw [hA])
        refine bodyPost_ret (Frame_ends (HB.out.setA _ _ _).1 rfl) rfl ?_
        exact ⟨by rw [← HF.out], (HB.out.setA _ _ _).2⟩
      · have hA' : 0 ≤ x.at_ ∧ x.at_ ≤ n := by simpa [wthin] using hA
        cases hB : wthin x.ln 1 (n - x.at_)
        · rw [hA, hB] at hf
          have HF : Hid ((3, (j : Int)) = frmFrom n l 0 0) := hf
          clear hf
          go_wp2_with (go_at_call 55; refine (wthin_any _ _ _ _).mono ?_; rintro r w1 ⟨rfl, rfl⟩; first | rw [hA] | rw [hB])
          refine bodyPost_ret (Frame_ends (HB.out.setA _ _ _).1 rfl) rfl ?_
          exact ⟨by rw [← HF.out], (HB.out.setA _ _ _).2⟩
        · have hB' : 1 ≤ x.ln ∧ x.ln ≤ n - x.at_ := by simpa [wthin] using hB
          rw [hA, hB] at hf
          by_cases hC : x.at_ < ev
          · rw [if_neg (by simp), if_pos hC] at hf
            have HF : Hid ((12, (j : Int)) = frmFrom n l 0 0) := hf
            clear hf
            go_wp2_with (go_at_call 55; refine (wthin_any _ _ _ _).mono ?_; rintro r w1 ⟨rfl, rfl⟩; first | rw [hA] | rw [hB])
            refine bodyPost_ret (Frame_ends (HB.out.setA _ _ _).1 rfl) rfl ?_
            exact ⟨by rw [← HF.out], (HB.out.setA _ _ _).2⟩
          · rw [if_neg (by simp), if_neg hC] at hf
            have HF : Hid (frmFrom n (l.drop (j + 1)) (j + 1) (x.at_ + x.ln) = frmFrom n l 0 0) := hf
            clear hf
            go_wp2_with (go_at_call 55; refine (wthin_any _ _ _ _).mono ?_; rintro r w1 ⟨rfl, rfl⟩; first | rw [hA] | rw [hB])
            exact ⟨⟨j + 1, x.at_ + x.ln, by omega, rfl, by simp, by omega, HB.out.grow (below_new _ _), HF.out⟩, by simp [intOf]; omega⟩
    · have hje : j = l.length := by omega
      subst hje
      rw [List.drop_length, frmFrom] at hf
      have HF : Hid ((0, 0) = frmFrom n l 0 0) := hf
      have HB : Hid (FB w wr w.heap.size) := hb
      clear hf hb
      go_wp2_with fail
      refine bodyPost_ret (Frame_ends (set_two HB.out.res) rfl) rfl ?_
      exact ⟨by rw [← HF.out], HB.out.set _ _⟩

/-- chapter 13's Frame. -/
theorem Frame_any (w : World) (n : Int) (l : List Wi) (v : Value) (hv : RowSl Wi.vals w l v) : Calls Tryz.prog 42 #[.int .i64 n, v] w fun r w' => r = .returned (.agg #[.int .i64 (frmF n l).1, .int .i64 (frmF n l).2]) ∧ Below w.heap.size w w' := by
  obtain ⟨ad, c, rfl⟩ := hv.len
  unfold frmF
  cases h : wthin n 1 10000
  · rw [if_pos rfl]
    exact Frame_out w n ad _ c h
  · rw [if_neg (by simp)]
    by_cases hm : 20 < l.length
    · rw [if_pos hm]
      exact Frame_many w n ad _ c h hm
    · rw [if_neg hm]
      exact Frame_few w n l ad c h (by omega) hv
end Go.Proofs.YtccoobcggbbciaiGreatDoor
