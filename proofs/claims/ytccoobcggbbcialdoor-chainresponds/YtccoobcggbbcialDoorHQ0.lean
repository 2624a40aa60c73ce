import Derived.Test.YtccoobcggbbcialDoorHS0
import Derived.Test.YtccoobcggbbcialDoorHP1
namespace Go.Proofs.YtccoobcggbbcialDoor
open Go.ChangeShapes Go.WideShapes Go.ChangeAt Go.RowKit

/- Chapter 18, pure: what the document's PartTimes reckons. -/
/-- How late parts may be there, with the times of the messages to them. -/
def toldL (tk : List Int) : List Pa → List Int → List Int
  | [], _ => []
  | x :: r, ts => if x.fr ≠ -1 ∧ x.se ≠ 0 then ts.headD 0 :: toldL tk r ts.tail else (if x.fr = -1 then 0 else tk.getD x.fr.toNat 0) :: toldL tk r ts

theorem toldL_len (tk : List Int) : ∀ (l : List Pa) (ts : List Int), (toldL tk l ts).length = l.length
  | [], _ => rfl
  | x :: r, ts => by
    unfold toldL
    split <;> simp [toldL_len tk r]

theorem toldL_put {tk : List Int} : ∀ (l : List Pa) (a ts : List Int), ts.length = (frFrom l tk a.length).length → putAll (a ++ lat0 l tk) ((frFrom l tk a.length).map (·.1)) ts = a ++ toldL tk l ts
  | [], a, ts, h => by simp [frFrom, lat0, toldL, putAll]
  | x :: r, a, ts, h => by
    unfold frFrom at h ⊢
    unfold toldL
    have e : lat0 (x :: r) tk = (if x.fr = -1 then 0 else tk.getD x.fr.toNat 0) :: lat0 r tk := rfl
    rw [e]
    by_cases hx : x.fr ≠ -1 ∧ x.se ≠ 0
    · rw [if_pos hx] at h ⊢
      rw [if_pos hx]
      cases ts with
      | nil => simp at h
      | cons t ts =>
        simp only [List.cons_append, List.nil_append, List.map_cons, putAll, List.headD_cons, List.tail_cons]
        have e2 : (a ++ (if x.fr = -1 then 0 else tk.getD x.fr.toNat 0) :: lat0 r tk).set a.length t = (a ++ [t]) ++ lat0 r tk := by simp
        rw [e2]
        have ih := toldL_put (tk := tk) r (a ++ [t]) ts (by simpa using h)
        rw [show (a ++ [t]).length = a.length + 1 by simp] at ih
        rw [ih]
        simp
    · rw [if_neg hx] at h ⊢
      rw [if_neg hx]
      simp only [List.nil_append] at h ⊢
      have ih := toldL_put (tk := tk) r (a ++ [if x.fr = -1 then 0 else tk.getD x.fr.toNat 0]) ts (by simpa using h)
      rw [show (a ++ [if x.fr = -1 then 0 else tk.getD x.fr.toNat 0]).length = a.length + 1 by simp] at ih
      rw [show a ++ (if x.fr = -1 then 0 else tk.getD x.fr.toNat 0) :: lat0 r tk = (a ++ [if x.fr = -1 then 0 else tk.getD x.fr.toNat 0]) ++ lat0 r tk by simp, ih]
      simp

theorem toldL_nil {tk : List Int} : ∀ (l : List Pa) (k : Nat) (ts : List Int), frFrom l tk k = [] → toldL tk l ts = lat0 l tk
  | [], _, _, _ => rfl
  | x :: r, k, ts, h => by
    unfold frFrom at h
    by_cases hx : x.fr ≠ -1 ∧ x.se ≠ 0
    · rw [if_pos hx] at h; cases h
    · rw [if_neg hx, List.nil_append] at h
      unfold toldL
      rw [if_neg hx, toldL_nil r (k + 1) ts h]
      rfl

theorem told_lat {l : List Pa} {tk ts : List Int} (h : (frsP l tk = [] ∧ ts = []) ∨ (frsP l tk ≠ [] ∧ ∃ e, TmA ((frsP l tk).map (·.2)) ts e ∧ e.1 = 0)) : LatR l tk (some (toldL tk l ts)) := by
  rcases h with ⟨h, rfl⟩ | ⟨h, e, h1, h2⟩
  · exact .inl ⟨h, by rw [toldL_nil l 0 [] h]⟩
  · refine .inr ⟨h, ts, e, h1, .inr ⟨h2, ?_⟩⟩
    have h3 := (h1.ok h2).2.2
    rw [List.length_map] at h3
    have h4 := toldL_put (tk := tk) l [] ts h3
    simp only [List.nil_append, List.length_nil] at h4
    unfold frsP
    rw [h4]

theorem told_none {l : List Pa} {tk ts : List Int} {e : Int × Int} (h : frsP l tk ≠ []) (h1 : TmA ((frsP l tk).map (·.2)) ts e) (h2 : e.1 ≠ 0) : StepR l tk none := ⟨none, .inr ⟨h, ts, e, h1, .inl ⟨h2, rfl⟩⟩, .inl ⟨rfl, rfl⟩⟩

/-- Those that go ahead of part i, as the document has them. -/
def taD (c t j : Int) : Ta := ⟨ByteArray.empty, c, t, 0, j, 0, 0⟩
def othD (i : Nat) (xi : Pa) (late : List Int) : List Pa → Nat → List Ta
  | [], _ => []
  | x :: r, k => (if k ≠ i ∧ x.co = xi.co ∧ xi.p ≤ x.p then [taD x.c x.t (late.getD k 0)] else []) ++ othD i xi late r (k + 1)

theorem othD_append {i : Nat} {xi : Pa} {late : List Int} : ∀ (a b : List Pa) (k : Nat), othD i xi late (a ++ b) k = othD i xi late a k ++ othD i xi late b (k + a.length)
  | [], b, k => by simp [othD]
  | x :: a, b, k => by rw [List.cons_append, othD, othD, othD_append a b (k + 1), List.append_assoc, List.length_cons, show k + 1 + a.length = k + (a.length + 1) by omega]
theorem othD_snoc {i : Nat} {xi : Pa} {late : List Int} {l : List Pa} {k : Nat} {x : Pa} (hx : l[k]? = some x) : othD i xi late (l.take (k + 1)) 0 = othD i xi late (l.take k) 0 ++ (if k ≠ i ∧ x.co = xi.co ∧ xi.p ≤ x.p then [taD x.c x.t (late.getD k 0)] else []) := by
  have hk := (List.getElem?_eq_some_iff.1 hx).1
  rw [List.take_add_one, hx, othD_append]
  simp only [Option.toList_some, List.length_take, Nat.min_eq_left (Nat.le_of_lt hk), Nat.zero_add, othD, List.append_nil]
theorem othD_len {i : Nat} {xi : Pa} {late : List Int} : ∀ (l : List Pa) (k : Nat), (othD i xi late l k).length ≤ l.length
  | [], _ => Nat.le_refl _
  | x :: r, k => by
    have := othD_len (i := i) (xi := xi) (late := late) r (k + 1)
    rw [othD, List.length_append, List.length_cons]
    split <;> simp <;> omega
theorem othD_sum {i : Nat} {xi : Pa} {late : List Int} {w : Int} : ∀ (l : List Pa) (k : Nat), sumO w (othD i xi late l k) = sumP i xi late w l k
  | [], _ => rfl
  | x :: r, k => by
    have ih := othD_sum (i := i) (xi := xi) (late := late) (w := w) r (k + 1)
    unfold othD sumP
    split
    · simp only [List.cons_append, List.nil_append, sumO, ih]
      rfl
    · simp only [List.nil_append, ih]
      omega
theorem othD_worst {l : List Pa} {late : List Int} {i : Nat} {x : Pa} : wOf (askF (x.c + 0) (othD i x late l 0)) (late.getD i 0) x.d = wPx l late i x := by
  unfold wPx
  congr 1
  funext w
  unfold askF
  rw [othD_sum, Int.add_zero]
theorem othD_mem {i : Nat} {xi : Pa} {late : List Int} : ∀ (l : List Pa) (k : Nat) (y : Ta), y ∈ othD i xi late l k → ∃ x ∈ l, ∃ q, y = taD x.c x.t (late.getD q 0)
  | [], _, y, h => by simp [othD] at h
  | x :: r, k, y, h => by
    rw [othD, List.mem_append] at h
    rcases h with h | h
    · split at h
      · exact ⟨x, List.mem_cons_self, k, List.mem_singleton.1 h⟩
      · simp at h
    · obtain ⟨z, h1, q, h2⟩ := othD_mem r (k + 1) y h
      exact ⟨z, List.mem_cons_of_mem _ h1, q, h2⟩
theorem othD_stands {i : Nat} {xi : Pa} {l : List Pa} {late : List Int} (hok : PsOk l) (hl : LtOk l late) : ∀ y ∈ othD i xi late l 0, stands { y with d := 1, o := 0, p := 0 } = true := fun y hy => by
  obtain ⟨x, hx, q, rfl⟩ := othD_mem l 0 y hy
  obtain ⟨j, hj⟩ := List.getElem?_of_mem hx
  obtain ⟨g1, g2, g3, g4, g5, g6, g7, -⟩ := hok.at_ j x hj
  have h9 := hl.2 q
  show stands ⟨ByteArray.empty, x.c, x.t, 1, late.getD q 0, 0, 0⟩ = true
  simp only [stands, within, Bool.and_eq_true, decide_eq_true_eq]
  omega
theorem own_stands {l : List Pa} {late : List Int} {i : Nat} {x : Pa} (hok : PsOk l) (hl : LtOk l late) (hx : l[i]? = some x) : stands ⟨ByteArray.empty, x.c, x.t, x.d, late.getD i 0, 0, 0⟩ = true := by
  obtain ⟨g1, g2, g3, g4, g5, g6, g7, -⟩ := hok.at_ i x hx
  have h9 := hl.2 i
  simp only [stands, within, Bool.and_eq_true, decide_eq_true_eq]
  omega

/-- A round of the document's. -/
theorem round_step {l : List Pa} {tk late nx : List Int} (hok : PsOk l) (ht : TkOk l tk) (hl : LatR l tk (some late)) (hn : nx.length = l.length) (h : ∀ (i : Nat) (x : Pa), l[i]? = some x → nx[i]? = some (wPx l late i x) ∧ wPx l late i x ≠ 0) : StepR l tk (some nx) :=
  ⟨some late, hl, .inr ⟨late, rfl, RsR.one (.inr ⟨nx, rfl, hn, h⟩) (respC_is hok (LatR.ok hok ht hl))⟩⟩
theorem round_none {l : List Pa} {tk late : List Int} {i : Nat} {x : Pa} (hok : PsOk l) (ht : TkOk l tk) (hl : LatR l tk (some late)) (hx : l[i]? = some x) (h : wPx l late i x = 0) : StepR l tk none :=
  ⟨some late, hl, .inr ⟨late, rfl, RsR.one (.inl ⟨rfl, i, x, hx, h⟩) (respC_is hok (LatR.ok hok ht hl))⟩⟩
theorem round_measure {l : List Pa} {tk td late nx : List Int} (hok : PsOk l) (hr : Rise l tk) (hl : LatR l tk (some late)) (hs : StepR l tk (some nx)) (hne : ¬ (nx = tk ∧ late = td)) : Rise l nx ∧ 2 * mz l nx + @ite Nat (LatR l nx (some late)) (Classical.propDecidable _) 0 1 < 2 * mz l tk + @ite Nat (LatR l tk (some td)) (Classical.propDecidable _) 0 1 := by
  by_cases e : nx = tk
  · subst e
    refine ⟨hr, ?_⟩
    have h1 : ¬ LatR l nx (some td) := fun h => by
      have h9 := hl.one h
      cases h9
      exact hne ⟨rfl, rfl⟩
    rw [if_pos hl, if_neg h1]
    omega
  · obtain ⟨h1, h2⟩ := hr.next hok hs e
    refine ⟨h1, ?_⟩
    split <;> split <;> omega
end Go.Proofs.YtccoobcggbbcialDoor
