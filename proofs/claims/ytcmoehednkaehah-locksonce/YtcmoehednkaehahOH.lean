import Derived.Test.YtcmoehednkaehahOG
namespace Go.Proofs.Ytcmoehednkaehah
open Go.ChangeShapes Go.WideShapes Go.ChangeAt Go.RowKit

/-- Those ahead of a place are turned. -/
def mid {α : Type} (f : α → α) (l : List α) (k : Nat) : List α := (l.take k).map f ++ l.drop k

theorem mid_zero {α : Type} (f : α → α) (l : List α) : mid f l 0 = l := by simp [mid]
theorem mid_all {α : Type} (f : α → α) (l : List α) : mid f l l.length = l.map f := by simp [mid]
theorem mid_at {α : Type} (f : α → α) {l : List α} {k : Nat} {e : α} (h : l[k]? = some e) : (mid f l k)[k]? = some e := by
  have hk := (List.getElem?_eq_some_iff.1 h).1
  unfold mid
  rw [List.getElem?_append_right (by simp; omega), List.length_map, List.length_take, Nat.min_eq_left (by omega), Nat.sub_self, List.getElem?_drop, Nat.add_zero, h]
theorem mid_set {α : Type} (f : α → α) {l : List α} {k : Nat} {e : α} (h : l[k]? = some e) : (mid f l k).set k (f e) = mid f l (k + 1) := by
  have hk := (List.getElem?_eq_some_iff.1 h).1
  have he := (List.getElem?_eq_some_iff.1 h).2
  unfold mid
  rw [List.set_append_right _ _ (by simp; omega), List.length_map, List.length_take, Nat.min_eq_left (by omega), Nat.sub_self, List.drop_eq_getElem_cons hk, List.set_cons_zero, List.take_add_one, List.getElem?_eq_getElem hk, he]
  simp
theorem mid_same {α : Type} (f : α → α) {l : List α} {k : Nat} {e : α} (h : l[k]? = some e) (hf : f e = e) : mid f l k = mid f l (k + 1) := by
  rw [← mid_set f h, hf]
  have hk := mid_at f h
  obtain ⟨h1, h2⟩ := List.getElem?_eq_some_iff.1 hk
  rw [← h2, List.set_getElem_self]
theorem mid_len {α : Type} (f : α → α) (l : List α) (k : Nat) : (mid f l k).length = l.length := by simp [mid]; omega

theorem at_lt {α : Type} {l : List α} {k n : Nat} (hl : l.length = n) (h : k < n) : ∃ e, l[k]? = some e := ⟨l[k]'(by omega), List.getElem?_eq_getElem (by omega)⟩

def unF (m : Int) (e : En) : En := if e.wt = m then { e with wt := -1 } else e

set_option maxRecDepth 20000 in
set_option maxHeartbeats 1000000 in
/-- A lock is given back. -/
theorem free_any (w0 w : World) (A : Ad) (pr : Int) (tp : List Int) (n : Nat) (rv : Value) (x : Rs) (h : RunW w0 w A pr tp n rv x) (m : Nat) (hm : m < 4) (hn : n ≤ 100) :
    Calls Try.prog 41 #[.pointer (some ⟨A.R, 0, none⟩), .int .i64 (m : Int)] w fun r w' => r = .returned (.tuple #[]) ∧ RunW w0 w' A pr tp n rv { x with hs := x.hs.set m (-1), es := x.es.map (unF m) } := by
  have hmi : (m : Int) < 4 := by omega
  have hfr := h.frz.1 (7 + m)
  obtain ⟨z, hz⟩ := at_lt h.ln.2.2.2.1 hm
  have hc := h.hold hz
  have h2 := h.setH m (-1)
  obtain ⟨-, -, -, c4, -, -⟩ := h.own
  have hlt := h.lts.1
  have H2 : Hid (RunW w0 (w.setCell ⟨A.R, 7 + m, none⟩ (.int .i64 (-1))) A pr tp n rv { x with hs := x.hs.set m (-1) } ∧ x.es.length = n) := ⟨h2, h.ln.1⟩
  clear h2 h hz hm
  go_enter Try.func41, Try.ntmps41
  go_wp2_with fail
  go_loopw [15] (fun i wr => ∃ k : Nat, k ≤ n ∧ i = .int .i64 k ∧ RunW w0 wr A pr tp n rv { x with hs := x.hs.set m (-1), es := mid (unF m) x.es k }) (fun i _ => n - (intOf i).toNat)
  case atStart => exact ⟨0, Nat.zero_le _, rfl, by rw [mid_zero]; exact H2.out.1⟩
  case round =>
    obtain ⟨k, hk, rfl, hr⟩ := hrel
    by_cases hlt' : k < n
    · obtain ⟨e, he⟩ := at_lt H2.out.2 hlt'
      have hj := hr.job (mid_at (unF m) he)
      obtain ⟨-, -, -, -, -, -, j6, -⟩ := hj
      obtain ⟨-, -, -, d4, -, -⟩ := hr.own
      have hf6 := hr.frz.2.1 (k * 8 + 6)
      have hki : (k : Int) < (n : Int) := by omega
      obtain ⟨-, lJ, -⟩ := hr.lts
      by_cases hw : e.wt = m
      · have hs := hr.setJ (k := 6) (u := .int .i64 (-1)) (e' := unF m e) (mid_at (unF m) he) (by omega) (by unfold unF; rw [if_pos hw]; rfl)
        dsimp only at hs
        rw [mid_set (unF m) he] at hs
        rw [hw] at j6
        have HS : Hid (RunW w0 (wr.setCell ⟨A.J, k * 8 + 6, none⟩ (.int .i64 (-1))) A pr tp n rv { x with hs := x.hs.set m (-1), es := mid (unF m) x.es (k + 1) }) := hs
        clear hs hr he hw
        go_wp2_with fail
        exact ⟨⟨k + 1, by omega, by simp, HS.out⟩, by simp [intOf]; omega⟩
      · have hw' : (e.wt == (m : Int)) = false := by simpa using hw
        have HS : Hid (RunW w0 wr A pr tp n rv { x with hs := x.hs.set m (-1), es := mid (unF m) x.es (k + 1) }) := by
          rw [mid_same (unF m) he (by unfold unF; rw [if_neg hw])] at hr
          exact hr
        clear hr he hw
        go_wp2_with fail
        exact ⟨⟨k + 1, by omega, by simp, HS.out⟩, by simp [intOf]; omega⟩
    · have hke : k = n := by omega
      subst hke
      have HE : Hid (RunW w0 wr A pr tp k rv { x with hs := x.hs.set m (-1), es := x.es.map (unF m) }) := by
        have e := H2.out.2
        rw [← mid_all, e]
        exact hr
      clear hr
      go_wp2_with fail
      go_end0
      exact ⟨rfl, HE.out⟩
end Go.Proofs.Ytcmoehednkaehah
