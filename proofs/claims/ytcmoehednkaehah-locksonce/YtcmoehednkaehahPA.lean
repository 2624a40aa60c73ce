import Derived.Test.YtcmoehednkaehahOX
import Derived.Test.YtcmoehednkaehahLK
namespace Go.Proofs.Ytcmoehednkaehah
open Go.ChangeShapes Go.WideShapes Go.ChangeAt Go.RowKit

def raiseF (pr : Int) (tp : List Int) (x : Rs) : Rs := if pr = 3 then { x with es := upAll x.hs tp (x.es.map loF) } else { x with es := x.es.map loF }
def okH (n : Nat) (hs : List Int) : Bool := hs.all fun z => decide (z = -1) || (decide (0 ≤ z) && decide (z < (n : Int)))
def beginF (pr : Int) (tp : List Int) (n : Nat) : Nat → Rs → Int → Option (Int × Rs)
  | 0, _, _ => none
  | k + 1, x, now => if okH n x.hs = true then (if foreF (raiseF pr tp x) now n = -1 then some (-1, raiseF pr tp x) else match actF (raiseF pr tp x) (foreF (raiseF pr tp x) now n).toNat now with
    | none => none
    | some (true, z) => some (foreF (raiseF pr tp x) now n, z)
    | some (false, z) => beginF pr tp n k z now) else none

theorem raise_exact (pr : Int) (hpr : pr = 3 ∨ pr = 1) (w0 w : World) (A : Ad) (tp : List Int) (n : Nat) (rv : Value) (x : Rs) (h : RunW w0 w A pr tp n rv x) (hn : n ≤ 100) (hh : okH n x.hs = true) :
    Calls Try.prog 39 #[.pointer (some ⟨A.R, 0, none⟩)] w fun r w' => r = .returned (.tuple #[]) ∧ RunW w0 w' A pr tp n rv (raiseF pr tp x) := by
  rcases hpr with rfl | rfl
  · refine raise_any w0 w A tp n rv x h hn (fun z hz => ?_)
    unfold okH at hh
    rw [List.all_eq_true] at hh
    have := hh z hz
    simp at this
    exact this
  · exact raise_plain w0 w A tp n rv x h hn

theorem raiseF_x (pr : Int) (tp : List Int) (x : Rs) : (raiseF pr tp x).es.map En.x = x.es.map En.x := by
  have h2 : ∀ es : List En, (es.map loF).map En.x = es.map En.x := fun es => by rw [List.map_map]; rfl
  have h1 : ∀ (hs q : List Int) (es : List En), (upAll hs q es).map En.x = es.map En.x := fun hs q es => by
    have := congrArg (List.map En.x) (nac_up hs q es)
    rw [List.map_map, List.map_map] at this
    exact this
  unfold raiseF
  split
  · exact (h1 _ _ _).trans (h2 _)
  · exact h2 _

set_option maxRecDepth 20000 in
set_option maxHeartbeats 2000000 in
theorem begin_exact {l : List Lj} (hlen : ∀ y ∈ l, y.acts.length ≤ 200) (pr : Int) (hpr : pr = 3 ∨ pr = 1) (w0 w : World) (A : Ad) (tp : List Int) (rv : Value) (x : Rs) (hr : RunW w0 w A pr tp l.length rv x) (hrow : ∀ y ∈ l, RowSl Ac.vals w0 y.acts y.v) (hn : l.length ≤ 100) (hle : x.es.map En.x = l) (now : Nat) (hnow : now ≤ 20000) (k : Nat) (f : Int) (x' : Rs) (h : beginF pr tp l.length k x now = some (f, x')) :
    Calls Try.prog 30 #[.pointer (some ⟨A.R, 0, none⟩), .int .i64 (now : Int)] w fun r w' => r = .returned (.int .i64 f) ∧ RunW w0 w' A pr tp l.length rv x' ∧ x'.es.map En.x = l := by
  have H0 : Hid (RunW w0 w A pr tp l.length rv x ∧ x.es.map En.x = l ∧ beginF pr tp l.length k x now = some (f, x')) := ⟨hr, hle, h⟩
  have HA : Hid ((∀ y ∈ l, RowSl Ac.vals w0 y.acts y.v) ∧ (∀ y ∈ l, y.acts.length ≤ 200) ∧ (pr = 3 ∨ pr = 1)) := ⟨hrow, hlen, hpr⟩
  clear hr hrow hlen hpr hle h
  go_enter Try.func30, Try.ntmps30
  go_wp2_with fail
  go_loopg [] k (fun q wr => ∃ x1, RunW w0 wr A pr tp l.length rv x1 ∧ x1.es.map En.x = l ∧ beginF pr tp l.length q x1 now = some (f, x'))
  case atStart => exact ⟨x, H0.out⟩
  case round =>
    obtain ⟨x1, hr1, hx1, hb1⟩ := hrel
    cases gk with
    | zero => cases hb1
    | succ q =>
      rw [beginF] at hb1
      by_cases hok : okH l.length x1.hs = true
      · rw [if_pos hok] at hb1
        have HF := foremost_any w0 wr A pr tp l.length rv _ now hn (raise_exact pr HA.out.2.2 w0 wr A tp l.length rv x1 hr1 hn hok)
        have hyx : (raiseF pr tp x1).es.map En.x = l := (raiseF_x pr tp x1).trans hx1
        generalize raiseF pr tp x1 = y at HF hb1 hyx
        have HG : Hid ((if foreF y now l.length = -1 then some (-1, y) else match actF y (foreF y now l.length).toNat now with
          | none => none
          | some (true, z) => some (foreF y now l.length, z)
          | some (false, z) => beginF pr tp l.length q z now) = some (f, x') ∧ y.es.map En.x = l) := ⟨hb1, hyx⟩
        clear hr1 hx1 hb1 hok hyx
        go_wp2_with (go_at_call 34; refine HF.mono ?_; rintro r w1 ⟨g, rfl, hbe, hw⟩; have HB : Hid (g = foreF y now l.length ∧ RunW w0 w1 A pr tp l.length rv y) := ⟨hbe.one (foreF_best y now l.length (Nat.le_of_eq hw.ln.1.symm) (Nat.le_of_eq hw.ln.2.1.symm)), hw⟩; clear hbe hw HF)
        · have hg : g = -1 := by assumption
          subst hg
          obtain ⟨h1, h2⟩ := HG.out
          rw [← HB.out.1, if_pos rfl] at h1
          cases h1
          go_ret
          exact ⟨rfl, HB.out.2, h2⟩
        · have hg : ¬ g = -1 := by assumption
          obtain ⟨h1, h2⟩ := HG.out
          rw [← HB.out.1, if_neg hg] at h1
          obtain ⟨i, rfl⟩ : ∃ i : Nat, g = (i : Int) := by
            have hbe := foreF_best y now l.length (Nat.le_of_eq HB.out.2.ln.1.symm) (Nat.le_of_eq HB.out.2.ln.2.1.symm)
            rw [← HB.out.1] at hbe
            rcases hbe with ⟨h, -⟩ | ⟨i, -, h, -⟩
            · exact absurd h hg
            · exact ⟨i, h⟩
          rw [Int.toNat_natCast] at h1
          cases ha : actF y i now with
          | none => rw [ha] at h1; cases h1
          | some bz =>
            obtain ⟨b, z⟩ := bz
            rw [ha] at h1
            have HAct := act_exact HA.out.2.1 w0 w1 A pr tp rv y z HB.out.2 HA.out.1 hn h2 now hnow i b ha
            have hzx := (actF_x ha).trans h2
            cases b
            · have HZ : Hid (beginF pr tp l.length q z now = some (f, x') ∧ z.es.map En.x = l) := ⟨h1, hzx⟩
              clear h1 h2 hzx ha
              go_wp2_with (go_at_call 35; refine HAct.mono ?_; rintro r w2 ⟨rfl, hw2⟩; have H2 : Hid (RunW w0 w2 A pr tp l.length rv z) := hw2; clear hw2 HAct)
              go_roundg q
              case measure => omega
              case rel => exact ⟨z, H2.out, HZ.out.2, HZ.out.1⟩
            · have HZ : Hid (some ((i : Int), z) = some (f, x') ∧ z.es.map En.x = l) := ⟨h1, hzx⟩
              clear h1 h2 hzx ha
              go_wp2_with (go_at_call 35; refine HAct.mono ?_; rintro r w2 ⟨rfl, hw2⟩; have H2 : Hid (RunW w0 w2 A pr tp l.length rv z) := hw2; clear hw2 HAct)
              go_ret
              obtain ⟨h1, h2⟩ := HZ.out
              cases h1
              exact ⟨rfl, H2.out, h2⟩
      · rw [if_neg hok] at hb1
        cases hb1

def playF (pr : Int) (l : List Lj) : Nat → Option (List Int × Rs)
  | 0 => some ([], x0 l)
  | k + 1 => match playF pr l k with
    | none => none
    | some (runs, x) => match beginF pr (topsF l) l.length 50 x k with
      | none => none
      | some (f, z) => if (z.ws.all fun q => decide (0 ≤ q) && decide (q ≤ 100000)) = true then some (runs ++ [f], { z with ws := bumpF z.es z.ws }) else none

theorem play_tick {l : List Lj} (hlen : ∀ y ∈ l, y.acts.length ≤ 200) (hn : l.length ≤ 100) (pr : Int) (hpr : pr = 3 ∨ pr = 1) (U : Nat) (hU : U ≤ 20000) (hs : ∀ k, k ≤ U → (playF pr l k).isSome = true) :
    ∀ (w0 w' : World) (A : Ad) (B now : Nat) (runs : List Int), (∀ y ∈ l, RowSl Ac.vals w0 y.acts y.v) → now < U → runs.length = now → TI (fun now runs x => playF pr l now = some (runs, x) ∧ x.es.map En.x = l) pr (topsF l) l.length w0 w' A B now runs → Calls Try.prog 22 #[.pointer (some ⟨A.R, 0, none⟩), .int .i64 (now : Int)] w' fun r w'' => r = .returned (.tuple #[]) ∧ ∃ f, TI (fun now runs x => playF pr l now = some (runs, x) ∧ x.es.map En.x = l) pr (topsF l) l.length w0 w'' A B (now + 1) (runs ++ [f]) := by
  intro w0 w' A B now runs hrow hlt hrl hti
  have hsome := hs (now + 1) (by omega)
  refine tick_gen _ (fun f z => ∃ x, playF pr l now = some (runs, x) ∧ beginF pr (topsF l) l.length 50 x now = some (f, z) ∧ z.es.map En.x = l) pr (topsF l) l.length w0 w' A B now runs hn (by omega) hti ?_ ?_
  · rintro A' w2 rv x hr ⟨hp, hx⟩
    rw [playF, hp] at hsome
    dsimp only at hsome
    cases hb : beginF pr (topsF l) l.length 50 x now with
    | none => rw [hb] at hsome; cases hsome
    | some fz =>
      obtain ⟨f, z⟩ := fz
      refine (begin_exact hlen pr hpr w0 w2 A' (topsF l) rv x hr hrow hn hx now (by omega) 50 f z hb).mono ?_
      rintro r w3 ⟨rfl, h1, h2⟩
      exact ⟨f, z, rfl, h1, x, hp, hb, h2⟩
  · rintro f z ⟨x, hp, hb, hx⟩
    rw [playF, hp] at hsome
    dsimp only at hsome
    rw [hb] at hsome
    dsimp only at hsome
    by_cases hw : (z.ws.all fun q => decide (0 ≤ q) && decide (q ≤ 100000)) = true
    · refine ⟨fun q hq => ?_, ?_, hx⟩
      · rw [List.all_eq_true] at hw
        have := hw q hq
        simpa using this
      · rw [playF, hp]
        dsimp only
        rw [hb]
        dsimp only
        rw [if_pos hw]
    · rw [if_neg hw] at hsome
      cases hsome

theorem chk_pair (v0 v1 : Value) : chkLk (pairL v0 v1) = (0, 0) := by kernel_rfl

def outF (U : Int) (q : List Int × Rs) : List Int × List Int × List Int × Bool := (q.1, q.2.en, q.2.ws, stuckF U q.2.es q.2.en false)
theorem pair3 (v0 v1 : Value) : (playF 3 (pairL v0 v1) 6).map (outF 6) = some ([0, 0, 0, 0, 1, -1], [4, 5], [0, 0], false) := by kernel_rfl
theorem pair1 (v0 v1 : Value) : ((playF 1 (pairL v0 v1) 6).map (outF 6)).map (fun q => q.2.2.1) = some [0, 2] := by kernel_rfl
theorem some3 (v0 v1 : Value) : (List.range 7).all (fun k => (playF 3 (pairL v0 v1) k).isSome) = true := by kernel_rfl
theorem some1 (v0 v1 : Value) : (List.range 7).all (fun k => (playF 1 (pairL v0 v1) k).isSome) = true := by kernel_rfl
end Go.Proofs.Ytcmoehednkaehah
