import Derived.Test.YtcmoehednkaehahGOW
import Derived.Test.YtcmoehednkaehahGLX
import Derived.BigQuiet
namespace Go.Proofs.Ytcmoehednkaehah
open Go.ChangeShapes Go.WideShapes Go.ChangeAt Go.RowKit

/- The run, step by step, as numbers. -/
def foreF (x : Rs) (now : Int) : Nat → Int
  | 0 => -1
  | k + 1 => match x.es[k]?, x.en[k]? with
    | some e, some d => if now < e.x.a then foreF x now k else if d ≠ -1 then foreF x now k else if e.wt ≠ -1 then foreF x now k else if foreF x now k = -1 then (k : Int) else match x.es[(foreF x now k).toNat]? with
      | some g => if or3 (cmpI g.ac e.ac) (ltr e.bg - ltr g.bg) (cmpI e.x.a g.x.a) < 0 then (k : Int) else foreF x now k
      | none => foreF x now k
    | _, _ => foreF x now k

theorem foreF_best (x : Rs) (now : Int) : ∀ k, k ≤ x.es.length → k ≤ x.en.length → Best x now k (foreF x now k)
  | 0, _, _ => Best.zero _ _
  | k + 1, h1, h2 => by
    have ih := foreF_best x now k (by omega) (by omega)
    obtain ⟨e, he⟩ := at_lt (l := x.es) rfl (show k < x.es.length by omega)
    obtain ⟨d, hd⟩ := at_lt (l := x.en) rfl (show k < x.en.length by omega)
    rw [foreF, he, hd]
    dsimp only
    by_cases ha : now < e.x.a
    · rw [if_pos ha]
      exact ih.skip (by rintro ⟨e', h1, -, h2, -⟩; rw [he] at h1; cases h1; omega)
    · rw [if_neg ha]
      by_cases hdn : d ≠ -1
      · rw [if_pos hdn]
        exact ih.skip (by rintro ⟨e', -, h1, -⟩; rw [hd] at h1; cases h1; exact hdn rfl)
      · rw [if_neg hdn]
        by_cases hw : e.wt ≠ -1
        · rw [if_pos hw]
          exact ih.skip (by rintro ⟨e', h1, -, -, h2⟩; rw [he] at h1; cases h1; exact hw h2)
        · rw [if_neg hw]
          have hdn' : d = -1 := Classical.byContradiction hdn
          subst hdn'
          have hel : Elig x now k := ⟨e, he, hd, by omega, Classical.byContradiction hw⟩
          by_cases hz : foreF x now k = -1
          · rw [if_pos hz]
            rw [hz] at ih
            exact ih.first hel
          · rw [if_neg hz]
            obtain ⟨i, hik, hi⟩ : ∃ i : Nat, i < k ∧ foreF x now k = i := by
              rcases ih with ⟨h, -⟩ | ⟨i, h1, h2, -⟩
              · exact absurd h hz
              · exact ⟨i, h1, h2⟩
            rw [hi] at ih ⊢
            rw [Int.toNat_natCast]
            obtain ⟨g, hg⟩ := at_lt (l := x.es) rfl (show i < x.es.length by omega)
            rw [hg]
            dsimp only
            by_cases hq : or3 (cmpI g.ac e.ac) (ltr e.bg - ltr g.bg) (cmpI e.x.a g.x.a) < 0
            · rw [if_pos hq]
              refine ih.win hel ?_
              intro e1 g1 h1 h2
              rw [he] at h1; rw [hg] at h2; cases h1; cases h2
              rw [or3_lt] at hq
              unfold bf; omega
            · rw [if_neg hq]
              refine ih.keep ?_
              intro g1 e1 h2 h1
              rw [he] at h1; rw [hg] at h2; cases h1; cases h2
              rw [or3_lt] at hq
              unfold bf; omega

theorem Best.one {x : Rs} {now : Int} {k : Nat} {f g : Int} (h : Best x now k f) (h' : Best x now k g) : f = g := by
  rcases h with ⟨rfl, h⟩ | ⟨i, h1, rfl, h2, h3⟩
  · rcases h' with ⟨rfl, -⟩ | ⟨j, j1, -, j2, -⟩
    · rfl
    · exact absurd j2 (h j j1)
  · rcases h' with ⟨-, h'⟩ | ⟨j, j1, rfl, j2, j3⟩
    · exact absurd h2 (h' i h1)
    · by_cases e : i = j
      · rw [e]
      · exfalso
        obtain ⟨a, ha, -⟩ := id h2
        obtain ⟨b, hb, -⟩ := id j2
        have q1 := h3 j j1 (Ne.symm e) j2 a b ha hb
        have q2 := j3 i h1 e h2 b a hb ha
        unfold bf at q1 q2
        omega

def actF (x : Rs) (i : Nat) (now : Int) : Option (Bool × Rs) := match x.es[i]? with
  | none => none
  | some e => if e.x.acts.length = 0 then some (false, { x with es := x.es.set i (begF e), en := x.en.set i now }) else match e.x.acts[e.nx]? with
    | none => none
    | some a => if a.d = 1 then (if 0 ≤ e.rn then (if a.n ≤ 1000 then (if e.rn + 1 = a.n then some (true, endF { x with es := x.es.set i { e with bg := true, rn := e.rn + 1 } } i { e with bg := true, rn := e.rn + 1 } (now + 1)) else if e.rn + 1 < a.n then some (true, { x with es := x.es.set i { e with bg := true, rn := e.rn + 1 } }) else none) else none) else none)
      else if 0 ≤ a.n then (if a.n < 4 then (if a.d = 2 then (match x.hs[a.n.toNat]? with
          | none => none
          | some z => if z = -1 then some (false, endF { x with hs := x.hs.set a.n.toNat i, es := x.es.set i (begF e) } i (begF e) now) else some (false, { x with es := x.es.set i { e with bg := true, wt := a.n } }))
        else if a.d = 3 then some (false, endF { x with hs := x.hs.set a.n.toNat (-1), es := (x.es.set i (begF e)).map (unF a.n) } i (unF a.n (begF e)) now) else none) else none) else none

theorem act_exact {l : List Lj} (hacts : ∀ y ∈ l, y.acts.length ≤ 200) (w0 w : World) (A : Ad) (pr : Int) (tp : List Int) (rv : Value) (x x' : Rs) (hr : RunW w0 w A pr tp l.length rv x) (hrow : ∀ y ∈ l, RowSl Ac.vals w0 y.acts y.v) (hn : l.length ≤ 100) (hle : x.es.map En.x = l) (now : Nat) (hnow : now ≤ 20000) (i : Nat) (b : Bool) (h : actF x i now = some (b, x')) :
    Calls Try.prog 35 #[.pointer (some ⟨A.R, 0, none⟩), .int .i64 (i : Int), .int .i64 (now : Int)] w fun r w' => r = .returned (.bool b) ∧ RunW w0 w' A pr tp l.length rv x' := by
  unfold actF at h
  cases he : x.es[i]? with
  | none => rw [he] at h; cases h
  | some e =>
    rw [he] at h
    dsimp only at h
    have hjob : l[i]? = some e.x := by rw [← hle, List.getElem?_map, he]; rfl
    have hmem := List.mem_of_getElem? hjob
    have hro := hrow _ hmem
    have hlen := hacts _ hmem
    split at h
    · rename_i h0
      cases h
      obtain ⟨ad, c, hv⟩ := hro.len
      rw [h0] at hv
      exact act_none w0 w A pr tp l.length rv x hr i e now he ad c hv
    · split at h
      · cases h
      · rename_i a ha
        obtain ⟨d, an⟩ := a
        dsimp only at h
        split at h
        · rename_i hd
          subst hd
          split at h
          · rename_i r0
            split at h
            · rename_i h2
              split at h
              · rename_i hm
                cases h
                exact act_worked w0 w A pr tp l.length rv x hr hn i e now he hro hlen an ha hm h2 r0 (by omega) (by omega)
              · split at h
                · rename_i r1
                  cases h
                  exact act_work w0 w A pr tp l.length rv x hr hn i e now he hro hlen an ha r0 r1 h2
                · cases h
            · cases h
          · cases h
        · split at h
          · rename_i h0
            split at h
            · rename_i h4
              obtain ⟨m, rfl⟩ : ∃ m : Nat, an = (m : Int) := ⟨an.toNat, by omega⟩
              have hm : m < 4 := by omega
              rw [Int.toNat_natCast] at h
              split at h
              · rename_i hd
                subst hd
                split at h
                · cases h
                · rename_i z hz
                  split at h
                  · rename_i hz1
                    subst hz1
                    cases h
                    exact act_take w0 w A pr tp l.length rv x hr hn i e now he hro hlen m ha hm hz
                  · rename_i hz1
                    cases h
                    exact act_wait w0 w A pr tp l.length rv x hr hn i e now he hro hlen m ha hm z hz hz1
              · split at h
                · rename_i hd
                  subst hd
                  cases h
                  exact act_give w0 w A pr tp l.length rv x hr hn i e now he hro hlen m ha hm
                · cases h
            · cases h
          · cases h

theorem set_x {es : List En} {i : Nat} {e e' : En} (he : es[i]? = some e) (hx : e'.x = e.x) : (es.set i e').map En.x = es.map En.x := by
  rw [List.map_set, hx, set_same (by rw [List.getElem?_map, he]; rfl)]
theorem end_x {x : Rs} {i : Nat} {e e' : En} {now : Int} (he : x.es[i]? = some e) (hx : e'.x = e.x) : (endF x i e' now).es.map En.x = x.es.map En.x := set_x (e := e) he hx
theorem un_x (m : Int) (es : List En) : (es.map (unF m)).map En.x = es.map En.x := by
  rw [List.map_map]
  exact List.map_congr_left (fun e _ => unF_x m e)

theorem actF_x {x x' : Rs} {i : Nat} {now : Int} {b : Bool} (h : actF x i now = some (b, x')) : x'.es.map En.x = x.es.map En.x := by
  unfold actF at h
  cases he : x.es[i]? with
  | none => rw [he] at h; cases h
  | some e =>
    rw [he] at h
    dsimp only at h
    have hl := (List.getElem?_eq_some_iff.1 he).1
    have hs : ∀ e' : En, (x.es.set i e')[i]? = some e' := fun e' => List.getElem?_set_self hl
    (repeat' split at h) <;> first | (cases h; done) | skip
    all_goals first | cases h | skip
    all_goals first | exact set_x he rfl | (rw [end_x (hs _) rfl]; exact set_x he rfl) | (rw [end_x (e := unF _ (begF e)) (by rw [List.getElem?_map, hs]; rfl) rfl]; rw [un_x]; exact set_x he rfl)

end Go.Proofs.Ytcmoehednkaehah
namespace Go.Proofs.Ytcmoehednkaehah
open Go.ChangeShapes Go.WideShapes Go.ChangeAt Go.RowKit

def raiseF (pr : Int) (tp : List Int) (x : Rs) : Rs := if pr = 3 then { x with es := upAll x.hs tp (x.es.map loF) } else { x with es := x.es.map loF }
def okH (n : Nat) (hs : List Int) : Bool := hs.all fun z => decide (z = -1) || (decide (0 ≤ z) && decide (z < (n : Int)))
def beginF (pr : Int) (tp : List Int) (n : Nat) : Nat → Rs → Int → Option (Int × Rs)
  | 0, _, _ => none
  | k + 1, x, now => if okH n x.hs = true then (if foreF (raiseF pr tp x) now n = -1 then some (-1, raiseF pr tp x) else match actF (raiseF pr tp x) (foreF (raiseF pr tp x) now n).toNat now with
    | none => none
    | some (true, z) => some (foreF (raiseF pr tp x) now n, z)
    | some (false, z) => beginF pr tp n k z now) else none

theorem raise_exact (pr : Int) (hpr : pr = 3 ∨ pr = 1) (w0 w : World) (A : Ad) (tp : List Int) (n : Nat) (rv : Value) (x : Rs) (h : RunW w0 w A pr tp n rv x) (hn : n ≤ 100) (hh : okH n x.hs = true) :
    Calls Try.prog 39 #[.pointer (some ⟨A.R, 0, none⟩)] w fun r w' => r = .returned (.tuple #[]) ∧ RunW w0 w' A pr tp n rv (raiseF pr tp x) := by
  rcases hpr with rfl | rfl
  · refine raise_any w0 w A tp n rv x h hn (fun z hz => ?_)
    unfold okH at hh
    rw [List.all_eq_true] at hh
    have := hh z hz
    simp at this
    exact this
  · exact raise_plain w0 w A tp n rv x h hn

theorem raiseF_x (pr : Int) (tp : List Int) (x : Rs) : (raiseF pr tp x).es.map En.x = x.es.map En.x := by
  have h2 : ∀ es : List En, (es.map loF).map En.x = es.map En.x := fun es => by rw [List.map_map]; rfl
  have h1 : ∀ (hs q : List Int) (es : List En), (upAll hs q es).map En.x = es.map En.x := fun hs q es => by
    have := congrArg (List.map En.x) (nac_up hs q es)
    rw [List.map_map, List.map_map] at this
    exact this
  unfold raiseF
  split
  · exact (h1 _ _ _).trans (h2 _)
  · exact h2 _

set_option maxRecDepth 20000 in
set_option maxHeartbeats 2000000 in
theorem begin_exact {l : List Lj} (hlen : ∀ y ∈ l, y.acts.length ≤ 200) (pr : Int) (hpr : pr = 3 ∨ pr = 1) (w0 w : World) (A : Ad) (tp : List Int) (rv : Value) (x : Rs) (hr : RunW w0 w A pr tp l.length rv x) (hrow : ∀ y ∈ l, RowSl Ac.vals w0 y.acts y.v) (hn : l.length ≤ 100) (hle : x.es.map En.x = l) (now : Nat) (hnow : now ≤ 20000) (k : Nat) (f : Int) (x' : Rs) (h : beginF pr tp l.length k x now = some (f, x')) :
    Calls Try.prog 30 #[.pointer (some ⟨A.R, 0, none⟩), .int .i64 (now : Int)] w fun r w' => r = .returned (.int .i64 f) ∧ RunW w0 w' A pr tp l.length rv x' ∧ x'.es.map En.x = l := by
  have H0 : Hid (RunW w0 w A pr tp l.length rv x ∧ x.es.map En.x = l ∧ beginF pr tp l.length k x now = some (f, x')) := ⟨hr, hle, h⟩
  have HA : Hid ((∀ y ∈ l, RowSl Ac.vals w0 y.acts y.v) ∧ (∀ y ∈ l, y.acts.length ≤ 200) ∧ (pr = 3 ∨ pr = 1)) := ⟨hrow, hlen, hpr⟩
  clear hr hrow hlen hpr hle h
  go_enter Try.func30, Try.ntmps30
  go_wp2_with fail
  go_loopg [] k (fun q wr => ∃ x1, RunW w0 wr A pr tp l.length rv x1 ∧ x1.es.map En.x = l ∧ beginF pr tp l.length q x1 now = some (f, x'))
  case atStart => exact ⟨x, H0.out⟩
  case round =>
    obtain ⟨x1, hr1, hx1, hb1⟩ := hrel
    cases gk with
    | zero => cases hb1
    | succ q =>
      rw [beginF] at hb1
      by_cases hok : okH l.length x1.hs = true
      · rw [if_pos hok] at hb1
        have HF := foremost_any w0 wr A pr tp l.length rv _ now hn (raise_exact pr HA.out.2.2 w0 wr A tp l.length rv x1 hr1 hn hok)
        have hyx : (raiseF pr tp x1).es.map En.x = l := (raiseF_x pr tp x1).trans hx1
        generalize raiseF pr tp x1 = y at HF hb1 hyx
        have HG : Hid ((if foreF y now l.length = -1 then some (-1, y) else match actF y (foreF y now l.length).toNat now with
          | none => none
          | some (true, z) => some (foreF y now l.length, z)
          | some (false, z) => beginF pr tp l.length q z now) = some (f, x') ∧ y.es.map En.x = l) := ⟨hb1, hyx⟩
        clear hr1 hx1 hb1 hok hyx
        go_wp2_with (go_at_call 34; refine HF.mono ?_; rintro r w1 ⟨g, rfl, hbe, hw⟩; have HB : Hid (g = foreF y now l.length ∧ RunW w0 w1 A pr tp l.length rv y) := ⟨hbe.one (foreF_best y now l.length (Nat.le_of_eq hw.ln.1.symm) (Nat.le_of_eq hw.ln.2.1.symm)), hw⟩; clear hbe hw HF)
        · have hg : g = -1 := by assumption
          subst hg
          obtain ⟨h1, h2⟩ := HG.out
          rw [← HB.out.1, if_pos rfl] at h1
          cases h1
          go_ret
          exact ⟨rfl, HB.out.2, h2⟩
        · have hg : ¬ g = -1 := by assumption
          obtain ⟨h1, h2⟩ := HG.out
          rw [← HB.out.1, if_neg hg] at h1
          obtain ⟨i, rfl⟩ : ∃ i : Nat, g = (i : Int) := by
            have hbe := foreF_best y now l.length (Nat.le_of_eq HB.out.2.ln.1.symm) (Nat.le_of_eq HB.out.2.ln.2.1.symm)
            rw [← HB.out.1] at hbe
            rcases hbe with ⟨h, -⟩ | ⟨i, -, h, -⟩
            · exact absurd h hg
            · exact ⟨i, h⟩
          rw [Int.toNat_natCast] at h1
          cases ha : actF y i now with
          | none => rw [ha] at h1; cases h1
          | some bz =>
            obtain ⟨b, z⟩ := bz
            rw [ha] at h1
            have HAct := act_exact HA.out.2.1 w0 w1 A pr tp rv y z HB.out.2 HA.out.1 hn h2 now hnow i b ha
            have hzx := (actF_x ha).trans h2
            cases b
            · have HZ : Hid (beginF pr tp l.length q z now = some (f, x') ∧ z.es.map En.x = l) := ⟨h1, hzx⟩
              clear h1 h2 hzx ha
              go_wp2_with (go_at_call 35; refine HAct.mono ?_; rintro r w2 ⟨rfl, hw2⟩; have H2 : Hid (RunW w0 w2 A pr tp l.length rv z) := hw2; clear hw2 HAct)
              go_roundg q
              case measure => omega
              case rel => exact ⟨z, H2.out, HZ.out.2, HZ.out.1⟩
            · have HZ : Hid (some ((i : Int), z) = some (f, x') ∧ z.es.map En.x = l) := ⟨h1, hzx⟩
              clear h1 h2 hzx ha
              go_wp2_with (go_at_call 35; refine HAct.mono ?_; rintro r w2 ⟨rfl, hw2⟩; have H2 : Hid (RunW w0 w2 A pr tp l.length rv z) := hw2; clear hw2 HAct)
              go_ret
              obtain ⟨h1, h2⟩ := HZ.out
              cases h1
              exact ⟨rfl, H2.out, h2⟩
      · rw [if_neg hok] at hb1
        cases hb1

def playF (pr : Int) (l : List Lj) : Nat → Option (List Int × Rs)
  | 0 => some ([], x0 l)
  | k + 1 => match playF pr l k with
    | none => none
    | some (runs, x) => match beginF pr (topsF l) l.length 50 x k with
      | none => none
      | some (f, z) => if (z.ws.all fun q => decide (0 ≤ q) && decide (q ≤ 100000)) = true then some (runs ++ [f], { z with ws := bumpF z.es z.ws }) else none

theorem play_tick {l : List Lj} (hlen : ∀ y ∈ l, y.acts.length ≤ 200) (hn : l.length ≤ 100) (pr : Int) (hpr : pr = 3 ∨ pr = 1) (U : Nat) (hU : U ≤ 20000) (hs : ∀ k, k ≤ U → (playF pr l k).isSome = true) :
    ∀ (w0 w' : World) (A : Ad) (B now : Nat) (runs : List Int), (∀ y ∈ l, RowSl Ac.vals w0 y.acts y.v) → now < U → runs.length = now → TI (fun now runs x => playF pr l now = some (runs, x) ∧ x.es.map En.x = l) pr (topsF l) l.length w0 w' A B now runs → Calls Try.prog 22 #[.pointer (some ⟨A.R, 0, none⟩), .int .i64 (now : Int)] w' fun r w'' => r = .returned (.tuple #[]) ∧ ∃ f, TI (fun now runs x => playF pr l now = some (runs, x) ∧ x.es.map En.x = l) pr (topsF l) l.length w0 w'' A B (now + 1) (runs ++ [f]) := by
  intro w0 w' A B now runs hrow hlt hrl hti
  have hsome := hs (now + 1) (by omega)
  refine tick_gen _ (fun f z => ∃ x, playF pr l now = some (runs, x) ∧ beginF pr (topsF l) l.length 50 x now = some (f, z) ∧ z.es.map En.x = l) pr (topsF l) l.length w0 w' A B now runs hn (by omega) hti ?_ ?_
  · rintro A' w2 rv x hr ⟨hp, hx⟩
    rw [playF, hp] at hsome
    dsimp only at hsome
    cases hb : beginF pr (topsF l) l.length 50 x now with
    | none => rw [hb] at hsome; cases hsome
    | some fz =>
      obtain ⟨f, z⟩ := fz
      refine (begin_exact hlen pr hpr w0 w2 A' (topsF l) rv x hr hrow hn hx now (by omega) 50 f z hb).mono ?_
      rintro r w3 ⟨rfl, h1, h2⟩
      exact ⟨f, z, rfl, h1, x, hp, hb, h2⟩
  · rintro f z ⟨x, hp, hb, hx⟩
    rw [playF, hp] at hsome
    dsimp only at hsome
    rw [hb] at hsome
    dsimp only at hsome
    by_cases hw : (z.ws.all fun q => decide (0 ≤ q) && decide (q ≤ 100000)) = true
    · refine ⟨fun q hq => ?_, ?_, hx⟩
      · rw [List.all_eq_true] at hw
        have := hw q hq
        simpa using this
      · rw [playF, hp]
        dsimp only
        rw [hb]
        dsimp only
        rw [if_pos hw]
    · rw [if_neg hw] at hsome
      cases hsome

theorem chk_pair (v0 v1 : Value) : chkLk (pairL v0 v1) = (0, 0) := by kernel_rfl

def outF (U : Int) (q : List Int × Rs) : List Int × List Int × List Int × Bool := (q.1, q.2.en, q.2.ws, stuckF U q.2.es q.2.en false)
theorem pair3 (v0 v1 : Value) : (playF 3 (pairL v0 v1) 6).map (outF 6) = some ([0, 0, 0, 0, 1, -1], [4, 5], [0, 0], false) := by kernel_rfl
theorem pair1 (v0 v1 : Value) : ((playF 1 (pairL v0 v1) 6).map (outF 6)).map (fun q => q.2.2.1) = some [0, 2] := by kernel_rfl
theorem some3 (v0 v1 : Value) : (List.range 7).all (fun k => (playF 3 (pairL v0 v1) k).isSome) = true := by kernel_rfl
theorem some1 (v0 v1 : Value) : (List.range 7).all (fun k => (playF 1 (pairL v0 v1) k).isSome) = true := by kernel_rfl
end Go.Proofs.Ytcmoehednkaehah
namespace Go.Proofs.Ytcmoehednkaehah
open Go.ChangeShapes Go.WideShapes Go.ChangeAt Go.RowKit

/- Who goes first, whichever way the active priorities are reckoned. -/
/-- One waits for another. -/
def Edge (x : Rs) (i h : Nat) : Prop := ∃ (e : En) (m : Nat), x.es[i]? = some e ∧ e.wt = (m : Int) ∧ x.hs[m]? = some (h : Int)
inductive Reach (x : Rs) : Nat → Nat → Prop
  | refl (i : Nat) : Reach x i i
  | step {i k h : Nat} (h1 : Reach x i k) (h2 : Edge x k h) : Reach x i h

/-- Active priorities by a protocol. -/
def IsAc (pr : Int) (tp : List Int) (x : Rs) (a : Nat → Int) : Prop := ∀ (i : Nat) (e : En), x.es[i]? = some e →
  e.x.p ≤ a i ∧ (pr = 3 → ∀ (m : Nat) (t : Int), x.hs[m]? = some (i : Int) → tp[m]? = some t → t ≤ a i) ∧ (pr = 2 → ∀ k, Edge x k i → a k ≤ a i) ∧
  (a i = e.x.p ∨ (pr = 3 ∧ ∃ (m : Nat) (t : Int), x.hs[m]? = some (i : Int) ∧ tp[m]? = some t ∧ a i = t) ∨ (pr = 2 ∧ ∃ (k : Nat) (e' : En), x.es[k]? = some e' ∧ Reach x k i ∧ a i = e'.x.p))

theorem IsAc.reach {tp : List Int} {x : Rs} {b : Nat → Int} (h : IsAc 2 tp x b) {k i : Nat} (hr : Reach x k i) : ∀ e, x.es[i]? = some e → b k ≤ b i := by
  induction hr with
  | refl => exact fun _ _ => Int.le_refl _
  | step h1 h2 ih =>
    intro e he
    have q := (h _ e he).2.2.1 rfl _ h2
    obtain ⟨e', m, h3, -⟩ := h2
    have := ih e' h3
    omega

theorem IsAc.le {pr : Int} {tp : List Int} {x : Rs} {a b : Nat → Int} (h : IsAc pr tp x a) (h' : IsAc pr tp x b) {i : Nat} {e : En} (he : x.es[i]? = some e) : a i ≤ b i := by
  obtain ⟨-, -, -, q⟩ := h i e he
  obtain ⟨q1, q2, q3, -⟩ := h' i e he
  rcases q with q | ⟨rfl, m, t, h1, h2, q⟩ | ⟨rfl, k, e', h1, h2, q⟩
  · omega
  · have := q2 rfl m t h1 h2
    omega
  · have h3 := h'.reach h2 e he
    have h4 := (h' k e' h1).1
    omega

theorem IsAc.one {pr : Int} {tp : List Int} {x : Rs} {a b : Nat → Int} (h : IsAc pr tp x a) (h' : IsAc pr tp x b) {i : Nat} {e : En} (he : x.es[i]? = some e) : a i = b i := Int.le_antisymm (h.le h' he) (h'.le h he)

/-- The jobs with active priorities. -/
def wAc (es : List En) (a : Nat → Int) : List En := es.mapIdx fun i e => { e with ac := a i }
theorem wAc_at {es : List En} {a : Nat → Int} {i : Nat} {e : En} (h : es[i]? = some e) : (wAc es a)[i]? = some { e with ac := a i } := by
  unfold wAc
  rw [List.getElem?_mapIdx, h]
  rfl
theorem wAc_none {es : List En} {a : Nat → Int} {i : Nat} (h : es[i]? = none) : (wAc es a)[i]? = none := by
  unfold wAc
  rw [List.getElem?_mapIdx, h]
  rfl

theorem wAc_one {pr : Int} {tp : List Int} {x : Rs} {a b : Nat → Int} (h : IsAc pr tp x a) (h' : IsAc pr tp x b) : wAc x.es a = wAc x.es b := by
  apply List.ext_getElem?
  intro i
  cases he : x.es[i]? with
  | none => rw [wAc_none he, wAc_none he]
  | some e => rw [wAc_at he, wAc_at he, h.one h' he]

/-- The one that goes first. -/
def Fst (pr : Int) (tp : List Int) (n : Nat) (x : Rs) (now f : Int) : Prop := ∃ a, IsAc pr tp x a ∧ Best { x with es := wAc x.es a } now n f

theorem Fst.one {pr : Int} {tp : List Int} {n : Nat} {x : Rs} {now f g : Int} (h : Fst pr tp n x now f) (h' : Fst pr tp n x now g) : f = g := by
  obtain ⟨a, h1, h2⟩ := h
  obtain ⟨b, h3, h4⟩ := h'
  rw [wAc_one h1 h3] at h2
  exact h2.one h4

/-- What a tick begins with: what takes no time, then the one that works, or nobody. -/
inductive Beg (pr : Int) (tp : List Int) (n : Nat) (now : Int) : Rs → Int → Rs → Prop
  | none {x : Rs} (h : Fst pr tp n x now (-1)) : Beg pr tp n now x (-1) x
  | work {x z : Rs} {i : Nat} (h : Fst pr tp n x now (i : Int)) (h1 : actF x i now = some (true, z)) : Beg pr tp n now x (i : Int) z
  | more {x z y : Rs} {i : Nat} {f : Int} (h : Fst pr tp n x now (i : Int)) (h1 : actF x i now = some (false, z)) (h2 : Beg pr tp n now z f y) : Beg pr tp n now x f y

theorem Beg.one {pr : Int} {tp : List Int} {n : Nat} {now f g : Int} {x y z : Rs} (h : Beg pr tp n now x f y) (h' : Beg pr tp n now x g z) : f = g ∧ y = z := by
  induction h generalizing g z with
  | none h =>
    cases h' with
    | none => exact ⟨rfl, rfl⟩
    | work k => have := h.one k; omega
    | more k => have := h.one k; omega
  | work h h1 =>
    cases h' with
    | none k => have := h.one k; omega
    | work k k1 =>
      have := h.one k
      obtain rfl : _ = _ := Int.ofNat.inj this
      rw [h1] at k1
      cases k1
      exact ⟨rfl, rfl⟩
    | more k k1 =>
      have := h.one k
      obtain rfl : _ = _ := Int.ofNat.inj this
      rw [h1] at k1
      cases k1
  | more h h1 h2 ih =>
    cases h' with
    | none k => have := h.one k; omega
    | work k k1 =>
      have := h.one k
      obtain rfl : _ = _ := Int.ofNat.inj this
      rw [h1] at k1
      cases k1
    | more k k1 k2 =>
      have := h.one k
      obtain rfl : _ = _ := Int.ofNat.inj this
      rw [h1] at k1
      cases k1
      exact ih k2

/-- The run, tick by tick. -/
inductive Rn (pr : Int) (l : List Lj) : Nat → List Int → Rs → Prop
  | zero : Rn pr l 0 [] (x0 l)
  | more {k : Nat} {runs : List Int} {x z : Rs} {f : Int} (h : Rn pr l k runs x) (h1 : Beg pr (topsF l) l.length k x f z) : Rn pr l (k + 1) (runs ++ [f]) { z with ws := bumpF z.es z.ws }

theorem Rn.one {pr : Int} {l : List Lj} : ∀ {k : Nat} {runs runs' : List Int} {x x' : Rs}, Rn pr l k runs x → Rn pr l k runs' x' → runs = runs' ∧ x = x'
  | _, _, _, _, _, .zero, .zero => ⟨rfl, rfl⟩
  | _, _, _, _, _, .more h h1, .more k k1 => by
    obtain ⟨rfl, rfl⟩ := Rn.one h k
    obtain ⟨rfl, rfl⟩ := h1.one k1
    exact ⟨rfl, rfl⟩

/- Without the active priorities. -/
theorem nrm_nrm (x : Rs) : nrm (nrm x) = nrm x := by
  unfold nrm
  dsimp only
  rw [List.map_map]
  rfl

theorem unF_nac (m : Int) (e : En) : unF m (nac e) = nac (unF m e) := by
  unfold unF
  show (if e.wt = m then _ else _) = _
  split <;> rfl

theorem un_nac (m : Int) (es : List En) : (es.map nac).map (unF m) = (es.map (unF m)).map nac := by
  rw [List.map_map, List.map_map]
  exact List.map_congr_left (fun e _ => unF_nac m e)

theorem end_nac (x : Rs) (i : Nat) (e : En) (now : Int) : endF (nrm x) i (nac e) now = nrm (endF x i e now) := by
  unfold endF nrm
  dsimp only
  rw [List.map_set]
  rfl

theorem actF_nrm {x z : Rs} {i : Nat} {now : Int} {b : Bool} (h : actF x i now = some (b, z)) : actF (nrm x) i now = some (b, nrm z) := by
  have hsn : ∀ (es : List En) (e : En), (es.map nac).set i (nac e) = (es.set i e).map nac := fun es e => by rw [List.map_set]
  unfold actF at h ⊢
  cases he : x.es[i]? with
  | none => rw [he] at h; cases h
  | some e =>
    rw [nrm_at he]
    rw [he] at h
    dsimp only at h ⊢
    rw [show (nac e).x = e.x from rfl, show (nac e).nx = e.nx from rfl, show (nac e).rn = e.rn from rfl, show (nrm x).hs = x.hs from rfl, show (nrm x).en = x.en from rfl, show (nrm x).ws = x.ws from rfl, show (nrm x).es = x.es.map nac from rfl]
    have hb : ∀ e : En, begF (nac e) = nac (begF e) := fun _ => rfl
    have hE : ∀ (es : List En) (hs : List Int) (e : En) (t : Int), endF ⟨es.map nac, x.en, x.ws, hs⟩ i (nac e) t = nrm (endF ⟨es, x.en, x.ws, hs⟩ i e t) := fun es hs e t => end_nac ⟨es, x.en, x.ws, hs⟩ i e t
    by_cases h0 : e.x.acts.length = 0
    · rw [if_pos h0] at h ⊢
      cases h
      rw [hb, hsn]
      rfl
    rw [if_neg h0] at h ⊢
    cases ha : e.x.acts[e.nx]? with
    | none => rw [ha] at h; cases h
    | some a =>
      rw [ha] at h
      dsimp only at h ⊢
      by_cases h1 : a.d = 1
      · rw [if_pos h1] at h ⊢
        by_cases h2 : 0 ≤ e.rn
        · rw [if_pos h2] at h ⊢
          by_cases h3 : a.n ≤ 1000
          · rw [if_pos h3] at h ⊢
            by_cases h4 : e.rn + 1 = a.n
            · rw [if_pos h4] at h ⊢
              cases h
              have hq := hE (x.es.set i { e with bg := true, rn := e.rn + 1 }) x.hs { e with bg := true, rn := e.rn + 1 } (now + 1)
              rw [← hsn] at hq
              exact congrArg (fun q => some (true, q)) hq
            · rw [if_neg h4] at h ⊢
              by_cases h5 : e.rn + 1 < a.n
              · rw [if_pos h5] at h ⊢
                cases h
                exact congrArg (fun q => some (true, (⟨q, x.en, x.ws, x.hs⟩ : Rs))) (hsn x.es { e with bg := true, rn := e.rn + 1 })
              · rw [if_neg h5] at h; cases h
          · rw [if_neg h3] at h; cases h
        · rw [if_neg h2] at h; cases h
      · rw [if_neg h1] at h ⊢
        by_cases h2 : 0 ≤ a.n
        · rw [if_pos h2] at h ⊢
          by_cases h3 : a.n < 4
          · rw [if_pos h3] at h ⊢
            by_cases h4 : a.d = 2
            · rw [if_pos h4] at h ⊢
              cases hh : x.hs[a.n.toNat]? with
              | none => rw [hh] at h; cases h
              | some z =>
                rw [hh] at h
                dsimp only at h ⊢
                by_cases h5 : z = -1
                · rw [if_pos h5] at h ⊢
                  cases h
                  rw [hb, hsn, hE]
                · rw [if_neg h5] at h ⊢
                  cases h
                  exact congrArg (fun q => some (false, (⟨q, x.en, x.ws, x.hs⟩ : Rs))) (hsn x.es { e with bg := true, wt := a.n })
            · rw [if_neg h4] at h ⊢
              by_cases h5 : a.d = 3
              · rw [if_pos h5] at h ⊢
                cases h
                rw [hb, hsn, un_nac, unF_nac, hE]
              · rw [if_neg h5] at h; cases h
          · rw [if_neg h3] at h; cases h
        · rw [if_neg h2] at h; cases h
end Go.Proofs.Ytcmoehednkaehah
namespace Go.Proofs.Ytcmoehednkaehah
open Go.ChangeShapes Go.WideShapes Go.ChangeAt Go.RowKit

/-- What is true of a run by any protocol. -/
structure GI (l : List Lj) (now : Nat) (x : Rs) : Prop where
  le : x.es.map En.x = l
  ne : x.en.length = l.length
  nw : x.ws.length = l.length
  nh : x.hs.length = 4
  hs : ∀ (m : Nat) (z : Int), x.hs[m]? = some z → z = -1 ∨ ∃ i : Nat, z = (i : Int) ∧ i < l.length
  st : ∀ (i : Nat) (e : En) (z : Int), x.es[i]? = some e → x.en[i]? = some z → (z = -1 ∧ (e.nx < e.x.acts.length ∨ (e.x.acts = [] ∧ e.nx = 0))) ∨ (0 ≤ z ∧ e.wt = -1)
  rn : ∀ (i : Nat) (e : En), x.es[i]? = some e → 0 ≤ e.rn ∧ ∀ a, e.x.acts[e.nx]? = some a → (a.d = 1 → e.rn < a.n) ∧ (a.d ≠ 1 → e.rn = 0)
  wt : ∀ (i : Nat) (e : En), x.es[i]? = some e → e.wt = -1 ∨ ∃ m h : Nat, m < 4 ∧ e.wt = (m : Int) ∧ x.hs[m]? = some (h : Int)
  ws : ∀ z ∈ x.ws, 0 ≤ z ∧ z ≤ (now : Int)

theorem GI.len {l : List Lj} {now : Nat} {x : Rs} (g : GI l now x) : x.es.length = l.length := by rw [← g.le, List.length_map]
theorem GI.job {l : List Lj} {now : Nat} {x : Rs} (g : GI l now x) {i : Nat} {e : En} (h : x.es[i]? = some e) : l[i]? = some e.x := by rw [← g.le, List.getElem?_map, h]; rfl
theorem GI.mem {l : List Lj} {now : Nat} {x : Rs} (g : GI l now x) {i : Nat} {e : En} (h : x.es[i]? = some e) : e.x ∈ l := List.mem_of_getElem? (g.job h)
theorem GI.lt {l : List Lj} {now : Nat} {x : Rs} (g : GI l now x) {i : Nat} {e : En} (h : x.es[i]? = some e) : i < l.length := by rw [← g.len]; exact (List.getElem?_eq_some_iff.1 h).1

/-- What a change of others than the one that acts may be. -/
structure Mild (u : En → En) : Prop where
  x : ∀ e, (u e).x = e.x
  nx : ∀ e, (u e).nx = e.nx
  rn : ∀ e, (u e).rn = e.rn
  wt : ∀ e, (u e).wt = e.wt ∨ (u e).wt = -1

theorem mild_id : Mild id := ⟨fun _ => rfl, fun _ => rfl, fun _ => rfl, fun _ => .inl rfl⟩
theorem mild_un (m : Int) : Mild (unF m) := ⟨unF_x m, unF_nx m, fun e => by unfold unF; split <;> rfl, fun e => by unfold unF; split; exact .inr rfl; exact .inl rfl⟩

theorem set_at {α : Type} {l : List α} {i j : Nat} {a b : α} (h : (l.set i a)[j]? = some b) : (i = j ∧ b = a) ∨ (i ≠ j ∧ l[j]? = some b) := by
  by_cases e : i = j
  · subst e
    rw [List.getElem?_set_self' ] at h
    cases hl : l[i]? with
    | none => rw [hl] at h; cases h
    | some c => rw [hl] at h; cases h; exact .inl ⟨rfl, rfl⟩
  · rw [List.getElem?_set_ne e] at h
    exact .inr ⟨e, h⟩

theorem GI.upd {l : List Lj} {now : Nat} {x : Rs} (g : GI l now x) {i : Nat} {e e2 : En} {u : En → En} (hu : Mild u) (he : x.es[i]? = some e) (hx : e2.x = e.x) {en hs : List Int} (hln : en.length = x.en.length) (hlh : hs.length = x.hs.length)
    (hen : ∀ (j : Nat) (z : Int), j ≠ i → en[j]? = some z → x.en[j]? = some z)
    (h1 : ∀ (m : Nat) (z : Int), hs[m]? = some z → z = -1 ∨ ∃ k : Nat, z = (k : Int) ∧ k < l.length)
    (h2 : ∀ z, en[i]? = some z → (z = -1 ∧ (e2.nx < e2.x.acts.length ∨ (e2.x.acts = [] ∧ e2.nx = 0))) ∨ (0 ≤ z ∧ e2.wt = -1))
    (h3 : 0 ≤ e2.rn ∧ ∀ a, e2.x.acts[e2.nx]? = some a → (a.d = 1 → e2.rn < a.n) ∧ (a.d ≠ 1 → e2.rn = 0))
    (h4 : e2.wt = -1 ∨ ∃ m h : Nat, m < 4 ∧ e2.wt = (m : Int) ∧ hs[m]? = some (h : Int))
    (h5 : ∀ (e' : En) (m h : Nat), (u e').wt = (m : Int) → x.hs[m]? = some (h : Int) → ∃ h' : Nat, hs[m]? = some (h' : Int)) :
    GI l now ⟨(x.es.map u).set i e2, en, x.ws, hs⟩ := by
  have hat : ∀ (j : Nat) (e' : En), ((x.es.map u).set i e2)[j]? = some e' → (i = j ∧ e' = e2) ∨ (i ≠ j ∧ ∃ e0, x.es[j]? = some e0 ∧ e' = u e0) := fun j e' h => by
    rcases set_at h with h | ⟨hij, h'⟩
    · exact .inl h
    · rw [List.getElem?_map] at h'
      cases h0 : x.es[j]? with
      | none => rw [h0] at h'; cases h'
      | some e0 => rw [h0] at h'; cases h'; exact .inr ⟨hij, e0, rfl, rfl⟩
  refine ⟨?_, hln.trans g.ne, g.nw, hlh.trans g.nh, h1, ?_, ?_, ?_, g.ws⟩
  · show ((x.es.map u).set i e2).map En.x = l
    rw [List.map_set, hx, List.map_map, show (x.es.map (En.x ∘ u)) = x.es.map En.x from List.map_congr_left (fun e _ => hu.x e), set_same (by rw [List.getElem?_map, he]; rfl)]
    exact g.le
  · intro j e' z hj hz
    rcases hat j e' hj with ⟨rfl, rfl⟩ | ⟨hne, e0, h0, rfl⟩
    · exact h2 z hz
    · have hz' := hen j z (Ne.symm hne) hz
      rcases g.st j e0 z h0 hz' with ⟨q1, q2⟩ | ⟨q1, q2⟩
      · refine .inl ⟨q1, ?_⟩
        rw [hu.x, hu.nx]
        exact q2
      · refine .inr ⟨q1, ?_⟩
        rcases hu.wt e0 with h | h
        · rw [h]; exact q2
        · exact h
  · intro j e' hj
    rcases hat j e' hj with ⟨rfl, rfl⟩ | ⟨hne, e0, h0, rfl⟩
    · exact h3
    · rw [hu.x, hu.nx, hu.rn]
      exact g.rn j e0 h0
  · intro j e' hj
    rcases hat j e' hj with ⟨rfl, rfl⟩ | ⟨hne, e0, h0, rfl⟩
    · exact h4
    · rcases hu.wt e0 with h | h
      · rcases g.wt j e0 h0 with q | ⟨m, k, q1, q2, q3⟩
        · exact .inl (h.trans q)
        · obtain ⟨k', hk'⟩ := h5 e0 m k (h.trans q2) q3
          exact .inr ⟨m, k', q1, h.trans q2, hk'⟩
      · exact .inl h

/-- How much there is left to do that takes no time. -/
def cwF (es : List En) : Nat := (es.map (fun e => if e.wt = -1 then 1 else 0)).sum
def mu2 (n : Nat) (x : Rs) : Nat := mu x * (n + 1) + cwF x.es

theorem cw_le : ∀ es : List En, cwF es ≤ es.length
  | [] => Nat.le_refl _
  | e :: r => by
    have := cw_le r
    unfold cwF at this ⊢
    rw [List.map_cons, List.sum_cons, List.length_cons]
    split <;> omega

theorem mu2_lt {n : Nat} {x x' : Rs} (h : mu x' < mu x) (hl : x'.es.length ≤ n) : mu2 n x' < mu2 n x := by
  have h1 := cw_le x'.es
  unfold mu2
  have h2 : (mu x' + 1) * (n + 1) ≤ mu x * (n + 1) := Nat.mul_le_mul_right _ h
  rw [Nat.add_mul] at h2
  omega

theorem mu_upd {x : Rs} {i : Nat} {e e2 : En} {u : En → En} (hu : Mild u) (he : x.es[i]? = some e) (en ws hs : List Int) (hx : e2.x = e.x) :
    mu ⟨(x.es.map u).set i e2, en, ws, hs⟩ + (e.x.acts.length - e.nx) + (x.en.map (fun z => if z = -1 then 1 else 0)).sum = mu x + (e.x.acts.length - e2.nx) + (en.map (fun z => if z = -1 then 1 else 0)).sum := by
  unfold mu
  dsimp only
  have h := sum_set (fun e : En => e.x.acts.length - e.nx) (x.es.map u) i (u e) e2 (by rw [List.getElem?_map, he]; rfl)
  rw [List.map_map, show x.es.map ((fun e : En => e.x.acts.length - e.nx) ∘ u) = x.es.map (fun e : En => e.x.acts.length - e.nx) from List.map_congr_left (fun e _ => by show (u e).x.acts.length - (u e).nx = _; rw [hu.x, hu.nx]), hu.x, hu.nx, hx] at h
  omega

theorem en_set {x : Rs} {i : Nat} {t : Int} (h : x.en[i]? = some (-1)) (ht : t ≠ -1) : ((x.en.set i t).map (fun z => if z = -1 then 1 else 0)).sum + 1 = (x.en.map (fun z => if z = -1 then 1 else 0)).sum := by
  have := sum_set (fun z : Int => if z = -1 then 1 else 0) x.en i (-1) t h
  rw [if_pos rfl, if_neg ht] at this
  omega

/-- An act ends. -/
theorem GI.fin {l : List Lj} (ok : Ok l) {now : Nat} {x : Rs} (g : GI l now x) {i : Nat} {e e1 : En} {u : En → En} (hu : Mild u) (he : x.es[i]? = some e) (hx : e1.x = e.x) (hnx : e1.nx = e.nx) (hw : e1.wt = -1) (hlt : e.nx < e.x.acts.length) {hs : List Int} (t : Int) (ht : 0 ≤ t) (hlh : hs.length = x.hs.length)
    (h1 : ∀ (m : Nat) (z : Int), hs[m]? = some z → z = -1 ∨ ∃ k : Nat, z = (k : Int) ∧ k < l.length)
    (h5 : ∀ (e' : En) (m h : Nat), (u e').wt = (m : Int) → x.hs[m]? = some (h : Int) → ∃ h' : Nat, hs[m]? = some (h' : Int)) (hen : x.en[i]? = some (-1)) :
    GI l now (endF ⟨(x.es.map u).set i e1, x.en, x.ws, hs⟩ i e1 t) ∧ mu (endF ⟨(x.es.map u).set i e1, x.en, x.ws, hs⟩ i e1 t) < mu x := by
  have hcx := (ok.acts _ (g.mem he)).2
  have e9 : endF ⟨(x.es.map u).set i e1, x.en, x.ws, hs⟩ i e1 t = ⟨(x.es.map u).set i { e1 with nx := e1.nx + 1, rn := 0 }, if e1.nx + 1 = e1.x.acts.length then x.en.set i t else x.en, x.ws, hs⟩ := by
    unfold endF
    dsimp only
    rw [List.set_set]
  rw [e9]
  constructor
  · refine g.upd (e2 := { e1 with nx := e1.nx + 1, rn := 0 }) (en := if e1.nx + 1 = e1.x.acts.length then x.en.set i t else x.en) hu he hx (by split <;> simp) hlh ?_ h1 ?_ ?_ (.inl hw) h5
    · intro j z hj hz
      split at hz
      · rw [List.getElem?_set_ne (Ne.symm hj)] at hz; exact hz
      · exact hz
    · intro z hz
      dsimp only
      split at hz
      · rw [List.getElem?_set_self (by rw [g.ne]; exact g.lt he)] at hz
        cases hz
        exact .inr ⟨ht, hw⟩
      · rw [hen] at hz
        cases hz
        refine .inl ⟨rfl, .inl ?_⟩
        rw [hx] at *
        omega
    · refine ⟨Int.le_refl _, fun a ha => ⟨fun hd => ?_, fun _ => rfl⟩⟩
      dsimp only at ha ⊢
      rw [hx] at ha
      have hfine := chkA_at _ _ _ hcx _ _ ha
      generalize doS _ _ = s' at hfine
      cases hfine with
      | work h h1 h2 => omega
      | take h => omega
      | give h => omega
  · have h9 := mu_upd (e2 := { e1 with nx := e1.nx + 1, rn := 0 }) hu he (if e1.nx + 1 = e1.x.acts.length then x.en.set i t else x.en) x.ws hs hx
    dsimp only at h9
    split
    · rename_i hc
      rw [if_pos hc] at h9
      have := en_set hen (show t ≠ -1 by omega)
      omega
    · rename_i hc
      rw [if_neg hc] at h9
      omega

/-- The one that goes first does something. -/
theorem GI.act {l : List Lj} (ok : Ok l) {now : Nat} {x : Rs} (g : GI l now x) {i : Nat} (hel : Elig x now i) :
    ∃ b z, actF x i now = some (b, z) ∧ GI l now z ∧ (b = false → mu2 l.length z < mu2 l.length x) := by
  obtain ⟨e, he, hen, -, hw⟩ := hel
  have hi := g.lt he
  obtain ⟨hlen, hcx⟩ := ok.acts _ (g.mem he)
  have hid : x.es.map id = x.es := List.map_id _
  unfold actF
  rw [he]
  dsimp only
  by_cases h0 : e.x.acts.length = 0
  · rw [if_pos h0]
    have hnil : e.x.acts = [] := List.eq_nil_of_length_eq_zero h0
    refine ⟨false, _, rfl, ?_, fun _ => mu2_lt ?_ (by show (x.es.set i _).length ≤ _; rw [List.length_set, g.len]; exact Nat.le_refl _)⟩
    · have := g.upd (e2 := begF e) (en := x.en.set i now) (hs := x.hs) mild_id he rfl (by simp) rfl (fun j z hj hz => by rw [List.getElem?_set_ne (Ne.symm hj)] at hz; exact hz) g.hs (fun z hz => by
        rw [List.getElem?_set_self (by rw [g.ne]; exact hi)] at hz
        cases hz
        exact .inr ⟨by omega, hw⟩) (g.rn i e he) (.inl hw) (fun e' m h _ h2 => ⟨h, h2⟩)
      rw [hid] at this
      exact this
    · have h9 := mu_upd (e2 := begF e) mild_id he (x.en.set i now) x.ws x.hs rfl
      rw [hid] at h9
      have := en_set hen (show (now : Int) ≠ -1 by omega)
      have h8 : (begF e).nx = e.nx := rfl
      rw [h8] at h9
      omega
  · rw [if_neg h0]
    have hnx : e.nx < e.x.acts.length := by
      rcases g.st i e (-1) he hen with ⟨-, h | h⟩ | h
      · exact h
      · rw [h.1] at h0; exact absurd rfl h0
      · omega
    have ha : e.x.acts[e.nx]? = some e.x.acts[e.nx] := List.getElem?_eq_getElem hnx
    generalize e.x.acts[e.nx] = a at ha
    have hfine := chkA_at _ _ _ hcx _ _ ha
    have hlk := chkA_locks _ [] 0 hcx (fun z hz => by simp at hz) e.nx
    obtain ⟨hr0, hr1⟩ := g.rn i e he
    rw [ha]
    dsimp only
    generalize doS _ _ = s' at hfine
    cases hfine with
    | work h h1 h2 =>
      rw [if_pos h, if_pos hr0, if_pos h2]
      have := (hr1 a ha).1 h
      by_cases h4 : e.rn + 1 = a.n
      · rw [if_pos h4]
        have hf := (g.fin ok (e1 := { e with bg := true, rn := e.rn + 1 }) mild_id he rfl rfl hw hnx (hs := x.hs) ((now : Int) + 1) (by omega) rfl g.hs (fun e' m h _ h2 => ⟨h, h2⟩) hen).1
        rw [hid] at hf
        exact ⟨true, _, rfl, hf, fun h => by cases h⟩
      · rw [if_neg h4, if_pos (by omega)]
        refine ⟨true, _, rfl, ?_, fun h => by cases h⟩
        have hf := g.upd (e2 := { e with bg := true, rn := e.rn + 1 }) (en := x.en) (hs := x.hs) mild_id he rfl rfl rfl (fun j z hj hz => hz) g.hs (fun z hz => g.st i e z he hz) ⟨by show 0 ≤ e.rn + 1; omega, fun a' ha' => by
          dsimp only at ha' ⊢
          rw [ha] at ha'
          cases ha'
          omega⟩ (.inl hw) (fun e' m h _ h2 => ⟨h, h2⟩)
        rw [hid] at hf
        exact hf
    | take h h1 h2 h3 =>
      rw [if_neg (by omega), if_pos h1, if_pos (by omega), if_pos h]
      obtain ⟨m, hm⟩ := Int.eq_ofNat_of_zero_le h1
      have hm4 : m < x.hs.length := by rw [g.nh]; omega
      rw [hm, Int.toNat_natCast, List.getElem?_eq_getElem hm4]
      dsimp only
      have hz : x.hs[m]? = some x.hs[m] := List.getElem?_eq_getElem hm4
      generalize x.hs[m] = z at hz
      by_cases h4 : z = -1
      · rw [if_pos h4]
        have hf := g.fin ok (e1 := begF e) mild_id he rfl rfl hw hnx (hs := x.hs.set m i) now (by omega) (by simp) (fun k q hq => by
          rcases set_at hq with ⟨-, rfl⟩ | ⟨-, hq⟩
          · exact .inr ⟨i, rfl, hi⟩
          · exact g.hs k q hq) (fun e' k h _ h2 => by
          by_cases hk : m = k
          · subst hk; exact ⟨i, List.getElem?_set_self hm4⟩
          · exact ⟨h, by rw [List.getElem?_set_ne hk]; exact h2⟩) hen
        rw [hid] at hf
        exact ⟨false, _, rfl, hf.1, fun _ => mu2_lt hf.2 (by show (List.set _ _ _).length ≤ _; simp [g.len])⟩
      · rw [if_neg h4]
        have hz2 : ∃ k : Nat, z = (k : Int) := by
          rcases g.hs m z hz with h | ⟨k, h, -⟩
          · exact absurd h h4
          · exact ⟨k, h⟩
        obtain ⟨k, rfl⟩ := hz2
        refine ⟨false, _, rfl, ?_, fun _ => ?_⟩
        · have hf := g.upd (e2 := { e with bg := true, wt := (m : Int) }) (en := x.en) (hs := x.hs) mild_id he rfl rfl rfl (fun j z hj hz => hz) g.hs (fun z hz => by
            rw [hen] at hz
            cases hz
            exact .inl ⟨rfl, .inl hnx⟩) (g.rn i e he) (.inr ⟨m, k, by omega, rfl, hz⟩) (fun e' m h _ h2 => ⟨h, h2⟩)
          rw [hid] at hf
          exact hf
        · have h9 := mu_upd (e2 := { e with bg := true, wt := (m : Int) }) mild_id he x.en x.ws x.hs rfl
          rw [hid] at h9
          have h8 := sum_set (fun e : En => if e.wt = -1 then 1 else 0) x.es i e { e with bg := true, wt := (m : Int) } he
          dsimp only at h8 h9
          rw [if_pos hw, if_neg (by omega)] at h8
          have h7 : mu ⟨x.es.set i { e with bg := true, wt := (m : Int) }, x.en, x.ws, x.hs⟩ = mu x := by omega
          unfold mu2
          rw [h7]
          unfold cwF
          dsimp only
          omega
    | give h st' h1 =>
      have hin : a.n ∈ (e.x.acts.take e.nx).foldl doS [] := by rw [h1]; simp
      have h4 := hlk a.n hin
      rw [if_neg (by omega), if_pos (by omega), if_pos (by omega), if_neg (by omega), if_pos h]
      obtain ⟨m, hm⟩ := Int.eq_ofNat_of_zero_le h4.1
      have hm4 : m < x.hs.length := by rw [g.nh]; omega
      rw [hm, Int.toNat_natCast]
      have hf := g.fin ok (e1 := unF (m : Int) (begF e)) (mild_un m) he (unF_x _ _) (unF_nx _ _) (by
        rcases (mild_un m).wt (begF e) with q | q
        · rw [q]; exact hw
        · exact q) hnx (hs := x.hs.set m (-1)) now (by omega) (by simp) (fun k q hq => by
          rcases set_at hq with ⟨-, rfl⟩ | ⟨-, hq⟩
          · exact .inl rfl
          · exact g.hs k q hq) (fun e' k h q h2 => by
          have hk : m ≠ k := by
            rintro rfl
            unfold unF at q
            split at q
            · dsimp only at q; omega
            · rename_i q2; exact q2 q
          exact ⟨h, by rw [List.getElem?_set_ne hk]; exact h2⟩) hen
      rw [← List.map_set] at hf
      exact ⟨false, _, rfl, hf.1, fun _ => mu2_lt hf.2 (by show (List.set _ _ _).length ≤ _; simp [g.len])⟩

theorem GI.start {l : List Lj} (ok : Ok l) : GI l 0 (x0 l) := by
  have hat : ∀ (i : Nat) (e : En), (x0 l).es[i]? = some e → ∃ y, l[i]? = some y ∧ e = en0 y := by
    intro i e h
    unfold x0 at h
    dsimp only at h
    rw [List.getElem?_map] at h
    cases hy : l[i]? with
    | none => rw [hy] at h; cases h
    | some y => rw [hy] at h; cases h; exact ⟨y, rfl, rfl⟩
  refine ⟨by unfold x0; dsimp only; rw [List.map_map]; exact List.map_id _, by simp [x0], by simp [x0], rfl, ?_, ?_, ?_, ?_, ?_⟩
  · intro m z hz
    left
    match m, hz with
    | 0, hz => simp [x0] at hz; exact hz.symm
    | 1, hz => simp [x0] at hz; exact hz.symm
    | 2, hz => simp [x0] at hz; exact hz.symm
    | 3, hz => simp [x0] at hz; exact hz.symm
    | k + 4, hz => simp [x0] at hz
  · intro i e z he hz
    obtain ⟨y, hy, rfl⟩ := hat i e he
    unfold x0 at hz
    dsimp only at hz
    have := (List.mem_replicate.1 (List.mem_of_getElem? hz)).2
    subst this
    refine .inl ⟨rfl, ?_⟩
    by_cases h0 : y.acts = []
    · exact .inr ⟨h0, rfl⟩
    · exact .inl (List.length_pos_iff.2 h0)
  · intro i e he
    obtain ⟨y, hy, rfl⟩ := hat i e he
    refine ⟨Int.le_refl _, fun a ha => ⟨fun hd => ?_, fun _ => rfl⟩⟩
    have hfine := chkA_at _ _ _ (ok.acts _ (List.mem_of_getElem? hy)).2 _ _ ha
    generalize doS _ _ = s' at hfine
    cases hfine with
    | work h h1 h2 => exact h1
    | take h => omega
    | give h => omega
  · intro i e he
    obtain ⟨y, hy, rfl⟩ := hat i e he
    exact .inl rfl
  · intro z hz
    unfold x0 at hz
    have := (List.mem_replicate.1 hz).2
    omega

theorem bump_in : ∀ (es : List En) (ws : List Int) (now : Nat), (∀ z ∈ ws, 0 ≤ z ∧ z ≤ (now : Int)) → ∀ z ∈ bumpF es ws, 0 ≤ z ∧ z ≤ ((now + 1 : Nat) : Int)
  | [], ws, now, h, z, hz => by have := h z hz; omega
  | _ :: _, [], now, h, z, hz => by have := h z hz; omega
  | e :: r, q :: s, now, h, z, hz => by
    rw [bumpF] at hz
    rcases List.mem_cons.1 hz with rfl | hz
    · have := h q (List.mem_cons_self ..)
      split <;> omega
    · exact bump_in r s now (fun z hz => h z (List.mem_cons_of_mem _ hz)) z hz

theorem GI.tick {l : List Lj} {now : Nat} {x : Rs} (g : GI l now x) : GI l (now + 1) { x with ws := bumpF x.es x.ws } :=
  ⟨g.le, g.ne, by rw [bumpF_len]; exact g.nw, g.nh, g.hs, g.st, g.rn, g.wt, bump_in _ _ _ g.ws⟩

theorem GI.nrm {l : List Lj} {now : Nat} {x : Rs} (g : GI l now x) : GI l now (nrm x) := by
  have hat : ∀ (i : Nat) (e : En), (Ytcmoehednkaehah.nrm x).es[i]? = some e → ∃ y, x.es[i]? = some y ∧ e = nac y := by
    intro i e h
    unfold Ytcmoehednkaehah.nrm at h
    dsimp only at h
    rw [List.getElem?_map] at h
    cases hy : x.es[i]? with
    | none => rw [hy] at h; cases h
    | some y => rw [hy] at h; cases h; exact ⟨y, rfl, rfl⟩
  refine ⟨by unfold Ytcmoehednkaehah.nrm; dsimp only; rw [List.map_map]; exact g.le, g.ne, g.nw, g.nh, g.hs, ?_, ?_, ?_, g.ws⟩
  · intro i e z he hz
    obtain ⟨y, hy, rfl⟩ := hat i e he
    exact g.st i y z hy hz
  · intro i e he
    obtain ⟨y, hy, rfl⟩ := hat i e he
    exact g.rn i y hy
  · intro i e he
    obtain ⟨y, hy, rfl⟩ := hat i e he
    exact g.wt i y hy
end Go.Proofs.Ytcmoehednkaehah
namespace Go.Proofs.Ytcmoehednkaehah
open Go.ChangeShapes Go.WideShapes Go.ChangeAt Go.RowKit

/- Those that wait lend their priority. -/
def upd (b : Nat → Int) (h : Nat) (p : Int) (i : Nat) : Int := if i = h then p else b i
theorem upd_self (b : Nat → Int) (h : Nat) (p : Int) : upd b h p h = p := if_pos rfl
theorem upd_ne (b : Nat → Int) {h i : Nat} (p : Int) (e : i ≠ h) : upd b h p i = b i := if_neg e

theorem wAc_set {es : List En} {b : Nat → Int} {h : Nat} {e : En} (p : Int) (he : es[h]? = some e) : (wAc es b).set h { e with ac := p } = wAc es (upd b h p) := by
  apply List.ext_getElem?
  intro i
  by_cases hi : h = i
  · subst hi
    rw [List.getElem?_set_self (List.getElem?_eq_some_iff.1 (wAc_at (a := b) he)).1, wAc_at he, upd_self]
  · rw [List.getElem?_set_ne hi]
    cases h0 : es[i]? with
    | none => rw [wAc_none h0, wAc_none h0]
    | some e' => rw [wAc_at h0, wAc_at h0, upd_ne b p (Ne.symm hi)]

def lowN (b : Nat → Int) (p : Int) : Nat → Nat
  | 0 => 0
  | n + 1 => lowN b p n + if b n < p then 1 else 0

theorem low_le (b : Nat → Int) (p : Int) : ∀ n, lowN b p n ≤ n
  | 0 => Nat.le_refl _
  | n + 1 => by
    have := low_le b p n
    rw [lowN]
    split <;> omega

theorem low_mono {b c : Nat → Int} {p : Int} (h : ∀ i, c i < p → b i < p) : ∀ n, lowN c p n ≤ lowN b p n
  | 0 => Nat.le_refl _
  | n + 1 => by
    have := low_mono h n
    rw [lowN, lowN]
    by_cases q : c n < p
    · rw [if_pos q, if_pos (h n q)]; omega
    · rw [if_neg q]; omega

theorem low_lt {b : Nat → Int} {p : Int} {h : Nat} (hb : b h < p) : ∀ n, h < n → lowN (upd b h p) p n < lowN b p n
  | 0, hn => by omega
  | n + 1, hn => by
    have hm : ∀ i, upd b h p i < p → b i < p := fun i hi => by
      by_cases e : i = h
      · subst e; exact hb
      · rw [upd_ne b p e] at hi; exact hi
    rw [lowN, lowN]
    by_cases e : n = h
    · subst e
      rw [upd_self, if_neg (by omega), if_pos hb]
      have := low_mono hm n
      omega
    · have := low_lt hb n (by omega)
      rw [upd_ne b p e]
      split <;> omega

/-- Who waits waits for somebody. -/
def Gx (n : Nat) (x : Rs) : Prop := ∀ (i : Nat) (e : En), x.es[i]? = some e → e.wt = -1 ∨ ∃ m h : Nat, m < 4 ∧ h < n ∧ e.wt = (m : Int) ∧ x.hs[m]? = some (h : Int)

theorem GI.gx {l : List Lj} {now : Nat} {x : Rs} (g : GI l now x) : Gx l.length x := by
  intro i e he
  rcases g.wt i e he with h | ⟨m, h, h1, h2, h3⟩
  · exact .inl h
  · rcases g.hs m _ h3 with q | ⟨k, q, hk⟩
    · omega
    · exact .inr ⟨m, h, h1, by omega, h2, h3⟩

def Own (x : Rs) (b : Nat → Int) : Prop := ∀ (i : Nat) (e : En), x.es[i]? = some e → e.x.p ≤ b i ∧ ∃ (j : Nat) (e0 : En), x.es[j]? = some e0 ∧ Reach x j i ∧ b i = e0.x.p
def LD (x : Rs) (k : Nat) (b : Nat → Int) : Prop := Own x b ∧ ∀ u v, Edge x u v → b u ≤ b v ∨ (k ≤ u ∧ ∀ e, x.es[u]? = some e → b u = e.x.p)
def LI (x : Rs) (k c : Nat) (p : Int) (b : Nat → Int) : Prop := Own x b ∧ Reach x k c ∧ ∀ u v, Edge x u v → b u ≤ b v ∨ (k + 1 ≤ u ∧ ∀ e, x.es[u]? = some e → b u = e.x.p) ∨ (u = c ∧ b u = p)

theorem Edge.fn {x : Rs} {u v v' : Nat} (h : Edge x u v) (h' : Edge x u v') : v = v' := by
  obtain ⟨e, m, h1, h2, h3⟩ := h
  obtain ⟨e', m', h1', h2', h3'⟩ := h'
  rw [h1] at h1'
  cases h1'
  have : m = m' := by omega
  subst this
  rw [h3] at h3'
  simp at h3'
  omega

theorem LI.start {x : Rs} {k : Nat} {b : Nat → Int} {e : En} (h : LD x k b) (he : x.es[k]? = some e) : LI x k k e.x.p b := by
  refine ⟨h.1, .refl _, fun u v hu => ?_⟩
  rcases h.2 u v hu with q | ⟨q, q'⟩
  · exact .inl q
  · by_cases e' : u = k
    · subst e'; exact .inr (.inr ⟨rfl, q' e he⟩)
    · exact .inr (.inl ⟨by omega, q'⟩)

theorem LI.stop {x : Rs} {k c v : Nat} {p : Int} {b : Nat → Int} (h : LI x k c p b) (hv : Edge x c v) (hp : p ≤ b v) : LD x (k + 1) b := by
  refine ⟨h.1, fun u v' hu => ?_⟩
  rcases h.2.2 u v' hu with q | q | ⟨rfl, q⟩
  · exact .inl q
  · exact .inr q
  · have := hv.fn hu
    subst this
    exact .inl (by omega)

theorem LI.dead {x : Rs} {k c : Nat} {p : Int} {b : Nat → Int} {e : En} (h : LI x k c p b) (he : x.es[c]? = some e) (hw : e.wt = -1) : LD x (k + 1) b := by
  refine ⟨h.1, fun u v' hu => ?_⟩
  rcases h.2.2 u v' hu with q | q | ⟨rfl, q⟩
  · exact .inl q
  · exact .inr q
  · obtain ⟨e', m, h1, h2, -⟩ := hu
    rw [he] at h1
    cases h1
    omega

theorem LI.next {x : Rs} {k c v : Nat} {b : Nat → Int} {ek : En} (hk : x.es[k]? = some ek) (h : LI x k c ek.x.p b) (hv : Edge x c v) (hp : b v < ek.x.p) : LI x k v ek.x.p (upd b v ek.x.p) := by
  have hr : Reach x k v := .step h.2.1 hv
  refine ⟨fun i e he => ?_, hr, fun u v' hu => ?_⟩
  · obtain ⟨q1, q2⟩ := h.1 i e he
    by_cases hi : i = v
    · subst hi
      rw [upd_self]
      exact ⟨by omega, k, ek, hk, hr, rfl⟩
    · rw [upd_ne b _ hi]
      exact ⟨q1, q2⟩
  · by_cases hu1 : u = v
    · subst hu1
      exact .inr (.inr ⟨rfl, upd_self ..⟩)
    · rw [upd_ne b _ hu1]
      by_cases hv1 : v' = v
      · subst hv1
        rw [upd_self]
        rcases h.2.2 u v' hu with q | q | ⟨rfl, q⟩
        · exact .inl (by omega)
        · exact .inr (.inl q)
        · exact .inl (by omega)
      · rw [upd_ne b _ hv1]
        rcases h.2.2 u v' hu with q | q | ⟨rfl, q⟩
        · exact .inl q
        · exact .inr (.inl q)
        · exact absurd (hu.fn hv) hv1

theorem LD.done {x : Rs} {n : Nat} {b : Nat → Int} (tp : List Int) (hl : x.es.length = n) (h : LD x n b) : IsAc 2 tp x b := by
  intro i e he
  obtain ⟨q1, j, e0, q2, q3, q4⟩ := h.1 i e he
  refine ⟨q1, (fun h => by omega), fun _ k hk => ?_, .inr (.inr ⟨rfl, j, e0, q2, q3, q4⟩)⟩
  rcases h.2 k i hk with q | ⟨q, -⟩
  · exact q
  · obtain ⟨e', m, h1, -⟩ := hk
    have := (List.getElem?_eq_some_iff.1 h1).1
    omega

set_option maxRecDepth 20000 in
set_option maxHeartbeats 4000000 in
/-- locks.lend. -/
theorem lend_any (w0 w : World) (A : Ad) (tp : List Int) (n : Nat) (rv : Value) (x : Rs) (a : Nat → Int) (h : RunW w0 w A 2 tp n rv { x with es := wAc x.es a }) (_hn : n ≤ 100) (hg : Gx n x) (k : Nat) (hk : k < n) (hl : LD x k a) :
    Calls Try.prog 44 #[.pointer (some ⟨A.R, 0, none⟩), .int .i64 (k : Int)] w fun r w' => r = .returned (.tuple #[]) ∧ ∃ b, RunW w0 w' A 2 tp n rv { x with es := wAc x.es b } ∧ LD x (k + 1) b := by
  have hxl : x.es.length = n := by have := h.ln.1; simpa [wAc] using this
  obtain ⟨ek, hek⟩ := at_lt hxl hk
  obtain ⟨-, -, -, c4, -, -⟩ := h.own
  obtain ⟨-, j1, -, -, -, -, -, -⟩ := h.job (wAc_at (a := a) hek)
  dsimp only at j1
  have hki : (k : Int) < (n : Int) := by omega
  have HH : Hid (RunW w0 w A 2 tp n rv { x with es := wAc x.es a } ∧ LI x k k ek.x.p a ∧ Gx n x ∧ x.es[k]? = some ek) := ⟨h, LI.start hl hek, hg, hek⟩
  clear h hl hg hek
  go_enter Try.func44, Try.ntmps44
  go_wp2_with fail
  go_loopg [1] (n + 1) (fun q v1 wr => ∃ (c : Nat) (b : Nat → Int), v1 = .int .i64 (c : Int) ∧ c < n ∧ RunW w0 wr A 2 tp n rv { x with es := wAc x.es b } ∧ LI x k c ek.x.p b ∧ lowN b ek.x.p n < q)
  case atStart => exact ⟨k, a, rfl, hk, HH.out.1, HH.out.2.1, by have := low_le a ek.x.p n; omega⟩
  case round =>
    obtain ⟨c, b, rfl, hc, hr, hli, hq⟩ := hrel
    obtain ⟨e, he⟩ := at_lt hxl hc
    obtain ⟨-, -, -, -, -, -, j6, -⟩ := hr.job (wAc_at (a := b) he)
    obtain ⟨-, -, -, d4, -, -⟩ := hr.own
    dsimp only at j6
    have hci : (c : Int) < (n : Int) := by omega
    rcases HH.out.2.2.1 c e he with hw | ⟨m, h, hm, hh, hw, hhs⟩
    · rw [hw] at j6
      have HE : Hid (RunW w0 wr A 2 tp n rv { x with es := wAc x.es b } ∧ LD x (k + 1) b) := ⟨hr, hli.dead he hw⟩
      clear hr hli he hw hq
      go_wp2_with fail
      go_end0
      exact ⟨rfl, b, HE.out⟩
    · rw [hw] at j6
      obtain ⟨eh, heh⟩ := at_lt hxl hh
      have hed : Edge x c h := ⟨e, m, he, hw, hhs⟩
      obtain ⟨-, -, -, -, -, -, -, k7⟩ := hr.job (wAc_at (a := b) heh)
      dsimp only at k7
      have r7 := hr.hold (show ({ x with es := wAc x.es b } : Rs).hs[m]? = some (h : Int) from hhs)
      have hhi : (h : Int) < (n : Int) := by omega
      have hmi : (m : Int) < 4 := by omega
      have hm1 : ((m : Int) == -1) = false := by simp
      by_cases hp : b h < ek.x.p
      · have hs : ∀ q, RunW w0 ((wr.drewN q).setCell ⟨A.J, h * 8 + 7, none⟩ (.int .i64 ek.x.p)) A 2 tp n rv { x with es := wAc x.es (upd b h ek.x.p) } := fun q => by
          have hs := (hr.drewN (k := q)).setJ (k := 7) (u := .int .i64 ek.x.p) (e' := { eh with ac := ek.x.p }) (wAc_at (a := b) heh) (by omega) rfl
          dsimp only at hs
          rw [wAc_set _ heh] at hs
          exact hs
        have HS : Hid ((∀ q, RunW w0 ((wr.drewN q).setCell ⟨A.J, h * 8 + 7, none⟩ (.int .i64 ek.x.p)) A 2 tp n rv { x with es := wAc x.es (upd b h ek.x.p) }) ∧ LI x k h ek.x.p (upd b h ek.x.p) ∧ lowN (upd b h ek.x.p) ek.x.p n + 1 < gk) := ⟨hs, hli.next HH.out.2.2.2 hed hp, by have := low_lt hp n hh; omega⟩
        have hf7 := hr.frz.2.1 (h * 8 + 7)
        obtain ⟨-, lJ, -⟩ := hr.lts
        clear hs hr hli he heh hw hq hed hhs
        go_wp2_with fail
        go_quiet (fail)
        go_wp2_with fail
        go_roundg (gk - 1)
        case measure => have := HS.out.2.2; omega
        case rel => exact ⟨h, _, rfl, hh, HS.out.1 _, HS.out.2.1, by have := HS.out.2.2; omega⟩
      · have HE : Hid (RunW w0 wr A 2 tp n rv { x with es := wAc x.es b } ∧ LD x (k + 1) b) := ⟨hr, hli.stop hed (by omega)⟩
        clear hr hli he heh hw hq hed hhs
        go_wp2_with fail
        go_quiet (fail)
        go_wp2_with fail
        refine bodyPost_ret (results_none rfl _ _ _) rfl ?_
        exact ⟨rfl, b, HE.out.1.drewN, HE.out.2⟩

def pF (x : Rs) (i : Nat) : Int := ((x.es[i]?).map (fun e => e.x.p)).getD 0
theorem pF_at {x : Rs} {i : Nat} {e : En} (h : x.es[i]? = some e) : pF x i = e.x.p := by unfold pF; rw [h]; rfl

theorem lo_wAc (x : Rs) : x.es.map loF = wAc x.es (pF x) := by
  apply List.ext_getElem?
  intro i
  rw [List.getElem?_map]
  cases h : x.es[i]? with
  | none => rw [wAc_none h]; rfl
  | some e => rw [wAc_at h, pF_at h]; rfl

theorem LD.zero (x : Rs) : LD x 0 (pF x) := by
  refine ⟨fun i e he => ?_, fun u v _ => .inr ⟨Nat.zero_le _, fun e he => pF_at he⟩⟩
  rw [pF_at he]
  exact ⟨Int.le_refl _, i, e, he, .refl _, rfl⟩

theorem LI.run {n : Nat} {x : Rs} (hg : Gx n x) (hxl : x.es.length = n) {k : Nat} {ek : En} (hk : x.es[k]? = some ek) : ∀ (q : Nat) (c : Nat) (b : Nat → Int), c < n → lowN b ek.x.p n < q → LI x k c ek.x.p b → ∃ b', LD x (k + 1) b'
  | 0, _, _, _, h, _ => by omega
  | q + 1, c, b, hc, hq, h => by
    obtain ⟨e, he⟩ := at_lt hxl hc
    rcases hg c e he with hw | ⟨m, v, hm, hv, hw, hhs⟩
    · exact ⟨b, h.dead he hw⟩
    · have hed : Edge x c v := ⟨e, m, he, hw, hhs⟩
      by_cases hp : b v < ek.x.p
      · exact LI.run hg hxl hk q v _ hv (by have := low_lt hp n hv; omega) (h.next hk hed hp)
      · exact ⟨b, h.stop hed (by omega)⟩

theorem LD.to {n : Nat} {x : Rs} (hg : Gx n x) (hxl : x.es.length = n) : ∀ k, k ≤ n → ∃ b, LD x k b
  | 0, _ => ⟨_, LD.zero x⟩
  | k + 1, hk => by
    obtain ⟨b, hb⟩ := LD.to hg hxl k (by omega)
    obtain ⟨ek, hek⟩ := at_lt hxl (show k < n by omega)
    exact LI.run hg hxl hek _ k b (by omega) (Nat.lt_succ_self _) (LI.start hb hek)
end Go.Proofs.Ytcmoehednkaehah
