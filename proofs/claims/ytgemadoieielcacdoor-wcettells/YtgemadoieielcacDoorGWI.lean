import Derived.Test.YtgemadoieielcacDoorGRB
import Derived.Test.YtgemadoieielcacDoorGRIa
import Derived.Test.YtgemadoieielcacDoorGRIb
import Derived.Test.YtgemadoieielcacDoorGRIc
import Derived.Test.YtgemadoieielcacDoorGRId
import Derived.Test.YtgemadoieielcacDoorGRIe
import Derived.Test.YtgemadoieielcacDoorGRIf
import Derived.Test.YtgemadoieielcacDoorGRIg
import Derived.Test.YtgemadoieielcacDoorGRIh
import Derived.Test.YtgemadoieielcacDoorGStF
import Derived.Test.YtgemadoieielcacDoorGWG
import Derived.Test.YtgemadoieielcacDoorGWP
import Derived.RangeFuncNested
import Derived.RangeFuncBound
import Derived.RangeFuncCalls
import Derived.RangeFuncLeaves
import Derived.Shelf.Abstract
import Derived.Shelf.RegionOpen
import Derived.OwnWalkIn
import Derived.TacticsInMore
import Derived.LoopNIn
import Derived.LoopIn
namespace Go.Proofs.YtgemadoieielcacDoor
open Go.ChangeShapes Go.WideShapes Go.ChangeAt Go.RowKit

set_option maxRecDepth 20000 in
set_option maxHeartbeats 4000000 in
theorem ReadImage_many (w : World) (n : Nat) (iad : Option Addr) (ic : Nat) (hl : 2000 < n) : Calls Tryd.prog 24 #[.slice iad n ic] w fun r w' => (∃ p, r = .returned (.tuple #[p, .agg #[.int .i64 2, .int .i64 0]])) ∧ Below w.heap.size w w' := by
  have hg : (2000 : Int) < (n : Int) := by omega
  go_enter Tryd.func24, Tryd.ntmps24
  go_wp2_with (go_at_call 25; refine (F_any 2 0 _).mono ?_; rintro r w9 ⟨rfl, hb9⟩; have H9 : Hid (R1 w w9 (.slice iad n ic)) := (R1.start w (.slice iad n ic)).grow hb9; obtain ⟨rs9, rf9, rl9⟩ := cells_of (l := [_, _]) H9.out.res; have r90 := rs9 0 _ rfl; have r91 := rs9 1 _ rfl; clear hb9 rs9)
  exact bodyPost_ret (v := .tuple #[.pointer none, .agg #[.int .i64 2, .int .i64 0]]) (RI_ends (by simpa using setCell_at (i := 1) (u := .int .i64 0) (setCell_at (i := 0) (u := .int .i64 2) H9.out.res)) rfl rfl) rfl ⟨⟨_, rfl⟩, (H9.out.bel.setCell (by show w.heap.size ≤ w.heap.size + 1; omega) _).setCell (by show w.heap.size ≤ w.heap.size + 1; omega) _⟩
end Go.Proofs.YtgemadoieielcacDoor
namespace Go.Proofs.YtgemadoieielcacDoor
open Go.ChangeShapes Go.WideShapes Go.ChangeAt Go.RowKit

theorem ReadImage_walk (hstk : ∀ (w : World) (l : List In) (iad : Option Addr) (ic : Nat) (_ : InSl w l (.slice iad l.length ic)) (_ : l.length ≤ 2000) (_ : ∀ j, j < l.length → formErr (l.getD j in0) = 0) (c k : Int) (_ : stackEnd l = (c, k)), Calls Tryd.prog 57 #[.slice iad l.length ic] w fun r w' => r = .returned (.agg #[.int .i64 c, .int .i64 k]) ∧ Below w.heap.size w w') (w : World) (l : List In) (iad : Option Addr) (ic : Nat) (h : InSl w l (.slice iad l.length ic)) (hl : l.length ≤ 2000) (c k : Int) (hc : docI l = (c, k)) :
    Calls Tryd.prog 24 #[.slice iad l.length ic] w fun r w' => RIpost w l c k r w' :=
  RIp.2.2.2.2.2.2.2.2.2.2.2.2.2.2.2.2.2.2.2.2.2.2.2.2.2 ⟨ri_e13⟩ ⟨ri_e16⟩ ⟨ri_e14⟩ ⟨ri_e17⟩ ⟨ri_e15⟩ ⟨ri_eo⟩ ⟨ri_f13n⟩ ⟨ri_f13y⟩ ⟨ri_f16n⟩ ⟨ri_f16y⟩ ⟨ri_f14d⟩ ⟨ri_f14c⟩ ⟨ri_f14b⟩ ⟨ri_f14a⟩ ⟨ri_f17d⟩ ⟨ri_f17b⟩ ⟨ri_f17a⟩ ⟨ri_f15n⟩ ⟨ri_f15y⟩ ⟨ri_fo⟩ ⟨ri_O9⟩ ⟨ri_O10⟩ ⟨ri_J11⟩ ⟨ri_J12⟩ ⟨ri_S⟩ hstk w l iad ic h hl c k hc

/-- What ReadImage answers. -/
theorem ReadImage_any (w : World) (l : List In) (iad : Option Addr) (ic : Nat) (h : InSl w l (.slice iad l.length ic)) (c k : Int) (hc : docI l = (c, k)) : Calls Tryd.prog 24 #[.slice iad l.length ic] w fun r w' => RIpost w l c k r w' := by
  by_cases hl : l.length ≤ 2000
  · exact ReadImage_walk (fun w l iad ic h hl hf c k hc => stackFault_any w l iad ic h hl hf c k hc) w l iad ic h hl c k hc
  · have e : docI l = (2, 0) := by unfold docI; rw [if_pos (by omega)]
    rw [e] at hc
    cases hc
    exact (ReadImage_many w l.length iad ic (by omega)).mono fun _ _ ⟨⟨p, h1⟩, h2⟩ => ⟨⟨p, h1, fun h0 => absurd h0 (by decide)⟩, h2⟩
end Go.Proofs.YtgemadoieielcacDoor
namespace Go.Proofs.YtgemadoieielcacDoor
open Go.ChangeShapes Go.WideShapes Go.ChangeAt Go.RowKit

/-- The last one of which too much is left. -/
def topBad (l : List In) : Nat → Option Nat
  | 0 => none
  | n + 1 => if 1099511627776 < restF l n then some n else topBad l n

theorem topBad_some {l : List In} {k : Nat} (hk : 1099511627776 < restF l k) (hj : ∀ j, k < j → restF l j ≤ 1099511627776) : ∀ n, k < n → topBad l n = some k
  | 0, h => by omega
  | n + 1, h => by
    rw [topBad]
    by_cases e : n = k
    · subst e; rw [if_pos hk]
    · rw [if_neg (by have := hj n (by omega); omega)]
      exact topBad_some hk hj n (by omega)

theorem topBad_none {l : List In} (hj : ∀ j, restF l j ≤ 1099511627776) : ∀ n, topBad l n = none
  | 0 => rfl
  | n + 1 => by
    rw [topBad, if_neg (by have := hj n; omega)]
    exact topBad_none hj n

/-- What is wrong with an image's worst time. -/
def anF (l : List In) : Int × Int := if (checkI l).1 = 0 then (match topBad l l.length with | some k => (3, (k : Int)) | none => (0, 0)) else checkI l

theorem anF_check {l : List In} {c k : Int} (h : checkI l = (c, k)) (hc : ¬ c = 0) : anF l = (c, k) := by
  unfold anF
  rw [h, if_neg hc]

theorem anF_bad {l : List In} {k : Nat} (h : checkI l = (0, 0)) (hl : k < l.length) (hk : 1099511627776 < restF l k) (hj : ∀ j, k < j → restF l j ≤ 1099511627776) : anF l = (3, (k : Int)) := by
  unfold anF
  rw [h, if_pos rfl, topBad_some hk hj _ hl]

theorem anF_good {l : List In} (h : checkI l = (0, 0)) (hj : ∀ j, restF l j ≤ 1099511627776) : anF l = (0, 0) := by
  unfold anF
  rw [h, if_pos rfl, topBad_none hj]

theorem anF_zero {l : List In} (h : (anF l).1 = 0) : checkI l = (0, 0) ∧ anF l = (0, 0) := by
  rcases hc : checkI l with ⟨c, k⟩
  by_cases hz : c = 0
  · have h0 : checkI l = (0, 0) := check_zero (by rw [hc]; exact hz)
    refine ⟨by rw [← hc, h0], ?_⟩
    unfold anF at h ⊢
    rw [h0, if_pos rfl] at h ⊢
    cases e : topBad l l.length with
    | none => rfl
    | some k => rw [e] at h; exact absurd h (by simp)
  · rw [anF_check hc hz] at h
    exact absurd h hz

/-- How long a lock is held at most, of what stands ahead of a number. -/
def heldA (l : List In) (m : Int) : Nat → Int
  | 0 => 0
  | j + 1 => if (l.getD j in0).op = 16 ∧ (l.getD j in0).a = m then max (heldA l m j) (restF l (j + 1)) else heldA l m j

theorem heldA_pos (l : List In) (m : Int) : ∀ j, 0 ≤ heldA l m j
  | 0 => Int.le_refl _
  | j + 1 => by
    have := heldA_pos l m j
    rw [heldA]
    split <;> omega

theorem heldA_most {l : List In} (h : ∀ j, restF l j ≤ 1099511627776) (m : Int) : ∀ j, heldA l m j ≤ 1099511627776
  | 0 => by show (0 : Int) ≤ _; omega
  | j + 1 => by
    have := heldA_most h m j
    have := h (j + 1)
    rw [heldA]
    split <;> omega

/-- The four locks' times. -/
def heldV (l : List In) (j : Nat) : List Value := [.int .i64 (heldA l 0 j), .int .i64 (heldA l 1 j), .int .i64 (heldA l 2 j), .int .i64 (heldA l 3 j)]

theorem heldV_other {l : List In} {j : Nat} (h : ¬ (l.getD j in0).op = 16) : heldV l (j + 1) = heldV l j := by
  unfold heldV
  simp only [heldA, h, false_and, if_false]

theorem heldV_lock {l : List In} {j : Nat} (h : (l.getD j in0).op = 16) (a : Nat) (ha : (l.getD j in0).a = a) (ha4 : a < 4) : (heldV l j).set a (.int .i64 (max (heldA l a j) (restF l (j + 1)))) = heldV l (j + 1) := by
  unfold heldV
  simp only [heldA, h, ha, true_and]
  have e : a = 0 ∨ a = 1 ∨ a = 2 ∨ a = 3 := by omega
  rcases e with rfl | rfl | rfl | rfl <;> simp

theorem heldV_at (l : List In) (j a : Nat) (ha4 : a < 4) : (heldV l j)[a]? = some (.int .i64 (heldA l a j)) := by
  have e : a = 0 ∨ a = 1 ∨ a = 2 ∨ a = 3 := by omega
  rcases e with rfl | rfl | rfl | rfl <;> rfl

end Go.Proofs.YtgemadoieielcacDoor
namespace Go.Proofs.YtgemadoieielcacDoor
open Go.ChangeShapes Go.WideShapes Go.ChangeAt Go.RowKit Go.Shelf

/-- A number of an instruction. -/
abbrev At (l : List In) := { k : Nat // k < l.length }

/-- They come from the last one on. -/
def Dn (l : List In) (pre : List (At l)) : Prop := pre.map (fun x => x.1) = (List.range pre.length).map (fun i => l.length - 1 - i)

theorem Dn.nil (l : List In) : Dn l [] := rfl

theorem Dn.snoc {l : List In} {pre : List (At l)} {x : At l} (h : Dn l pre) (hx : x.1 = l.length - 1 - pre.length) : Dn l (pre ++ [x]) := by
  unfold Dn at *
  rw [List.map_append, h, List.length_append, List.length_singleton, List.range_succ, List.map_append]
  simp [hx]

theorem Dn.last {l : List In} {pre : List (At l)} {x : At l} (h : Dn l (pre ++ [x])) : Dn l pre ∧ x.1 = l.length - 1 - pre.length := by
  unfold Dn at *
  rw [List.map_append, List.length_append, List.length_singleton, List.range_succ, List.map_append] at h
  have := List.append_inj' h rfl
  exact ⟨this.1, by simpa using this.2⟩

def updR (R : Nat → Int) (k : Nat) (v : Int) : Nat → Int := fun j => if j = k then v else R j

/-- The numbers, when those have come. -/
def RF (l : List In) (pre : List (At l)) : Nat → Int := pre.foldl (fun R x => updR R x.1 (ruleI l R (clF l) x.1)) (fun _ => 0)

theorem RF_snoc (l : List In) (pre : List (At l)) (x : At l) : RF l (pre ++ [x]) = updR (RF l pre) x.1 (ruleI l (RF l pre) (clF l) x.1) := by simp [RF]

theorem RF_out (l : List In) (pre : List (At l)) {j : Nat} (hj : l.length ≤ j) : RF l pre j = 0 := by
  unfold RF
  have : ∀ (pre : List (At l)) (R : Nat → Int), R j = 0 → (pre.foldl (fun R x => updR R x.1 (ruleI l R (clF l) x.1)) R) j = 0 := by
    intro pre
    induction pre with
    | nil => intro R h; exact h
    | cons x r ih =>
      intro R h
      refine ih _ ?_
      show (if j = x.1 then _ else R j) = 0
      rw [if_neg (by have := x.2; omega)]
      exact h
  exact this pre _ rfl

theorem RF_rest {l : List In} : ∀ (d : Nat) (pre : List (At l)), pre.length = d → Dn l pre → d ≤ l.length → RF l pre = restAt l d
  | 0, pre, hd, _, _ => by
    rw [List.length_eq_zero_iff.1 hd]
    funext j
    rfl
  | d + 1, pre, hd, h, hl => by
    obtain ⟨ini, x, rfl⟩ : ∃ ini x, pre = ini ++ [x] := by
      rcases List.eq_nil_or_concat pre with h0 | ⟨a, b, h0⟩
      · rw [h0] at hd; simp at hd
      · exact ⟨a, b, by rw [h0]; simp⟩
    obtain ⟨h1, h2⟩ := h.last
    have hi : ini.length = d := by simpa using hd
    have ih := RF_rest d ini hi h1 (by omega)
    rw [RF_snoc, ih]
    funext j
    show (if j = x.1 then _ else _) = (if j = l.length - (d + 1) then _ else _)
    rw [hi] at h2
    by_cases e : j = x.1
    · subst e
      rw [if_pos rfl, if_pos (by omega)]
    · rw [if_neg e, if_neg (by omega)]

/-- What a round that goes on keeps. -/
def KpB (n₀ Bs : Nat) (v : Value) (A B : World) : Prop := Below n₀ A B ∧ (A.cell? ⟨Bs, 0, none⟩ = some v → B.cell? ⟨Bs, 0, none⟩ = some v)

theorem KpB.refl (n₀ Bs : Nat) (v : Value) (A : World) : KpB n₀ Bs v A A := ⟨Below.refl _ _, id⟩
theorem KpB.trans {n₀ Bs : Nat} {v : Value} {A B C : World} (h : KpB n₀ Bs v A B) (k : KpB n₀ Bs v B C) : KpB n₀ Bs v A C := ⟨h.1.trans k.1, fun e => k.2 (h.2 e)⟩
theorem KpB.put {n₀ Bs : Nat} {v : Value} {w : World} (hn : n₀ ≤ w.heap.size) (hB : Bs < w.heap.size) (W : World) (l : Nat) (o o' : Obj) (hl : w.heap.size ≤ l) (h : W.heap[l]? = some o) (hc : o.isCells = false) (hw : o.isWalk = false) : KpB n₀ Bs v W (W.putObj l o') := by
  refine ⟨belowK_b hn W l o o' hl h hc hw, fun e => ?_⟩
  have e2 : (W.putObj l o').heap[Bs]? = W.heap[Bs]? := World.putObj_heap_other (by omega)
  unfold World.cell? at *
  dsimp only at *
  rw [e2]
  exact e

def valAt (l : List In) (x : At l) : Value := (l.getD x.1 in0).val

def encB (l : List In) (x : At l) : Array Value := #[.int .i64 (x.1 : Int), valAt l x]

end Go.Proofs.YtgemadoieielcacDoor
namespace Go.Proofs.YtgemadoieielcacDoor
open Go.ChangeShapes Go.WideShapes Go.ChangeAt Go.RowKit Go.Shelf

attribute [local go_sem] Oper.semAt_some

set_option maxRecDepth 100000 in
set_option maxHeartbeats 2000000 in
/-- Backwards through a slice. -/
theorem back1_in (n : Nat) (hn : 1 ≤ n) (lp Bs n₀ ic : Nat) (iad : Option Addr) (l : List In) (hl : l.length ≤ 2000) (J Jx : List (At l) → World → Prop)
    (hY : ∀ pre x W, J pre W → pre.length < l.length → YieldAt Fence.wide (n - 1) Tryd.prog lp (encB l x) W fun e W' => (e = .returned (.bool true) ∧ J (pre ++ [x]) W' ∧ KpB n₀ Bs (.slice iad l.length ic) W W') ∨ (e = .returned (.bool false) ∧ Jx (pre ++ [x]) W'))
    (W : World) (hBs : W.cell? ⟨Bs, 0, none⟩ = some (.slice iad l.length ic))
    (hc : l = [] ∨ ∃ b o, iad = some ⟨b, o, none⟩ ∧ b < n₀ ∧ ∀ j, j < l.length → W.cell? ⟨b, o + j * 3, none⟩ = some (.int .i64 (l.getD j in0).op) ∧ W.cell? ⟨b, o + j * 3 + 1, none⟩ = some (.int .i64 (l.getD j in0).a) ∧ W.cell? ⟨b, o + j * 3 + 2, none⟩ = some (.int .i64 (l.getD j in0).b)) (h0 : J [] W) :
    CallsIn Fence.wide n Tryd.prog 115 #[.func (.yield lp) #[] #[], .pointer (some ⟨Bs, 0, none⟩)] W fun e W' => (∃ v, e = .returned v) ∧
      ((∃ ys, (Dn l ys ∧ ys.length = l.length) ∧ J ys W') ∨ (∃ pre, (Dn l pre ∧ pre.length ≤ l.length) ∧ Jx pre W')) := by
  refine callsIn_of_wp Tryd.func115 rfl trivial ?_ rfl
  simp only [Tryd.ntmps115, List.size_toArray, List.length_cons, List.length_nil, Nat.reduceAdd, Nat.reduceSub, Array.replicate_succ, Array.replicate_zero, List.push_toArray, List.append_toArray, List.nil_append, List.cons_append]
  gi_wp2
  gi_loopw [3] (fun i wr => ∃ (m : Nat) (pre : List (At l)), i = .int .i64 ((m : Int) - 1) ∧ pre.length + m = l.length ∧ Dn l pre ∧ J pre wr ∧ KpB n₀ Bs (.slice iad l.length ic) W wr) (fun i _ => (intOf i + 1).toNat)
  case atStart => exact ⟨l.length, [], rfl, by simp, Dn.nil l, h0, KpB.refl _ _ _ _⟩
  case round =>
    obtain ⟨m, pre, rfl, hm, hd, hJs, hkp⟩ := hrel
    have hBr := hkp.2 hBs
    rcases m with _ | m
    · rw [show ((0 : Nat) : Int) - 1 = -1 from rfl]
      gi_wp2
      go_end0
      exact ⟨⟨_, rfl⟩, .inl ⟨pre, ⟨hd, by omega⟩, hJs⟩⟩
    · have em : ((m + 1 : Nat) : Int) - 1 = (m : Int) := by omega
      rw [em]
      have hml : m < l.length := by omega
      have hmi : (m : Int) < (l.length : Int) := by omega
      rcases hc with hc | ⟨b, o, rfl, hb, hc⟩
      · rw [hc] at hml; simp at hml
      obtain ⟨c0, c1, c2⟩ := hc m hml
      have d0 := (hkp.1.cell (p := ⟨b, o + m * 3, none⟩) hb).trans c0
      have d1 := (hkp.1.cell (p := ⟨b, o + m * 3 + 1, none⟩) hb).trans c1
      have d2 := (hkp.1.cell (p := ⟨b, o + m * 3 + 2, none⟩) hb).trans c2
      obtain ⟨fn, tmps, assign, body, hy, hR⟩ := hY pre ⟨m, hml⟩ wr hJs (by omega)
      unfold encB valAt In.val at hy
      dsimp only at hy
      rcases hx : l.getD m in0 with ⟨op, xa, xb⟩
      rw [hx] at hy d0 d1 d2
      dsimp only at hy d0 d1 d2
      clear c0 c1 c2
      gi_wp2
      refine hR.mono ?_
      rintro e W3 (⟨rfl, hJ3, hk3⟩ | ⟨rfl, hJx3⟩)
      · gi_wp2
        go_roundw
        case rel => exact ⟨m, _, rfl, by simp; omega, hd.snoc (by show m = _; omega), hJ3, hkp.trans hk3⟩
        case measure => simp [intOf]
      · gi_wp2
        refine bodyPost_ret (results_none rfl _ _ _) rfl ?_
        exact ⟨⟨_, rfl⟩, .inr ⟨_, ⟨hd.snoc (by show m = _; omega), by simp; omega⟩, hJx3⟩⟩

/-- slices.Backward. -/
theorem back_any (w : World) (iad : Option Addr) (n ic : Nat) : Calls Tryd.prog 80 #[.slice iad n ic] w fun r w' => r = .returned (.func (Fn.func 115) #[] #[.pointer (some ⟨w.heap.size, 0, none⟩)]) ∧ w' = w.alloc (.cells #[.slice iad n ic] 22) := by
  go_enter Tryd.func80, Tryd.ntmps80
  go_wp2_with fail
  go_ret
  exact ⟨rfl, rfl⟩

theorem back_stops (n : Nat) (hn : 1 ≤ n) (Bs n₀ ic : Nat) (iad : Option Addr) (l : List In) (hl : l.length ≤ 2000) (w : World) (hBw : Bs < w.heap.size)
    (hBs : w.cell? ⟨Bs, 0, none⟩ = some (.slice iad l.length ic))
    (hc : l = [] ∨ ∃ b o, iad = some ⟨b, o, none⟩ ∧ b < n₀ ∧ ∀ j, j < l.length → w.cell? ⟨b, o + j * 3, none⟩ = some (.int .i64 (l.getD j in0).op) ∧ w.cell? ⟨b, o + j * 3 + 1, none⟩ = some (.int .i64 (l.getD j in0).a) ∧ w.cell? ⟨b, o + j * 3 + 2, none⟩ = some (.int .i64 (l.getD j in0).b)) :
    SeqStopsK Fence.wide n Tryd.prog 115 #[.pointer (some ⟨Bs, 0, none⟩)] (encB l) (KpB n₀ Bs (.slice iad l.length ic)) (fun ys => Dn l ys ∧ ys.length = l.length) (fun pre => Dn l pre ∧ pre.length ≤ l.length) l.length w := fun lp J Jx W hW _ _ hY h0 => by
  refine back1_in n hn lp Bs n₀ ic iad l hl J Jx hY W ((hW.cell (p := ⟨Bs, 0, none⟩) hBw).trans hBs) ?_ h0
  rcases hc with hc | ⟨b, o, e, hb, hc⟩
  · exact .inl hc
  · exact .inr ⟨b, o, e, hb, fun j hj => ⟨below_cell hW (hc j hj).1, below_cell hW (hc j hj).2.1, below_cell hW (hc j hj).2.2⟩⟩

end Go.Proofs.YtgemadoieielcacDoor
