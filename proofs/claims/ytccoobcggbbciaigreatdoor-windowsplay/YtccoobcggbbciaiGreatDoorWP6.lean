import Derived.Test.YtccoobcggbbciaiGreatDoorWP4
import Derived.Test.YtccoobcggbbciaiGreatDoorWP2
import Derived.Test.YtccoobcggbbciaiGreatDoorTQ
import Derived.Test.YtccoobcggbbciaiGreatDoorVK
import Derived.Test.YtccoobcggbbciaiGreatDoorYQ1
import Derived.Test.YtccoobcggbbciaiGreatDoorVM
import Derived.Test.YtccoobcggbbciaiGreatDoorSLW
import Derived.Test.YtccoobcggbbciaiGreatDoorTO
import Derived.Test.YtccoobcggbbciaiGreatDoorCards
import Derived.Test.YtccoobcggbbciaiGreatDoorTie
import Derived.LaidMore
import Derived.ChangeArms
import Derived.OpenShut
import Derived.WideKeyArgs
import Derived.Deep.DeepHandedRow
namespace Go.Proofs.YtccoobcggbbciaiGreatDoor.S8
open Go.ChangeShapes Go.WideShapes Go.ChangeAt Go.RowKit

def noW : Wi := ⟨-9, 0⟩
theorem wiAt_below {w w' : World} {b o : Nat} {x : Wi} (h : WiAt w b o x) (hb : Below w.heap.size w w') : WiAt w' b o x := ⟨below_cell hb h.1, below_cell hb h.2⟩

/-- What the law holds. -/
structure NSL (w W : World) (l : List Ta) (wl : List Wi) (js : List Jb) (o1 o2 o3 : Value) : Prop where
  bel : Below w.heap.size w W
  l1 : Lent Ta.vals W l noT o1
  l2 : Lent Wi.vals W wl noW o2
  l3 : Lent Jb.vals W js noJ o3
theorem NSL.grow {w W W' : World} {l : List Ta} {wl : List Wi} {js : List Jb} {o1 o2 o3 : Value} (h : NSL w W l wl js o1 o2 o3) (hb : Below W.heap.size W W') : NSL w W' l wl js o1 o2 o3 :=
  ⟨below_seq h.bel hb, h.l1.below hb, h.l2.below hb, h.l3.below hb⟩

/-- What it holds while it plays. -/
structure PLL (w W : World) (l : List Ta) (wl : List Wi) (js : List Jb) (o1 o2 o3 : Value) (G : Nat) (rs es : List Int) (b1 b2 : Value) (z1 z2 : Int) : Prop where
  nsl : NSL w W l wl js o1 o2 o3
  c1 : W.heap[G]? = some (.cells [b1, b2].toArray 41 (0, 0))
  c2 : W.heap[G + 1]? = some (.cells [.int .i64 z1, .int .i64 z2].toArray 30 (0, 0))
  r1 : RowSl nuV W rs b1
  r2 : RowSl nuV W es b2
theorem PLL.grow {w W W' : World} {l : List Ta} {wl : List Wi} {js : List Jb} {o1 o2 o3 : Value} {G : Nat} {rs es : List Int} {b1 b2 : Value} {z1 z2 : Int} (h : PLL w W l wl js o1 o2 o3 G rs es b1 b2 z1 z2) (hb : Below W.heap.size W W') : PLL w W' l wl js o1 o2 o3 G rs es b1 b2 z1 z2 :=
  ⟨h.nsl.grow hb, (hb.block _ (lt_of_heap h.c1)).trans h.c1, (hb.block _ (lt_of_heap h.c2)).trans h.c2, h.r1.below hb, h.r2.below hb⟩

/-- A fault's block that stays. -/
def FL (W : World) (G : Nat) (z1 z2 : Int) : Prop := W.heap[G]? = some (.cells #[.int .i64 z1, .int .i64 z2] 30 (0, 0))
theorem FL.grow {W W' : World} {G : Nat} {z1 z2 : Int} (h : FL W G z1 z2) (hb : Below W.heap.size W W') : FL W' G z1 z2 := (hb.block G (Array.getElem?_eq_some_iff.1 h).1).trans h
theorem FL.new (W : World) (z1 z2 : Int) : FL (W.alloc (.cells #[.int .i64 z1, .int .i64 z2] 30)) W.heap.size z1 z2 := heap_alloc_new _ _
theorem FL.cells {W : World} {G : Nat} {z1 z2 : Int} (h : FL W G z1 z2) : W.cell? ⟨G, 0, none⟩ = some (.int .i64 z1) ∧ W.cell? ⟨G, 1, none⟩ = some (.int .i64 z2) ∧ G < W.heap.size := by
  obtain ⟨c1, f1, l1⟩ := cells_of (l := [_, _]) h
  exact ⟨c1 0 _ rfl, c1 1 _ rfl, l1⟩

/-- What a round holds. -/
structure RND (wr W : World) (D : Nat) (rs es : List Int) (v1 v2 : Value) (p1 p2 : Option Nat) : Prop where
  bel : Below wr.heap.size wr W
  d1 : W.heap[D]? = some (.cells [v1, v2].toArray 41 (0, 0))
  r1 : RowOwn wr.heap.size W rs v1 p1
  r2 : RowOwn wr.heap.size W es v2 p2
  ne : ∀ g, p1 = some g → p2 ≠ some g
  nd : p1 ≠ some D ∧ p2 ≠ some D
  lo : (∀ g, p1 = some g → wr.heap.size ≤ g) ∧ (∀ g, p2 = some g → wr.heap.size ≤ g)

theorem RND.grow {wr W W' : World} {D : Nat} {rs es : List Int} {v1 v2 : Value} {p1 p2 : Option Nat} (h : RND wr W D rs es v1 v2 p1 p2) (hb : Below W.heap.size W W') : RND wr W' D rs es v1 v2 p1 p2 :=
  ⟨below_seq h.bel hb, (hb.block _ (lt_of_heap h.d1)).trans h.d1, h.r1.keep (grown_of_below hb) (fun _ _ e => by cases e), h.r2.keep (grown_of_below hb) (fun _ _ e => by cases e), h.ne, h.nd, h.lo⟩

/-- What it holds behind the first Spoil. -/
structure RN2 (wr W : World) (D : Nat) (es : List Int) (v1 v2 : Value) (p2 : Option Nat) : Prop where
  bel : Below wr.heap.size wr W
  d1 : W.heap[D]? = some (.cells [v1, v2].toArray 41 (0, 0))
  r2 : RowOwn wr.heap.size W es v2 p2
  lo : ∀ g, p2 = some g → wr.heap.size ≤ g

theorem RN2.grow {wr W W' : World} {D : Nat} {es : List Int} {v1 v2 : Value} {p2 : Option Nat} (h : RN2 wr W D es v1 v2 p2) (hb : Below W.heap.size W W') : RN2 wr W' D es v1 v2 p2 :=
  ⟨below_seq h.bel hb, (hb.block _ (lt_of_heap h.d1)).trans h.d1, h.r2.keep (grown_of_below hb) (fun _ _ e => by cases e), h.lo⟩

theorem RND.spoil {wr W W' : World} {D : Nat} {rs es : List Int} {v1 v2 : Value} {p1 p2 : Option Nat} (h : RND wr W D rs es v1 v2 p1 p2) (hg : W.grownBy W' p1) : RN2 wr W' D es v1 v2 p2 :=
  ⟨h.bel.trans (grownBy_below hg h.bel.size h.lo.1), (hg.block _ (lt_of_heap h.d1) (fun e => h.nd.1 e.symm)).trans h.d1, h.r2.keep hg (fun g e e2 => h.ne g e2 e), h.lo.2⟩

theorem RN2.spoil {wr W W' : World} {D : Nat} {es : List Int} {v1 v2 : Value} {p2 : Option Nat} (h : RN2 wr W D es v1 v2 p2) (hg : W.grownBy W' p2) : Below wr.heap.size wr W' :=
  h.bel.trans (grownBy_below hg h.bel.size h.lo)

theorem RND.start {wr W W' : World} {rs es : List Int} {v1 v2 : Value} (h : Res wr W rs es v1 v2) (hb : Below W.heap.size W W') (hd : W'.heap[W.heap.size]? = some (.cells [v1, v2].toArray 41 (0, 0))) : ∃ p1 p2, RND wr W' W.heap.size rs es v1 v2 p1 p2 := by
  obtain ⟨hbel, -, -, p1, p2, h1, h2, hne⟩ := h
  have key : ∀ (xs : List Int) v p, RowOwn wr.heap.size W xs v p → p ≠ some W.heap.size ∧ ∀ g, p = some g → wr.heap.size ≤ g := fun xs v p hp => by
    rcases hp with ⟨rfl, -⟩ | ⟨g, rfl, -, hg, hB, -⟩
    · exact ⟨by simp, fun g e => by cases e⟩
    · refine ⟨fun e => ?_, fun q e => by cases e; exact hB⟩
      have := lt_of_heap hg
      have e2 : g = W.heap.size := Option.some.inj e
      omega
  exact ⟨p1, p2, below_seq hbel hb, hd, h1.keep (grown_of_below hb) (fun _ _ e => by cases e), h2.keep (grown_of_below hb) (fun _ _ e => by cases e), hne, ⟨(key _ _ _ h1).1, (key _ _ _ h2).1⟩, (key _ _ _ h1).2, (key _ _ _ h2).2⟩



set_option maxRecDepth 20000 in
set_option maxHeartbeats 16000000 in
theorem wplay_walk (w : World) (l : List Ta) (i n : Int) (wl : List Wi) (js : List Jb) (u : Int) (v vw vj : Value) (hS : ∀ x ∈ l, x.nm.size ≤ 9223372036854775807) (hg : TaAt w 2 0 noT) (hg1 : WiAt w 3 0 noW) (hg2 : JbAt w 4 0 noJ) (hv : RowSl Ta.vals w l v) (hvw : RowSl Wi.vals w wl vw) (hvj : RowSl Jb.vals w js vj) :
    Calls Tryz.prog 4 #[v, .int .i64 i, .int .i64 n, vw, vj, .int .i64 u] w fun r w' => r = .returned (.bool true) ∧ Below w.heap.size w w' := by
  obtain ⟨ad, c, rfl⟩ := hv.len
  obtain ⟨ad1, c1, rfl⟩ := hvw.len
  obtain ⟨ad2, c2, rfl⟩ := hvj.len
  have HG : Hid (TaAt w 2 0 noT ∧ WiAt w 3 0 noW ∧ JbAt w 4 0 noJ ∧ ∀ x ∈ l, x.nm.size ≤ 9223372036854775807) := ⟨hg, hg1, hg2, hS⟩
  have HV : Hid (RowSl Ta.vals w l (.slice ad l.length c) ∧ RowSl Wi.vals w wl (.slice ad1 wl.length c1) ∧ RowSl Jb.vals w js (.slice ad2 js.length c2)) := ⟨hv, hvw, hvj⟩
  clear hg hg1 hg2 hv hvw hvj hS
  have HL := LendT_any
  have HT := StillT_any
  have HL1 := V8.LendW_any
  have HT1 := V8.StillW_any
  have HL2 := LendJ_any
  have HT2 := StillJ_any
  unfold Ta.val at HL HT
  unfold Wi.val at HL1 HT1
  unfold Jb.val at HL2 HT2
  go_enter Tryz.func4, Tryz.ntmps4
  go_upto_region 3 with (go_at_call 18; refine (opens_any w).mono ?_; rintro r w1 ⟨rfl, hb1⟩; have H1 : Hid (Below w.heap.size w w1) := hb1; clear hb1)
  by_cases b1 : l.length ≤ 5000
  rotate_left 1
  · have fa : decide ((l.length : Int) ≤ 5000) = false := by simp; omega
    have fb := fa
    have fc := fa
    have hs := fa
    go_wp2_with (first | (go_at_call 6; refine (_root_.Go.Proofs.YtccoobcggbbciaiGreatDoor.few_any _ _).mono ?_; rintro r w6 ⟨rfl, hw6⟩; have hw7 := hw6.symm; subst hw7; clear hw6; first | rw [fa] | rw [fb] | rw [fc]) | (go_at_call 7; refine (small_any _ _ _).mono ?_; rintro r w6 ⟨rfl, hw6⟩; have hw7 := hw6.symm; subst hw7; clear hw6; rw [hs]))
    go_ret
    exact ⟨rfl, H1.out⟩
  have fa : decide ((l.length : Int) ≤ 5000) = true := by simp; omega
  by_cases b2 : wl.length ≤ 5000
  rotate_left 1
  · have fb : decide ((wl.length : Int) ≤ 5000) = false := by simp; omega
    have fc := fa
    have hs := fa
    go_wp2_with (first | (go_at_call 6; refine (_root_.Go.Proofs.YtccoobcggbbciaiGreatDoor.few_any _ _).mono ?_; rintro r w6 ⟨rfl, hw6⟩; have hw7 := hw6.symm; subst hw7; clear hw6; first | rw [fa] | rw [fb] | rw [fc]) | (go_at_call 7; refine (small_any _ _ _).mono ?_; rintro r w6 ⟨rfl, hw6⟩; have hw7 := hw6.symm; subst hw7; clear hw6; rw [hs]))
    go_ret
    exact ⟨rfl, H1.out⟩
  have fb : decide ((wl.length : Int) ≤ 5000) = true := by simp; omega
  by_cases b3 : js.length ≤ 5000
  rotate_left 1
  · have fc : decide ((js.length : Int) ≤ 5000) = false := by simp; omega
    have hs := fa
    go_wp2_with (first | (go_at_call 6; refine (_root_.Go.Proofs.YtccoobcggbbciaiGreatDoor.few_any _ _).mono ?_; rintro r w6 ⟨rfl, hw6⟩; have hw7 := hw6.symm; subst hw7; clear hw6; first | rw [fa] | rw [fb] | rw [fc]) | (go_at_call 7; refine (small_any _ _ _).mono ?_; rintro r w6 ⟨rfl, hw6⟩; have hw7 := hw6.symm; subst hw7; clear hw6; rw [hs]))
    go_ret
    exact ⟨rfl, H1.out⟩
  have fc : decide ((js.length : Int) ≤ 5000) = true := by simp; omega
  by_cases hs0 : smallB (js.length : Int) u = true
  rotate_left 1
  · have hs : smallB (js.length : Int) u = false := by simpa using hs0
    go_wp2_with (first | (go_at_call 6; refine (_root_.Go.Proofs.YtccoobcggbbciaiGreatDoor.few_any _ _).mono ?_; rintro r w6 ⟨rfl, hw6⟩; have hw7 := hw6.symm; subst hw7; clear hw6; first | rw [fa] | rw [fb] | rw [fc]) | (go_at_call 7; refine (small_any _ _ _).mono ?_; rintro r w6 ⟨rfl, hw6⟩; have hw7 := hw6.symm; subst hw7; clear hw6; rw [hs]))
    go_ret
    exact ⟨rfl, H1.out⟩
  have hs := hs0
  clear hs0
  by_cases hbig : 500 < n ∧ n ≤ 10000
  · have hn5' : decide (500 < n) = true := decide_eq_true hbig.1
    have hn6' : decide (n ≤ 10000) = true := decide_eq_true hbig.2
    go_wp2_with (first | (go_at_call 6; refine (_root_.Go.Proofs.YtccoobcggbbciaiGreatDoor.few_any _ _).mono ?_; rintro r w6 ⟨rfl, hw6⟩; have hw7 := hw6.symm; subst hw7; clear hw6; first | rw [fa] | rw [fb] | rw [fc]) | (go_at_call 7; refine (small_any _ _ _).mono ?_; rintro r w6 ⟨rfl, hw6⟩; have hw7 := hw6.symm; subst hw7; clear hw6; rw [hs]))
    go_ret
    exact ⟨rfl, H1.out⟩
  go_cut [58] from 28 to 57 (fun cv W => cv = .bool false ∧ W = w1)
  case first =>
    by_cases hn5 : 500 < n
    · have hn5' : decide (500 < n) = true := decide_eq_true hn5
      have hn6' : decide (n ≤ 10000) = false := decide_eq_false (fun h => hbig ⟨hn5, h⟩)
      go_wp2_with (first | (go_at_call 6; refine (_root_.Go.Proofs.YtccoobcggbbciaiGreatDoor.few_any _ _).mono ?_; rintro r w6 ⟨rfl, hw6⟩; have hw7 := hw6.symm; subst hw7; clear hw6; first | rw [fa] | rw [fb] | rw [fc]) | (go_at_call 7; refine (small_any _ _ _).mono ?_; rintro r w6 ⟨rfl, hw6⟩; have hw7 := hw6.symm; subst hw7; clear hw6; rw [hs]))
      go_meet
      case rel => exact ⟨rfl, rfl⟩
    · have hn5' : decide (500 < n) = false := decide_eq_false hn5
      go_wp2_with (first | (go_at_call 6; refine (_root_.Go.Proofs.YtccoobcggbbciaiGreatDoor.few_any _ _).mono ?_; rintro r w6 ⟨rfl, hw6⟩; have hw7 := hw6.symm; subst hw7; clear hw6; first | rw [fa] | rw [fb] | rw [fc]) | (go_at_call 7; refine (small_any _ _ _).mono ?_; rintro r w6 ⟨rfl, hw6⟩; have hw7 := hw6.symm; subst hw7; clear hw6; rw [hs]))
      go_meet
      case rel => exact ⟨rfl, rfl⟩
  case rest =>
    obtain ⟨rfl, hwc⟩ := hcut
    have hwc' := hwc.symm
    subst hwc'
    clear hwc hs fa fb fc hbig
    go_wp2_with fail
    go_loopw [61] (fun iv wr => ∃ j : Nat, j ≤ l.length ∧ iv = .int .i64 (j : Int) ∧ Hid (Below w.heap.size w wr)) (fun iv _ => l.length - (intOf iv).toNat)
    case atStart => exact ⟨0, Nat.zero_le _, rfl, H1.out⟩
    case round =>
      obtain ⟨j, hj, rfl, HB⟩ := hrel
      clear H1
      by_cases hjl : j < l.length
      · obtain ⟨x, hx, -⟩ := drop_at hjl
        obtain ⟨ad', c', he, -, hcap, hrow⟩ := HV.out.1
        cases he
        rcases hrow with h | ⟨b, o, rfl, hrow⟩
        · rw [h] at hjl; simp at hjl
        obtain ⟨y0, y1, y2, y3, y4, y5, y6⟩ := ta_at (fun q u hq => below_cell HB.out (hrow q u hq)) hx
        have lb : b < wr.heap.size := World.block_lt_of_cell? _ _ y0
        have hji : (j : Int) < (l.length : Int) := by omega
        obtain ⟨xn, xc, xt, xd, xj, xo, xp⟩ := x
        dsimp only at y0 y1 y2 y3 y4 y5 y6
        clear hrow hx HL HL1 HL2 HT HT1 HT2
        by_cases h5 : 500 < xd
        · have h5' : decide (500 < xd) = true := decide_eq_true h5
          by_cases h6 : xd ≤ 10000
          · have h6' : decide (xd ≤ 10000) = true := decide_eq_true h6
            go_wp2_with fail
            go_ret
            exact ⟨rfl, below_seq HB.out (below_new _ _)⟩
          · have h6' : decide (xd ≤ 10000) = false := decide_eq_false h6
            go_wp2_with fail
            exact ⟨⟨j + 1, by omega, by simp, below_seq HB.out (below_new _ _)⟩, by simp [intOf]; omega⟩
        · have h5' : decide (500 < xd) = false := decide_eq_false h5
          go_wp2_with fail
          exact ⟨⟨j + 1, by omega, by simp, below_seq HB.out (below_new _ _)⟩, by simp [intOf]; omega⟩
      · have hje : j = l.length := by omega
        subst hje
        have H1 : Hid (Below w.heap.size w wr) := HB.out
        clear HB hj hjl
        go_upto_region 11 with fail
        have HS : Hid (∀ w', Below wr.drew.heap.size wr.drew w' → (fun w' : World => w'.cell? ⟨2, 0, none⟩ = some (.string ⟨#[63]⟩) ∧ w'.cell? ⟨2, 1, none⟩ = some (.int .i64 (-9)) ∧ w'.cell? ⟨2, 2, none⟩ = some (.int .i64 0) ∧ w'.cell? ⟨2, 3, none⟩ = some (.int .i64 0) ∧ w'.cell? ⟨2, 4, none⟩ = some (.int .i64 0) ∧ w'.cell? ⟨2, 5, none⟩ = some (.int .i64 0) ∧ w'.cell? ⟨2, 6, none⟩ = some (.int .i64 0) ∧ w'.cell? ⟨3, 0, none⟩ = some (.int .i64 (-9)) ∧ w'.cell? ⟨3, 1, none⟩ = some (.int .i64 0) ∧ w'.cell? ⟨4, 0, none⟩ = some (.int .i64 (-9)) ∧ w'.cell? ⟨4, 1, none⟩ = some (.int .i64 0) ∧ w'.cell? ⟨4, 2, none⟩ = some (.int .i64 0) ∧ w'.cell? ⟨4, 3, none⟩ = some (.int .i64 0) ∧ w'.cell? ⟨4, 4, none⟩ = some (.int .i64 0)) w') := fun w' hb' => by
          obtain ⟨k0, k1, k2, k3, k4, k5, k6⟩ := HG.out.1.below (below_seq H1.out (Below.refl _ _).drew)
          obtain ⟨m0, m1⟩ := wiAt_below HG.out.2.1 (below_seq H1.out (Below.refl _ _).drew)
          obtain ⟨n0, n1, n2, n3, n4⟩ := HG.out.2.2.1.below (below_seq H1.out (Below.refl _ _).drew)
          exact ⟨below_cell hb' k0, below_cell hb' k1, below_cell hb' k2, below_cell hb' k3, below_cell hb' k4, below_cell hb' k5, below_cell hb' k6, below_cell hb' m0, below_cell hb' m1, below_cell hb' n0, below_cell hb' n1, below_cell hb' n2, below_cell hb' n3, below_cell hb' n4⟩
        have hS0 := HS.out _ (Below.refl _ _)
        refine wp_region_noPanic ?_
        refine wp_region_held_drew (S := fun w' : World => w'.cell? ⟨2, 0, none⟩ = some (.string ⟨#[63]⟩) ∧ w'.cell? ⟨2, 1, none⟩ = some (.int .i64 (-9)) ∧ w'.cell? ⟨2, 2, none⟩ = some (.int .i64 0) ∧ w'.cell? ⟨2, 3, none⟩ = some (.int .i64 0) ∧ w'.cell? ⟨2, 4, none⟩ = some (.int .i64 0) ∧ w'.cell? ⟨2, 5, none⟩ = some (.int .i64 0) ∧ w'.cell? ⟨2, 6, none⟩ = some (.int .i64 0) ∧ w'.cell? ⟨3, 0, none⟩ = some (.int .i64 (-9)) ∧ w'.cell? ⟨3, 1, none⟩ = some (.int .i64 0) ∧ w'.cell? ⟨4, 0, none⟩ = some (.int .i64 (-9)) ∧ w'.cell? ⟨4, 1, none⟩ = some (.int .i64 0) ∧ w'.cell? ⟨4, 2, none⟩ = some (.int .i64 0) ∧ w'.cell? ⟨4, 3, none⟩ = some (.int .i64 0) ∧ w'.cell? ⟨4, 4, none⟩ = some (.int .i64 0)) (by kernel_rfl) hS0 (fun hHeld => ?_)
        refine take_at (i := 0) (n := 74) (v := ?_) rfl rfl (by kernel_rfl) (by kernel_rfl) (by kernel_rfl) (fun _ _ _ h => h) (Or.inl ⟨by rfl, ?_⟩) (by assumption) ?_
        rotate_left 1
        · intro wz1 hSw
          obtain ⟨s0, s1, s2, s3, s4, s5, s6, s7, s8, s9, s10, s11, s12, s13⟩ := hSw
          first | (go_simp; done) | (go_simp; with_reducible rfl)
        simp only [List.set_cons_zero, List.set_cons_succ]
        refine take_at (i := 1) (n := 75) (v := ?_) rfl rfl (by kernel_rfl) (by kernel_rfl) (by kernel_rfl) (fun _ _ _ h => h) (Or.inl ⟨by rfl, ?_⟩) (by assumption) ?_
        rotate_left 1
        · intro wz1 hSw
          obtain ⟨s0, s1, s2, s3, s4, s5, s6, s7, s8, s9, s10, s11, s12, s13⟩ := hSw
          first | (go_simp; done) | (go_simp; with_reducible rfl)
        simp only [List.set_cons_zero, List.set_cons_succ]
        refine take_at (i := 3) (n := 77) (v := ?_) rfl rfl (by kernel_rfl) (by kernel_rfl) (by kernel_rfl) (fun _ _ _ h => h) (Or.inl ⟨by rfl, ?_⟩) (by assumption) ?_
        rotate_left 1
        · intro wz1 hSw
          obtain ⟨s0, s1, s2, s3, s4, s5, s6, s7, s8, s9, s10, s11, s12, s13⟩ := hSw
          first | (go_simp; done) | (go_simp; with_reducible rfl)
        simp only [List.set_cons_zero, List.set_cons_succ]
        refine take_at (i := 4) (n := 78) (v := ?_) rfl rfl (by kernel_rfl) (by kernel_rfl) (by kernel_rfl) (fun _ _ _ h => h) (Or.inl ⟨by rfl, ?_⟩) (by assumption) ?_
        rotate_left 1
        · intro wz1 hSw
          obtain ⟨s0, s1, s2, s3, s4, s5, s6, s7, s8, s9, s10, s11, s12, s13⟩ := hSw
          first | (go_simp; done) | (go_simp; with_reducible rfl)
        simp only [List.set_cons_zero, List.set_cons_succ]
        refine take_at (i := 6) (n := 80) (v := ?_) rfl rfl (by kernel_rfl) (by kernel_rfl) (by kernel_rfl) (fun _ _ _ h => h) (Or.inl ⟨by rfl, ?_⟩) (by assumption) ?_
        rotate_left 1
        · intro wz1 hSw
          obtain ⟨s0, s1, s2, s3, s4, s5, s6, s7, s8, s9, s10, s11, s12, s13⟩ := hSw
          first | (go_simp; done) | (go_simp; with_reducible rfl)
        simp only [List.set_cons_zero, List.set_cons_succ]
        refine take_at (i := 7) (n := 81) (v := ?_) rfl rfl (by kernel_rfl) (by kernel_rfl) (by kernel_rfl) (fun _ _ _ h => h) (Or.inl ⟨by rfl, ?_⟩) (by assumption) ?_
        rotate_left 1
        · intro wz1 hSw
          obtain ⟨s0, s1, s2, s3, s4, s5, s6, s7, s8, s9, s10, s11, s12, s13⟩ := hSw
          first | (go_simp; done) | (go_simp; with_reducible rfl)
        simp only [List.set_cons_zero, List.set_cons_succ]
        have H2 : Hid (Below w.heap.size w wr.drew) := below_seq H1.out (Below.refl _ _).drew
        generalize wr.drew = w2 at *
        refine wpAnyH_ready (rs := [2]) (by kernel_rfl) (by simp) ?_
        refine AllReadyH.cons rfl (fun K' hK' => ?_) AllReadyH.nil
        go_simp
        go_wp2_with (go_at_call 19; refine (HL _ l noT _ (by omega) (HV.out.1.below H2.out)).mono ?_; rintro r wa ⟨o1, rfl, hl9, hb9⟩; obtain ⟨b6, o6, c6, rfl, -⟩ := id hl9; have Ha : Hid (Below w2.heap.size w2 wa ∧ Lent Ta.vals wa l noT (.slice (some ⟨b6, o6, none⟩) l.length c6)) := ⟨hb9, hl9⟩; clear hl9 hb9)
        refine hK'.out _ _ (HS.out _ Ha.out.1) (fun hHeld => ?_)
        clear hK' K'
        have hSa := HS.out _ Ha.out.1
        refine wpAnyH_ready (rs := [5]) (by kernel_rfl) (by simp) ?_
        refine AllReadyH.cons rfl (fun K' hK' => ?_) AllReadyH.nil
        go_simp
        go_wp2_with (go_at_call 20; refine (HL1 _ wl noW _ (by omega) (HV.out.2.1.below (below_seq H2.out Ha.out.1))).mono ?_; rintro r wb ⟨o2, rfl, hl9, hb9⟩; obtain ⟨b7, o7, c7, rfl, -⟩ := id hl9; have Hb : Hid (Below w2.heap.size w2 wb ∧ Lent Ta.vals wb l noT (.slice (some ⟨b6, o6, none⟩) l.length c6) ∧ Lent Wi.vals wb wl noW (.slice (some ⟨b7, o7, none⟩) wl.length c7)) := ⟨below_seq Ha.out.1 hb9, Ha.out.2.below hb9, hl9⟩; clear hl9 hb9)
        refine hK'.out _ _ (HS.out _ Hb.out.1) (fun hHeld => ?_)
        clear hK' K'
        have hSb := HS.out _ Hb.out.1
        refine wpAnyH_ready (rs := [8]) (by kernel_rfl) (by simp) ?_
        refine AllReadyH.cons rfl (fun K' hK' => ?_) AllReadyH.nil
        go_simp
        go_wp2_with (go_at_call 21; refine (HL2 _ js noJ _ (by omega) (HV.out.2.2.below (below_seq H2.out Hb.out.1))).mono ?_; rintro r wc ⟨o3, rfl, hl9, hb9⟩; obtain ⟨b8, o8, c8, rfl, -⟩ := id hl9; have Hc : Hid (NSL w wc l wl js (.slice (some ⟨b6, o6, none⟩) l.length c6) (.slice (some ⟨b7, o7, none⟩) wl.length c7) (.slice (some ⟨b8, o8, none⟩) js.length c8) ∧ Below w2.heap.size w2 wc) := ⟨⟨below_seq H2.out (below_seq Hb.out.1 hb9), Hb.out.2.1.below hb9, Hb.out.2.2.below hb9, hl9⟩, below_seq Hb.out.1 hb9⟩; clear hl9 hb9)
        refine hK'.out _ _ (HS.out _ Hc.out.2) (fun hHeld => ?_)
        clear hK' K'
        have hSc := HS.out _ Hc.out.2
        refine take_at (i := 9) (n := 15) (v := ?_) rfl rfl (by kernel_rfl) (by kernel_rfl) (by kernel_rfl) (fun _ _ _ h => h) (Or.inl ⟨by rfl, ?_⟩) (by assumption) ?_
        rotate_left 1
        · intro wz1 hSw
          obtain ⟨s0, s1, s2, s3, s4, s5, s6, s7, s8, s9, s10, s11, s12, s13⟩ := hSw
          first | (go_simp; done) | (go_simp; with_reducible rfl)
        simp only [List.set_cons_zero, List.set_cons_succ]
        refine take_at (i := 10) (n := 16) (v := ?_) rfl rfl (by kernel_rfl) (by kernel_rfl) (by kernel_rfl) (fun _ _ _ h => h) (Or.inl ⟨by rfl, ?_⟩) (by assumption) ?_
        rotate_left 1
        · intro wz1 hSw
          obtain ⟨s0, s1, s2, s3, s4, s5, s6, s7, s8, s9, s10, s11, s12, s13⟩ := hSw
          first | (go_simp; done) | (go_simp; with_reducible rfl)
        simp only [List.set_cons_zero, List.set_cons_succ]
        refine take_at (i := 11) (n := 17) (v := ?_) rfl rfl (by kernel_rfl) (by kernel_rfl) (by kernel_rfl) (fun _ _ _ h => h) (Or.inl ⟨by rfl, ?_⟩) (by assumption) ?_
        rotate_left 1
        · intro wz1 hSw
          obtain ⟨s0, s1, s2, s3, s4, s5, s6, s7, s8, s9, s10, s11, s12, s13⟩ := hSw
          first | (go_simp; done) | (go_simp; with_reducible rfl)
        simp only [List.set_cons_zero, List.set_cons_succ]
        refine wpAnyH_done (by kernel_rfl) ?_ _
        refine NoPanic.normal ?_
        have Hd : Hid (NSL w wc l wl js (.slice (some ⟨b6, o6, none⟩) l.length c6) (.slice (some ⟨b7, o7, none⟩) wl.length c7) (.slice (some ⟨b8, o8, none⟩) js.length c8)) := Hc.out.1
        clear hSa hSb hSc hS0 HS Ha Hb Hc HL HL1 HL2 hHeld H1 H2
        have HW1 := Within_any wc l i n wl _ _ (by omega) Hd.out.l1.plain Hd.out.l2.plain
        go_upto_region 13 with (go_at_call 22; refine HW1.mono ?_; rintro r wd ⟨pv, p1, p2, rfl, hb, his⟩; have He : Hid (NSL w (wd.alloc (.cells #[.int .i64 p1, .int .i64 p2] 30)) l wl js (.slice (some ⟨b6, o6, none⟩) l.length c6) (.slice (some ⟨b7, o7, none⟩) wl.length c7) (.slice (some ⟨b8, o8, none⟩) js.length c8) ∧ FL (wd.alloc (.cells #[.int .i64 p1, .int .i64 p2] 30)) wd.heap.size p1 p2 ∧ WiS l i n wl pv p1 p2) := ⟨(Hd.out.grow hb).grow (below_new _ _), FL.new _ _ _, his⟩; clear hb his HW1 Hd)
        generalize (wd.alloc (.cells #[.int .i64 p1, .int .i64 p2] 30)) = we at *
        generalize wd.heap.size = G1 at *
        have HW2 := WithinOf_any we l i n wl _ _ HG.out.2.2.2 (HV.out.1.below He.out.1.bel) (HV.out.2.1.below He.out.1.bel)
        go_upto_region 14 with (go_at_call 23; refine HW2.mono ?_; rintro r wf ⟨pv', p1', p2', rfl, hb, his⟩; obtain ⟨rfl, rfl, rfl⟩ := wiS_one He.out.2.2 his; have Hf : Hid (NSL w (wf.alloc (.cells #[.int .i64 p1, .int .i64 p2] 30)) l wl js (.slice (some ⟨b6, o6, none⟩) l.length c6) (.slice (some ⟨b7, o7, none⟩) wl.length c7) (.slice (some ⟨b8, o8, none⟩) js.length c8) ∧ FL (wf.alloc (.cells #[.int .i64 p1, .int .i64 p2] 30)) G1 p1 p2 ∧ FL (wf.alloc (.cells #[.int .i64 p1, .int .i64 p2] 30)) wf.heap.size p1 p2) := ⟨(He.out.1.grow hb).grow (below_new _ _), (He.out.2.1.grow hb).grow (below_new _ _), FL.new _ _ _⟩; clear hb his HW2 He)
        generalize (wf.alloc (.cells #[.int .i64 p1, .int .i64 p2] 30)) = wg at *
        generalize wf.heap.size = G2 at *
        obtain ⟨f10, f11, f1l⟩ := Hf.out.2.1.cells
        obtain ⟨f20, f21, f2l⟩ := Hf.out.2.2.cells
        have Hg : Hid (NSL w wg l wl js (.slice (some ⟨b6, o6, none⟩) l.length c6) (.slice (some ⟨b7, o7, none⟩) wl.length c7) (.slice (some ⟨b8, o8, none⟩) js.length c8)) := Hf.out.1
        have HH := HostedOf_res wg js wl n u _ _ (HV.out.2.2.below Hg.out.bel) (HV.out.2.1.below Hg.out.bel)
        clear Hf
        go_wp2_with (go_at_call 24; refine HH.mono ?_; rintro r w9 ⟨v1, v2, z1, z2, rs, es, rfl, hpr, hres⟩; obtain ⟨a1, d1, a2, d2, rfl, rfl⟩ := hres.slices; have H9 : Hid (HoRes js n wl u z1 z2 rs es ∧ Res wg w9 rs es (.slice a1 rs.length d1) (.slice a2 es.length d2)) := ⟨hpr, hres⟩; clear hpr hres HH f10 f11 f1l f20 f21 f2l)
        have hx1 : ((w9.alloc (.cells #[.slice a1 rs.length d1, .slice a2 es.length d2] 41)).alloc (.cells #[.int .i64 z1, .int .i64 z2] 30)).heap[w9.heap.size]? = some (.cells [.slice a1 rs.length d1, .slice a2 es.length d2].toArray 41 (0, 0)) := (Below.heap_alloc _ _ _ (by simp)).trans (heap_alloc_new _ _)
        have hx2 : ((w9.alloc (.cells #[.slice a1 rs.length d1, .slice a2 es.length d2] 41)).alloc (.cells #[.int .i64 z1, .int .i64 z2] 30)).heap[w9.heap.size + 1]? = some (.cells [.int .i64 z1, .int .i64 z2].toArray 30 (0, 0)) := by
          have := heap_alloc_new (w9.alloc (.cells #[.slice a1 rs.length d1, .slice a2 es.length d2] 41)) (.cells #[.int .i64 z1, .int .i64 z2] 30)
          simpa using this
        have hb6 : Below w9.heap.size w9 ((w9.alloc (.cells #[.slice a1 rs.length d1, .slice a2 es.length d2] 41)).alloc (.cells #[.int .i64 z1, .int .i64 z2] 30)) := below_seq (below_new _ _) (below_new _ _)
        have Hc : Hid (PLL w ((w9.alloc (.cells #[.slice a1 rs.length d1, .slice a2 es.length d2] 41)).alloc (.cells #[.int .i64 z1, .int .i64 z2] 30)) l wl js (.slice (some ⟨b6, o6, none⟩) l.length c6) (.slice (some ⟨b7, o7, none⟩) wl.length c7) (.slice (some ⟨b8, o8, none⟩) js.length c8) w9.heap.size rs es (.slice a1 rs.length d1) (.slice a2 es.length d2) z1 z2) := ⟨(Hg.out.grow H9.out.2.1).grow hb6, hx1, hx2, H9.out.2.rows.1.below hb6, H9.out.2.rows.2.below hb6⟩
        have HN : Hid (rs.length ≤ 1000000 ∧ es.length ≤ 1000000 ∧ HoRes js n wl u z1 z2 rs es) := ⟨H9.out.2.2.1, H9.out.2.2.2.1, H9.out.1⟩
        clear hx1 hx2 hb6 H9 Hg
        generalize ((w9.alloc (.cells #[.slice a1 rs.length d1, .slice a2 es.length d2] 41)).alloc (.cells #[.int .i64 z1, .int .i64 z2] 30)) = w5 at *
        generalize w9.heap.size = G at *
        go_loopw [115] (fun i W => ∃ j : Nat, j ≤ 2 ∧ i = .int .i64 j ∧ PLL w W l wl js (.slice (some ⟨b6, o6, none⟩) l.length c6) (.slice (some ⟨b7, o7, none⟩) wl.length c7) (.slice (some ⟨b8, o8, none⟩) js.length c8) G rs es (.slice a1 rs.length d1) (.slice a2 es.length d2) z1 z2) (fun i _ => 2 - (intOf i).toNat)
        case atStart => exact ⟨0, by omega, rfl, Hc.out⟩
        case round =>
          obtain ⟨j, hj, rfl, hpll⟩ := hrel
          have Hd : Hid (PLL w wr l wl js (.slice (some ⟨b6, o6, none⟩) l.length c6) (.slice (some ⟨b7, o7, none⟩) wl.length c7) (.slice (some ⟨b8, o8, none⟩) js.length c8) G rs es (.slice a1 rs.length d1) (.slice a2 es.length d2) z1 z2) := hpll
          clear hpll Hc
          by_cases hj2 : j < 2
          · have hji : (j : Int) < 2 := by omega
            have HP := Hosted_res wr js wl n u _ _ Hd.out.nsl.l3.plain Hd.out.nsl.l2.plain
            go_upto_region 20 with (go_at_call 25; refine HP.mono ?_; rintro r w4 ⟨v1, v2, y1, y2, rs', es', rfl, hpr, hres⟩; obtain ⟨q1, q2, q3, q4⟩ := hoRes_unique HN.out.2.2 hpr; subst q1 q2 q3 q4; obtain ⟨e1, f1, e2, f2, rfl, rfl⟩ := hres.slices; have H4 : Hid (Res wr w4 rs es (.slice e1 rs.length f1) (.slice e2 es.length f2)) := hres; clear hpr hres HP)
            have hx1 : ((w4.alloc (.cells #[.slice e1 rs.length f1, .slice e2 es.length f2] 41)).alloc (.cells #[.int .i64 z1, .int .i64 z2] 30)).heap[w4.heap.size]? = some (.cells [.slice e1 rs.length f1, .slice e2 es.length f2].toArray 41 (0, 0)) := (Below.heap_alloc _ _ _ (by simp)).trans (heap_alloc_new _ _)
            have hx2 : ((w4.alloc (.cells #[.slice e1 rs.length f1, .slice e2 es.length f2] 41)).alloc (.cells #[.int .i64 z1, .int .i64 z2] 30)).heap[w4.heap.size + 1]? = some (.cells [.int .i64 z1, .int .i64 z2].toArray 30 (0, 0)) := by
              have := heap_alloc_new (w4.alloc (.cells #[.slice e1 rs.length f1, .slice e2 es.length f2] 41)) (.cells #[.int .i64 z1, .int .i64 z2] 30)
              simpa using this
            obtain ⟨p1, p2, hrn⟩ := RND.start H4.out (below_seq (below_new _ _) (below_new _ _)) hx1
            have hpl := Hd.out.grow hrn.bel
            have n0 := (cells_of hx1).1 0 _ rfl
            have n1 := (cells_of hx1).1 1 _ rfl
            have m0 := (cells_of hx2).1 0 _ rfl
            have m1 := (cells_of hx2).1 1 _ rfl
            have s0 := (cells_of hpl.c1).1 0 _ rfl
            have s1 := (cells_of hpl.c1).1 1 _ rfl
            have t0 := (cells_of hpl.c2).1 0 _ rfl
            have t1 := (cells_of hpl.c2).1 1 _ rfl
            have HS := SameP_any _ rs es _ _ _ _ HN.out.1 HN.out.2.1 hrn.r1.row hrn.r2.row hpl.r1 hpl.r2
            have HR : Hid (RND wr ((w4.alloc (.cells #[.slice e1 rs.length f1, .slice e2 es.length f2] 41)).alloc (.cells #[.int .i64 z1, .int .i64 z2] 30)) w4.heap.size rs es (.slice e1 rs.length f1) (.slice e2 es.length f2) p1 p2) := hrn
            clear hx1 hx2 hrn hpl H4
            generalize ((w4.alloc (.cells #[.slice e1 rs.length f1, .slice e2 es.length f2] 41)).alloc (.cells #[.int .i64 z1, .int .i64 z2] 30)) = w5b at *
            generalize w4.heap.size = D at *
            go_wp2_with (go_at_call 26; refine HS.mono ?_; rintro r w6 ⟨rfl, hb6⟩; have H6 : Hid (RND wr w6 D rs es (.slice e1 rs.length f1) (.slice e2 es.length f2) p1 p2) := HR.out.grow hb6; have n0 := (cells_of H6.out.d1).1 0 _ rfl; clear hb6 HS HR n1 m0 m1 s0 s1 t0 t1)
            have PH : Phase 1 := trivial
            go_wp2_with (go_at_call 14; guard_hyp PH : Phase 1; clear PH; refine (Spoil_row _ _ rs _ p1 H6.out.r1).mono ?_; rintro r w8 ⟨rfl, hg8⟩; have H8 : Hid (RN2 wr w8 D es (.slice e1 rs.length f1) (.slice e2 es.length f2) p2) := H6.out.spoil hg8; have n1 := (cells_of H8.out.d1).1 1 _ rfl; clear hg8 H6 n0)
            have PH : Phase 2 := trivial
            go_wp2_with (go_at_call 14; guard_hyp PH : Phase 2; clear PH; refine (Spoil_row _ _ es _ p2 H8.out.r2).mono ?_; rintro r w10 ⟨rfl, hg10⟩; have H10 := Hd.out.grow (H8.out.spoil hg10); have H11 : Hid (PLL w w10 l wl js (.slice (some ⟨b6, o6, none⟩) l.length c6) (.slice (some ⟨b7, o7, none⟩) wl.length c7) (.slice (some ⟨b8, o8, none⟩) js.length c8) G rs es (.slice a1 rs.length d1) (.slice a2 es.length d2) z1 z2) := H10; clear hg10 H8 n1 H10)
            exact ⟨⟨j + 1, by omega, by simp, H11.out⟩, by simp [intOf]; omega⟩
          · have hje : j = 2 := by omega
            subst hje
            have Hh : Hid (NSL w wr l wl js (.slice (some ⟨b6, o6, none⟩) l.length c6) (.slice (some ⟨b7, o7, none⟩) wl.length c7) (.slice (some ⟨b8, o8, none⟩) js.length c8)) := Hd.out.nsl
            obtain ⟨k0, k1, k2, k3, k4, k5, k6⟩ := HG.out.1.below Hh.out.bel
            simp only [Nat.zero_add] at k1 k2 k3 k4 k5 k6
            go_wp2_with (go_at_call 27; refine (HT _ l noT _ _ (by omega) Hh.out.l1 (HV.out.1.below Hh.out.bel)).mono ?_; rintro r wi ⟨rfl, hbi⟩; have Hi : Hid (NSL w wi l wl js (.slice (some ⟨b6, o6, none⟩) l.length c6) (.slice (some ⟨b7, o7, none⟩) wl.length c7) (.slice (some ⟨b8, o8, none⟩) js.length c8)) := Hh.out.grow hbi; obtain ⟨m0, m1⟩ := wiAt_below HG.out.2.1 Hi.out.bel; simp only [Nat.zero_add] at m1; clear hbi Hh Hd k0 k1 k2 k3 k4 k5 k6 HT)
            go_wp2_with (go_at_call 28; refine (HT1 _ wl noW _ _ (by omega) Hi.out.l2 (HV.out.2.1.below Hi.out.bel)).mono ?_; rintro r wj ⟨rfl, hbj⟩; have Hj : Hid (NSL w wj l wl js (.slice (some ⟨b6, o6, none⟩) l.length c6) (.slice (some ⟨b7, o7, none⟩) wl.length c7) (.slice (some ⟨b8, o8, none⟩) js.length c8)) := Hi.out.grow hbj; obtain ⟨n0, n1, n2, n3, n4⟩ := HG.out.2.2.1.below Hj.out.bel; simp only [Nat.zero_add] at n1 n2 n3 n4; clear hbj Hi m0 m1 HT1)
            go_wp2_with (go_at_call 29; refine (HT2 _ js noJ _ _ (by omega) Hj.out.l3 (HV.out.2.2.below Hj.out.bel)).mono ?_; rintro r wk ⟨rfl, hbk⟩; have Hk : Hid (Below w.heap.size w wk) := below_seq Hj.out.bel hbk; clear hbk Hj n0 n1 n2 n3 n4 HT2)
            go_ret
            exact ⟨rfl, Hk.out⟩
end Go.Proofs.YtccoobcggbbciaiGreatDoor.S8
namespace Go.Proofs.YtccoobcggbbciaiGreatDoor
open Go.ChangeShapes Go.WideShapes Go.ChangeAt Go.RowKit S8

theorem cellsWi : Tryz.prog.cellsOf 60 = 2 := by kernel_rfl
theorem cellsJb : Tryz.prog.cellsOf 63 = 5 := by kernel_rfl

section
variable {H : Type} {enc : TypeId × Value → H} {w : World} {sp : Nat → Bool} {held : Bool}

/-- A window that can be read. -/
theorem wi_one {n : Nat} {cs : List Value} {y : DataW H × List MemPlace} (hl : cs.length = 2) (h : DataW.trod enc Tryz.prog w 0 sp held n 60 cs = some y) : ∃ x : Wi, cs = x.vals ∧ y.1 = .agg [.lit (.int .i64 x.at_), .lit (.int .i64 x.ln)] := by
  match cs, hl with
  | [c0, c1], _ =>
    obtain ⟨xs, n1, rfl, hy, -, hlen, hf⟩ := DataW.trod_struct Tryz.underlying60 h
    match xs, hlen with
    | [y0, y1], _ =>
      have f0 : DataW.trod enc Tryz.prog w 0 sp held n1 3 ((([c0, c1] : List Value).drop 0).take (Tryz.prog.cellsOf 3)) = some y0 := hf 0 _ rfl
      have f1 : DataW.trod enc Tryz.prog w 0 sp held n1 3 ((([c0, c1] : List Value).drop 1).take (Tryz.prog.cellsOf 3)) = some y1 := hf 1 _ rfl
      rw [cells3] at f0 f1
      obtain ⟨k0, e0, g0, -⟩ := DataW.trod_int Tryz.underlying3 (show DataW.trod enc Tryz.prog w 0 sp held n1 3 [c0] = some y0 from f0)
      obtain ⟨k1, e1, g1, -⟩ := DataW.trod_int Tryz.underlying3 (show DataW.trod enc Tryz.prog w 0 sp held n1 3 [c1] = some y1 from f1)
      simp only [List.cons.injEq, and_true] at e0 e1
      refine ⟨⟨k0, k1⟩, by rw [e0, e1]; rfl, ?_⟩
      rw [hy, g0, g1]
      rfl

theorem wi_row {n : Nat} (g : Nat) : ∀ (elems : List (DataW H × List MemPlace)) (o : Nat),
    (∀ i, i < elems.length → (w.cells? 0 ⟨g, o + i * 2, none⟩ 2).bind (DataW.trod enc Tryz.prog w 0 sp held n 60) = elems[i]?) →
    ∃ l : List Wi, l.length = elems.length ∧ ∀ q u, (l.flatMap Wi.vals)[q]? = some u → w.cell? ⟨g, o + q, none⟩ = some u
  | [], o, _ => ⟨[], rfl, fun q u hq => by simp at hq⟩
  | y :: r, o, h => by
    have h0 := h 0 (by simp)
    simp only [Nat.zero_mul, Nat.add_zero, List.getElem?_cons_zero] at h0
    obtain ⟨cs, hc, ht⟩ := Option.bind_eq_some_iff.1 h0
    obtain ⟨hlen, hcell⟩ := cells_at hc
    obtain ⟨x, rfl, -⟩ := wi_one hlen ht
    obtain ⟨l, hl, hrow⟩ := wi_row g r (o + 2) (fun i hi => by
      have := h (i + 1) (by simp; omega)
      rw [show o + (i + 1) * 2 = o + 2 + i * 2 by omega] at this
      simpa using this)
    refine ⟨x :: l, by simp [hl], fun q u hq => ?_⟩
    rw [List.flatMap_cons] at hq
    by_cases h7 : q < 2
    · rw [List.getElem?_append_left (by rw [Wi.len]; exact h7)] at hq
      rw [hcell q h7]
      exact hq
    · rw [List.getElem?_append_right (by rw [Wi.len]; omega), Wi.len] at hq
      have := hrow (q - 2) u hq
      rw [show o + 2 + (q - 2) = o + q by omega] at this
      exact this

/-- A slice of windows that can be read. -/
theorem wiSl_of_trod {ad : Option Addr} {n c : Nat} {d : DataW H} {ps : List MemPlace} (h : DataW.Trod enc Tryz.prog w 0 sp held 53 (.slice ad n c) d ps) : ∃ l : List Wi, n = l.length ∧ RowSl Wi.vals w l (.slice ad n c) := by
  obtain ⟨q, hq⟩ := h
  have hcs : (Value.slice ad n c).cells.toList = [.slice ad n c] := rfl
  rw [hcs] at hq
  rcases DataW.trod_slice Tryz.underlying53 hq with ⟨h1, -⟩ | ⟨a, len, cap, elems, rest, n2, -, h1, -, -, hlc, -, hle, hel, -, -⟩
  · simp only [List.cons.injEq, and_true, Value.slice.injEq] at h1
    obtain ⟨rfl, rfl, rfl⟩ := h1
    exact ⟨[], rfl, RowSl.nil _ _⟩
  · simp only [List.cons.injEq, and_true, Value.slice.injEq] at h1
    obtain ⟨rfl, rfl, rfl⟩ := h1
    subst hle
    simp only [cellsWi] at hel
    cases elems with
    | nil => exact ⟨[], rfl, ⟨_, _, rfl, (fun e => by cases e), Nat.zero_le _, .inl rfl⟩⟩
    | cons z r =>
      have hz := hel 0 (by simp)
      obtain ⟨cs0, hc0, ht0⟩ := Option.bind_eq_some_iff.1 hz
      obtain ⟨-, hlen0, hpl⟩ := World.cells?_some hc0
      obtain ⟨x, rfl, -⟩ := wi_one hlen0 (by simpa using ht0)
      have hpa := plain_addr (w := w) (a := a) (v := .int .i64 x.at_) (by simpa [Addr.add, Wi.vals] using hpl 0 (by omega))
      obtain ⟨l, hl, hrow⟩ := wi_row (n := n2) a.block (z :: r) a.off (fun i hi => by
        have := hel i hi
        rw [hpa, add_plain'] at this
        exact this)
      exact ⟨l, hl.symm, ⟨some a, c, by rw [hl], (fun e => by cases e), by omega, .inr ⟨a.block, a.off, by rw [← hpa], hrow⟩⟩⟩

/-- A job that can be read. -/
theorem jb_one {n : Nat} {cs : List Value} {y : DataW H × List MemPlace} (hl : cs.length = 5) (h : DataW.trod enc Tryz.prog w 0 sp held n 63 cs = some y) : ∃ x : Jb, cs = x.vals ∧ y.1 = .agg [.lit (.int .i64 x.k), .lit (.int .i64 x.a), .lit (.int .i64 x.c), .lit (.int .i64 x.d), .lit (.int .i64 x.p)] := by
  match cs, hl with
  | [c0, c1, c2, c3, c4], _ =>
    obtain ⟨xs, n1, rfl, hy, -, hlen, hf⟩ := DataW.trod_struct Tryz.underlying63 h
    match xs, hlen with
    | [y0, y1, y2, y3, y4], _ =>
      have f0 : DataW.trod enc Tryz.prog w 0 sp held n1 3 ((([c0, c1, c2, c3, c4] : List Value).drop 0).take (Tryz.prog.cellsOf 3)) = some y0 := hf 0 _ rfl
      have f1 : DataW.trod enc Tryz.prog w 0 sp held n1 3 ((([c0, c1, c2, c3, c4] : List Value).drop 1).take (Tryz.prog.cellsOf 3)) = some y1 := hf 1 _ rfl
      have f2 : DataW.trod enc Tryz.prog w 0 sp held n1 3 ((([c0, c1, c2, c3, c4] : List Value).drop 2).take (Tryz.prog.cellsOf 3)) = some y2 := hf 2 _ rfl
      have f3 : DataW.trod enc Tryz.prog w 0 sp held n1 3 ((([c0, c1, c2, c3, c4] : List Value).drop 3).take (Tryz.prog.cellsOf 3)) = some y3 := hf 3 _ rfl
      have f4 : DataW.trod enc Tryz.prog w 0 sp held n1 3 ((([c0, c1, c2, c3, c4] : List Value).drop 4).take (Tryz.prog.cellsOf 3)) = some y4 := hf 4 _ rfl
      rw [cells3] at f0 f1 f2 f3 f4
      obtain ⟨k0, e0, g0, -⟩ := DataW.trod_int Tryz.underlying3 (show DataW.trod enc Tryz.prog w 0 sp held n1 3 [c0] = some y0 from f0)
      obtain ⟨k1, e1, g1, -⟩ := DataW.trod_int Tryz.underlying3 (show DataW.trod enc Tryz.prog w 0 sp held n1 3 [c1] = some y1 from f1)
      obtain ⟨k2, e2, g2, -⟩ := DataW.trod_int Tryz.underlying3 (show DataW.trod enc Tryz.prog w 0 sp held n1 3 [c2] = some y2 from f2)
      obtain ⟨k3, e3, g3, -⟩ := DataW.trod_int Tryz.underlying3 (show DataW.trod enc Tryz.prog w 0 sp held n1 3 [c3] = some y3 from f3)
      obtain ⟨k4, e4, g4, -⟩ := DataW.trod_int Tryz.underlying3 (show DataW.trod enc Tryz.prog w 0 sp held n1 3 [c4] = some y4 from f4)
      simp only [List.cons.injEq, and_true] at e0 e1 e2 e3 e4
      refine ⟨⟨k0, k1, k2, k3, k4⟩, by rw [e0, e1, e2, e3, e4]; rfl, ?_⟩
      rw [hy, g0, g1, g2, g3, g4]
      rfl

theorem jb_row {n : Nat} (g : Nat) : ∀ (elems : List (DataW H × List MemPlace)) (o : Nat),
    (∀ i, i < elems.length → (w.cells? 0 ⟨g, o + i * 5, none⟩ 5).bind (DataW.trod enc Tryz.prog w 0 sp held n 63) = elems[i]?) →
    ∃ l : List Jb, l.length = elems.length ∧ ∀ q u, (l.flatMap Jb.vals)[q]? = some u → w.cell? ⟨g, o + q, none⟩ = some u
  | [], o, _ => ⟨[], rfl, fun q u hq => by simp at hq⟩
  | y :: r, o, h => by
    have h0 := h 0 (by simp)
    simp only [Nat.zero_mul, Nat.add_zero, List.getElem?_cons_zero] at h0
    obtain ⟨cs, hc, ht⟩ := Option.bind_eq_some_iff.1 h0
    obtain ⟨hlen, hcell⟩ := cells_at hc
    obtain ⟨x, rfl, -⟩ := jb_one hlen ht
    obtain ⟨l, hl, hrow⟩ := jb_row g r (o + 5) (fun i hi => by
      have := h (i + 1) (by simp; omega)
      rw [show o + (i + 1) * 5 = o + 5 + i * 5 by omega] at this
      simpa using this)
    refine ⟨x :: l, by simp [hl], fun q u hq => ?_⟩
    · rw [List.flatMap_cons] at hq
      by_cases h7 : q < 5
      · rw [List.getElem?_append_left (by rw [Jb.len]; exact h7)] at hq
        rw [hcell q h7]
        exact hq
      · rw [List.getElem?_append_right (by rw [Jb.len]; omega), Jb.len] at hq
        have := hrow (q - 5) u hq
        rw [show o + 5 + (q - 5) = o + q by omega] at this
        exact this

/-- A slice of jobs that can be read. -/
theorem jbSl_of_trod {ad : Option Addr} {n c : Nat} {d : DataW H} {ps : List MemPlace} (h : DataW.Trod enc Tryz.prog w 0 sp held 54 (.slice ad n c) d ps) : ∃ l : List Jb, n = l.length ∧ RowSl Jb.vals w l (.slice ad n c) := by
  obtain ⟨q, hq⟩ := h
  have hcs : (Value.slice ad n c).cells.toList = [.slice ad n c] := rfl
  rw [hcs] at hq
  rcases DataW.trod_slice Tryz.underlying54 hq with ⟨h1, -⟩ | ⟨a, len, cap, elems, rest, n2, -, h1, -, -, hlc, -, hle, hel, -, -⟩
  · simp only [List.cons.injEq, and_true, Value.slice.injEq] at h1
    obtain ⟨rfl, rfl, rfl⟩ := h1
    exact ⟨[], rfl, RowSl.nil _ _⟩
  · simp only [List.cons.injEq, and_true, Value.slice.injEq] at h1
    obtain ⟨rfl, rfl, rfl⟩ := h1
    subst hle
    simp only [cellsJb] at hel
    cases elems with
    | nil => exact ⟨[], rfl, ⟨_, _, rfl, (fun e => by cases e), Nat.zero_le _, .inl rfl⟩⟩
    | cons z r =>
      have hz := hel 0 (by simp)
      obtain ⟨cs0, hc0, ht0⟩ := Option.bind_eq_some_iff.1 hz
      obtain ⟨-, hlen0, hpl⟩ := World.cells?_some hc0
      obtain ⟨x, rfl, -⟩ := jb_one hlen0 (by simpa using ht0)
      have hpa := plain_addr (w := w) (a := a) (v := .int .i64 x.k) (by simpa [Addr.add, Jb.vals] using hpl 0 (by omega))
      obtain ⟨l, hl, hrow⟩ := jb_row (n := n2) a.block (z :: r) a.off (fun i hi => by
        have := hel i hi
        rw [hpa, add_plain'] at this
        exact this)
      exact ⟨l, hl.symm, ⟨some a, c, by rw [hl], (fun e => by cases e), by omega, .inr ⟨a.block, a.off, by rw [← hpa], hrow⟩⟩⟩



end

theorem gT9 : Tryz.prog.globalNamed "punctual/punctuallaw.noTask" = some 2 := by kernel_rfl
theorem tT9 : (Tryz.prog.globals[2]?).map (·.type) = some 56 := by kernel_rfl
theorem gW9 : Tryz.prog.globalNamed "punctual/punctuallaw.noWindow" = some 3 := by kernel_rfl
theorem tW9 : (Tryz.prog.globals[3]?).map (·.type) = some 60 := by kernel_rfl
theorem gJ9 : Tryz.prog.globalNamed "punctual/punctuallaw.noJob" = some 4 := by kernel_rfl
theorem tJ9 : (Tryz.prog.globals[4]?).map (·.type) = some 63 := by kernel_rfl

/-- What the listed variables hold. -/
theorem of_laid9 {W : World} (h : laidMetH Tryz.prog Rows.windowsPlayRow.laid W) : TaAt W 2 0 noT ∧ WiAt W 3 0 noW ∧ JbAt W 4 0 noJ := by
  rw [MakeChecks.laidMetH_plain _ _ _ (by kernel_rfl)] at h
  obtain ⟨ps, ⟨g0, t0, cs0, f0, p0, q0, hg0, ht0, hv0, hd0, ⟨g1, t1, cs1, f1, p1, q1, hg1, ht1, hv1, hd1, ⟨g2, t2, cs2, f2, p2, q2, hg2, ht2, hv2, hd2, _, _⟩, _⟩, _⟩, _, _⟩ := h
  obtain rfl := Option.some.inj (gW9.symm.trans hg0)
  obtain rfl := Option.some.inj (gT9.symm.trans hg1)
  obtain rfl := Option.some.inj (gJ9.symm.trans hg2)
  obtain rfl := Option.some.inj (tW9.symm.trans ht0)
  obtain rfl := Option.some.inj (tT9.symm.trans ht1)
  obtain rfl := Option.some.inj (tJ9.symm.trans ht2)
  have c0 : ∀ j, W.cell? ⟨3, j, none⟩ = cs0[j]? := World.var?_cell hg0 hv0
  have c1 : ∀ j, W.cell? ⟨2, j, none⟩ = cs1[j]? := World.var?_cell hg1 hv1
  have c2 : ∀ j, W.cell? ⟨4, j, none⟩ = cs2[j]? := World.var?_cell hg2 hv2
  refine ⟨?_, ?_, ?_⟩
  · have hlen : cs1.toList.length = 7 := by
      obtain ⟨xs, n1, -, -, hl, -⟩ := DataW.trod_struct Tryz.underlying56 hd1
      rw [hl, cells32]
    obtain ⟨⟨xn, x1, x2, x3, x4, x5, x6⟩, hx, -, hy⟩ := ta_one hlen hd1
    have hxe := hy.symm.trans (rfl : _ = (DataW.agg [.lit (.string [63]), .lit (.int .i64 (-9)), .lit (.int .i64 0), .lit (.int .i64 0), .lit (.int .i64 0), .lit (.int .i64 0), .lit (.int .i64 0)] : DataW _))
    simp only [DataW.agg.injEq, List.cons.injEq, DataW.lit.injEq, Lit.string.injEq, Lit.int.injEq, true_and, and_true] at hxe
    obtain ⟨h0, rfl, rfl, rfl, rfl, rfl, rfl⟩ := hxe
    obtain rfl : xn = ⟨#[63]⟩ := by
      obtain ⟨xd⟩ := xn
      exact congrArg ByteArray.mk (Array.toList_inj.1 h0)
    have key : ∀ k u, noT.vals[k]? = some u → W.cell? ⟨2, k, none⟩ = some u := fun k u hu => by
      rw [c1, ← Array.getElem?_toList, hx]; exact hu
    exact ⟨key 0 _ rfl, key 1 _ rfl, key 2 _ rfl, key 3 _ rfl, key 4 _ rfl, key 5 _ rfl, key 6 _ rfl⟩
  · have hlen : cs0.toList.length = 2 := by
      obtain ⟨xs, n1, -, -, hl, -⟩ := DataW.trod_struct Tryz.underlying60 hd0
      rw [hl, cellsWi]
    obtain ⟨⟨xa, xl⟩, hx, hy⟩ := wi_one hlen hd0
    have hxe := hy.symm.trans (rfl : _ = (DataW.agg [.lit (.int .i64 (-9)), .lit (.int .i64 0)] : DataW _))
    simp only [DataW.agg.injEq, List.cons.injEq, DataW.lit.injEq, Lit.int.injEq, true_and, and_true] at hxe
    obtain ⟨rfl, rfl⟩ := hxe
    have key : ∀ k u, noW.vals[k]? = some u → W.cell? ⟨3, k, none⟩ = some u := fun k u hu => by
      rw [c0, ← Array.getElem?_toList, hx]; exact hu
    exact ⟨key 0 _ rfl, key 1 _ rfl⟩
  · have hlen : cs2.toList.length = 5 := by
      obtain ⟨xs, n1, -, -, hl, -⟩ := DataW.trod_struct Tryz.underlying63 hd2
      rw [hl, cellsJb]
    obtain ⟨⟨x1, x2, x3, x4, x5⟩, hx, hy⟩ := jb_one hlen hd2
    have hxe := hy.symm.trans (rfl : _ = (DataW.agg [.lit (.int .i64 (-9)), .lit (.int .i64 0), .lit (.int .i64 0), .lit (.int .i64 0), .lit (.int .i64 0)] : DataW _))
    simp only [DataW.agg.injEq, List.cons.injEq, DataW.lit.injEq, Lit.int.injEq, true_and, and_true] at hxe
    obtain ⟨rfl, rfl, rfl, rfl, rfl⟩ := hxe
    have key : ∀ k u, noJ.vals[k]? = some u → W.cell? ⟨4, k, none⟩ = some u := fun k u hu => by
      rw [c2, ← Array.getElem?_toList, hx]; exact hu
    exact ⟨key 0 _ rfl, key 1 _ rfl, key 2 _ rfl, key 3 _ rfl, key 4 _ rfl⟩

theorem own : ownKnob Tryz.prog.godebug = none := by kernel_rfl
theorem laidOut : laidOutB Tryz.prog = true := by kernel_rfl
theorem reads3 : Tryz.prog.readableRec 3 = true := by kernel_rfl
theorem lt3 : 3 < Tryz.prog.types.size := of_decide_eq_true (by kernel_rfl)
theorem reads52 : Tryz.prog.readableRec 52 = true := by kernel_rfl
theorem lt52 : 52 < Tryz.prog.types.size := of_decide_eq_true (by kernel_rfl)
theorem reads53 : Tryz.prog.readableRec 53 = true := by kernel_rfl
theorem lt53 : 53 < Tryz.prog.types.size := of_decide_eq_true (by kernel_rfl)
theorem reads54 : Tryz.prog.readableRec 54 = true := by kernel_rfl
theorem lt54 : 54 < Tryz.prog.types.size := of_decide_eq_true (by kernel_rfl)

set_option maxRecDepth 20000 in
theorem contractR (H : Type) (enc : TypeId × Value → H) (W : World) (base : Nat) (args : Array Value) (ds gs : List (DataW H)) (before : List MemPlace)
    (hval : ∀ (j : Nat) t v, Tryz.f4.params[j]? = some t → args[j]? = some v → Value.okWide Tryz.prog W .any base t v)
    (hW : DataW.Whole enc Tryz.prog Tryz.f4.params.toList Rows.windowsPlaySpec.vars false W args.toList ds gs before) (hL : laidMetH Tryz.prog Rows.windowsPlayRow.laid W) :
    Calls Tryz.prog 4 args W fun e W' => ∃ v, e = .returned v ∧ Rows.windowsPlaySpec.post enc Tryz.prog Tryz.f4 false true false false W args v W' := by
  have hW' := hW
  obtain ⟨p, q, hA0, hV, rfl, hfz, hnd⟩ := hW
  have hA : DataW.TrodAll enc Tryz.prog W 0 (fun _ => true) true Tryz.f4.params.toList args.toList ds p := hA0
  rw [Tryz.params4] at hA hval
  obtain ⟨v0, vs0, d0, ds0, p0, q0, hargs0, rfl, rfl, h0, r0⟩ := trodAll_cons hA
  obtain ⟨v1, vs1, d1, ds1, p1, q1, hargs1, rfl, rfl, h1, r1⟩ := trodAll_cons r0
  obtain ⟨v2, vs2, d2, ds2, p2, q2, hargs2, rfl, rfl, h2, r2⟩ := trodAll_cons r1
  obtain ⟨v3, vs3, d3, ds3, p3, q3, hargs3, rfl, rfl, h3, r3⟩ := trodAll_cons r2
  obtain ⟨v4, vs4, d4, ds4, p4, q4, hargs4, rfl, rfl, h4, r4⟩ := trodAll_cons r3
  obtain ⟨v5, vs5, d5, ds5, p5, q5, hargs5, rfl, rfl, h5, r5⟩ := trodAll_cons r4
  obtain ⟨rfl, rfl, rfl⟩ := trodAll_nil r5
  obtain rfl : args = #[v0, v1, v2, v3, v4, v5] := Array.toList_inj.1 (by rw [hargs0, hargs1, hargs2, hargs3, hargs4, hargs5])
  obtain ⟨rfl, rfl⟩ := trodVars_none hV
  obtain ⟨ad0, len0, cap0, rfl⟩ := okWide_slice Tryz.underlying52 (hval 0 52 v0 (by simp) (by simp))
  obtain ⟨n1, rfl⟩ := okWide_int Tryz.underlying3 (hval 1 3 v1 (by simp) (by simp))
  obtain ⟨n2, rfl⟩ := okWide_int Tryz.underlying3 (hval 2 3 v2 (by simp) (by simp))
  obtain ⟨ad3, len3, cap3, rfl⟩ := okWide_slice Tryz.underlying53 (hval 3 53 v3 (by simp) (by simp))
  obtain ⟨ad4, len4, cap4, rfl⟩ := okWide_slice Tryz.underlying54 (hval 4 54 v4 (by simp) (by simp))
  obtain ⟨n5, rfl⟩ := okWide_int Tryz.underlying3 (hval 5 3 v5 (by simp) (by simp))
  clear hA0 hargs0 hargs1 hargs2 hargs3 hargs4 hargs5
  simp only [List.append_nil] at hW'
  obtain ⟨l, rfl, hms, hsl⟩ := taSl_of_trod h0
  obtain ⟨wl, rfl, hwl⟩ := wiSl_of_trod h3
  obtain ⟨js, rfl, hjs⟩ := jbSl_of_trod h4
  obtain ⟨g1, g2, g3⟩ := of_laid9 hL
  refine (S8.wplay_walk W l n1 n2 wl js n5 _ _ _ hms g1 g2 g3 hsl hwl hjs).mono fun e W' ⟨he, hbel⟩ => ?_
  subst he
  have hlt0 : ∀ x ∈ p0, x.block < W.heap.size := fun x hx => by
    obtain ⟨n, hn⟩ := h0
    exact DataW.trod_lt n _ _ _ hn x hx
  have hlt1 : ∀ x ∈ p1, x.block < W.heap.size := fun x hx => by
    obtain ⟨n, hn⟩ := h1
    exact DataW.trod_lt n _ _ _ hn x hx
  have hlt2 : ∀ x ∈ p2, x.block < W.heap.size := fun x hx => by
    obtain ⟨n, hn⟩ := h2
    exact DataW.trod_lt n _ _ _ hn x hx
  have hlt3 : ∀ x ∈ p3, x.block < W.heap.size := fun x hx => by
    obtain ⟨n, hn⟩ := h3
    exact DataW.trod_lt n _ _ _ hn x hx
  have hlt4 : ∀ x ∈ p4, x.block < W.heap.size := fun x hx => by
    obtain ⟨n, hn⟩ := h4
    exact DataW.trod_lt n _ _ _ hn x hx
  have hlt5 : ∀ x ∈ p5, x.block < W.heap.size := fun x hx => by
    obtain ⟨n, hn⟩ := h5
    exact DataW.trod_lt n _ _ _ hn x hx
  refine ⟨_, rfl, [d0, d1, d2, d3, d4, d5], [], p0 ++ (p1 ++ (p2 ++ (p3 ++ (p4 ++ p5)))), [], p0 ++ (p1 ++ (p2 ++ (p3 ++ (p4 ++ p5)))), [], hW', trodAll_mk1 (shut_bool Tryz.underlying4 _), ?_, rfl, hbel.frame _, fun h => by cases h⟩
  have s0 := WideElems.Trod_stays (W' := W') (sp' := fun b => decide (b < W.heap.size)) laidOut reads52 lt52 h0 (fun x hx => hbel.same (hlt0 x hx)) (fun x hx => by simpa using hlt0 x hx)
  have s1 := WideElems.Trod_stays (W' := W') (sp' := fun b => decide (b < W.heap.size)) laidOut reads3 lt3 h1 (fun x hx => hbel.same (hlt1 x hx)) (fun x hx => by simpa using hlt1 x hx)
  have s2 := WideElems.Trod_stays (W' := W') (sp' := fun b => decide (b < W.heap.size)) laidOut reads3 lt3 h2 (fun x hx => hbel.same (hlt2 x hx)) (fun x hx => by simpa using hlt2 x hx)
  have s3 := WideElems.Trod_stays (W' := W') (sp' := fun b => decide (b < W.heap.size)) laidOut reads53 lt53 h3 (fun x hx => hbel.same (hlt3 x hx)) (fun x hx => by simpa using hlt3 x hx)
  have s4 := WideElems.Trod_stays (W' := W') (sp' := fun b => decide (b < W.heap.size)) laidOut reads54 lt54 h4 (fun x hx => hbel.same (hlt4 x hx)) (fun x hx => by simpa using hlt4 x hx)
  have s5 := WideElems.Trod_stays (W' := W') (sp' := fun b => decide (b < W.heap.size)) laidOut reads3 lt3 h5 (fun x hx => hbel.same (hlt5 x hx)) (fun x hx => by simpa using hlt5 x hx)
  have e1 := trodAll_cons_mk s0 (trodAll_cons_mk s1 (trodAll_cons_mk s2 (trodAll_cons_mk s3 (trodAll_cons_mk s4 (trodAll_cons_mk s5 (trodAll_mk0 (enc := enc) (P := Tryz.prog) (w := W') (base := 0) (spare := fun b => decide (b < W.heap.size)) (held := true)))))))
  rw [List.append_nil] at e1
  exact e1

/-- A world for the witness: the settled one, the variable holding what its initialiser lays. -/
def laidHeap (h : Array Obj) : Array Obj := ((h.modify 2 fun
  | .cells _ t frozen => .cells #[.string ⟨#[63]⟩, .int .i64 (-9), .int .i64 0, .int .i64 0, .int .i64 0, .int .i64 0, .int .i64 0] t frozen
  | o => o).modify 3 fun
  | .cells _ t frozen => .cells #[.int .i64 (-9), .int .i64 0] t frozen
  | o => o).modify 4 fun
  | .cells _ t frozen => .cells #[.int .i64 (-9), .int .i64 0, .int .i64 0, .int .i64 0, .int .i64 0] t frozen
  | o => o
theorem laid_metR (os : Os) : laidMet Tryz.prog Rows.windowsPlayRow.laid (({ World.holding Tryz.prog os ⟨#[], #[], []⟩ with heap := laidHeap (World.holding Tryz.prog os ⟨#[], #[], []⟩).heap } : World).forCall (fun _ _ => 0) ⟨#[], #[.slice none 0 0, .int .i64 0, .int .i64 0, .slice none 0 0, .slice none 0 0, .int .i64 0], []⟩).memory :=
  laidMet_of_run' 8 (by kernel_rfl) (by kernel_rfl)
theorem readsR (os : Os) {H : Type} (enc : TypeId × Value → H) : ∃ places, DataW.whole enc Tryz.prog (({ World.holding Tryz.prog os ⟨#[], #[], []⟩ with heap := laidHeap (World.holding Tryz.prog os ⟨#[], #[], []⟩).heap } : World).forCall (fun _ _ => 0) ⟨#[], #[.slice none 0 0, .int .i64 0, .int .i64 0, .slice none 0 0, .slice none 0 0, .int .i64 0], []⟩).memory Tryz.f4.params.toList Rows.windowsPlaySpec.vars false #[Value.slice none 0 0, .int .i64 0, .int .i64 0, .slice none 0 0, .slice none 0 0, .int .i64 0].toList 8 = some ([.nil, .lit (.int .i64 0), .lit (.int .i64 0), .nil, .nil, .lit (.int .i64 0)], [], places) :=
  ⟨[], by kernel_rfl⟩

set_option maxRecDepth 100000 in
theorem liftedR (os : Os) (started : os.Started) (H : Type) (enc : TypeId × Value → H) (F : Stop.Interp) :
    ReturnsInHanded {} Tryz.checked os 4 .any ((OpenSpec.ofChange Rows.windowsPlaySpec).preRow enc Tryz.prog Tryz.f4 Rows.windowsPlayRow.domain false Rows.windowsPlayRow.laid) (((OpenSpec.ofChange Rows.windowsPlaySpec).at F).post enc Tryz.prog Tryz.f4 false true false false) := by
  obtain ⟨places, hx⟩ := readsR os enc
  refine returnsInHanded_of_row (C := Tryz.checked) (s := OpenSpec.ofChange Rows.windowsPlaySpec) own started (by kernel_rfl) Tryz.func4
    (witness_row_at (enc := enc) (C := Tryz.checked) false ({ World.holding Tryz.prog os ⟨#[], #[], []⟩ with heap := laidHeap (World.holding Tryz.prog os ⟨#[], #[], []⟩).heap } : World) #[.slice none 0 0, .int .i64 0, .int .i64 0, .slice none 0 0, .slice none 0 0, .int .i64 0] rfl (by kernel_rfl) (by kernel_rfl) (by kernel_rfl)
      (OpenSpec.preRow_of_cond 8 hx (by kernel_rfl) (fun k hk => by cases hk) (by kernel_rfl) (laid_metR os))) ?_
  intro W base args ds gs before hval hW _ _ _ hL _ _
  exact contractR H enc W base args ds gs before hval hW hL

theorem saidR : Rows.WindowsPlaySaid :=
  OpenClaim.holds_of_cond 4 Tryz.f4 rfl rfl rfl rfl rfl rfl rfl ⟨rfl, rfl, rfl, rfl, rfl⟩ rfl rfl rfl rfl rfl (by kernel_rfl) Tryz.func4 (by kernel_rfl)
    (of_decide_eq_true (by kernel_rfl)) (by unfold Func.isWrapper; first | (rw [if_pos (by decide +kernel)]; kernel_rfl) | (rw [if_neg (by decide +kernel)]; exact ⟨rfl, rfl⟩))
    (fun os started H enc _ F => by rw [OpenClaim.pre_eq_preRow]; exact liftedR os started H enc F)

/-- No parameter wants a stand-in; the program's own looks. -/
theorem standlessR (f : FuncId) (fn : Func) (hf : Tryz.pinned.checked.prog.funcNamed "punctual/punctuallaw.WindowsPlay" = some f) (hfn : Tryz.pinned.checked.prog.funcs[f]? = some fn) :
    false = Tryz.pinned.checked.prog.looks [] ∧ ∀ (j : Nat) t, fn.params[j]? = some t → Tryz.pinned.checked.prog.wantsStandIn t = false := by
  obtain rfl : f = 4 := Option.some.inj ((show Tryz.prog.funcNamed "punctual/punctuallaw.WindowsPlay" = some 4 by kernel_rfl).symm.trans hf) |>.symm
  obtain rfl : fn = Tryz.f4 := (Option.some.inj (Tryz.func4.symm.trans hfn)).symm
  refine ⟨by kernel_rfl, fun j t ht => ?_⟩
  rw [Tryz.params4] at ht
  have h : t = 52 ∨ t = 3 ∨ t = 53 ∨ t = 54 := by
    have := Array.mem_of_getElem? ht
    simp at this
    (first | exact this | (rcases this with h | h | h | h | h <;> simp [h]; done) | (rcases this with h | h | h | h <;> simp [h]; done) | (rcases this with h | h | h <;> simp [h]; done))
  rcases h with rfl | rfl | rfl | rfl
  · exact (show Tryz.prog.wantsStandIn 52 = false by kernel_rfl)
  · exact (show Tryz.prog.wantsStandIn 3 = false by kernel_rfl)
  · exact (show Tryz.prog.wantsStandIn 53 = false by kernel_rfl)
  · exact (show Tryz.prog.wantsStandIn 54 = false by kernel_rfl)

theorem windowsPlay_card : Rows.WindowsPlayCardSaid :=
  Claim7.holds_tied_plain_at .later [] _ _ _ _ saidR (fun _ h => by cases h) (by kernel_rfl) (fun _ h => by cases h) windowsPlay_row_tie rfl ⟨rfl, rfl⟩ (by kernel_rfl) rfl standlessR (by kernel_rfl)
end Go.Proofs.YtccoobcggbbciaiGreatDoor
