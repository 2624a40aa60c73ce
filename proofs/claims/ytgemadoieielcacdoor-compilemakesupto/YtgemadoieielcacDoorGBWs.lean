import Derived.Test.YtgemadoieielcacDoorGBWs1
import Derived.Test.YtgemadoieielcacDoorGBWs2
import Derived.Test.YtgemadoieielcacDoorGBWs3
import Derived.Test.YtgemadoieielcacDoorGBWs4
import Derived.Test.YtgemadoieielcacDoorGBWs5
import Derived.Test.YtgemadoieielcacDoorGBWs6
import Derived.Test.YtgemadoieielcacDoorGBWs7
import Derived.Test.YtgemadoieielcacDoorGBFlat
namespace Go.Proofs.YtgemadoieielcacDoor.B
open Go.ChangeShapes Go.WideShapes Go.ChangeAt Go.RowKit

set_option maxRecDepth 20000 in
set_option maxHeartbeats 1000000 in
theorem ws0 (w : World) (sk sn ck ek en ak an bk bn d : Int) (ead aad bad yad lad lo : Option Addr) (em ec am ac bm bc ly yc ll lc lm lcap : Nat) (hk : sk < 1 ∨ 7 < sk) :
    Calls Tryd.prog 98 #[.agg #[.int .i64 sk, .int .i64 sn, .int .i64 ek, .int .i64 en, .slice ead em ec, .int .i64 ck, .int .i64 ak, .int .i64 an, .slice aad am ac, .int .i64 bk, .int .i64 bn, .slice bad bm bc, .slice yad ly yc, .slice lad ll lc, .int .i64 d, .slice lo lm lcap]] w
      fun r w' => r = .returned (.int .i64 6) ∧ Below w.heap.size w w' := by
  have hb : ∀ o o', Below w.heap.size w ((w.alloc o).alloc o') := fun o o' => ((Below.refl _ _).alloc (Nat.le_refl _) o).alloc (by simp) o'
  rcases hk with hk | hk
  · go_enter Tryd.func98, Tryd.ntmps98
    go_wp2_with fail
    go_ret
    exact ⟨rfl, hb _ _⟩
  · have hk' : ¬ sk < 1 := by omega
    go_enter Tryd.func98, Tryd.ntmps98
    go_wp2_with fail
    go_ret
    exact ⟨rfl, hb _ _⟩

def Fl.err (f : Fl) : Int :=
  match f.s with
  | .mk k n e ck ca cb y l => stErr k n (exNone e.k e.n e.a.length) (wrongL (e.pre 31) 0) ck (exNone ca.k ca.n ca.a.length) (exNone cb.k cb.n cb.a.length) (wrongL (ca.pre 31) 0) (wrongL (cb.pre 31) 0) y.length l.length f.d (decide (n ∈ f.ls))

theorem ws_any (w : World) (f : Fl) (x : Nat → Value) (lo : Value) (hin : f.s.In w (stVal x)) (hlk : LocksIn w lo f.ls) (hb : f.s.bulk ≤ 1048576) (hl : f.ls.length ≤ 1000) :
    Calls Tryd.prog 98 #[.agg #[x 0, x 1, x 2, x 3, x 4, x 5, x 6, x 7, x 8, x 9, x 10, x 11, x 12, x 13, .int .i64 f.d, lo]] w fun r w' => r = .returned (.int .i64 f.err) ∧ Below w.heap.size w w' := by
  obtain ⟨s, d, ls⟩ := f
  obtain ⟨k, n, ⟨ek, en, ea⟩, ck, ⟨ak, an, aa⟩, ⟨bk, bn, ba⟩, y, l⟩ := s
  unfold St.bulk at hb
  dsimp only at hin hlk hl ⊢
  unfold St.In at hin
  obtain ⟨e0, e1, e2, a0, a1, a2, b0, b1, b2, sb, sl, hv, h1, h2, h3, ⟨yad, yc, h4, -⟩, ⟨lad, lc, h5, -⟩⟩ := hin
  have g1 := h1
  have g2 := h2
  have g3 := h3
  unfold Ex.In at g1 g2 g3
  obtain ⟨ead, ec, hv1, -⟩ := g1
  obtain ⟨aad, ac, hv2, -⟩ := g2
  obtain ⟨bad, bc, hv3, -⟩ := g3
  unfold stVal at hv
  rw [hv1] at h1
  rw [hv2] at h2
  rw [hv3] at h3
  simp only [Value.agg.injEq, Array.mk.injEq, List.cons.injEq, and_true] at hv hv1 hv2 hv3
  obtain ⟨v0, v1, v2, v3, v4, v5, v6, v7, v8, v9, v10, v11, v12, v13⟩ := hv
  obtain ⟨rfl, rfl, rfl⟩ := hv1
  obtain ⟨rfl, rfl, rfl⟩ := hv2
  obtain ⟨rfl, rfl, rfl⟩ := hv3
  subst h4 h5
  rw [v0, v1, v2, v3, v4, v5, v6, v7, v8, v9, v10, v11, v12, v13]
  have hlk' := hlk
  obtain ⟨lo', lcap, rfl, -⟩ := hlk'
  have hn : (Ex.mk ek en ea).nodes ≤ 1048576 ∧ (Ex.mk ak an aa).nodes ≤ 1048576 ∧ (Ex.mk bk bn ba).nodes ≤ 1048576 := by omega
  show Calls _ _ _ _ fun r w' => r = .returned (.int .i64 (stErr k n (exNone ek en ea.length) (wrongL ((Ex.mk ek en ea).pre 31) 0) ck (exNone ak an aa.length) (exNone bk bn ba.length) (wrongL ((Ex.mk ak an aa).pre 31) 0) (wrongL ((Ex.mk bk bn ba).pre 31) 0) y.length l.length d (decide (n ∈ ls)))) ∧ _
  by_cases hk : k < 1 ∨ 7 < k
  · have e : stErr k n (exNone ek en ea.length) (wrongL ((Ex.mk ek en ea).pre 31) 0) ck (exNone ak an aa.length) (exNone bk bn ba.length) (wrongL ((Ex.mk ak an aa).pre 31) 0) (wrongL ((Ex.mk bk bn ba).pre 31) 0) y.length l.length d (decide (n ∈ ls)) = 6 := by unfold stErr; rw [if_pos hk]
    rw [e]
    exact ws0 w k n ck ek en ak an bk bn d ead aad bad yad lad lo' _ ec _ ac _ bc _ yc _ lc _ lcap hk
  · have hk7 : k = 1 ∨ k = 2 ∨ k = 3 ∨ k = 4 ∨ k = 5 ∨ k = 6 ∨ k = 7 := by omega
    rcases hk7 with rfl | rfl | rfl | rfl | rfl | rfl | rfl
    · exact ws1 w n ck ek en ak an bk bn d ead aad bad yad lad lo' _ ec _ ac _ bc _ yc _ lc _ lcap _ _ _ h1 h2 h3 hn _
    · exact ws2 w n ck ek en ak an bk bn d ead aad bad yad lad lo' _ ec _ ac _ bc _ yc _ lc _ lcap _ _ _ h1 h2 h3 hn _
    · exact ws3 w n ck ek en ak an bk bn d ead aad bad yad lad lo' _ ec _ ac _ bc _ yc _ lc _ lcap _ _ _ h1 h2 h3 hn _
    · exact ws4 w n ck ek en ak an bk bn d ead aad bad yad lad lo' _ ec _ ac _ bc _ yc _ lc _ lcap _ _ _ h1 h2 h3 hn _
    · exact ws5 w n ck ek en ak an bk bn d ead aad bad yad lad lo' _ ec _ ac _ bc _ yc _ lc _ lcap _ _ _ h1 h2 h3 hn _
    · exact ws6 w n ck ek en ak an bk bn d ead aad bad yad lad lo' _ ec _ ac _ bc _ yc _ lc _ lcap _ _ _ h1 h2 h3 hn ls hlk hl
    · exact ws7 w n ck ek en ak an bk bn d ead aad bad yad lad lo' _ ec _ ac _ bc _ yc _ lc _ lcap _ _ _ h1 h2 h3 hn _
end Go.Proofs.YtgemadoieielcacDoor.B
