import Derived.Test.YtccoobcggbbcialDoorHL0
namespace Go.Proofs.YtccoobcggbbcialDoor
open Go.ChangeShapes Go.WideShapes Go.ChangeAt Go.RowKit

/-- The first good way that begins so, with so many parts to lay still. -/
def layF (good : List Int → Bool) (cores : Nat) : Nat → List Int → Nat → Option (List Int)
  | 0, pre, _ => if good pre = true then some pre else none
  | k + 1, pre, used => (List.range (min (used + 1) cores)).findSome? fun (c : Nat) => layF good cores k (pre ++ [(c : Int)]) (max used (c + 1))

theorem layF_pre {good : List Int → Bool} {cores : Nat} : ∀ (k : Nat) (pre : List Int) (used : Nat) (r : List Int), layF good cores k pre used = some r → r.length = pre.length + k ∧ r.take pre.length = pre
  | 0, pre, used, r, h => by
    unfold layF at h
    split at h
    · cases h; simp
    · cases h
  | k + 1, pre, used, r, h => by
    unfold layF at h
    obtain ⟨c, -, hc⟩ := List.exists_of_findSome?_eq_some h
    obtain ⟨h1, h2⟩ := layF_pre k _ _ r hc
    simp at h1 h2
    refine ⟨by omega, ?_⟩
    have h3 := congrArg (List.take pre.length) h2
    rw [List.take_take, Nat.min_eq_left (by omega)] at h3
    simpa using h3

theorem findSome_range {α : Type} {f : Nat → Option α} : ∀ (m i : Nat) (r : α), i < m → (∀ j, j < i → f j = none) → f i = some r → (List.range m).findSome? f = some r
  | 0, i, r, h, _, _ => by omega
  | m + 1, i, r, h, hn, hs => by
    rw [List.range_succ, List.findSome?_append]
    by_cases e : i < m
    · rw [findSome_range m i r e hn hs]; rfl
    · have e2 : i = m := by omega
      subst e2
      have : (List.range i).findSome? f = none := by
        rw [List.findSome?_eq_none_iff]
        intro j hj
        exact hn j (List.mem_range.1 hj)
      rw [this]
      simp [hs]

/-- What lay holds. -/
structure LY (w W : World) (l : List Pa) (cores gp gg gw gc gy gW gL gl c : Nat) (ex : List Value) (ws : List Int) : Prop where
  bel : Below w.heap.size w W
  low : w.heap.size ≤ gl ∧ w.heap.size ≤ gW
  bp : W.cell? ⟨gp, 0, none⟩ = some (.int .i64 (l.length : Int))
  bg : W.cell? ⟨gg, 0, none⟩ = some (.func (Fn.func 65) #[] #[.pointer (some ⟨gL, 0, none⟩)])
  bw : W.cell? ⟨gw, 0, none⟩ = some (.slice (some ⟨gW, 0, none⟩) l.length l.length)
  bc : W.cell? ⟨gc, 0, none⟩ = some (.int .i64 (cores : Int))
  by_ : W.cell? ⟨gy, 0, none⟩ = some (.func (Fn.func 98) #[] #[.pointer (some ⟨gp, 0, none⟩), .pointer (some ⟨gg, 0, none⟩), .pointer (some ⟨gw, 0, none⟩), .pointer (some ⟨gc, 0, none⟩), .pointer (some ⟨gy, 0, none⟩)])
  row : W.heap[gW]? = some (.cells (ws.map (Value.int .i64)).toArray 3 (0, 0))
  len : ws.length = l.length
  lw : ∃ cs, LW W l gL gl c cs ex
  ne : gp ≠ gl ∧ gg ≠ gl ∧ gw ≠ gl ∧ gc ≠ gl ∧ gy ≠ gl ∧ gW ≠ gl
  neW : gp ≠ gW ∧ gg ≠ gW ∧ gw ≠ gW ∧ gc ≠ gW ∧ gy ≠ gW ∧ gL ≠ gW

theorem LY.put {w W : World} {l : List Pa} {cores gp gg gw gc gy gW gL gl c : Nat} {ex : List Value} {ws : List Int} (h : LY w W l cores gp gg gw gc gy gW gL gl c ex ws) (i : Nat) (z : Int) : LY w (W.setCell ⟨gW, i, none⟩ (.int .i64 z)) l cores gp gg gw gc gy gW gL gl c ex (ws.set i z) := by
  obtain ⟨n1, n2, n3, n4, n5, n6⟩ := h.neW
  refine ⟨h.bel.setCell h.low.2 _, h.low, ?_, ?_, ?_, ?_, ?_, ?_, by rw [List.length_set]; exact h.len, ?_, h.ne, h.neW⟩
  · rw [cell_other n1]; exact h.bp
  · rw [cell_other n2]; exact h.bg
  · rw [cell_other n3]; exact h.bw
  · rw [cell_other n4]; exact h.bc
  · rw [cell_other n5]; exact h.by_
  · rw [setCell_list h.row, List.map_set]
  · obtain ⟨cs, g⟩ := h.lw
    refine ⟨cs, ⟨?_, ?_, g.len, g.ne, g.cap⟩⟩
    · rw [cell_other n6]; exact g.bx
    · rw [Below.heap_setCell _ _ _ _ (Ne.symm h.ne.2.2.2.2.2)]; exact g.row

theorem LY.kx {w W W' : World} {l : List Pa} {cores gp gg gw gc gy gW gL gl c : Nat} {ex : List Value} {ws cs : List Int} (h : LY w W l cores gp gg gw gc gy gW gL gl c ex ws) (hk : Kx gl W W') (hl : LW W' l gL gl c cs ex) : LY w W' l cores gp gg gw gc gy gW gL gl c ex ws := by
  obtain ⟨n1, n2, n3, n4, n5, n6⟩ := h.ne
  exact ⟨hk.below h.bel h.low.1 h.bel.size, h.low, hk.cell n1 h.bp, hk.cell n2 h.bg, hk.cell n3 h.bw, hk.cell n4 h.bc, hk.cell n5 h.by_, (hk.block _ (Array.getElem?_eq_some_iff.1 h.row).1 n6).trans h.row, h.len, ⟨cs, hl⟩, h.ne, h.neW⟩

theorem LY.rowSl {w W : World} {l : List Pa} {cores gp gg gw gc gy gW gL gl c : Nat} {ex : List Value} {ws : List Int} (h : LY w W l cores gp gg gw gc gy gW gL gl c ex ws) : RowSl nuV W ws (.slice (some ⟨gW, 0, none⟩) l.length l.length) := by
  have h9 := row_ints h.row
  rwa [h.len] at h9

def UPost2 (w : World) (B n : Nat) (res : Option (List Int)) (r : Ending) (w' : World) : Prop := ∃ u, Below w.heap.size w w' ∧ r = .returned (.tuple #[u, .bool res.isSome]) ∧ (res = none → u = .slice none 0 0) ∧ ∀ nx, res = some nx → RowSl nuV w' nx u ∧ NewSl B u ∧ nx.length = n

def LayPost (w : World) (l : List Pa) (cores gp gg gw gc gy gW gL gl c : Nat) (ex : List Value) (pre : List Int) (res : Option (List Int)) (r : Ending) (w' : World) : Prop := r = .returned (.bool res.isSome) ∧ ∃ ws, LY w w' l cores gp gg gw gc gy gW gL gl c ex ws ∧ ws.take pre.length = pre ∧ ∀ s, res = some s → ws = s

set_option maxRecDepth 20000 in
set_option maxHeartbeats 4000000 in
theorem lay_any (w : World) (l : List Pa) (cores gp gg gw gc gy gW gL gl c : Nat) (ex : List Value) (good : List Int → Bool) (hgood : ∀ ws ts e, RespsR (onC l ws) ts e → good ws = (e.1 == 0)) (h1 : 1 ≤ l.length) (h8 : l.length ≤ 8) (hc4 : cores ≤ 4) : ∀ (k : Nat) (W : World) (pre ws : List Int) (used : Nat), pre.length + k = l.length → used ≤ 100 → LY w W l cores gp gg gw gc gy gW gL gl c ex ws → ws.take pre.length = pre → Calls Tryd.prog 98 #[.int .i64 (pre.length : Int), .int .i64 (used : Int), .pointer (some ⟨gp, 0, none⟩), .pointer (some ⟨gg, 0, none⟩), .pointer (some ⟨gw, 0, none⟩), .pointer (some ⟨gc, 0, none⟩), .pointer (some ⟨gy, 0, none⟩)] W (LayPost w l cores gp gg gw gc gy gW gL gl c ex pre (layF good cores k pre used))
  | 0, W, pre, ws, used, hk, hu, hly, hpre => by
    have hws : ws = pre := by rw [← hpre, List.take_of_length_le (by rw [hly.len]; omega)]
    subst hws
    obtain ⟨cs, hlw⟩ := hly.lw
    have HG := good_any W l ws cs ex _ gL gl c hlw hly.rowSl hly.len (fun a n c e => by cases e; exact hly.ne.2.2.2.2.2) h1 h8
    have HL : Hid (LY w W l cores gp gg gw gc gy gW gL gl c ex ws) := hly
    have c1 := hly.bp
    have c2 := hly.bg
    have c3 := hly.bw
    have l1 := World.block_lt_of_cell? _ _ c1
    have l2 := World.block_lt_of_cell? _ _ c2
    have l3 := World.block_lt_of_cell? _ _ c3
    rw [hly.len]
    clear hly hlw hk hpre
    go_enter Tryd.func98, Tryd.ntmps98
    go_wp2_with (go_at_call 65; refine HG.mono ?_; rintro r w1 ⟨ts, e, hr, rfl, hlw, hkx⟩; have H1 : Hid (RespsR (onC l ws) ts e ∧ LW w1 l gL gl c ws ex ∧ Kx gl W w1) := ⟨hr, hlw, hkx⟩; clear hr hlw hkx HG)
    go_ret
    have hg := hgood ws ts e H1.out.1
    refine ⟨?_, ws, HL.out.kx H1.out.2.2 H1.out.2.1, by rw [HL.out.len, ← HL.out.len]; exact List.take_length, fun s hs => ?_⟩
    · unfold layF
      rw [hg]
      cases (e.1 == 0) <;> rfl
    · unfold layF at hs
      split at hs
      · cases hs; rfl
      · cases hs
  | k + 1, W, pre, ws, used, hk, hu, hly, hpre => by
    have ih := lay_any w l cores gp gg gw gc gy gW gL gl c ex good hgood h1 h8 hc4 k
    have HI : Hid (∀ (W : World) (pre ws : List Int) (used : Nat), pre.length + k = l.length → used ≤ 100 → LY w W l cores gp gg gw gc gy gW gL gl c ex ws → ws.take pre.length = pre → Calls Tryd.prog 98 #[.int .i64 (pre.length : Int), .int .i64 (used : Int), .pointer (some ⟨gp, 0, none⟩), .pointer (some ⟨gg, 0, none⟩), .pointer (some ⟨gw, 0, none⟩), .pointer (some ⟨gc, 0, none⟩), .pointer (some ⟨gy, 0, none⟩)] W (LayPost w l cores gp gg gw gc gy gW gL gl c ex pre (layF good cores k pre used))) := ih
    clear ih
    have HL : Hid (LY w W l cores gp gg gw gc gy gW gL gl c ex ws ∧ ws.take pre.length = pre) := ⟨hly, hpre⟩
    obtain ⟨p, hp⟩ : ∃ p, pre.length = p := ⟨_, rfl⟩
    have HPL : Hid (pre.length = p) := hp
    obtain ⟨res, hres⟩ : ∃ res, layF good cores (k + 1) pre used = res := ⟨_, rfl⟩
    have HRES : Hid (layF good cores (k + 1) pre used = res) := hres
    rw [hres, hp]
    have c1 := hly.bp
    have c4 := hly.bc
    have l1 := World.block_lt_of_cell? _ _ c1
    have l4 := World.block_lt_of_cell? _ _ c4
    have hpl : p < l.length := by omega
    have hpk : p + 1 + k = l.length := by omega
    have hpn : ((p : Int) == (l.length : Int)) = false := by simp; omega
    clear hly hpre hp hres hk
    by_cases hmin : used + 1 ≤ cores
    · have hm1 : (used : Int) + 1 ≤ (cores : Int) := by omega
      have hm2 : ¬ ((cores : Int) < (used : Int) + 1) := by omega
      obtain ⟨m, hm⟩ : ∃ m, used + 1 = m := ⟨_, rfl⟩
      have hmi : (used : Int) + 1 = (m : Int) := by omega
      have HM : Hid (min (used + 1) cores = m) := (by omega : min (used + 1) cores = m)
      have hm4 : m ≤ 4 := by omega
      clear hm
      go_enter Tryd.func98, Tryd.ntmps98
      go_upto_region 4 with fail
      try rw [hmi]
      clear hmi hm1 hm2
      clear hmin
      go_loopw [21] (fun iv wr => ∃ q : Nat, q ≤ m ∧ iv = .int .i64 (q : Int) ∧ Hid (∃ ws, LY w wr l cores gp gg gw gc gy gW gL gl c ex ws ∧ ws.take p = pre ∧ ∀ j, j < q → layF good cores k (pre ++ [(j : Int)]) (max used (j + 1)) = none)) (fun iv _ => m - (intOf iv).toNat)
      case atStart => exact ⟨0, Nat.zero_le _, rfl, ⟨ws, HL.out.1, by rw [← HPL.out]; exact HL.out.2, fun j hj => by omega⟩⟩
      case round =>
        obtain ⟨q, hq, rfl, HX⟩ := hrel
        clear HL c1 c4 l1 l4
        obtain ⟨vs, hly, htk, hno⟩ := HX.out
        by_cases hqm : q < m
        · have hqi : (q : Int) < (m : Int) := by omega
          have c3 := hly.bw
          have c5 := hly.by_
          have l3 := World.block_lt_of_cell? _ _ c3
          have l5 := World.block_lt_of_cell? _ _ c5
          obtain ⟨rc, rf, rl⟩ := cells_of (l := vs.map (Value.int .i64)) hly.row
          have r0 := rc p _ (List.getElem?_eq_getElem (by rw [List.length_map, hly.len]; exact hpl))
          have rf0 := rf p
          generalize (vs.map (Value.int .i64))[p]'_ = rold at r0
          have hput := hly.put p (q : Int)
          have c3' := hput.bw
          have c5' := hput.by_
          obtain ⟨-, -, n3, -, n5, -⟩ := hly.neW
          have htk2 : (vs.set p (q : Int)).take (p + 1) = pre ++ [(q : Int)] := by
            rw [List.take_add_one, List.getElem?_set_self (by rw [hly.len]; exact hpl), List.take_set_of_le (Nat.le_refl _), htk]
            rfl
          have HQ : Hid (∀ j, j < q → layF good cores k (pre ++ [(j : Int)]) (max used (j + 1)) = none) := hno
          have hli : (pre ++ [(q : Int)]).length = p + 1 := by rw [List.length_append, HPL.out]; rfl
          have HC0 : ∀ u' : Nat, max used (q + 1) = u' → Calls Tryd.prog 98 #[.int .i64 ((p : Int) + 1), .int .i64 (u' : Int), .pointer (some ⟨gp, 0, none⟩), .pointer (some ⟨gg, 0, none⟩), .pointer (some ⟨gw, 0, none⟩), .pointer (some ⟨gc, 0, none⟩), .pointer (some ⟨gy, 0, none⟩)] (wr.setCell ⟨gW, p, none⟩ (.int .i64 (q : Int))) (LayPost w l cores gp gg gw gc gy gW gL gl c ex (pre ++ [(q : Int)]) (layF good cores k (pre ++ [(q : Int)]) (max used (q + 1)))) := fun u' hu' => by
            have h9 := HI.out _ (pre ++ [(q : Int)]) _ u' (by rw [hli]; omega) (by omega) hput (by rw [hli]; exact htk2)
            rw [hli] at h9
            rw [hu']
            exact h9
          obtain ⟨rs, hrs⟩ : ∃ rs, layF good cores k (pre ++ [(q : Int)]) (max used (q + 1)) = rs := ⟨_, rfl⟩
          rw [hrs] at HC0
          have HRS : Hid (layF good cores k (pre ++ [(q : Int)]) (max used (q + 1)) = rs) := hrs
          have HC1 : Hid (∀ u' : Nat, max used (q + 1) = u' → Calls Tryd.prog 98 #[.int .i64 ((p : Int) + 1), .int .i64 (u' : Int), .pointer (some ⟨gp, 0, none⟩), .pointer (some ⟨gg, 0, none⟩), .pointer (some ⟨gw, 0, none⟩), .pointer (some ⟨gc, 0, none⟩), .pointer (some ⟨gy, 0, none⟩)] (wr.setCell ⟨gW, p, none⟩ (.int .i64 (q : Int))) (LayPost w l cores gp gg gw gc gy gW gL gl c ex (pre ++ [(q : Int)]) rs)) := HC0
          clear hly htk hno HX rc rf hput htk2 hli HC0 hrs
          have hpi : (p : Int) < (l.length : Int) := by omega
          have key : ∀ (W2 : World) (vs2 : List Int), LY w W2 l cores gp gg gw gc gy gW gL gl c ex vs2 → vs2.take (p + 1) = pre ++ [(q : Int)] → vs2.take p = pre := fun W2 vs2 hl2 h2 => by
            have h3 := congrArg (List.take p) h2
            rw [List.take_take, Nat.min_eq_left (by omega), List.take_left' HPL.out] at h3
            exact h3
          have HKEY : Hid (∀ (W2 : World) (vs2 : List Int), LY w W2 l cores gp gg gw gc gy gW gL gl c ex vs2 → vs2.take (p + 1) = pre ++ [(q : Int)] → vs2.take p = pre) := key
          clear key
          have hlen1 : Hid ((pre ++ [(q : Int)]).length = p + 1) := (by rw [List.length_append, HPL.out]; rfl : (pre ++ [(q : Int)]).length = p + 1)
          rcases rs with _ | rs
          · skip
            by_cases hcu : q + 1 ≤ used
            · have hcu2 : ¬ ((used : Int) < (q : Int) + 1) := by omega
              have hcu3 : (q : Int) + 1 ≤ (used : Int) := by omega
              have hcu4 : max (used : Int) ((q : Int) + 1) = (used : Int) := by omega
              have HC : Hid (Calls Tryd.prog 98 #[.int .i64 ((p : Int) + 1), .int .i64 (used : Int), .pointer (some ⟨gp, 0, none⟩), .pointer (some ⟨gg, 0, none⟩), .pointer (some ⟨gw, 0, none⟩), .pointer (some ⟨gc, 0, none⟩), .pointer (some ⟨gy, 0, none⟩)] (wr.setCell ⟨gW, p, none⟩ (.int .i64 (q : Int))) (LayPost w l cores gp gg gw gc gy gW gL gl c ex (pre ++ [(q : Int)]) none)) := HC1.out (used) (by omega)
              clear HC1
              go_wp2_with (go_at_call 98; refine (HC.out).mono ?_; rintro r w1 ⟨rfl, vs2, hl2, ht2, hs2⟩; have H1 : Hid (LY w w1 l cores gp gg gw gc gy gW gL gl c ex vs2 ∧ vs2.take (pre ++ [(q : Int)]).length = pre ++ [(q : Int)] ∧ ∀ s, none = some s → vs2 = s) := ⟨hl2, ht2, hs2⟩; clear hl2 ht2 hs2 HC)
              refine ⟨⟨q + 1, by omega, by simp, ⟨vs2, H1.out.1, HKEY.out _ _ H1.out.1 (by have h9 := H1.out.2.1; rw [hlen1.out] at h9; exact h9), fun j hj => ?_⟩⟩, by simp [intOf]; omega⟩
              by_cases e : j = q
              · subst e; exact HRS.out
              · exact HQ.out j (by omega)
            · have hcu2 : ((used : Int) < (q : Int) + 1) := by omega
              have hcu3 : ¬ ((q : Int) + 1 ≤ (used : Int)) := by omega
              have hcu4 : max (used : Int) ((q : Int) + 1) = ((q : Int) + 1) := by omega
              have HC : Hid (Calls Tryd.prog 98 #[.int .i64 ((p : Int) + 1), .int .i64 ((q : Int) + 1), .pointer (some ⟨gp, 0, none⟩), .pointer (some ⟨gg, 0, none⟩), .pointer (some ⟨gw, 0, none⟩), .pointer (some ⟨gc, 0, none⟩), .pointer (some ⟨gy, 0, none⟩)] (wr.setCell ⟨gW, p, none⟩ (.int .i64 (q : Int))) (LayPost w l cores gp gg gw gc gy gW gL gl c ex (pre ++ [(q : Int)]) none)) := HC1.out (q + 1) (by omega)
              clear HC1
              go_wp2_with (go_at_call 98; refine (HC.out).mono ?_; rintro r w1 ⟨rfl, vs2, hl2, ht2, hs2⟩; have H1 : Hid (LY w w1 l cores gp gg gw gc gy gW gL gl c ex vs2 ∧ vs2.take (pre ++ [(q : Int)]).length = pre ++ [(q : Int)] ∧ ∀ s, none = some s → vs2 = s) := ⟨hl2, ht2, hs2⟩; clear hl2 ht2 hs2 HC)
              refine ⟨⟨q + 1, by omega, by simp, ⟨vs2, H1.out.1, HKEY.out _ _ H1.out.1 (by have h9 := H1.out.2.1; rw [hlen1.out] at h9; exact h9), fun j hj => ?_⟩⟩, by simp [intOf]; omega⟩
              by_cases e : j = q
              · subst e; exact HRS.out
              · exact HQ.out j (by omega)
          · skip
            by_cases hcu : q + 1 ≤ used
            · have hcu2 : ¬ ((used : Int) < (q : Int) + 1) := by omega
              have hcu3 : (q : Int) + 1 ≤ (used : Int) := by omega
              have hcu4 : max (used : Int) ((q : Int) + 1) = (used : Int) := by omega
              have HC : Hid (Calls Tryd.prog 98 #[.int .i64 ((p : Int) + 1), .int .i64 (used : Int), .pointer (some ⟨gp, 0, none⟩), .pointer (some ⟨gg, 0, none⟩), .pointer (some ⟨gw, 0, none⟩), .pointer (some ⟨gc, 0, none⟩), .pointer (some ⟨gy, 0, none⟩)] (wr.setCell ⟨gW, p, none⟩ (.int .i64 (q : Int))) (LayPost w l cores gp gg gw gc gy gW gL gl c ex (pre ++ [(q : Int)]) (some rs))) := HC1.out (used) (by omega)
              clear HC1
              go_wp2_with (go_at_call 98; refine (HC.out).mono ?_; rintro r w1 ⟨rfl, vs2, hl2, ht2, hs2⟩; have H1 : Hid (LY w w1 l cores gp gg gw gc gy gW gL gl c ex vs2 ∧ vs2.take (pre ++ [(q : Int)]).length = pre ++ [(q : Int)] ∧ ∀ s, (some rs) = some s → vs2 = s) := ⟨hl2, ht2, hs2⟩; clear hl2 ht2 hs2 HC)
              go_ret
              have hres : res = some rs := by
                rw [← HRES.out]
                unfold layF
                rw [HM.out]
                exact findSome_range m q rs hqm HQ.out HRS.out
              refine ⟨by rw [hres]; rfl, vs2, H1.out.1, by rw [HPL.out]; exact HKEY.out _ _ H1.out.1 (by have h9 := H1.out.2.1; rw [hlen1.out] at h9; exact h9), fun s hs => ?_⟩
              rw [hres] at hs
              cases hs
              exact H1.out.2.2 rs rfl
            · have hcu2 : ((used : Int) < (q : Int) + 1) := by omega
              have hcu3 : ¬ ((q : Int) + 1 ≤ (used : Int)) := by omega
              have hcu4 : max (used : Int) ((q : Int) + 1) = ((q : Int) + 1) := by omega
              have HC : Hid (Calls Tryd.prog 98 #[.int .i64 ((p : Int) + 1), .int .i64 ((q : Int) + 1), .pointer (some ⟨gp, 0, none⟩), .pointer (some ⟨gg, 0, none⟩), .pointer (some ⟨gw, 0, none⟩), .pointer (some ⟨gc, 0, none⟩), .pointer (some ⟨gy, 0, none⟩)] (wr.setCell ⟨gW, p, none⟩ (.int .i64 (q : Int))) (LayPost w l cores gp gg gw gc gy gW gL gl c ex (pre ++ [(q : Int)]) (some rs))) := HC1.out (q + 1) (by omega)
              clear HC1
              go_wp2_with (go_at_call 98; refine (HC.out).mono ?_; rintro r w1 ⟨rfl, vs2, hl2, ht2, hs2⟩; have H1 : Hid (LY w w1 l cores gp gg gw gc gy gW gL gl c ex vs2 ∧ vs2.take (pre ++ [(q : Int)]).length = pre ++ [(q : Int)] ∧ ∀ s, (some rs) = some s → vs2 = s) := ⟨hl2, ht2, hs2⟩; clear hl2 ht2 hs2 HC)
              go_ret
              have hres : res = some rs := by
                rw [← HRES.out]
                unfold layF
                rw [HM.out]
                exact findSome_range m q rs hqm HQ.out HRS.out
              refine ⟨by rw [hres]; rfl, vs2, H1.out.1, by rw [HPL.out]; exact HKEY.out _ _ H1.out.1 (by have h9 := H1.out.2.1; rw [hlen1.out] at h9; exact h9), fun s hs => ?_⟩
              rw [hres] at hs
              cases hs
              exact H1.out.2.2 rs rfl
        · have hqe : q = m := by omega
          subst hqe
          have HLY : Hid (LY w wr l cores gp gg gw gc gy gW gL gl c ex vs ∧ vs.take p = pre) := ⟨hly, htk⟩
          have hres : res = none := by
            rw [← HRES.out]
            unfold layF
            rw [HM.out, List.findSome?_eq_none_iff]
            intro j hj
            exact hno j (List.mem_range.1 hj)
          subst hres
          have hqi : ¬ ((q : Nat) : Int) < (q : Int) := by omega
          clear hly htk hno HX
          go_wp2_with fail
          go_ret
          exact ⟨rfl, vs, HLY.out.1, by rw [HPL.out]; exact HLY.out.2, fun s hs => by cases hs⟩
    · have hm1 : ¬ ((used : Int) + 1 ≤ (cores : Int)) := by omega
      have hm2 : ((cores : Int) < (used : Int) + 1) := by omega
      obtain ⟨m, hm⟩ : ∃ m, cores = m := ⟨_, rfl⟩
      have HM : Hid (min (used + 1) cores = m) := (by omega : min (used + 1) cores = m)
      have hm4 : m ≤ 4 := by omega
      have HMC : Hid (cores = m) := hm
      clear hm
      go_enter Tryd.func98, Tryd.ntmps98
      go_upto_region 4 with fail
      rw [show ((cores : Int)) = (m : Int) by rw [HMC.out]]
      clear hm1 hm2 HMC
      clear hmin
      go_loopw [21] (fun iv wr => ∃ q : Nat, q ≤ m ∧ iv = .int .i64 (q : Int) ∧ Hid (∃ ws, LY w wr l cores gp gg gw gc gy gW gL gl c ex ws ∧ ws.take p = pre ∧ ∀ j, j < q → layF good cores k (pre ++ [(j : Int)]) (max used (j + 1)) = none)) (fun iv _ => m - (intOf iv).toNat)
      case atStart => exact ⟨0, Nat.zero_le _, rfl, ⟨ws, HL.out.1, by rw [← HPL.out]; exact HL.out.2, fun j hj => by omega⟩⟩
      case round =>
        obtain ⟨q, hq, rfl, HX⟩ := hrel
        clear HL c1 c4 l1 l4
        obtain ⟨vs, hly, htk, hno⟩ := HX.out
        by_cases hqm : q < m
        · have hqi : (q : Int) < (m : Int) := by omega
          have c3 := hly.bw
          have c5 := hly.by_
          have l3 := World.block_lt_of_cell? _ _ c3
          have l5 := World.block_lt_of_cell? _ _ c5
          obtain ⟨rc, rf, rl⟩ := cells_of (l := vs.map (Value.int .i64)) hly.row
          have r0 := rc p _ (List.getElem?_eq_getElem (by rw [List.length_map, hly.len]; exact hpl))
          have rf0 := rf p
          generalize (vs.map (Value.int .i64))[p]'_ = rold at r0
          have hput := hly.put p (q : Int)
          have c3' := hput.bw
          have c5' := hput.by_
          obtain ⟨-, -, n3, -, n5, -⟩ := hly.neW
          have htk2 : (vs.set p (q : Int)).take (p + 1) = pre ++ [(q : Int)] := by
            rw [List.take_add_one, List.getElem?_set_self (by rw [hly.len]; exact hpl), List.take_set_of_le (Nat.le_refl _), htk]
            rfl
          have HQ : Hid (∀ j, j < q → layF good cores k (pre ++ [(j : Int)]) (max used (j + 1)) = none) := hno
          have hli : (pre ++ [(q : Int)]).length = p + 1 := by rw [List.length_append, HPL.out]; rfl
          have HC0 : ∀ u' : Nat, max used (q + 1) = u' → Calls Tryd.prog 98 #[.int .i64 ((p : Int) + 1), .int .i64 (u' : Int), .pointer (some ⟨gp, 0, none⟩), .pointer (some ⟨gg, 0, none⟩), .pointer (some ⟨gw, 0, none⟩), .pointer (some ⟨gc, 0, none⟩), .pointer (some ⟨gy, 0, none⟩)] (wr.setCell ⟨gW, p, none⟩ (.int .i64 (q : Int))) (LayPost w l cores gp gg gw gc gy gW gL gl c ex (pre ++ [(q : Int)]) (layF good cores k (pre ++ [(q : Int)]) (max used (q + 1)))) := fun u' hu' => by
            have h9 := HI.out _ (pre ++ [(q : Int)]) _ u' (by rw [hli]; omega) (by omega) hput (by rw [hli]; exact htk2)
            rw [hli] at h9
            rw [hu']
            exact h9
          obtain ⟨rs, hrs⟩ : ∃ rs, layF good cores k (pre ++ [(q : Int)]) (max used (q + 1)) = rs := ⟨_, rfl⟩
          rw [hrs] at HC0
          have HRS : Hid (layF good cores k (pre ++ [(q : Int)]) (max used (q + 1)) = rs) := hrs
          have HC1 : Hid (∀ u' : Nat, max used (q + 1) = u' → Calls Tryd.prog 98 #[.int .i64 ((p : Int) + 1), .int .i64 (u' : Int), .pointer (some ⟨gp, 0, none⟩), .pointer (some ⟨gg, 0, none⟩), .pointer (some ⟨gw, 0, none⟩), .pointer (some ⟨gc, 0, none⟩), .pointer (some ⟨gy, 0, none⟩)] (wr.setCell ⟨gW, p, none⟩ (.int .i64 (q : Int))) (LayPost w l cores gp gg gw gc gy gW gL gl c ex (pre ++ [(q : Int)]) rs)) := HC0
          clear hly htk hno HX rc rf hput htk2 hli HC0 hrs
          have hpi : (p : Int) < (l.length : Int) := by omega
          have key : ∀ (W2 : World) (vs2 : List Int), LY w W2 l cores gp gg gw gc gy gW gL gl c ex vs2 → vs2.take (p + 1) = pre ++ [(q : Int)] → vs2.take p = pre := fun W2 vs2 hl2 h2 => by
            have h3 := congrArg (List.take p) h2
            rw [List.take_take, Nat.min_eq_left (by omega), List.take_left' HPL.out] at h3
            exact h3
          have HKEY : Hid (∀ (W2 : World) (vs2 : List Int), LY w W2 l cores gp gg gw gc gy gW gL gl c ex vs2 → vs2.take (p + 1) = pre ++ [(q : Int)] → vs2.take p = pre) := key
          clear key
          have hlen1 : Hid ((pre ++ [(q : Int)]).length = p + 1) := (by rw [List.length_append, HPL.out]; rfl : (pre ++ [(q : Int)]).length = p + 1)
          rcases rs with _ | rs
          · skip
            by_cases hcu : q + 1 ≤ used
            · have hcu2 : ¬ ((used : Int) < (q : Int) + 1) := by omega
              have hcu3 : (q : Int) + 1 ≤ (used : Int) := by omega
              have hcu4 : max (used : Int) ((q : Int) + 1) = (used : Int) := by omega
              have HC : Hid (Calls Tryd.prog 98 #[.int .i64 ((p : Int) + 1), .int .i64 (used : Int), .pointer (some ⟨gp, 0, none⟩), .pointer (some ⟨gg, 0, none⟩), .pointer (some ⟨gw, 0, none⟩), .pointer (some ⟨gc, 0, none⟩), .pointer (some ⟨gy, 0, none⟩)] (wr.setCell ⟨gW, p, none⟩ (.int .i64 (q : Int))) (LayPost w l cores gp gg gw gc gy gW gL gl c ex (pre ++ [(q : Int)]) none)) := HC1.out (used) (by omega)
              clear HC1
              go_wp2_with (go_at_call 98; refine (HC.out).mono ?_; rintro r w1 ⟨rfl, vs2, hl2, ht2, hs2⟩; have H1 : Hid (LY w w1 l cores gp gg gw gc gy gW gL gl c ex vs2 ∧ vs2.take (pre ++ [(q : Int)]).length = pre ++ [(q : Int)] ∧ ∀ s, none = some s → vs2 = s) := ⟨hl2, ht2, hs2⟩; clear hl2 ht2 hs2 HC)
              refine ⟨⟨q + 1, by omega, by simp, ⟨vs2, H1.out.1, HKEY.out _ _ H1.out.1 (by have h9 := H1.out.2.1; rw [hlen1.out] at h9; exact h9), fun j hj => ?_⟩⟩, by simp [intOf]; omega⟩
              by_cases e : j = q
              · subst e; exact HRS.out
              · exact HQ.out j (by omega)
            · have hcu2 : ((used : Int) < (q : Int) + 1) := by omega
              have hcu3 : ¬ ((q : Int) + 1 ≤ (used : Int)) := by omega
              have hcu4 : max (used : Int) ((q : Int) + 1) = ((q : Int) + 1) := by omega
              have HC : Hid (Calls Tryd.prog 98 #[.int .i64 ((p : Int) + 1), .int .i64 ((q : Int) + 1), .pointer (some ⟨gp, 0, none⟩), .pointer (some ⟨gg, 0, none⟩), .pointer (some ⟨gw, 0, none⟩), .pointer (some ⟨gc, 0, none⟩), .pointer (some ⟨gy, 0, none⟩)] (wr.setCell ⟨gW, p, none⟩ (.int .i64 (q : Int))) (LayPost w l cores gp gg gw gc gy gW gL gl c ex (pre ++ [(q : Int)]) none)) := HC1.out (q + 1) (by omega)
              clear HC1
              go_wp2_with (go_at_call 98; refine (HC.out).mono ?_; rintro r w1 ⟨rfl, vs2, hl2, ht2, hs2⟩; have H1 : Hid (LY w w1 l cores gp gg gw gc gy gW gL gl c ex vs2 ∧ vs2.take (pre ++ [(q : Int)]).length = pre ++ [(q : Int)] ∧ ∀ s, none = some s → vs2 = s) := ⟨hl2, ht2, hs2⟩; clear hl2 ht2 hs2 HC)
              refine ⟨⟨q + 1, by omega, by simp, ⟨vs2, H1.out.1, HKEY.out _ _ H1.out.1 (by have h9 := H1.out.2.1; rw [hlen1.out] at h9; exact h9), fun j hj => ?_⟩⟩, by simp [intOf]; omega⟩
              by_cases e : j = q
              · subst e; exact HRS.out
              · exact HQ.out j (by omega)
          · skip
            by_cases hcu : q + 1 ≤ used
            · have hcu2 : ¬ ((used : Int) < (q : Int) + 1) := by omega
              have hcu3 : (q : Int) + 1 ≤ (used : Int) := by omega
              have hcu4 : max (used : Int) ((q : Int) + 1) = (used : Int) := by omega
              have HC : Hid (Calls Tryd.prog 98 #[.int .i64 ((p : Int) + 1), .int .i64 (used : Int), .pointer (some ⟨gp, 0, none⟩), .pointer (some ⟨gg, 0, none⟩), .pointer (some ⟨gw, 0, none⟩), .pointer (some ⟨gc, 0, none⟩), .pointer (some ⟨gy, 0, none⟩)] (wr.setCell ⟨gW, p, none⟩ (.int .i64 (q : Int))) (LayPost w l cores gp gg gw gc gy gW gL gl c ex (pre ++ [(q : Int)]) (some rs))) := HC1.out (used) (by omega)
              clear HC1
              go_wp2_with (go_at_call 98; refine (HC.out).mono ?_; rintro r w1 ⟨rfl, vs2, hl2, ht2, hs2⟩; have H1 : Hid (LY w w1 l cores gp gg gw gc gy gW gL gl c ex vs2 ∧ vs2.take (pre ++ [(q : Int)]).length = pre ++ [(q : Int)] ∧ ∀ s, (some rs) = some s → vs2 = s) := ⟨hl2, ht2, hs2⟩; clear hl2 ht2 hs2 HC)
              go_ret
              have hres : res = some rs := by
                rw [← HRES.out]
                unfold layF
                rw [HM.out]
                exact findSome_range m q rs hqm HQ.out HRS.out
              refine ⟨by rw [hres]; rfl, vs2, H1.out.1, by rw [HPL.out]; exact HKEY.out _ _ H1.out.1 (by have h9 := H1.out.2.1; rw [hlen1.out] at h9; exact h9), fun s hs => ?_⟩
              rw [hres] at hs
              cases hs
              exact H1.out.2.2 rs rfl
            · have hcu2 : ((used : Int) < (q : Int) + 1) := by omega
              have hcu3 : ¬ ((q : Int) + 1 ≤ (used : Int)) := by omega
              have hcu4 : max (used : Int) ((q : Int) + 1) = ((q : Int) + 1) := by omega
              have HC : Hid (Calls Tryd.prog 98 #[.int .i64 ((p : Int) + 1), .int .i64 ((q : Int) + 1), .pointer (some ⟨gp, 0, none⟩), .pointer (some ⟨gg, 0, none⟩), .pointer (some ⟨gw, 0, none⟩), .pointer (some ⟨gc, 0, none⟩), .pointer (some ⟨gy, 0, none⟩)] (wr.setCell ⟨gW, p, none⟩ (.int .i64 (q : Int))) (LayPost w l cores gp gg gw gc gy gW gL gl c ex (pre ++ [(q : Int)]) (some rs))) := HC1.out (q + 1) (by omega)
              clear HC1
              go_wp2_with (go_at_call 98; refine (HC.out).mono ?_; rintro r w1 ⟨rfl, vs2, hl2, ht2, hs2⟩; have H1 : Hid (LY w w1 l cores gp gg gw gc gy gW gL gl c ex vs2 ∧ vs2.take (pre ++ [(q : Int)]).length = pre ++ [(q : Int)] ∧ ∀ s, (some rs) = some s → vs2 = s) := ⟨hl2, ht2, hs2⟩; clear hl2 ht2 hs2 HC)
              go_ret
              have hres : res = some rs := by
                rw [← HRES.out]
                unfold layF
                rw [HM.out]
                exact findSome_range m q rs hqm HQ.out HRS.out
              refine ⟨by rw [hres]; rfl, vs2, H1.out.1, by rw [HPL.out]; exact HKEY.out _ _ H1.out.1 (by have h9 := H1.out.2.1; rw [hlen1.out] at h9; exact h9), fun s hs => ?_⟩
              rw [hres] at hs
              cases hs
              exact H1.out.2.2 rs rfl
        · have hqe : q = m := by omega
          subst hqe
          have HLY : Hid (LY w wr l cores gp gg gw gc gy gW gL gl c ex vs ∧ vs.take p = pre) := ⟨hly, htk⟩
          have hres : res = none := by
            rw [← HRES.out]
            unfold layF
            rw [HM.out, List.findSome?_eq_none_iff]
            intro j hj
            exact hno j (List.mem_range.1 hj)
          subst hres
          have hqi : ¬ ((q : Nat) : Int) < (q : Int) := by omega
          clear hly htk hno HX
          go_wp2_with fail
          go_ret
          exact ⟨rfl, vs, HLY.out.1, by rw [HPL.out]; exact HLY.out.2, fun s hs => by cases hs⟩

end Go.Proofs.YtccoobcggbbcialDoor
