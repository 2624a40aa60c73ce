import Derived.Test.YtgemadoieielcacDoorGLast
namespace Go.Proofs.YtgemadoieielcacDoor
open Go.ChangeShapes Go.WideShapes Go.ChangeAt Go.RowKit

/-- Between two rounds of the document's walk from the end on. -/
structure WL (w1 : World) (l : List In) (j : Nat) (wr : World) : Prop where
  bel : Below w1.heap.size w1 wr
  pc : wr.cell? ⟨w1.heap.size + 1 + 1, 0, none⟩ = some (.map (some (w1.heap.size + 1)))
  ht : ∃ N M, HtAt wr (w1.heap.size + 1) N M ∧ N ≤ l.length - j ∧ ∀ k : Nat, j ≤ k → (M (k : Int)).getD 0 = restF l k
  le : ∀ k, j ≤ k → restF l k ≤ 1099511627776

theorem WL.start (w1 : World) (l : List In) : WL w1 l l.length (((w1.alloc (.cells #[.int .i64 0, .int .i64 0] 30)).alloc (.map #[] 0)).alloc (.cells #[.map (some (w1.heap.size + 1))] 105)) := by
  have q1 := below_new w1 (.cells #[.int .i64 0, .int .i64 0] 30)
  have q2 := below_new (w1.alloc (.cells #[.int .i64 0, .int .i64 0] 30)) (.map #[] 0)
  have q3 := below_new ((w1.alloc (.cells #[.int .i64 0, .int .i64 0] 30)).alloc (.map #[] 0)) (.cells #[.map (some (w1.heap.size + 1))] 105)
  refine ⟨below_seq q1 (below_seq q2 q3), ?_, ⟨0, fun _ => none, ?_, by omega, fun k hk => by rw [restF_out hk]; rfl⟩, fun k hk => by rw [restF_out hk]; omega⟩
  · have e := heap_new ((w1.alloc (.cells #[.int .i64 0, .int .i64 0] 30)).alloc (.map #[] 0)) (.cells #[.map (some (w1.heap.size + 1))] 105)
    simp only [World.size_alloc] at e
    exact (cells_of (l := [_]) e).1 0 _ rfl
  · have e := HtAt.made (w1.alloc (.cells #[.int .i64 0, .int .i64 0] 30))
    rw [World.size_alloc] at e
    exact e.below q3

theorem WL.grow {w1 wr w' : World} {l : List In} {j : Nat} (h : WL w1 l j wr) (hb : Below wr.heap.size wr w') : WL w1 l j w' := by
  obtain ⟨N, M, h1, h2, h3⟩ := h.ht
  exact ⟨below_seq h.bel hb, below_cell hb h.pc, ⟨N, M, h1.below hb, h2, h3⟩, h.le⟩

theorem WL.box {w1 wr : World} {l : List In} {k : Nat} (h : WL w1 l (k + 1) wr) : ShAt wr (w1.heap.size + 1 + 1) k l.length (restF l) := by
  obtain ⟨N, M, h1, h2, h3⟩ := h.ht
  exact ⟨_, N, M, h.pc, h1, fun j hj _ => h3 j hj⟩

/-- One more number in the map. -/
theorem WL.put {w1 wr : World} {l : List In} {k : Nat} (h : WL w1 l (k + 1) wr) (hk : k < l.length) (hl : l.length ≤ 2000) (hr : 0 ≤ restF l k ∧ restF l k ≤ 2000000000000000) : ∃ w', (Instr.mapUpdate 105 (.map (some (w1.heap.size + 1))) (.int .i64 (k : Int)) (.int .i64 (restF l k))).run Tryd.prog wr = .ok () w' ∧ Below w1.heap.size w1 w' ∧ w'.cell? ⟨w1.heap.size + 1 + 1, 0, none⟩ = some (.map (some (w1.heap.size + 1))) ∧ (restF l k ≤ 1099511627776 → WL w1 l k w') ∧ (Instr.lookup 105 (.map (some (w1.heap.size + 1))) (.int .i64 (k : Int)) false).run Tryd.prog w' = .ok (.int .i64 (restF l k)) w' := by
  obtain ⟨N, M, h1, h2, h3⟩ := h.ht
  obtain ⟨w', q1, q2, q3⟩ := h1.set (by omega) (z := (k : Int)) (v := restF l k) (by omega) (by omega)
  have hb : Below w1.heap.size w1 w' := h.bel.grown q3 h.bel.size (fun j e => by cases e; omega)
  have hp := q3.cell h.pc (by simp)
  refine ⟨w', q1, hb, hp, fun hle => ⟨hb, hp, ⟨N + 1, _, q2, by omega, fun j hj => ?_⟩, fun j hj => ?_⟩, ?_⟩
  · unfold setH
    by_cases e : j = k
    · subst e; rw [if_pos rfl]; rfl
    · rw [if_neg (by omega)]; exact h3 j (by omega)
  · by_cases e : j = k
    · subst e; exact hle
    · exact h.le j (by omega)
  · have := q2.look1 (z := (k : Int)) (by omega)
    unfold setH at this
    rw [if_pos rfl] at this
    exact this

theorem docNest_len {l : List In} : ∀ (r : List In) (j : Nat) (os : List Nat) (rs rs' : List (Nat × Nat)) (os' : List Nat), docNest l r j os rs = .inr (os', rs') → rs'.length ≤ rs.length + r.length
  | [], j, os, rs, rs', os', h => by
    rw [docNest] at h
    cases h
    simp
  | x :: r, j, os, rs, rs', os', h => by
    rw [docNest] at h
    split at h
    · cases h
    have := docNest_len r _ _ _ _ _ h
    split at this
    · simp at this ⊢; omega
    · simp at this ⊢; omega

def restTo (l : List In) (j : Nat) : List Int := (List.range j).map (restF l)

theorem restTo_len (l : List In) (j : Nat) : (restTo l j).length = j := by simp [restTo]

theorem restTo_succ (l : List In) (j : Nat) : restTo l j ++ [restF l j] = restTo l (j + 1) := by simp [restTo, List.range_succ]

/-- Between two rounds of its second loop. -/
structure WM (w2 : World) (l : List In) (j : Nat) (rad : Option Addr) (rc : Nat) (wr : World) : Prop where
  bel : Below w2.heap.size w2 wr
  siz : w2.heap.size + 1 ≤ wr.heap.size
  blk : wr.heap[w2.heap.size]? = some (.cells #[.int .i64 (restF l 0), .slice rad j rc] 77 (0, 0))
  own : wr.ownsRow (w2.heap.size + 1) 3 1 (.slice rad j rc) j (intVs (restTo l j))

theorem WM.start (w2 : World) (l : List In) : WM w2 l 0 none 0 (w2.alloc (.cells #[.int .i64 (restF l 0), .slice none 0 0] 77)) :=
  ⟨below_new _ _, by simp, heap_new _ _, World.ownsRow_nil _ _ _ _⟩

theorem WM.push {w2 wr w4 : World} {l : List In} {j : Nat} {rad ad : Option Addr} {rc c : Nat} (h : WM w2 l j rad rc wr) (ho : w4.ownsRow (w2.heap.size + 1) 3 1 (.slice ad (j + 1) c) (j + 1) (intVs (restTo l j ++ [restF l j]))) (hg : (wr.alloc (.cells #[.int .i64 (restF l j)] 3)).grownBy w4 (Value.slice rad j rc).ownBlock) :
    w4.heap[w2.heap.size]? = some (.cells #[.int .i64 (restF l 0), .slice rad j rc] 77 (0, 0)) ∧ WM w2 l (j + 1) ad c (w4.setCell ⟨w2.heap.size, 1, none⟩ (.slice ad (j + 1) c)) := by
  have hs := h.siz
  have hb : Below (w2.heap.size + 1) wr w4 := ((Below.refl (w2.heap.size + 1) wr).alloc hs _).grown hg (by simp; omega) (fun k hk => (h.own.lt k hk).1)
  have hk := (hb.block w2.heap.size (by omega)).trans h.blk
  refine ⟨hk, (h.bel.trans (hb.mono (by omega))).setCell (Nat.le_refl _) _, ?_, ?_, ?_⟩
  · have := hb.size; simp; omega
  · rw [setCell_at hk]; simp
  · rw [← restTo_succ]
    exact ownsRow_same ho (fun k hk1 _ => Below.heap_setCell _ _ _ _ (by show k ≠ w2.heap.size; omega))

theorem WM.row {w2 wr : World} {l : List In} {n : Nat} {rad : Option Addr} {rc : Nat} (h : WM w2 l n rad rc wr) : RowI wr rad n (restF l) := by
  by_cases hn : n = 0
  · exact .inl hn
  · obtain ⟨b, o, h1, h2⟩ := row_of_own h.own (restTo_len l n).symm (by omega)
    refine .inr ⟨b, o, h1, fun j hj => ?_⟩
    rw [h2 j (by rw [restTo_len]; exact hj)]
    simp [restTo, List.getD, hj]

theorem WM.cap {w2 wr : World} {l : List In} {n : Nat} {rad : Option Addr} {rc : Nat} (h : WM w2 l n rad rc wr) : n ≤ rc := by
  obtain ⟨-, ⟨h1, h2⟩ | ⟨g, cap, cur, h1, -, -, h2, -⟩⟩ := h.own
  · omega
  · cases h1; exact h2

set_option maxRecDepth 20000 in
set_option maxHeartbeats 400000 in
theorem Worst_right (w : World) (l : List In) (iad : Option Addr) (ic : Nat) (hI : InSl w l (.slice iad l.length ic)) (hc : docI l = (0, 0)) : Calls Tryd.prog 43 #[.slice iad l.length ic] w (WsP l w) := by
  have hc' : checkI l = (0, 0) := by rw [← doc_check]; exact hc
  have hg := gl_of hc'
  have hlen := hg.len
  have hB : Below w.heap.size w ((w.alloc (.cells #[.int .i64 0, .slice none 0 0] 77)).alloc (.cells #[.int .i64 0, .int .i64 0] 30)) := ((Below.refl _ _).alloc (Nat.le_refl _) _).alloc (by simp) _
  have HB : Hid (Below w.heap.size w ((w.alloc (.cells #[.int .i64 0, .slice none 0 0] 77)).alloc (.cells #[.int .i64 0, .int .i64 0] 30))) := hB
  have k2 : ((w.alloc (.cells #[.int .i64 0, .slice none 0 0] 77)).alloc (.cells #[.int .i64 0, .int .i64 0] 30)).heap[w.heap.size]? = some (.cells #[.int .i64 0, .slice none 0 0] 77 (0, 0)) := ((below_new _ _).block w.heap.size (by simp)).trans (heap_new _ _)
  have k3 : ((w.alloc (.cells #[.int .i64 0, .slice none 0 0] 77)).alloc (.cells #[.int .i64 0, .int .i64 0] 30)).heap[w.heap.size + 1]? = some (.cells #[.int .i64 0, .int .i64 0] 30 (0, 0)) := by have := heap_new (w.alloc (.cells #[.int .i64 0, .slice none 0 0] 77)) (.cells #[.int .i64 0, .int .i64 0] 30); rwa [World.size_alloc] at this
  have HK : Hid (_ ∧ _) := ⟨k2, k3⟩
  have HC := ReadImage_any _ l iad ic (hI.below hB) 0 0 hc
  have HG : Hid (GL l ∧ checkI l = (0, 0)) := ⟨hg, hc'⟩
  have hmm := @run_makeMap Tryd.prog
  clear hB hI hc k2 k3 hg hc'
  go_enter Tryd.func43, Tryd.ntmps43
  go_wp2_with (go_at_call 24; refine HC.mono ?_; rintro r w1 ⟨⟨p, rfl, him⟩, hb1⟩; obtain ⟨rs, hn, iv, hiv, mb, gv, rfl, i1, g1, hreg⟩ := him rfl; obtain ⟨jad, jc, rfl, hjv⟩ := hiv; have HM : Hid (docNest l l 0 [] [] = .inr ([], rs) ∧ InSl w1 l (.slice jad l.length jc) ∧ w1.cell? ⟨mb, 0, none⟩ = some (.slice jad l.length jc) ∧ w1.cell? ⟨mb, 1, none⟩ = some gv ∧ RegSl w1 rs gv) := ⟨hn, ⟨jad, jc, rfl, hjv⟩, i1, g1, hreg⟩; have H1 : Hid (Below w.heap.size w w1 ∧ w1.heap[w.heap.size]? = some (.cells #[.int .i64 0, .slice none 0 0] 77 (0, 0)) ∧ w1.heap[w.heap.size + 1]? = some (.cells #[.int .i64 0, .int .i64 0] 30 (0, 0)) ∧ w.heap.size + 2 ≤ w1.heap.size) := ⟨below_seq HB.out hb1, (hb1.block w.heap.size (by simp; omega)).trans HK.out.1, (hb1.block (w.heap.size + 1) (by simp)).trans HK.out.2, by have := hb1.size; simp at this; omega⟩; clear hb1 HC him hn hjv i1 g1 hreg)
  have HS : Hid (WL w1 l l.length (((w1.alloc (.cells #[.int .i64 0, .int .i64 0] 30)).alloc (.map #[] 0)).alloc (.cells #[.map (some (w1.heap.size + 1))] 105))) := WL.start w1 l
  generalize (((w1.alloc (.cells #[.int .i64 0, .int .i64 0] 30)).alloc (.map #[] 0)).alloc (.cells #[.map (some (w1.heap.size + 1))] 105)) = W2 at *
  clear hmm HB HK
  go_loopw [7] (fun i wr => ∃ j : Nat, j ≤ l.length ∧ i = .int .i64 ((j : Int) - 1) ∧ WL w1 l j wr) (fun i _ => (intOf i + 1).toNat)
  case atStart => exact ⟨l.length, Nat.le_refl _, rfl, HS.out⟩
  case round =>
    clear HS
    obtain ⟨j, hj, rfl, hw⟩ := hrel
    have hwb : ∃ wb, wb = wr := ⟨_, rfl⟩
    obtain ⟨wb, rfl⟩ := hwb
    rcases j with _ | k
    · rw [show (((0 : Nat) : Int)) - 1 = -1 by omega]
      have HW : Hid (WL w1 l 0 wb) := hw
      obtain ⟨N, M, h1, h2, h3⟩ := hw.ht
      have hl0 := h1.look1 (z := 0) (by omega)
      have e0 : (M 0).getD 0 = restF l 0 := h3 0 (Nat.le_refl _)
      rw [e0] at hl0
      have pc := hw.pc
      clear h1 h2 h3 hw e0
      go_wp2_with fail
      have HS : Hid (WM wb l 0 none 0 (wb.alloc (.cells #[.int .i64 (restF l 0), .slice none 0 0] 77))) := WM.start wb l
      generalize wb.alloc (.cells #[.int .i64 (restF l 0), .slice none 0 0] 77) = w3 at *
      clear hl0 pc
      go_loopw [46] (fun i wq => ∃ (j : Nat) (rad : Option Addr) (rc : Nat), j ≤ l.length ∧ i = .int .i64 j ∧ WM wb l j rad rc wq) (fun i _ => l.length - (intOf i).toNat)
      case atStart => exact ⟨0, none, 0, Nat.zero_le _, rfl, HS.out⟩
      case round =>
        clear HS
        obtain ⟨j, rad, rc, hj, rfl, hm⟩ := hrel
        by_cases hjl : j < l.length
        · have hji : (j : Int) < (l.length : Int) := by omega
          obtain ⟨N, M, h1, h2, h3⟩ := (HW.out.grow (hm.bel)).ht
          have hlj := h1.look1 (z := (j : Int)) (by omega)
          rw [h3 j (Nat.zero_le _)] at hlj
          have pc := below_cell hm.bel HW.out.pc
          have HM2 : Hid (WM wb l j rad rc wr) := hm
          obtain ⟨c1, f1, l1⟩ := cells_of (l := [_, _]) hm.blk
          have c10 := c1 0 _ rfl
          have c11 := c1 1 _ rfl
          clear h1 h2 h3 hm c1 f1 l1
          go_wp2_with (at_builtin; refine wp_push2 rfl (.tmp 50) (.tmp 54) rfl (wb.heap.size + 1) (.slice rad j rc) (restTo l j) (restF l j) wr.heap.size j rfl (restTo_len l j) rfl rfl HM2.out.own HM2.out.siz (by omega) ?_; intro ad4 c4 w4 ho4 hg4 _; obtain ⟨hk4, hm4⟩ := HM2.out.push ho4 hg4; have H4 : Hid (WM wb l (j + 1) ad4 c4 (w4.setCell ⟨wb.heap.size, 1, none⟩ (.slice ad4 (j + 1) c4))) := hm4; obtain ⟨c1, f1, l1⟩ := cells_of (l := [_, _]) hk4; have c10 := c1 0 _ rfl; have c11 := c1 1 _ rfl; have f11 := f1 1; clear c1 f1 hk4 hm4 ho4 hg4)
          exact ⟨⟨j + 1, ad4, c4, by omega, by simp, H4.out⟩, by simp [intOf]; omega⟩
        · have hje : j = l.length := by omega
          subst hje
          obtain ⟨c1, f1, l1⟩ := cells_of (l := [_, _]) hm.blk
          have c10 := c1 0 _ rfl
          have c11 := c1 1 _ rfl
          have HM2 : Hid (WM wb l l.length rad rc wr) := hm
          have k2 := (hm.bel.block w.heap.size (by have := HW.out.bel.size; have := H1.out.2.2.2; omega)).trans ((HW.out.bel.block w.heap.size (by have := H1.out.2.2.2; omega)).trans H1.out.2.1)
          have k3 := (hm.bel.block (w.heap.size + 1) (by have := HW.out.bel.size; have := H1.out.2.2.2; omega)).trans ((HW.out.bel.block (w.heap.size + 1) (by have := H1.out.2.2.2; omega)).trans H1.out.2.2.1)
          obtain ⟨d1, e1, m1⟩ := cells_of (l := [_, _]) k2
          obtain ⟨d2, e2, m2⟩ := cells_of (l := [_, _]) k3
          have d10 := d1 0 _ rfl
          have d11 := d1 1 _ rfl
          have d20 := d2 0 _ rfl
          have d21 := d2 1 _ rfl
          have e10 := e1 0
          have e11 := e1 1
          have e20 := e2 0
          have e21 := e2 1
          have HKK : Hid (_ ∧ _) := ⟨k2, k3⟩
          clear c1 f1 l1 d1 e1 d2 e2 hm k2 k3
          go_wp2_with fail
          have hsz : w.heap.size + 2 ≤ wb.heap.size := by have := HW.out.bel.size; have := H1.out.2.2.2; omega
          have hbel : Below w.heap.size w wr := below_seq H1.out.1 (below_seq HW.out.bel HM2.out.bel)
          refine bodyPost_ret (Ws_ends (g := w.heap.size) (g' := w.heap.size + 1) (a0 := .int .i64 (restF l 0)) (a1 := .slice rad l.length rc) (c := .int .i64 0) (k := .int .i64 0) ((other_two (by omega) _ _).trans (set_two HKK.out.1)) (set_two ((other_two (by omega) _ _).trans HKK.out.2)) rfl rfl) rfl ?_
          have e := anF_good HG.out.2 (fun j => HW.out.le j (Nat.zero_le _))
          refine ⟨(((hbel.setCell (Nat.le_refl _) _).setCell (Nat.le_refl _) _).setCell (Nat.le_succ _) _).setCell (Nat.le_succ _) _, fun h => absurd (by rw [e]) h, fun _ => ⟨fun j => HW.out.le j (Nat.zero_le _), rad, rc, HM2.out.cap, rfl, ?_⟩⟩
          rcases HM2.out.row with h | ⟨b, o, h1, h2⟩
          · exact .inl h
          · by_cases hl0 : l.length = 0
            · exact .inl hl0
            · refine .inr ⟨b, o, h1, fun j hj => ?_⟩
              have hb0 : wb.heap.size + 1 ≤ b := HM2.out.own.lt b (by rw [h1]; rfl) |>.1
              have q := h2 j hj
              have eq := (other_two (w := (wr.setCell ⟨w.heap.size, 0, none⟩ (.int .i64 (restF l 0))).setCell ⟨w.heap.size, 1, none⟩ (.slice rad l.length rc)) (g := w.heap.size + 1) (k := b) (by omega) (.int .i64 0) (.int .i64 0)).trans (other_two (w := wr) (g := w.heap.size) (k := b) (by omega) (.int .i64 (restF l 0)) (.slice rad l.length rc))
              unfold World.cell? at q ⊢
              rw [eq]
              exact q
    · rw [show ((k + 1 : Nat) : Int) - 1 = k by omega]
      have hkl : k < l.length := by omega
      have hR0 : 0 ≤ restF l k := restF_pos HG.out.1.fwd k
      have hRm : restF l k ≤ 2000000000000000 := by
        rw [restF_rule HG.out.1.fwd hkl]
        exact Int.le_trans (rule_most HG.out.1.fwd hkl (fun j hj => hw.le j (by omega))) (by omega)
      have HLF : Hid (∀ W', Below wb.heap.size wb W' → Calls Tryd.prog 76 #[.pointer (some ⟨mb, 0, none⟩), .int .i64 (k : Int), .func (Fn.func 77) #[] #[.pointer (some ⟨w1.heap.size + 1 + 1, 0, none⟩)]] W' fun r w' => r = .returned (.int .i64 (restF l k)) ∧ Below W'.heap.size W' w') := fun W' hW' => by
        have hb1 : Below w1.heap.size w1 W' := below_seq hw.bel hW'
        obtain ⟨m1, m2, m3, m4, m5⟩ := HM.out
        rw [restF_rule HG.out.1.fwd hkl]
        refine left_any W' l (restF l) mb (w1.heap.size + 1 + 1) k rs gv jad jc HG.out.1 hkl (fun i h1 _ => ⟨restF_pos HG.out.1.fwd i, hw.le i (by omega)⟩) m1 (below_cell hb1 m3) (m2.below hb1) (below_cell hb1 m4) ?_ (by have := docNest_len l 0 [] [] rs [] m1; simp at this; omega) (hw.grow hW').box
        obtain ⟨ad, c, rfl, hrow⟩ := m5
        refine ⟨ad, c, rfl, ?_⟩
        rcases hrow with h | ⟨b, o, h1, h2⟩
        · exact .inl h
        · exact .inr ⟨b, o, h1, fun j hj => ⟨below_cell hb1 (h2 j hj).1, below_cell hb1 (h2 j hj).2⟩⟩
      have HW : Hid (WL w1 l (k + 1) wb) := hw
      have pc := hw.pc
      have hki : (k : Int) ≤ 2000 := by omega
      clear hw
      go_wp2_with fail
      refine wp_region_noPanic ?_
      have hS0 : Below wb.heap.size wb wb.drew ∧ wb.drew.cell? ⟨w1.heap.size + 1 + 1, 0, none⟩ = some (.map (some (w1.heap.size + 1))) := ⟨(Below.refl _ _).drew, pc⟩
      refine wp_region_last (S := fun w' => Below wb.heap.size wb w' ∧ w'.cell? ⟨w1.heap.size + 1 + 1, 0, none⟩ = some (.map (some (w1.heap.size + 1)))) (L := 6) (by kernel_rfl) ?_
      refine takeL_at (i := 0) (n := 28) (v := ?_) rfl rfl (by kernel_rfl) (by kernel_rfl) (by decide) (by kernel_rfl) (by kernel_rfl) (by kernel_rfl) (fun _ _ _ h => h) (Or.inl ⟨by rfl, ?_⟩) (by assumption) ?_
      rotate_left 1
      · intro wz hSw
        obtain ⟨s0, s1⟩ := hSw
        first | (go_simp; done) | (go_simp; with_reducible rfl)
      simp only [List.set_cons_zero, List.set_cons_succ]
      refine takeL_at (i := 1) (n := 29) (v := ?_) rfl rfl (by kernel_rfl) (by kernel_rfl) (by decide) (by kernel_rfl) (by kernel_rfl) (by kernel_rfl) (fun _ _ _ h => h) (Or.inl ⟨by rfl, ?_⟩) (by assumption) ?_
      rotate_left 1
      · intro wz hSw
        obtain ⟨s0, s1⟩ := hSw
        first | (go_simp; done) | (go_simp; with_reducible rfl)
      simp only [List.set_cons_zero, List.set_cons_succ]
      refine takeL_at (i := 2) (n := 30) (v := ?_) rfl rfl (by kernel_rfl) (by kernel_rfl) (by decide) (by kernel_rfl) (by kernel_rfl) (by kernel_rfl) (fun _ _ _ h => h) (Or.inl ⟨by rfl, ?_⟩) (by assumption) ?_
      rotate_left 1
      · intro wz hSw
        obtain ⟨s0, s1⟩ := hSw
        first | (go_simp; done) | (go_simp; with_reducible rfl)
      simp only [List.set_cons_zero, List.set_cons_succ]
      refine takeL_at (i := 3) (n := 31) (v := ?_) rfl rfl (by kernel_rfl) (by kernel_rfl) (by decide) (by kernel_rfl) (by kernel_rfl) (by kernel_rfl) (fun _ _ _ h => h) (Or.inl ⟨by rfl, ?_⟩) (by assumption) ?_
      rotate_left 1
      · intro wz hSw
        obtain ⟨s0, s1⟩ := hSw
        first | (go_simp; done) | (go_simp; with_reducible rfl)
      simp only [List.set_cons_zero, List.set_cons_succ]
      refine takeL_at (i := 4) (n := 32) (v := ?_) rfl rfl (by kernel_rfl) (by kernel_rfl) (by decide) (by kernel_rfl) (by kernel_rfl) (by kernel_rfl) (fun _ _ _ h => h) (Or.inl ⟨by rfl, ?_⟩) (by assumption) ?_
      rotate_left 1
      · intro wz hSw
        obtain ⟨s0, s1⟩ := hSw
        first | (go_simp; done) | (go_simp; with_reducible rfl)
      simp only [List.set_cons_zero, List.set_cons_succ]
      refine wpAnyL_one (i := 5) (by kernel_rfl) rfl (fun K' hK' => ?_)
      go_simp
      refine (HLF.out _ hS0.1).mono ?_
      rintro r w5 ⟨rfl, hb5⟩
      refine hK'.out _ _ (fun _ => ⟨below_seq hS0.1 hb5, below_cell hb5 hS0.2⟩) ?_
      clear hK' K'
      have hw5 := HW.out.grow (below_seq hS0.1 hb5)
      obtain ⟨w6, q1, q2, q3, q4, q5⟩ := hw5.put hkl hlen ⟨hR0, hRm⟩
      clear hb5 hw5 hS0 pc
      refine wpAnyL_one (i := 6) (by kernel_rfl) rfl (fun K' hK' => ?_)
      go_simp
      refine hK'.out _ _ (fun h => absurd rfl h) ?_
      clear hK' K'
      refine wpAnyL_done (by kernel_rfl) ?_ _
      refine NoPanic.normal ?_
      have H6 : Hid (Below w1.heap.size w1 w6 ∧ (restF l k ≤ 1099511627776 → WL w1 l k w6)) := ⟨q2, q4⟩
      have HZ : Hid (∀ z, restF l k = z → 1099511627776 < z → anF l = (3, (k : Int))) := fun z hz h => anF_bad HG.out.2 hkl (by rw [hz]; exact h) (fun j hj => HW.out.le j (by omega))
      have HZ2 : Hid (∀ z, restF l k = z → z ≤ 1099511627776 → WL w1 l k w6) := fun z hz h => q4 (by rw [hz]; exact h)
      clear q1 q2 q4
      obtain ⟨z, hz⟩ : ∃ z, restF l k = z := ⟨_, rfl⟩
      rw [hz] at q5 hR0 hRm ⊢
      have HE : Hid (restF l k = z) := hz
      clear hz HLF
      by_cases hbig : 1099511627776 < z
      · go_wp2_with (go_at_call 25; refine (F_any _ _ _).mono ?_; rintro r w7 ⟨rfl, hb7⟩; have hb8 := below_seq H6.out.1 hb7; have k2 := (hb8.block w.heap.size (by have := H1.out.2.2.2; omega)).trans H1.out.2.1; have k3 := (hb8.block (w.heap.size + 1) (by have := H1.out.2.2.2; omega)).trans H1.out.2.2.1; obtain ⟨d1, e1, m1⟩ := cells_of (l := [_, _]) k2; obtain ⟨d2, e2, m2⟩ := cells_of (l := [_, _]) k3; have d10 := d1 0 _ rfl; have d11 := d1 1 _ rfl; have d20 := d2 0 _ rfl; have d21 := d2 1 _ rfl; have e10 := e1 0; have e11 := e1 1; have e20 := e2 0; have e21 := e2 1; have HKK : Hid (_ ∧ _ ∧ _) := ⟨k2, k3, below_seq H1.out.1 hb8⟩; clear d1 e1 d2 e2 k2 k3 hb7 hb8)
        refine bodyPost_ret (Ws_ends (g := w.heap.size) (g' := w.heap.size + 1) (a0 := .int .i64 0) (a1 := .slice none 0 0) (c := .int .i64 3) (k := .int .i64 k) ((other_two (by omega) _ _).trans (set_two HKK.out.1)) (set_two ((other_two (by omega) _ _).trans HKK.out.2.1)) rfl rfl) rfl ?_
        have e := HZ.out z HE.out hbig
        exact ⟨(((HKK.out.2.2.setCell (Nat.le_refl _) _).setCell (Nat.le_refl _) _).setCell (Nat.le_succ _) _).setCell (Nat.le_succ _) _, fun _ => (by rw [e]), fun h => (by rw [e] at h; exact absurd h (by simp))⟩
      · have hbig' : z ≤ 1099511627776 := by omega
        go_wp2_with fail
        exact ⟨⟨k, by omega, rfl, HZ2.out z HE.out hbig'⟩, by simp [intOf]⟩

/-- What Worst answers, of any image. -/
theorem Worst_any (w : World) (l : List In) (iad : Option Addr) (ic : Nat) (hI : InSl w l (.slice iad l.length ic)) : Calls Tryd.prog 43 #[.slice iad l.length ic] w (WsP l w) := by
  rcases hc : docI l with ⟨c, k⟩
  have hc2 : checkI l = (c, k) := by rw [← doc_check]; exact hc
  by_cases hz : c = 0
  · exact Worst_right w l iad ic hI (by rw [doc_check]; exact check_zero (by rw [hc2]; exact hz))
  · have e := anF_check hc2 hz
    exact (Worst_check w l iad ic hI c k hc hz).mono fun _ _ ⟨h1, h2⟩ => ⟨h2, fun _ => by rw [e]; exact h1, fun h => by rw [e] at h; exact absurd h hz⟩

end Go.Proofs.YtgemadoieielcacDoor
