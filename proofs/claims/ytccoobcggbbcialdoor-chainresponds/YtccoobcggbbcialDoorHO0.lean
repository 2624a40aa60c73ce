import Derived.Test.YtccoobcggbbcialDoorHM0
import Derived.Lib.SliceRun
namespace Go.Proofs.YtccoobcggbbcialDoor
open Go.ChangeShapes Go.WideShapes Go.ChangeAt Go.RowKit

theorem store_func (w : World) (F g : Nat) (cb : Array Value) (hg : w.heap.size = g) : (store ⟨g, 0, none⟩ (.func (Fn.func F) #[] cb)).run Tryd.prog (w.alloc (.cells #[.nilFunc] 37)) = .ok () (w.alloc (.cells #[.func (Fn.func F) #[] cb] 37)) := by
  subst hg
  rw [run_store Tryd.prog _ _ (.func (Fn.func F) #[] cb) .plain rfl]
  simp [go_sem]

theorem firstWay_ends {w : World} {p q : Value} {a : Act} (h2 : a.tmps[6]?.getD undef = p) (h3 : a.tmps[7]?.getD undef = q) : (results Tryd.f64 a.tmps).run Tryd.prog w = .ok (.tuple #[p, q]) w := by
  simp [results, Tryd.results64, go_sem, h2, h3]

set_option maxRecDepth 20000 in
set_option maxHeartbeats 4000000 in
theorem firstWay_any (w W : World) (l : List Pa) (cs : List Int) (ex : List Value) (cores gL gl c : Nat) (good : List Int → Bool) (hgood : ∀ ws ts e, RespsR (onC l ws) ts e → good ws = (e.1 == 0)) (h1 : 1 ≤ l.length) (h8 : l.length ≤ 8) (hc4 : cores ≤ 4) (hlw : LW W l gL gl c cs ex) (hb : Below w.heap.size w W) (hlow : w.heap.size ≤ gl) : Calls Tryd.prog 64 #[.int .i64 (l.length : Int), .int .i64 (cores : Int), .func (Fn.func 65) #[] #[.pointer (some ⟨gL, 0, none⟩)]] W (UPost2 w W.heap.size l.length (layF good cores l.length [] 0)) := by
  have hgl : gl < W.heap.size := (Array.getElem?_eq_some_iff.1 hlw.row).1
  have hgL : gL < W.heap.size := World.block_lt_of_cell? _ _ hlw.bx
  have hb3 : Below W.heap.size W (((W.alloc (.cells #[.int .i64 (l.length : Int)] 3)).alloc (.cells #[.int .i64 (cores : Int)] 3)).alloc (.cells #[.func (Fn.func 65) #[] #[.pointer (some ⟨gL, 0, none⟩)]] 98)) := below_seq (below_seq (below_new _ _) (below_new _ _)) (below_new _ _)
  have hs3 : (((W.alloc (.cells #[.int .i64 (l.length : Int)] 3)).alloc (.cells #[.int .i64 (cores : Int)] 3)).alloc (.cells #[.func (Fn.func 65) #[] #[.pointer (some ⟨gL, 0, none⟩)]] 98)).heap.size = W.heap.size + 3 := by simp only [World.size_alloc]
  have f0 : (((W.alloc (.cells #[.int .i64 (l.length : Int)] 3)).alloc (.cells #[.int .i64 (cores : Int)] 3)).alloc (.cells #[.func (Fn.func 65) #[] #[.pointer (some ⟨gL, 0, none⟩)]] 98)).cell? ⟨W.heap.size, 0, none⟩ = some (.int .i64 (l.length : Int)) := below_cell (below_new _ _) (below_cell (below_new _ _) ((cells_of (l := [_]) (heap_alloc_new W _)).1 0 _ rfl))
  have f1 : (((W.alloc (.cells #[.int .i64 (l.length : Int)] 3)).alloc (.cells #[.int .i64 (cores : Int)] 3)).alloc (.cells #[.func (Fn.func 65) #[] #[.pointer (some ⟨gL, 0, none⟩)]] 98)).cell? ⟨W.heap.size + 1, 0, none⟩ = some (.int .i64 (cores : Int)) := by
    have h9 := below_cell (below_new _ (.cells #[.func (Fn.func 65) #[] #[.pointer (some ⟨gL, 0, none⟩)]] 98)) ((cells_of (l := [_]) (heap_alloc_new (W.alloc (.cells #[.int .i64 (l.length : Int)] 3)) (.cells #[.int .i64 (cores : Int)] 3))).1 0 _ rfl)
    rwa [World.size_alloc] at h9
  have f2 : (((W.alloc (.cells #[.int .i64 (l.length : Int)] 3)).alloc (.cells #[.int .i64 (cores : Int)] 3)).alloc (.cells #[.func (Fn.func 65) #[] #[.pointer (some ⟨gL, 0, none⟩)]] 98)).cell? ⟨W.heap.size + 1 + 1, 0, none⟩ = some (.func (Fn.func 65) #[] #[.pointer (some ⟨gL, 0, none⟩)]) := by
    have h9 := (cells_of (l := [_]) (heap_alloc_new ((W.alloc (.cells #[.int .i64 (l.length : Int)] 3)).alloc (.cells #[.int .i64 (cores : Int)] 3)) (.cells #[.func (Fn.func 65) #[] #[.pointer (some ⟨gL, 0, none⟩)]] 98))).1 0 _ rfl
    rwa [World.size_alloc, World.size_alloc] at h9
  go_enter Tryd.func64, Tryd.ntmps64
  go_upto_region 1 with fail
  generalize (((W.alloc (.cells #[.int .i64 (l.length : Int)] 3)).alloc (.cells #[.int .i64 (cores : Int)] 3)).alloc (.cells #[.func (Fn.func 65) #[] #[.pointer (some ⟨gL, 0, none⟩)]] 98)) = W3 at *
  obtain ⟨W4, hmk, hb4, hh4⟩ := make_ints W3 l.length (by omega)
  obtain ⟨G, hG⟩ : ∃ G, W.heap.size = G := ⟨_, rfl⟩
  have hGG : Hid (W.heap.size = G) := hG
  have H0 : Hid (W.heap.size = G ∧ W3.heap.size = G + 3) := ⟨hG, by rw [← hG]; exact hs3⟩
  rw [H0.out.2] at hmk hh4
  rw [hG] at f0 f1 f2 hgl hgL ⊢
  have HL : Hid (LW W4 l gL gl c cs ex ∧ Below w.heap.size w W4 ∧ w.heap.size ≤ gl ∧ gl < G ∧ gL < G ∧ w.heap.size ≤ G ∧ G + 3 < W4.heap.size ∧ W4.heap[G + 3]? = some (.cells (runCells l.length []).toArray 3 (0, 0))) := ⟨(hlw.grow hb3).grow hb4, below_seq hb (below_seq hb3 hb4), hlow, hgl, hgL, by rw [← hG]; exact hb.size, (Array.getElem?_eq_some_iff.1 hh4).1, hh4⟩
  have g0 := below_cell hb4 f0
  have g1 := below_cell hb4 f1
  have g2 := below_cell hb4 f2
  clear hG hb3 hs3 hlw hb hlow hgl hgL hb4 hh4 f1 f2
  go_upto_region 2 with fail
  clear hmk f0 H0
  have hsf := store_func (W4.alloc (.cells #[.slice (some ⟨G + 3, 0, none⟩) l.length l.length] 36)) 98 (W4.heap.size + 1) #[.pointer (some ⟨G, 0, none⟩), .pointer (some ⟨G + 1 + 1, 0, none⟩), .pointer (some ⟨W4.heap.size, 0, none⟩), .pointer (some ⟨G + 1, 0, none⟩), .pointer (some ⟨W4.heap.size + 1, 0, none⟩)] (by simp)
  go_upto_region 4 with fail
  clear hsf
  obtain ⟨gw, hgw⟩ : ∃ gw, W4.heap.size = gw := ⟨_, rfl⟩
  have HGw : Hid (W4.heap.size = gw) := hgw
  rw [hgw]
  clear hgw
  have HW5 : Hid (∀ A5, A5 = (W4.alloc (.cells #[.slice (some ⟨G + 3, 0, none⟩) l.length l.length] 36)).alloc (.cells #[.func (Fn.func 98) #[] #[.pointer (some ⟨G, 0, none⟩), .pointer (some ⟨G + 1 + 1, 0, none⟩), .pointer (some ⟨gw, 0, none⟩), .pointer (some ⟨G + 1, 0, none⟩), .pointer (some ⟨gw + 1, 0, none⟩)]] 37) → LY w A5 l cores G (G + 1 + 1) gw (G + 1) (gw + 1) (G + 3) gL gl c ex (List.replicate l.length 0)) := fun A5 hA5 => by
    subst hA5
    obtain ⟨m1, m2, m3, m4, m5, m6, m7, m8⟩ := HL.out
    have hg := HGw.out
    have e1 : ((W4.alloc (.cells #[.slice (some ⟨G + 3, 0, none⟩) l.length l.length] 36)).alloc (.cells #[.func (Fn.func 98) #[] #[.pointer (some ⟨G, 0, none⟩), .pointer (some ⟨G + 1 + 1, 0, none⟩), .pointer (some ⟨gw, 0, none⟩), .pointer (some ⟨G + 1, 0, none⟩), .pointer (some ⟨gw + 1, 0, none⟩)]] 37)).cell? ⟨gw, 0, none⟩ = some (.slice (some ⟨G + 3, 0, none⟩) l.length l.length) := by
      rw [← hg]; exact below_cell (below_new _ _) ((cells_of (l := [_]) (heap_alloc_new _ _)).1 0 _ rfl)
    have e2 : ((W4.alloc (.cells #[.slice (some ⟨G + 3, 0, none⟩) l.length l.length] 36)).alloc (.cells #[.func (Fn.func 98) #[] #[.pointer (some ⟨G, 0, none⟩), .pointer (some ⟨G + 1 + 1, 0, none⟩), .pointer (some ⟨gw, 0, none⟩), .pointer (some ⟨G + 1, 0, none⟩), .pointer (some ⟨gw + 1, 0, none⟩)]] 37)).cell? ⟨gw + 1, 0, none⟩ = some (.func (Fn.func 98) #[] #[.pointer (some ⟨G, 0, none⟩), .pointer (some ⟨G + 1 + 1, 0, none⟩), .pointer (some ⟨gw, 0, none⟩), .pointer (some ⟨G + 1, 0, none⟩), .pointer (some ⟨gw + 1, 0, none⟩)]) := by
      have h9 := (cells_of (l := [_]) (heap_alloc_new (W4.alloc (.cells #[.slice (some ⟨G + 3, 0, none⟩) l.length l.length] 36)) (.cells #[.func (Fn.func 98) #[] #[.pointer (some ⟨G, 0, none⟩), .pointer (some ⟨G + 1 + 1, 0, none⟩), .pointer (some ⟨gw, 0, none⟩), .pointer (some ⟨G + 1, 0, none⟩), .pointer (some ⟨gw + 1, 0, none⟩)]] 37))).1 0 _ rfl
      rwa [World.size_alloc, hg] at h9
    have hbb : Below W4.heap.size W4 ((W4.alloc (.cells #[.slice (some ⟨G + 3, 0, none⟩) l.length l.length] 36)).alloc (.cells #[.func (Fn.func 98) #[] #[.pointer (some ⟨G, 0, none⟩), .pointer (some ⟨G + 1 + 1, 0, none⟩), .pointer (some ⟨gw, 0, none⟩), .pointer (some ⟨G + 1, 0, none⟩), .pointer (some ⟨gw + 1, 0, none⟩)]] 37)) := below_seq (below_new _ _) (below_new _ _)
    exact ⟨below_seq m2 hbb, ⟨m3, by omega⟩, below_cell hbb g0, below_cell hbb g2, e1, below_cell hbb g1, e2, by rw [hbb.block _ m7, m8]; simp [runCells], List.length_replicate, ⟨cs, m1.grow hbb⟩, by omega, by omega⟩
  generalize (W4.alloc (.cells #[.slice (some ⟨G + 3, 0, none⟩) l.length l.length] 36)).alloc (.cells #[.func (Fn.func 98) #[] #[.pointer (some ⟨G, 0, none⟩), .pointer (some ⟨G + 1 + 1, 0, none⟩), .pointer (some ⟨gw, 0, none⟩), .pointer (some ⟨G + 1, 0, none⟩), .pointer (some ⟨gw + 1, 0, none⟩)]] 37) = W5 at *
  have HY := HW5.out W5 rfl
  have HC0 := lay_any w l cores G (G + 1 + 1) gw (G + 1) (gw + 1) (G + 3) gL gl c ex good hgood h1 h8 hc4 l.length W5 [] _ 0 (by simp) (by omega) HY rfl
  have HC : Calls Tryd.prog 98 #[.int .i64 0, .int .i64 0, .pointer (some ⟨G, 0, none⟩), .pointer (some ⟨G + 1 + 1, 0, none⟩), .pointer (some ⟨gw, 0, none⟩), .pointer (some ⟨G + 1, 0, none⟩), .pointer (some ⟨gw + 1, 0, none⟩)] W5 (LayPost w l cores G (G + 1 + 1) gw (G + 1) (gw + 1) (G + 3) gL gl c ex [] (layF good cores l.length [] 0)) := HC0
  have cy := HY.by_
  have ly := World.block_lt_of_cell? _ _ cy
  have HB : Hid (W.heap.size = G) := hGG.out
  obtain ⟨res, hres⟩ : ∃ res, layF good cores l.length [] 0 = res := ⟨_, rfl⟩
  have HRES : Hid (layF good cores l.length [] 0 = res) := hres
  rw [hres] at HC ⊢
  clear HC0 HY HW5 hres hgood g0 g1 g2 HL
  rcases res with _ | s
  · go_wp2_with (go_at_call 98; refine HC.mono ?_; rintro r w1 ⟨rfl, vs2, hl2, -, -⟩; have H1 : Hid (LY w w1 l cores G (G + 1 + 1) gw (G + 1) (gw + 1) (G + 3) gL gl c ex vs2) := hl2; clear hl2 HC)
    refine bodyPost_ret (firstWay_ends rfl rfl) rfl ?_
    rw [HRES.out]
    exact ⟨_, H1.out.bel, rfl, fun _ => rfl, fun nx e => by cases e⟩
  · go_upto_region 6 with (go_at_call 98; refine HC.mono ?_; rintro r w1 ⟨rfl, vs2, hl2, -, hs2⟩; have H1 : Hid (LY w w1 l cores G (G + 1 + 1) gw (G + 1) (gw + 1) (G + 3) gL gl c ex vs2 ∧ vs2 = s) := ⟨hl2, hs2 s rfl⟩; have cw := hl2.bw; clear hl2 hs2 HC)
    have lw := World.block_lt_of_cell? _ _ cw
    go_wp2_with fail
    refine bodyPost_ret (firstWay_ends rfl rfl) rfl ?_
    rw [HRES.out]
    obtain ⟨k1, rfl⟩ := H1.out
    refine ⟨_, k1.bel, rfl, (fun e => by cases e), fun nx e => ?_⟩
    cases e
    exact ⟨k1.rowSl, (fun a n c e => by cases e; have h9 := HB.out; dsimp only; omega), k1.len⟩
end Go.Proofs.YtccoobcggbbcialDoor
namespace Go.Proofs.YtccoobcggbbcialDoor
open Go.ChangeShapes Go.WideShapes Go.ChangeAt Go.RowKit

theorem pa_one' {l : List Pa} {u : Value} (h : u ∈ l.flatMap Pa.vals) : u.oneCell' = true := by
  obtain ⟨x, -, h⟩ := List.mem_flatMap.1 h
  simp [Pa.vals] at h
  rcases h with h | h | h | h | h | h | h <;> subst h <;> rfl
theorem infoPa : (Tryd.prog.info? 53).map (fun i => (i.zero, i.size, i.bytes)) = some (some (.agg #[.int .i64 0, .int .i64 0, .int .i64 0, .int .i64 0, .int .i64 0, .int .i64 0, .int .i64 0]), 7, 56) := by kernel_rfl

theorem owns_ex {W : World} {B n size : Nat} {e : TypeId} {v : Value} {xs : List Value} (h : W.ownsRow B e size v n xs) (hn : 0 < n) : ∃ g c ex, v = .slice (some ⟨g, 0, none⟩) n c ∧ B ≤ g ∧ n ≤ c ∧ W.heap[g]? = some (.cells (xs ++ ex).toArray e (0, 0)) := by
  obtain ⟨-, ⟨-, h⟩ | ⟨g, cap, cur, rfl, h1, h2, h3, -, -, h4⟩⟩ := h
  · omega
  · refine ⟨g, cap, cur.toList.drop (n * size), rfl, h1, h3, ?_⟩
    rw [h2, ← h4, List.take_append_drop]

set_option maxRecDepth 20000 in
set_option maxHeartbeats 4000000 in
theorem cloneP_any (w : World) (l : List Pa) (v : Value) (hv : RowSl Pa.vals w l v) (h0 : 0 < l.length) (h8 : l.length ≤ 8) : Calls Tryd.prog 63 #[v] w fun r w' => ∃ gO cap ex, r = .returned (.slice (some ⟨gO, 0, none⟩) l.length cap) ∧ w'.heap[gO]? = some (.cells (l.flatMap Pa.vals ++ ex).toArray 53 (0, 0)) ∧ l.length ≤ cap ∧ w.heap.size ≤ gO ∧ Below w.heap.size w w' := by
  obtain ⟨ad, c, rfl, h1, h2, h3⟩ := hv
  rcases h3 with h | ⟨b, o, rfl, hc⟩
  · rw [h] at h0; simp at h0
  obtain ⟨i0, hi0, hz0, hz1, hz2⟩ := info_parts infoPa
  have hown : (w.alloc (.cells #[] 53)).ownsRow w.heap.size 53 7 (.slice (some ⟨w.heap.size, 0, none⟩) 0 0) 0 [] := ⟨rfl, .inr ⟨w.heap.size, 0, #[], rfl, Nat.le_refl _, heap_alloc_new _ _, Nat.le_refl _, by unfold maxLen; omega, rfl, rfl⟩⟩
  obtain ⟨v4, w4, hrun, ho4, hg4, -, hv4⟩ := run_append_own_at (P := Tryd.prog) (w := w.alloc (.cells #[] 53)) w.heap.size 51 51 53 i0 _ 7 56 Tryd.underlying51 hi0 hz0 hz1 hz2 rfl (by omega) _ 0 [] hown ⟨b, o, none⟩ l.length c (l.flatMap Pa.vals) (flat_length Pa.vals 7 Pa.len l) (fun j u hj => by rw [Addr.add_lit]; exact below_cell (below_new _ _) (hc j u hj)) (fun u hu => pa_one' hu) (by unfold maxLen; omega) (by omega) (by rw [World.size_alloc]; omega)
  rw [Nat.zero_add, List.nil_append] at ho4
  obtain ⟨g, cap, ex, rfl, hB, hcap, hh⟩ := owns_ex ho4 h0
  have HE : Hid (w4.heap[g]? = some (.cells (l.flatMap Pa.vals ++ ex).toArray 53 (0, 0)) ∧ l.length ≤ cap ∧ w.heap.size ≤ g ∧ Below w.heap.size w w4) := ⟨hh, hcap, hB, (below_new w _).grown hg4 (by rw [World.size_alloc]; omega) (fun k hk => by cases hk; exact Nat.le_refl _)⟩
  have hnil := Lib.run_eql_slice_nil (P := Tryd.prog) w 51 53 (some ⟨b, o, none⟩) l.length c 0 0 Tryd.underlying51
  clear ho4 hg4 hv4 hown hB hcap hh hc
  go_enter Tryd.func63, Tryd.ntmps63
  go_wp2_with (at_builtin; refine append_known rfl (.tmp 5) (.tmp 6) 51 rfl rfl rfl hrun ?_)
  go_ret
  exact ⟨g, cap, ex, rfl, HE.out⟩

theorem Place_ends {w : World} {g : Nat} {c k v : Value} {a : Act} (h : w.heap[g]? = some (.cells #[c, k] 30 (0, 0))) (h2 : a.tmps[4]?.getD undef = v) (h3 : a.tmps[5]?.getD undef = .pointer (some ⟨g, 0, none⟩)) :
    (results Tryd.f27 a.tmps).run Tryd.prog w = .ok (.tuple #[v, .agg #[c, k]]) w := by
  obtain ⟨c1, f1, l1⟩ := cells_of (l := [_, _]) h
  have c10 := c1 0 _ rfl
  have c11 := c1 1 _ rfl
  simp [results, Tryd.results27, go_sem, h2, h3, c10, c11]

/-- What Place tells. -/
def placeF (good : List Int → Bool) (l : List Pa) (cores : Int) : List Int × (Int × Int) :=
  if (chkP l).1 ≠ 0 then ([], chkP l)
  else if within cores 1 4 = false then ([], (3, 0))
  else if 5 < l.length then ([], (2, 0))
  else match layF good cores.toNat l.length [] 0 with
    | none => ([], (13, 0))
    | some ws => (ws, (0, 0))
def PlacePost (w : World) (a : List Int × (Int × Int)) (r : Ending) (w' : World) : Prop := ∃ tv, r = .returned (.tuple #[tv, .agg #[.int .i64 a.2.1, .int .i64 a.2.2]]) ∧ RowSl nuV w' a.1 tv ∧ Below w.heap.size w w' ∧ NewSl w.heap.size tv

set_option maxRecDepth 20000 in
set_option maxHeartbeats 4000000 in
theorem PlaceC_any (w : World) (l : List Pa) (v : Value) (cores : Int) (good : List Int → Bool) (hgood : ∀ ws ts e, RespsR (onC l ws) ts e → good ws = (e.1 == 0)) (hv : RowSl Pa.vals w l v) : Calls Tryd.prog 27 #[v, .int .i64 cores] w (PlacePost w (placeF good l cores)) := by
  have HC := CheckC_any (w.alloc (.cells #[.int .i64 0, .int .i64 0] 30)) l v (hv.below (below_new _ _))
  obtain ⟨z1, z2, hz⟩ : ∃ z1 z2, chkP l = (z1, z2) := ⟨_, _, rfl⟩
  have HZ : Hid (chkP l = (z1, z2)) := hz
  rw [hz] at HC
  dsimp only at HC
  obtain ⟨ad, c, rfl⟩ := hv.len
  have HV : Hid (RowSl Pa.vals w l (.slice ad l.length c)) := hv
  obtain ⟨a, ha⟩ : ∃ a, placeF good l cores = a := ⟨_, rfl⟩
  have HA : Hid (placeF good l cores = a) := ha
  have hF : Hid (FB w (w.alloc (.cells #[.int .i64 0, .int .i64 0] 30)) w.heap.size) := FB.start w
  rw [ha]
  clear hv hz ha
  go_enter Tryd.func27, Tryd.ntmps27
  go_upto_region 2 with (go_at_call 23; refine HC.mono ?_; rintro r w1 ⟨rfl, hb1⟩; have H1 : Hid (FB w (w1.alloc (.cells #[.int .i64 z1, .int .i64 z2] 30)) w.heap.size) := (hF.out.grow hb1).grow (below_new _ _); have hl1 : w.heap.size < w1.heap.size := (hF.out.grow hb1).lt; clear hb1 HC)
  obtain ⟨fs, -, fl⟩ := cells_of (l := [_, _]) (heap_alloc_new w1 (.cells #[.int .i64 z1, .int .i64 z2] 30))
  have g0 := fs 0 _ rfl
  have g1 := fs 1 _ rfl
  clear fs hF
  generalize w1.alloc (.cells #[.int .i64 z1, .int .i64 z2] 30) = w2 at *
  generalize w1.heap.size = gf at *
  obtain ⟨q0, q1, qf0, qf1, ql⟩ := H1.out.res2
  by_cases h0 : z1 = 0
  rotate_left 1
  · have hz1 : (z1 != 0) = true := by simpa using h0
    have HN : Hid (a = ([], (z1, z2))) := (by rw [← HA.out]; unfold placeF; rw [if_pos (by rw [HZ.out]; exact h0), HZ.out] : a = ([], (z1, z2)))
    clear h0
    go_wp2_with fail
    go_region
    all_goals go_wp2_with fail
    all_goals
      refine bodyPost_ret (Place_ends (g := w.heap.size) (c := .int .i64 z1) (k := .int .i64 z2) (v := .slice none 0 0) (set_two H1.out.res) rfl rfl) rfl ?_
      rw [HN.out]
      exact ⟨_, rfl, RowSl.nil _ _, (H1.out.set _ _).drew, NewSl.none _ _ _⟩
  subst h0
  have hok := chkP_ok (l := l) (by rw [HZ.out])
  have h1 := hok.one
  have h8 := hok.most
  have HZ0 : Hid (¬ (chkP l).1 ≠ 0) := (by rw [HZ.out]; simp : ¬ (chkP l).1 ≠ 0)
  clear hok
  rcases hw : within cores 1 4 with _ | _
  · have HN : Hid (a = ([], (3, 0))) := (by rw [← HA.out]; unfold placeF; rw [if_neg HZ0.out, if_pos hw] : a = ([], (3, 0)))
    go_wp2_with (go_at_call 55; refine (withinC_any _ _ _ _).mono ?_; rintro r w3 ⟨rfl, rfl⟩; rw [hw])
    refine bodyPost_ret (Place_ends (g := w.heap.size) (c := .int .i64 3) (k := .int .i64 0) (v := .slice none 0 0) (set_two H1.out.res) rfl rfl) rfl ?_
    rw [HN.out]
    exact ⟨_, rfl, RowSl.nil _ _, H1.out.set _ _, NewSl.none _ _ _⟩
  by_cases h5 : 5 < l.length
  · have HN : Hid (a = ([], (2, 0))) := (by rw [← HA.out]; unfold placeF; rw [if_neg HZ0.out, if_neg (by rw [hw]; simp), if_pos h5] : a = ([], (2, 0)))
    have h5i : (5 : Int) < (l.length : Int) := by omega
    go_wp2_with (go_at_call 55; refine (withinC_any _ _ _ _).mono ?_; rintro r w3 ⟨rfl, hw3⟩; have hw4 := hw3.symm; subst hw4; rw [hw])
    refine bodyPost_ret (Place_ends (g := w.heap.size) (c := .int .i64 2) (k := .int .i64 0) (v := .slice none 0 0) (set_two H1.out.res) rfl rfl) rfl ?_
    rw [HN.out]
    exact ⟨_, rfl, RowSl.nil _ _, H1.out.set _ _, NewSl.none _ _ _⟩
  have hcr : 1 ≤ cores ∧ cores ≤ 4 := by
    unfold within at hw
    simp at hw
    omega
  obtain ⟨cn, rfl⟩ : ∃ cn : Nat, cores = (cn : Int) := ⟨cores.toNat, by omega⟩
  have HN : Hid (a = match layF good cn l.length [] 0 with
    | none => ([], (13, 0))
    | some ws => (ws, (0, 0))) := by
    have h9 := HA.out
    unfold placeF at h9
    rw [if_neg HZ0.out, if_neg (by rw [hw]; simp), if_neg h5] at h9
    exact h9.symm
  have h5i : ¬ (5 : Int) < (l.length : Int) := by omega
  have HK := cloneP_any w2 l _ (HV.out.below H1.out.bel) (by omega) h8
  go_upto_region 9 with (first | (go_at_call 63; refine HK.mono ?_; rintro r w3 ⟨gO, cap, ex, rfl, hh, hcap, hlow, hb3⟩; have H3 : Hid (w3.heap[gO]? = some (.cells (l.flatMap Pa.vals ++ ex).toArray 53 (0, 0)) ∧ l.length ≤ cap ∧ w2.heap.size ≤ gO ∧ Below w2.heap.size w2 w3) := ⟨hh, hcap, hlow, hb3⟩; clear hh hcap hlow hb3 HK) | (go_at_call 55; refine (withinC_any _ _ _ _).mono ?_; rintro r w3 ⟨rfl, hw3⟩; have hw4 := hw3.symm; subst hw4; rw [hw]))
  have hl3 : w.heap.size < w3.heap.size := Nat.lt_of_lt_of_le H1.out.lt H3.out.2.2.2.size
  have H4 : Hid (LW (w3.alloc (.cells #[.slice (some ⟨gO, 0, none⟩) l.length cap] 51)) l w3.heap.size gO cap (l.map (·.co)) ex ∧ Below w2.heap.size w2 (w3.alloc (.cells #[.slice (some ⟨gO, 0, none⟩) l.length cap] 51)) ∧ w2.heap.size ≤ gO) := by
    obtain ⟨m1, m2, m3, m4⟩ := H3.out
    refine ⟨⟨(cells_of (l := [_]) (heap_alloc_new _ _)).1 0 _ rfl, ?_, List.length_map _, ?_, m2⟩, below_seq m4 (below_new _ _), m3⟩
    · rw [(below_new _ _).block _ (Array.getElem?_eq_some_iff.1 m1).1, onC_self]; exact m1
    · have := (Array.getElem?_eq_some_iff.1 m1).1; omega
  clear H3 g0 g1 q0 q1 qf0 qf1 ql
  generalize w3.alloc (.cells #[.slice (some ⟨gO, 0, none⟩) l.length cap] 51) = w4 at *
  generalize w3.heap.size = gL at *
  have HF := firstWay_any w2 w4 l _ ex cn gL gO cap good hgood h1 h8 (by omega) H4.out.1 H4.out.2.1 H4.out.2.2
  have hs4 : Hid (w2.heap.size ≤ w4.heap.size) := H4.out.2.1.size
  obtain ⟨res, hres⟩ : ∃ res, layF good cn l.length [] 0 = res := ⟨_, rfl⟩
  rw [hres] at HF HN
  clear hres H4 hgood
  go_upto_region 10 with (go_at_call 64; refine HF.mono ?_; rintro r w5 ⟨u, hb5, rfl, hn, hs⟩; have H5 : Hid (FB w w5 w.heap.size ∧ (res = none → u = .slice none 0 0) ∧ ∀ nx, res = some nx → RowSl nuV w5 nx u ∧ NewSl w4.heap.size u ∧ nx.length = l.length) := ⟨H1.out.grow hb5, hn, hs⟩; clear hb5 hn hs HF)
  obtain ⟨q0, q1, qf0, qf1, ql⟩ := H5.out.1.res2
  rcases res with _ | s
  · obtain rfl := H5.out.2.1 rfl
    have HN2 : Hid (a = ([], (13, 0))) := HN.out
    simp only [Option.isSome]
    go_wp2_with fail
    refine bodyPost_ret (Place_ends (g := w.heap.size) (c := .int .i64 13) (k := .int .i64 0) (v := .slice none 0 0) (set_two H5.out.1.res) rfl rfl) rfl ?_
    rw [HN2.out]
    exact ⟨_, rfl, RowSl.nil _ _, H5.out.1.set _ _, NewSl.none _ _ _⟩
  · obtain ⟨s1, s2, s3⟩ := H5.out.2.2 s rfl
    have HN2 : Hid (a = (s, (0, 0))) := HN.out
    have H6 : Hid (RowSl nuV w5 s u ∧ NewSl w4.heap.size u) := ⟨s1, s2⟩
    obtain ⟨ad1, c1, rfl⟩ := s1.len
    clear s1 s2 s3
    simp only [Option.isSome]
    go_wp2_with fail
    refine bodyPost_ret (Place_ends (g := w.heap.size) (c := .int .i64 0) (k := .int .i64 0) (v := .slice ad1 s.length c1) (set_two H5.out.1.res) rfl rfl) rfl ?_
    rw [HN2.out]
    have hsz : w.heap.size < w4.heap.size := Nat.lt_of_lt_of_le H1.out.lt hs4.out
    refine ⟨_, rfl, ?_, H5.out.1.set _ _, H6.out.2.mono (by omega)⟩
    exact rowset2 H6.out.1 (fun a n c e => Nat.lt_of_lt_of_le hsz (H6.out.2 a n c e)) _ _
end Go.Proofs.YtccoobcggbbcialDoor
