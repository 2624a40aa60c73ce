import Derived.Test.YtgemadoieielcacDoorGBWsP
import Derived.Deep.RegionHeldLaw
import Derived.Deep.CutRange
namespace Go.Proofs.YtgemadoieielcacDoor.B
open Go.ChangeShapes Go.WideShapes Go.ChangeAt Go.RowKit

theorem keepAlloc {w2 X : World} {o : Obj} {p : Addr} {x : Value} (h : Below w2.heap.size w2 X ∧ X.cell? p = some x) : Below w2.heap.size w2 (X.alloc o) ∧ (X.alloc o).cell? p = some x :=
  ⟨h.1.alloc h.1.size o, below_cell ((Below.refl _ _).alloc (Nat.le_refl _) o) h.2⟩
theorem src37 {w2 X : World} {ad : Option Addr} {c : Nat} {ls : List Int} (h : LocksIn w2 (.slice ad ls.length c) ls) (hb : Below w2.heap.size w2 X) :
    (ad = none → ls.length = 0 ∧ c = 0) ∧ ∀ p, ad = some p → ∀ j u, (intVals ls)[j]? = some u → X.cell? (p.add j) = some u := (h.keep (keepsInts_below hb)).src
theorem intVals_one (ls : List Int) : ∀ u ∈ intVals ls, u.oneCell' = true := by
  intro u hu
  unfold intVals at hu
  obtain ⟨z, _, rfl⟩ := List.mem_map.1 hu
  rfl
theorem after37 {w2 X w37 : World} {g n c : Nat} (bX : Below w2.heap.size w2 X) (hg : X.grownBy w37 (Value.ownBlock (.slice (some ⟨g, 0, none⟩) n c))) (h : w2.heap.size ≤ g) : Below w2.heap.size w2 w37 :=
  bX.grown hg bX.size fun k hk => by cases hk; exact h
theorem after41 {w2 X w37 : World} {v : Value} (bX : Below w2.heap.size w2 X) (hg : X.grownBy w37 v.ownBlock) (h : ∀ k, v.ownBlock = some k → w2.heap.size ≤ k) : Below w2.heap.size w2 w37 := bX.grown hg bX.size h
theorem one_cell {w : World} {g : Nat} {x : Value} (h : w.cell? ⟨g, 0, none⟩ = some x) : ∀ ad, some (⟨g, 0, none⟩ : Addr) = some ad → ∀ j u, ([x] : List Value)[j]? = some u → w.cell? (ad.add j) = some u := by
  intro ad h' j u hj
  cases h'
  cases j with
  | zero => simp at hj; subst hj; simpa [Addr.add] using h
  | succ j => simp at hj
theorem owns_none_at {w : World} {base size g : Nat} {e : TypeId} (hg : g = w.heap.size) (hb : base ≤ g) : (w.alloc (.cells #[] e)).ownsRow base e size (.slice (some ⟨g, 0, none⟩) 0 0) 0 [] := by
  subst hg
  exact owns_none hb
theorem lt_of_blk {w : World} {g : Nat} {o : Obj} (h : w.heap[g]? = some o) : g < w.heap.size := (Array.getElem?_eq_some_iff.1 h).1

set_option maxRecDepth 20000 in
set_option maxHeartbeats 4000000 in
theorem Flat_any (w0 : World) (N : Nat) : ∀ (a : List St) (w : World) (v lv : Value) (d : Int) (ls : List Int), St.bulkAll a < N → N ≤ 1048577 → St.countAll a ≤ 200 → 0 ≤ d → d + St.countAll a ≤ 1000 → ls.length + St.countAll a ≤ 1000 →
    Below w0.heap.size w0 w → St.Sl w0 a v → LocksIn w lv ls →
    Calls Tryd.prog 97 #[v, .int .i64 d, lv, .int .i64 200] w fun r w' => ∃ v' xs, r = .returned v' ∧ w'.ownsRow w.heap.size 169 16 v' (St.flatAll a d ls).length xs ∧ Fl.Cells w0 w' (St.flatAll a d ls) xs ∧ Below w.heap.size w w' := by
  induction N with
  | zero => intro a w v lv d ls h; omega
  | succ N ih =>
    intro a w v lv d ls hN hle hct hd0 hd1 hls hB0 hin hlk
    have hlen := length_le_bulkAll a
    obtain ⟨ad, c, rfl, hrow⟩ := hin
    obtain ⟨lad, lc, rfl, hlk'⟩ := id hlk
    have HR : Hid (_ ∧ _ ∧ _ ∧ (a = [] ∨ ∃ b o, ad = some ⟨b, o, none⟩ ∧ St.Row w0 a b o)) := ⟨hB0, hlk, hlk', hrow⟩
    clear hrow hB0 hlk hlk'
    have IH : Hid _ := ih
    clear ih
    obtain ⟨i0, hi, hz0, hz1, hz2⟩ := info_parts info57
    go_enter Tryd.func97, Tryd.ntmps97
    go_wp2_with fail
    go_loopw [8, 9, 11, 12, 15] (fun _ x _ _ i wr => ∃ (j : Nat) (xs : List Value), j ≤ a.length ∧ i = .int .i64 j ∧ wr.ownsRow w.heap.size 169 16 x (St.flatAll (a.take j) d ls).length xs ∧ Fl.Cells w0 wr (St.flatAll (a.take j) d ls) xs ∧ Below w.heap.size w wr) (fun _ _ _ _ i _ => a.length - (intOf i).toNat)
    case atStart => exact ⟨0, [], Nat.zero_le _, rfl, World.ownsRow_nil _ _ _ _, rfl, Below.refl _ _⟩
    case round =>
      obtain ⟨j, xs, hj, rfl, hown, hcs, hb⟩ := hrel
      by_cases hlt : j < a.length
      · rcases HR.out.2.2.2 with h | ⟨b, o, had, hrow⟩
        · subst h; simp at hlt
        subst had
        have hbk := bulkAll_at a j a[j] (by simp [hlt])
        have hcn := St.countAll_take hlt
        have hfl := St.flatAll_len (a.take j) d ls
        have hb0 : Below w0.heap.size w0 wr := below_seq HR.out.1 hb
        obtain ⟨sk, sn, se, sck, sca, scb, sy, sl, hs, ek, en, ead, em, ec, ak, an, aad, am, ac, bk, bn, bad, bm, bc, yad, yc, lad', lc', c0, c1, c2, c3, c4, c5, c6, c7, c8, c9, c10, c11, c12, c13, i1, i2, i3, i4, i5⟩ := hrow.shape hlt
        replace c0 := below_cell hb0 c0
        replace c1 := below_cell hb0 c1
        replace c2 := below_cell hb0 c2
        replace c3 := below_cell hb0 c3
        replace c4 := below_cell hb0 c4
        replace c5 := below_cell hb0 c5
        replace c6 := below_cell hb0 c6
        replace c7 := below_cell hb0 c7
        replace c8 := below_cell hb0 c8
        replace c9 := below_cell hb0 c9
        replace c10 := below_cell hb0 c10
        replace c11 := below_cell hb0 c11
        replace c12 := below_cell hb0 c12
        replace c13 := below_cell hb0 c13
        have hft := St.flatAll_take hlt d ls
        rw [hs] at hbk hcn hft
        unfold St.bulk at hbk
        unfold St.count at hcn
        generalize hL : St.flatAll (a.take j) d ls = L at *
        have HL : Hid _ := hL
        have hfl' : L.length ≤ 200 := by omega
        have hLc : L.length + (1 + St.countAll sy + St.countAll sl) ≤ St.countAll a := by omega
        clear hL hfl
        obtain ⟨xad, xcap, rfl⟩ := owns_value hown
        have HI : Hid (_ ∧ _ ∧ _ ∧ _ ∧ _ ∧ _ ∧ _) := ⟨hs, i1, i2, i3, i4, i5, hft⟩
        have HJ : Hid (_ ∧ _ ∧ _ ∧ _) := ⟨hown, hcs, hb, hb0⟩
        clear hs hrow i1 i2 i3 i4 i5 hcs hown hb hb0 hft
        go_upto_region 7 with fail
        have hW1 : (wr.alloc (.cells #[.int .i64 sk, .int .i64 sn, .int .i64 ek, .int .i64 en, .slice ead em ec, .int .i64 sck, .int .i64 ak, .int .i64 an, .slice aad am ac, .int .i64 bk, .int .i64 bn, .slice bad bm bc, .slice yad sy.length yc, .slice lad' sl.length lc'] 123)).heap[wr.heap.size]? = some (.cells #[.int .i64 sk, .int .i64 sn, .int .i64 ek, .int .i64 en, .slice ead em ec, .int .i64 sck, .int .i64 ak, .int .i64 an, .slice aad am ac, .int .i64 bk, .int .i64 bn, .slice bad bm bc, .slice yad sy.length yc, .slice lad' sl.length lc'] 123 (0, 0)) := heap_alloc_new wr _
        have hz : (wr.alloc (.cells #[.int .i64 sk, .int .i64 sn, .int .i64 ek, .int .i64 en, .slice ead em ec, .int .i64 sck, .int .i64 ak, .int .i64 an, .slice aad am ac, .int .i64 bk, .int .i64 bn, .slice bad bm bc, .slice yad sy.length yc, .slice lad' sl.length lc'] 123)).heap.size = wr.heap.size + 1 := by simp
        obtain ⟨hB1, d0, d1, d2, d3, d4, d5, d6, d7, d8, d9, d10, d11, d12, d13⟩ := copy14 wr (.int .i64 sk) (.int .i64 sn) (.int .i64 ek) (.int .i64 en) (.slice ead em ec) (.int .i64 sck) (.int .i64 ak) (.int .i64 an) (.slice aad am ac) (.int .i64 bk) (.int .i64 bn) (.slice bad bm bc) (.slice yad sy.length yc) (.slice lad' sl.length lc')
        generalize wr.alloc (.cells #[.int .i64 sk, .int .i64 sn, .int .i64 ek, .int .i64 en, .slice ead em ec, .int .i64 sck, .int .i64 ak, .int .i64 an, .slice aad am ac, .int .i64 bk, .int .i64 bn, .slice bad bm bc, .slice yad sy.length yc, .slice lad' sl.length lc'] 123) = W1 at *
        have HF : Hid (FI w0 w W1 wr.heap.size W1 (.slice xad L.length xcap) L xs) := ⟨below_seq HJ.out.2.2.1 hB1, rfl, ownsRow_below HJ.out.1 hB1, HJ.out.2.1.keep (keepsInts_below hB1)⟩
        have HW1 : Hid (_ ∧ _ ∧ _) := ⟨hW1, hB1, hz⟩
        have e3 : wr.heap.size < W1.heap.size := by omega
        have HC : Hid (Fl.Cells w0 W1 [⟨St.mk sk sn se sck sca scb sy sl, d, ls⟩] [.int .i64 sk, .int .i64 sn, .int .i64 ek, .int .i64 en, .slice ead em ec, .int .i64 sck, .int .i64 ak, .int .i64 an, .slice aad am ac, .int .i64 bk, .int .i64 bn, .slice bad bm bc, .slice yad sy.length yc, .slice lad' sl.length lc', .int .i64 d, .slice lad ls.length lc]) := by
          refine ⟨fun i => ([.int .i64 sk, .int .i64 sn, .int .i64 ek, .int .i64 en, .slice ead em ec, .int .i64 sck, .int .i64 ak, .int .i64 an, .slice aad am ac, .int .i64 bk, .int .i64 bn, .slice bad bm bc, .slice yad sy.length yc, .slice lad' sl.length lc'] : List Value).getD i undef, _, [], rfl, ?_, HR.out.2.1.keep (keepsInts_below (below_seq HJ.out.2.2.1 hB1)), rfl⟩
          show St.In w0 _ (.agg #[.int .i64 sk, .int .i64 sn, .int .i64 ek, .int .i64 en, .slice ead em ec, .int .i64 sck, .int .i64 ak, .int .i64 an, .slice aad am ac, .int .i64 bk, .int .i64 bn, .slice bad bm bc, .slice yad sy.length yc, .slice lad' sl.length lc'])
          unfold St.In
          exact ⟨_, _, _, _, _, _, _, _, _, _, _, rfl, HI.out.2.1, HI.out.2.2.1, HI.out.2.2.2.1, HI.out.2.2.2.2.1, HI.out.2.2.2.2.2.1⟩
        clear hW1 hB1 hz c0 c1 c2 c3 c4 c5 c6 c7 c8 c9 c10 c11 c12 c13
        go_upto_if 34 with (first
          | (at_builtin; refine append_mine _ rfl (.tmp 24) (.tmp 29) 166 rfl w.heap.size 169 i0 _ 16 224 Tryd.underlying166 hi hz0 hz1 hz2 rfl (by decide) _ L.length xs rfl (ownsRow_below HF.out.owns ((Below.refl _ _).alloc (Nat.le_refl _) _)) ⟨W1.heap.size, 0, none⟩ 1 1 [.int .i64 sk, .int .i64 sn, .int .i64 ek, .int .i64 en, .slice ead em ec, .int .i64 sck, .int .i64 ak, .int .i64 an, .slice aad am ac, .int .i64 bk, .int .i64 bn, .slice bad bm bc, .slice yad sy.length yc, .slice lad' sl.length lc', .int .i64 d, .slice lad ls.length lc] rfl rfl ?qc ?q1 (by decide) ?q3 ?q4 ?q5 ?_; rotate_left 5; intro v2 w2 hown2 hg2 hv2; have HF2 : Hid (FI w0 w W1 wr.heap.size w2 v2 (L ++ [⟨St.mk sk sn se sck sca scb sy sl, d, ls⟩]) (xs ++ [.int .i64 sk, .int .i64 sn, .int .i64 ek, .int .i64 en, .slice ead em ec, .int .i64 sck, .int .i64 ak, .int .i64 an, .slice aad am ac, .int .i64 bk, .int .i64 bn, .slice bad bm bc, .slice yad sy.length yc, .slice lad' sl.length lc', .int .i64 d, .slice lad ls.length lc])) := (HF.out.next e3 ((Below.refl _ _).alloc (Nat.le_refl _) _)).grow HW1.out.1 (HC.out.keep (keepsInts_below ((Below.refl _ _).alloc (Nat.le_refl _) _))) hg2 hown2; have hk2 : Hid (KeepsInts W1 w2) := (keepsInts_below ((Below.refl _ _).alloc (Nat.le_refl _) _)).trans (keepsInts_grown (ownsRow_below HF.out.owns ((Below.refl _ _).alloc (Nat.le_refl _) _)) hg2); have hc2 : ∀ o, w2.cell? ⟨wr.heap.size, o, none⟩ = W1.cell? ⟨wr.heap.size, o, none⟩ := HF2.out.cell; obtain ⟨vad2, vcap2, rfl⟩ := owns_value hown2; clear hown2 hg2 hv2))
        case qc => exact fresh_cells W1 _ 169
        case q1 => exact HC.out.one
        case q3 => unfold maxLen; omega
        case q4 => omega
        case q5 => have := HF.out.below.size; simp; omega
        have HG : Hid (_ ∧ _) := ⟨HF2.out, HR.out.2.1.keep ((keepsInts_below (below_seq HJ.out.2.2.1 HW1.out.2.1)).trans hk2.out)⟩
        go_cut [12] from 16 to 60 (fun iv wc => ∃ iad ic, iv = .slice iad (locksIn sk sn ls).length ic ∧ LocksIn wc (.slice iad (locksIn sk sn ls).length ic) (locksIn sk sn ls) ∧ ∃ ys, FI w0 w W1 wr.heap.size wc (.slice vad2 (L.length + 1) vcap2) (L ++ [⟨St.mk sk sn se sck sca scb sy sl, d, ls⟩]) ys)
        case first =>
          by_cases h6 : sk = 6
          · subst h6
            have hc1 := hc2 1
            rw [d1] at hc1
            clear hc2 d0 d1 d2 d3 d4 d5 d6 d7 d8 d9 d10 d11 d12 d13
            have hs2 := HG.out.2.src
            obtain ⟨j0, ji, jz0, jz1, jz2⟩ := info_parts info3
            have hlb : ls.length ≤ 1000 := by omega
            go_wp2_with fail
            go_region_held3 (fun w' => Below w2.heap.size w2 w' ∧ w'.cell? ⟨wr.heap.size, 1, none⟩ = some (.int .i64 sn))
              (first | assumption | exact ⟨(Below.refl _ _).drew, hc1⟩ | exact keepAlloc ‹Below w2.heap.size w2 _ ∧ _›)
              (first
                | (refine step_append_any rfl (.tmp 35) (.tmp 36) 23 rfl w2.heap.size 3 j0 _ 1 8 Tryd.underlying23 ji jz0 jz1 jz2 rfl (by decide) (.slice (some ⟨w2.heap.size, 0, none⟩) 0 0) 0 [] (by simp [Act.eval]) (by first | exact (owns_none (w := w2) (Nat.le_refl _)).drew | exact (ownsRow_below (owns_none (w := w2) (Nat.le_refl _)) ((Below.refl _ _).alloc (Nat.le_refl _) _)).drew) lad ls.length lc (intVals ls) (by simp [Act.eval]) (by simp [intVals]) (src37 HG.out.2 (And.left ‹Below w2.heap.size w2 _ ∧ _›)).1 (src37 HG.out.2 (And.left ‹Below w2.heap.size w2 _ ∧ _›)).2 (intVals_one ls) (by unfold maxLen; omega) (by omega) (Below.size (And.left ‹Below w2.heap.size w2 _ ∧ _›)) ?_; intro v37 w37 ho37 hg37; have hb37 := after37 (And.left ‹Below w2.heap.size w2 _ ∧ _›) hg37 (by omega); have hn37 : Hid (∀ x, _ → w37.cell? ⟨w2.heap.size + 1, 0, none⟩ = some x) := fun x h => World.grownBy.cell hg37 h (by simp [Value.ownBlock]); have hS37 := And.intro hb37 (below_cell hb37 hc1); simp only [Nat.zero_add, List.nil_append] at ho37; obtain ⟨ad37, cp37, rfl⟩ := owns_value ho37; clear hg37 hb37)
                | (refine step_append_any rfl (.tmp 35) (.tmp 36) 23 rfl w2.heap.size 3 j0 _ 1 8 Tryd.underlying23 ji jz0 jz1 jz2 rfl (by decide) (.slice (some ⟨w2.heap.size + 1, 0, none⟩) 0 0) 0 [] (by simp [Act.eval]) ((owns_none_at (w := w2.alloc (.cells #[.int .i64 sn] 3)) (by simp) (by omega)).drew) lad ls.length lc (intVals ls) (by simp [Act.eval]) (by simp [intVals]) (src37 HG.out.2 (And.left ‹Below w2.heap.size w2 _ ∧ _›)).1 (src37 HG.out.2 (And.left ‹Below w2.heap.size w2 _ ∧ _›)).2 (intVals_one ls) (by unfold maxLen; omega) (by omega) (Below.size (And.left ‹Below w2.heap.size w2 _ ∧ _›)) ?_; intro v37 w37 ho37 hg37; have hb37 := after37 (And.left ‹Below w2.heap.size w2 _ ∧ _›) hg37 (by omega); have hn37 : Hid (∀ x, _ → w37.cell? ⟨w2.heap.size, 0, none⟩ = some x) := fun x h => World.grownBy.cell hg37 h (by simp [Value.ownBlock]); have hS37 := And.intro hb37 (below_cell hb37 hc1); simp only [Nat.zero_add, List.nil_append] at ho37; obtain ⟨ad37, cp37, rfl⟩ := owns_value ho37; clear hg37 hb37)
                | (refine step_append_any rfl (.tmp 37) (.tmp 40) 23 rfl w2.heap.size 3 j0 _ 1 8 Tryd.underlying23 ji jz0 jz1 jz2 rfl (by decide) (.slice ad37 ls.length cp37) ls.length (intVals ls) (by simp [Act.eval]) (ownsRow_below ho37 ((Below.refl _ _).alloc (Nat.le_refl _) _)) (some ⟨w37.heap.size, 0, none⟩) 1 1 [.int .i64 sn] (by simp [Act.eval]) rfl (fun h => by cases h) (fun ad h j u hj => by cases h; exact fresh_cells w37 [.int .i64 sn] 3 j u hj) (by intro u hu; simp at hu; subst hu; rfl) (by unfold maxLen; omega) (by omega) (Below.size (And.left ‹Below w2.heap.size w2 _ ∧ _›)) ?_; intro v41 w41 ho41 hg41; have hb41 := after41 (And.left ‹Below w2.heap.size w2 _ ∧ _›) hg41 (fun k hk => (World.ownsRow.lt ho37 k hk).1); have hS41 := And.intro hb41 (below_cell hb41 hc1); have H41 : Hid (_ ∧ _) := ⟨ho41, hb41⟩; obtain ⟨ad41, cp41, rfl⟩ := owns_value ho41; clear hg41 hb41 ho41)
                | (refine step_append_any rfl (.tmp 37) (.tmp 40) 23 rfl w2.heap.size 3 j0 _ 1 8 Tryd.underlying23 ji jz0 jz1 jz2 rfl (by decide) (.slice ad37 ls.length cp37) ls.length (intVals ls) (by simp [Act.eval]) (ho37) (some ⟨w2.heap.size + 1, 0, none⟩) 1 1 [.int .i64 sn] (by simp [Act.eval]) rfl (fun h => by cases h) (one_cell (hn37.out _ (by show World.cell? (World.alloc _ _) _ = _; rw [World.cell?_alloc_at _ _ _ _ (by simp)]; rfl))) (by intro u hu; simp at hu; subst hu; rfl) (by unfold maxLen; omega) (by omega) (Below.size (And.left ‹Below w2.heap.size w2 _ ∧ _›)) ?_; intro v41 w41 ho41 hg41; have hb41 := after41 (And.left ‹Below w2.heap.size w2 _ ∧ _›) hg41 (fun k hk => (World.ownsRow.lt ho37 k hk).1); have hS41 := And.intro hb41 (below_cell hb41 hc1); have H41 : Hid (_ ∧ _) := ⟨ho41, hb41⟩; obtain ⟨ad41, cp41, rfl⟩ := owns_value ho41; clear hg41 hb41 ho41)
                | (refine step_append_any rfl (.tmp 37) (.tmp 40) 23 rfl w2.heap.size 3 j0 _ 1 8 Tryd.underlying23 ji jz0 jz1 jz2 rfl (by decide) (.slice ad37 ls.length cp37) ls.length (intVals ls) (by simp [Act.eval]) (ho37) (some ⟨w2.heap.size, 0, none⟩) 1 1 [.int .i64 sn] (by simp [Act.eval]) rfl (fun h => by cases h) (one_cell (hn37.out _ (by show World.cell? (World.alloc (World.alloc _ _) _) _ = _; rw [World.cell?_alloc_past _ _ _ (by simp), World.cell?_alloc_at _ _ _ _ rfl]; rfl))) (by intro u hu; simp at hu; subst hu; rfl) (by unfold maxLen; omega) (by omega) (Below.size (And.left ‹Below w2.heap.size w2 _ ∧ _›)) ?_; intro v41 w41 ho41 hg41; have hb41 := after41 (And.left ‹Below w2.heap.size w2 _ ∧ _›) hg41 (fun k hk => (World.ownsRow.lt ho37 k hk).1); have hS41 := And.intro hb41 (below_cell hb41 hc1); have H41 : Hid (_ ∧ _) := ⟨ho41, hb41⟩; obtain ⟨ad41, cp41, rfl⟩ := owns_value ho41; clear hg41 hb41 ho41))
            all_goals
              go_wp2_with fail
              go_meet
              case rel =>
                have e : locksIn 6 sn ls = ls ++ [sn] := if_pos rfl
                rw [e]
                have hm := LocksIn.made (ls := ls ++ [sn]) (n := ls.length + 1) (by have := H41.out.1; unfold intVals at this ⊢; simpa using this) (by simp)
                refine ⟨ad41, cp41, by simp, by simpa using hm, _, HG.out.1.next (by have := HF2.out.below.size; exact lt_of_blk (HF2.out.at'.trans HW1.out.1)) H41.out.2⟩
          · have E : Hid (locksIn sk sn ls = ls) := if_neg h6
            have h6' : (sk == 6) = false := by simpa using h6
            go_wp2_with fail
            go_meet
            case rel =>
              rw [E.out]
              exact ⟨_, _, rfl, HG.out.2, _, HG.out.1⟩
        case rest =>
          obtain ⟨iad, ic, rfl, hlk2, ys, hfi⟩ := hcut
          have hll : (locksIn sk sn ls).length ≤ ls.length + 1 := by unfold locksIn; split <;> simp
          have k12 := hfi.cell 12
          have k13 := hfi.cell 13
          rw [d12] at k12
          rw [d13] at k13
          have hgl : wr.heap.size < wc.heap.size := lt_of_blk (hfi.at'.trans HW1.out.1)
          have HK : Hid (_ ∧ _) := ⟨hfi, hlk2⟩
          clear hlk2 hfi hc2 d0 d1 d2 d3 d4 d5 d6 d7 d8 d9 d10 d11 d12 d13
          generalize hI : locksIn sk sn ls = il at *
          have HIL : Hid _ := hI
          clear hI
          go_wp2_with (first
            | (go_at_call_of 97 sy.length; refine (IH.out sy _ _ _ (d + 1) il (by omega) (by omega) (by omega) (by omega) (by omega) (by omega) (below_seq HR.out.1 HK.out.1.below) HI.out.2.2.2.2.1 HK.out.2).mono ?_; rintro e w4 ⟨v4, ys4, rfl, ho4, hc4, hb4⟩; have H4 : Hid (_ ∧ _ ∧ _ ∧ _) := ⟨ho4, hc4, HK.out.1.next hgl hb4, HK.out.2.keep (keepsInts_below hb4)⟩; have hgl4 : wr.heap.size < w4.heap.size := Nat.lt_of_lt_of_le hgl hb4.size; clear ho4 hc4 hb4)
            | (at_builtin; refine append_all _ rfl (.tmp 42) (.tmp 49) 166 rfl w.heap.size 169 i0 _ 16 224 Tryd.underlying166 hi hz0 hz1 hz2 rfl (by decide) _ _ _ rfl H4.out.2.2.1.owns (by simp) _ _ _ _ rfl H4.out.1 (H4.out.2.1.one _) ?q1 ?q2 H4.out.2.2.1.below.size ?_; rotate_left 2; intro v5 w5 ho5 hg5 hv5; have H5 : Hid (_ ∧ _) := ⟨H4.out.2.2.1.grow HW1.out.1 H4.out.2.1 hg5 ho5, H4.out.2.2.2.keep (keepsInts_grown H4.out.2.2.1.owns hg5)⟩; have k5 := H5.out.1.cell 13; replace k5 := k5.trans ((HK.out.1.cell 13).symm.trans k13); clear ho5 hg5 hv5)
            | (go_at_call_of 97 sl.length; refine (IH.out sl _ _ _ (d + 1) il (by omega) (by omega) (by omega) (by omega) (by omega) (by omega) (below_seq HR.out.1 H5.out.1.below) HI.out.2.2.2.2.2.1 H5.out.2).mono ?_; rintro e w6 ⟨v6, ys6, rfl, ho6, hc6, hb6⟩; have H6 : Hid (_ ∧ _ ∧ _) := ⟨ho6, hc6, H5.out.1.next (lt_of_blk (H5.out.1.at'.trans HW1.out.1)) hb6⟩; clear ho6 hc6 hb6)
            | (at_builtin; refine append_all _ rfl (.tmp 51) (.tmp 58) 166 rfl w.heap.size 169 i0 _ 16 224 Tryd.underlying166 hi hz0 hz1 hz2 rfl (by decide) _ _ _ rfl H6.out.2.2.owns (by simp; omega) _ _ _ _ rfl H6.out.1 (H6.out.2.1.one _) ?q3 ?q4 H6.out.2.2.below.size ?_; rotate_left 2; intro v7 w7 ho7 hg7 hv7; have H7 : Hid _ := H6.out.2.2.grow HW1.out.1 H6.out.2.1 hg7 ho7; clear ho7 hg7 hv7))
          case q1 => have := St.flatAll_len sy (d + 1) il; unfold maxLen; simp; omega
          case q2 => have := St.flatAll_len sy (d + 1) il; simp; omega
          case q3 => have := St.flatAll_len sy (d + 1) il; have := St.flatAll_len sl (d + 1) il; unfold maxLen; simp; omega
          case q4 => have := St.flatAll_len sy (d + 1) il; have := St.flatAll_len sl (d + 1) il; simp; omega
          go_roundw
          case rel =>
            have e : St.flatAll (a.take (j + 1)) d ls = L ++ [⟨St.mk sk sn se sck sca scb sy sl, d, ls⟩] ++ St.flatAll sy (d + 1) il ++ St.flatAll sl (d + 1) il := by
              rw [HI.out.2.2.2.2.2.2, St.flat, HIL.out]
              simp
            obtain ⟨zs, h7⟩ : ∃ zs, FI w0 w W1 wr.heap.size w7 v7 (L ++ [⟨St.mk sk sn se sck sca scb sy sl, d, ls⟩] ++ St.flatAll sy (d + 1) il ++ St.flatAll sl (d + 1) il) zs := ⟨_, H7.out⟩
            rw [← e] at h7
            exact ⟨j + 1, zs, by omega, by go_num, h7.owns, h7.cells, h7.below⟩
          case measure => simp [intOf]; omega
      · have hje : j = a.length := by omega
        subst hje
        rw [List.take_length] at hcs hown
        obtain ⟨xad, xcap, rfl⟩ := owns_value hown
        have HE : Hid (_ ∧ _ ∧ _) := ⟨hown, hcs, hb⟩
        clear hown hcs hb
        go_wp2_with fail
        go_ret
        exact ⟨_, _, rfl, HE.out.1, HE.out.2.1, HE.out.2.2⟩
end Go.Proofs.YtgemadoieielcacDoor.B
