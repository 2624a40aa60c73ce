import Derived.Test.YtccoobcggbbciadDoorRX0
import Derived.Test.YtccoobcggbbciadDoorTK
namespace Go.Proofs.YtccoobcggbbciadDoor
open Go.ChangeShapes Go.WideShapes Go.ChangeAt Go.RowKit

theorem cut_true {c : UInt8} {l : List UInt8} (h : (Lib.cut l [c]).2.2 = true) : pcs c l = (Lib.cut l [c]).1 :: pcs c (Lib.cut l [c]).2.1 ∧ (Lib.cut l [c]).2.1.length < l.length ∧ (Lib.cut l [c]).1.length ≤ l.length := by
  unfold Lib.cut at h ⊢
  by_cases h0 : 0 ≤ Lib.index l [c]
  · rw [if_pos h0]
    dsimp only
    have hix := Lib.index_one l c
    obtain ⟨o, ho⟩ : ∃ o : Nat, Lib.index l [c] = o := ⟨(Lib.index l [c]).toNat, by omega⟩
    have hb : Lib.indexByte l c = o := by rw [← hix]; exact ho
    obtain ⟨h1, h2⟩ := cut_of hb
    have hlt : o < l.length := (List.getElem?_eq_some_iff.1 (Lib.indexByte_some hb).1).1
    rw [ho, Int.toNat_natCast, show ([c] : List UInt8).length = 1 from rfl]
    refine ⟨?_, by simp; omega, by rw [List.length_take]; omega⟩
    conv => lhs; rw [h1]
    unfold pcs
    rw [pcsS_hit h2, List.append_nil]
  · rw [if_neg h0] at h
    cases h

theorem cut_false {c : UInt8} {l : List UInt8} (h : (Lib.cut l [c]).2.2 = false) : pcs c l = [l] ∧ (Lib.cut l [c]).1 = l := by
  unfold Lib.cut at h ⊢
  by_cases h0 : 0 ≤ Lib.index l [c]
  · rw [if_pos h0] at h
    cases h
  · rw [if_neg h0]
    have hix := Lib.index_one l c
    have hg := Lib.indexByte_ge l c
    exact ⟨pcsS_none (no_of (by omega)), rfl⟩

theorem back_list (l : List UInt8) : (⟨l.toArray⟩ : ByteArray).data.toList = l := by simp
theorem back_size (l : List UInt8) : (⟨l.toArray⟩ : ByteArray).size = l.length := by rw [← size_list, back_list]

theorem bdN (W : World) (n : Nat) : Below W.heap.size W (W.drewN n) := ⟨rfl, rfl, rfl, Nat.le_refl _, fun _ _ => rfl⟩
theorem bdNB (B : Nat) (W : World) (n : Nat) : Below B W (W.drewN n) := ⟨rfl, rfl, rfl, Nat.le_refl _, fun _ _ => rfl⟩

def strLen : Value → Nat
  | .string s => s.size
  | _ => 0

theorem Parse_ends {w : World} {g : Nat} {c k p : Value} {a : Act} (h : w.heap[g]? = some (.cells #[c, k] 37 (0, 0))) (h2 : a.tmps[2]?.getD undef = p) (h3 : a.tmps[3]?.getD undef = .pointer (some ⟨g, 0, none⟩)) :
    (results Tryd.f26 a.tmps).run Tryd.prog w = .ok (.tuple #[p, .agg #[c, k]]) w := by
  obtain ⟨c1, f1, l1⟩ := cells_of (l := [_, _]) h
  have c10 := c1 0 _ rfl
  have c11 := c1 1 _ rfl
  simp [results, Tryd.results26, go_sem, h2, h3, c10, c11]

theorem FB.res2 {w W : World} {g : Nat} (h : FB w W g) : W.cell? ⟨g, 0, none⟩ = some (.int .i64 0) ∧ W.cell? ⟨g, 1, none⟩ = some (.int .i64 0) ∧ W.frozen? ⟨g, 0, none⟩ = false ∧ W.frozen? ⟨g, 1, none⟩ = false ∧ g < W.heap.size := by
  obtain ⟨c, f, l⟩ := cells_of (l := [_, _]) h.res
  exact ⟨c 0 _ rfl, c 1 _ rfl, f 0, f 1, l⟩

/-- What Parse tells, as it lies. -/
def ParsePost (w : World) (text : List UInt8) (r : Ending) (w' : World) : Prop := ∃ v, r = .returned (.tuple #[v, .agg #[.int .i64 (parseF text).2.1, .int .i64 (parseF text).2.2]]) ∧ RowSl Ta.vals w' (parseF text).1 v ∧ Below w.heap.size w w'

theorem parse_bad {text : List UInt8} {k : Nat} (h0 : ¬ 20000 < text.length) (h : scanF (pcs 10 text) [] = ([], (1, (k : Int)))) : parseF text = ([], (1, (k : Int))) := by
  unfold parseF
  rw [if_neg h0, h]
  rfl

theorem parse_chk {text : List UInt8} {l : List Ta} (h0 : ¬ 20000 < text.length) (h : scanF (pcs 10 text) [] = (l, (0, 0))) : parseF text = if (chkF l).1 ≠ 0 then ([], chkF l) else (l, (0, 0)) := by
  unfold parseF
  rw [if_neg h0, h]
  rfl

/-- A row of one's own is one that can be read. -/
theorem rowTa_own {W : World} {B : Nat} {v : Value} {l : List Ta} (h : W.ownsRow B 55 7 v l.length (l.flatMap Ta.vals)) : RowSl Ta.vals W l v := by
  obtain ⟨hl, ⟨h1, h2⟩ | ⟨g, cap, cur, h1, h2, h3, h4, h5, h6, h7⟩⟩ := h
  · have e : l = [] := List.eq_nil_of_length_eq_zero h2
    subst e
    exact ⟨none, 0, h1, fun _ => ⟨rfl, rfl⟩, Nat.le_refl _, .inl rfl⟩
  · refine ⟨some ⟨g, 0, none⟩, cap, h1, (fun e => by cases e), by omega, .inr ⟨g, 0, rfl, fun q u hq => ?_⟩⟩
    rw [Nat.zero_add]
    have hc := (cells_of (l := cur.toList) (by rw [Array.toArray_toList]; exact h3)).1 q u
    refine hc ?_
    rw [← h7, List.getElem?_take] at hq
    split at hq
    · exact hq
    · cases hq

set_option maxRecDepth 20000 in
set_option maxHeartbeats 8000000 in
theorem Parse_any (w : World) (s : ByteArray) (m : Int) (hm : w.cell? ⟨3, 0, none⟩ = some (.int .i64 m)) :
    Calls Tryd.prog 26 #[.string s] w (ParsePost w s.data.toList) := by
  have H0 : Hid (FB w (w.alloc (.cells #[.int .i64 0, .int .i64 0] 37)) w.heap.size) := FB.start w
  have HM : Hid (w.cell? ⟨3, 0, none⟩ = some (.int .i64 m)) := hm
  clear hm
  by_cases hb : 20000 < s.size
  · have hb' : decide (20000 < (s.size : Int)) = true := decide_eq_true (by omega)
    have hbi : (20000 : Int) < (s.size : Int) := by omega
    obtain ⟨r10, r11, z10, z11, rl⟩ := H0.out.res2
    go_enter Tryd.func26, Tryd.ntmps26
    go_wp2_with fail
    refine bodyPost_ret (Parse_ends (heap_alloc_new _ _) rfl rfl) rfl ?_
    have e : parseF s.data.toList = ([], (2, 0)) := by unfold parseF; rw [if_pos (by rw [size_list]; exact hb)]
    unfold ParsePost
    rw [e]
    exact ⟨_, rfl, RowSl.nil _ _, below_new _ _⟩
  have hb' : decide (20000 < (s.size : Int)) = false := decide_eq_false (by omega)
  have hbi : ¬ (20000 : Int) < (s.size : Int) := by omega
  have h0 : ¬ 20000 < s.data.toList.length := by rw [size_list]; exact hb
  go_enter Tryd.func26, Tryd.ntmps26
  go_wp2_with fail
  go_loopw [0, 4] (fun tv sv wr => ∃ (tx : ByteArray) (acc : List Ta), tv = .string tx ∧ acc.length + tx.size ≤ s.size ∧ TO w wr w.heap.size acc sv ∧ Hid (scanF (pcs 10 tx.data.toList) acc = scanF (pcs 10 s.data.toList) [])) (fun tv _ _ => strLen tv)
  case atStart => exact ⟨s, [], rfl, by simp, TO.start H0.out, rfl⟩
  case round =>
    obtain ⟨tx, acc, rfl, hsz, hto, HQ⟩ := hrel
    have HT : Hid (TO w wr w.heap.size acc u4) := hto
    clear hto
    obtain ⟨sa, sc, rfl⟩ := HT.out.val
    by_cases hz : tx.size = 0
    · have htx : tx = ⟨#[]⟩ := by
        obtain ⟨⟨td⟩⟩ := tx
        have : td = [] := List.eq_nil_of_length_eq_zero hz
        rw [this]
      subst htx
      have HS : Hid (scanF (pcs 10 s.data.toList) [] = (acc, (0, 0))) := HQ.out.symm
      have HC := Check_any wr acc _ HT.out.rowSl
      obtain ⟨z1, hz1⟩ : ∃ z1, (chkF acc).1 = z1 := ⟨_, rfl⟩
      obtain ⟨z2, hz2⟩ : ∃ z2, (chkF acc).2 = z2 := ⟨_, rfl⟩
      rw [hz1, hz2] at HC
      have HZ : Hid (chkF acc = (z1, z2)) := Prod.ext hz1 hz2
      clear hz1 hz2 HQ
      go_upto_region 12 with (go_at_call 19; refine HC.mono ?_; rintro r w5 ⟨rfl, hb5⟩; have H5 : Hid (TO w (w5.alloc (.cells #[.int .i64 z1, .int .i64 z2] 37)) w.heap.size acc (.slice sa acc.length sc)) := (HT.out.grow hb5).grow (below_new _ _); have l5 : w.heap.size < w5.heap.size := (HT.out.grow hb5).fb.lt; clear hb5 HC)
      obtain ⟨fs, -, fl⟩ := cells_of (l := [_, _]) (heap_alloc_new w5 (.cells #[.int .i64 z1, .int .i64 z2] 37))
      have g0 := fs 0 _ rfl
      have g1 := fs 1 _ rfl
      clear fs
      generalize w5.alloc (.cells #[.int .i64 z1, .int .i64 z2] 37) = w6 at *
      generalize w5.heap.size = gc at *
      obtain ⟨r10, r11, y10, y11, rl⟩ := H5.out.fb.res2
      by_cases hzz : z1 = 0
      · subst hzz
        go_wp2_with fail
        refine bodyPost_ret (Parse_ends (set_two H5.out.fb.res) rfl rfl) rfl ?_
        unfold ParsePost
        rw [parse_chk h0 HS.out, if_neg (by rw [HZ.out]; simp)]
        exact ⟨_, rfl, rowTa_own (ownsRow_two H5.out.row (by omega) _ _), H5.out.fb.set _ _⟩
      · have hzn : (z1 != 0) = true := by simpa using hzz
        go_upto_region 13 with fail
        go_region
        all_goals go_wp2_with fail
        all_goals
          refine bodyPost_ret (Parse_ends (set_two H5.out.fb.res) rfl rfl) rfl ?_
          unfold ParsePost
          rw [parse_chk h0 HS.out, if_pos (by rw [HZ.out]; exact hzz), HZ.out]
          exact ⟨_, rfl, RowSl.nil _ _, (H5.out.fb.set _ _).drew⟩
    · have hem : tx.toList.isEmpty = false := by
        rw [ByteArray.toList_eq]
        cases hd : tx.data.toList with
        | nil => exact absurd (by rw [← size_list, hd]; rfl) hz
        | cons a r => rfl
      obtain ⟨lc, hlc⟩ : ∃ lc, Lib.cut tx.data.toList [10] = lc := ⟨_, rfl⟩
      have HCut := sh_strings_Cut tx ⟨#[10]⟩ m wr (by omega) (below_cell HT.out.fb.bel HM.out)
      rw [show (⟨#[10]⟩ : ByteArray).data.toList = [10] from rfl, hlc] at HCut
      obtain ⟨c1, c2, c3⟩ := lc
      dsimp only at HCut
      have hl1 : c1.length ≤ tx.size := by
        cases c3 with
        | false =>
          have := (cut_false (c := 10) (l := tx.data.toList) (by rw [hlc])).2
          rw [hlc] at this
          dsimp only at this
          rw [this, size_list]
          exact Nat.le_refl _
        | true =>
          have := (cut_true (c := 10) (l := tx.data.toList) (by rw [hlc])).2.2
          rw [hlc, size_list] at this
          exact this
      have HTk := fun W hm => task_any W ⟨c1.toArray⟩ m (by rw [back_size]; omega) hm
      have hta : taskR ⟨c1.toArray⟩ = (match taskF c1 with | some x => (x, true) | none => (⟨⟨#[]⟩, 0, 0, 0, 0, 0, 0⟩, false)) := by unfold taskR; rw [back_list]; cases taskF c1 <;> rfl
      obtain ⟨xx, ok, hxo⟩ : ∃ xx ok, taskR ⟨c1.toArray⟩ = (xx, ok) := ⟨_, _, rfl⟩
      rw [hxo] at HTk hta
      obtain ⟨xn, xc, xt, xd, xj, xo, xp⟩ := xx
      unfold Ta.val9 at HTk
      dsimp only at HTk
      have HX : Hid ((⟨xn, xc, xt, xd, xj, xo, xp⟩, ok) = (match taskF c1 with | some x => ((x, true) : Ta × Bool) | none => (⟨⟨#[]⟩, 0, 0, 0, 0, 0, 0⟩, false))) := hta
      clear hta hxo
      have HBad : Hid (¬ (c3 = true ∧ ok = true) → scanF (pcs 10 s.data.toList) [] = ([], (1, (acc.length : Int)))) := by
        have h9 : ¬ (c3 = true ∧ ok = true) → scanF (pcs 10 s.data.toList) [] = ([], (1, (acc.length : Int))) := fun hn => by
          rw [← HQ.out]
          cases c3 with
          | false =>
            rw [(cut_false (c := 10) (l := tx.data.toList) (by rw [hlc])).1, scanF, if_neg (fun e => hz (by rw [← size_list, e]; rfl))]
          | true =>
            have hok : ok = false := by
              cases ok with
              | false => rfl
              | true => exact absurd ⟨rfl, rfl⟩ hn
            have hp := (cut_true (c := 10) (l := tx.data.toList) (by rw [hlc])).1
            rw [hlc] at hp
            dsimp only at hp
            have htn : taskF c1 = none := by
              have := HX.out
              cases ht : taskF c1 with
              | none => rfl
              | some x => rw [ht, hok] at this; cases (Prod.mk.inj this).2
            rw [hp]
            cases hq : pcs 10 c2 with
            | nil => exact absurd hq (pcsS_ne _)
            | cons a t => rw [scanF, htn]
        exact h9
      have HGo : Hid (c3 = true → ok = true → scanF (pcs 10 c2) (acc ++ [⟨xn, xc, xt, xd, xj, xo, xp⟩]) = scanF (pcs 10 s.data.toList) [] ∧ c2.length < tx.size) := by
        have h9 : c3 = true → ok = true → scanF (pcs 10 c2) (acc ++ [⟨xn, xc, xt, xd, xj, xo, xp⟩]) = scanF (pcs 10 s.data.toList) [] ∧ c2.length < tx.size := fun h3 hok => by
          subst h3 hok
          obtain ⟨hp, hl, -⟩ := cut_true (c := 10) (l := tx.data.toList) (by rw [hlc])
          rw [hlc] at hp hl
          dsimp only at hp hl
          rw [size_list] at hl
          refine ⟨?_, hl⟩
          rw [← HQ.out, hp]
          have htn : taskF c1 = some ⟨xn, xc, xt, xd, xj, xo, xp⟩ := by
            have := HX.out
            cases ht : taskF c1 with
            | none => rw [ht] at this; cases (Prod.mk.inj this).2
            | some x => rw [ht] at this; rw [(Prod.mk.inj this).1]
          cases hq : pcs 10 c2 with
          | nil => exact absurd hq (pcsS_ne _)
          | cons a t => rw [scanF, htn]
        exact h9
      clear hlc HQ HX hl1
      by_cases hgo : c3 = true ∧ ok = true
      rotate_left 1
      · have HS := HBad.out hgo
        have HSs : Hid (scanF (pcs 10 s.data.toList) [] = ([], (1, (acc.length : Int)))) := HS
        clear HS HBad HGo
        cases c3 <;> cases ok
        case true.true => exact absurd ⟨rfl, rfl⟩ hgo
        all_goals
          go_upto_region 7 with (first
          | (go_at_call 52; refine HCut.mono ?_; rintro r w5 ⟨rfl, nn, hw5⟩; have H5 : Hid (TO w w5 w.heap.size acc (.slice sa acc.length sc) ∧ w5.cell? ⟨3, 0, none⟩ = some (.int .i64 m)) := (by subst hw5; exact ⟨HT.out.grow (bdN _ _), below_cell (HT.out.fb.bel.trans (bdNB _ _ _)) HM.out⟩); clear hw5 HCut)
          | (go_at_call 53; refine (HTk w5 H5.out.2).mono ?_; rintro r w7 ⟨rfl, hb7⟩; have H7 : Hid (TO w w7 w.heap.size acc (.slice sa acc.length sc)) := H5.out.1.grow hb7; clear hb7 HTk H5))
          have H8 : Hid (TO w (w7.alloc (.cells #[.string xn, .int .i64 xc, .int .i64 xt, .int .i64 xd, .int .i64 xj, .int .i64 xo, .int .i64 xp] 55)) w.heap.size acc (.slice sa acc.length sc)) := H7.out.grow (below_new _ _)
          generalize w7.alloc (.cells #[.string xn, .int .i64 xc, .int .i64 xt, .int .i64 xd, .int .i64 xj, .int .i64 xo, .int .i64 xp] 55) = w8 at *
          obtain ⟨r10, r11, y10, y11, rl⟩ := H8.out.fb.res2
          go_wp2_with fail
          refine bodyPost_ret (Parse_ends (set_two H8.out.fb.res) rfl rfl) rfl ?_
          unfold ParsePost
          rw [parse_bad h0 HSs.out]
          exact ⟨_, rfl, RowSl.nil _ _, H8.out.fb.set _ _⟩
      · obtain ⟨rfl, rfl⟩ := hgo
        obtain ⟨hg1, hg2⟩ := HGo.out rfl rfl
        have HG : Hid (scanF (pcs 10 c2) (acc ++ [⟨xn, xc, xt, xd, xj, xo, xp⟩]) = scanF (pcs 10 s.data.toList) []) := hg1
        clear hg1 HBad HGo
        go_upto_region 9 with (first
          | (go_at_call 52; refine HCut.mono ?_; rintro r w5 ⟨rfl, nn, hw5⟩; have H5 : Hid (TO w w5 w.heap.size acc (.slice sa acc.length sc) ∧ w5.cell? ⟨3, 0, none⟩ = some (.int .i64 m)) := (by subst hw5; exact ⟨HT.out.grow (bdN _ _), below_cell (HT.out.fb.bel.trans (bdNB _ _ _)) HM.out⟩); clear hw5 HCut)
          | (go_at_call 53; refine (HTk w5 H5.out.2).mono ?_; rintro r w7 ⟨rfl, hb7⟩; have H7 : Hid (TO w w7 w.heap.size acc (.slice sa acc.length sc)) := H5.out.1.grow hb7; clear hb7 HTk H5))
        have H8 : Hid (TO w (w7.alloc (.cells #[.string xn, .int .i64 xc, .int .i64 xt, .int .i64 xd, .int .i64 xj, .int .i64 xo, .int .i64 xp] 55)) w.heap.size acc (.slice sa acc.length sc)) := H7.out.grow (below_new _ _)
        obtain ⟨xs, -, xl⟩ := cells_of (l := [_, _, _, _, _, _, _]) (heap_alloc_new w7 (.cells #[.string xn, .int .i64 xc, .int .i64 xt, .int .i64 xd, .int .i64 xj, .int .i64 xo, .int .i64 xp] 55))
        have x0 := xs 0 _ rfl
        have x1 := xs 1 _ rfl
        have x2 := xs 2 _ rfl
        have x3 := xs 3 _ rfl
        have x4 := xs 4 _ rfl
        have x5 := xs 5 _ rfl
        have x6 := xs 6 _ rfl
        clear xs
        generalize w7.alloc (.cells #[.string xn, .int .i64 xc, .int .i64 xt, .int .i64 xd, .int .i64 xj, .int .i64 xo, .int .i64 xp] 55) = w8 at *
        obtain ⟨ad, cc, w9, hrun, h9⟩ := H8.out.push ⟨xn, xc, xt, xd, xj, xo, xp⟩ (by omega)
        have H9 : Hid (TO w w9 w.heap.size (acc ++ [⟨xn, xc, xt, xd, xj, xo, xp⟩]) (.slice ad (acc.length + 1) cc)) := h9
        clear h9
        go_wp2_with (at_builtin; refine append_known rfl (.tmp 37) (.tmp 39) 48 rfl rfl rfl hrun ?_)
        refine ⟨⟨⟨c2.toArray⟩, acc ++ [⟨xn, xc, xt, xd, xj, xo, xp⟩], rfl, by rw [back_size]; simp; omega, H9.out, ?_⟩, ?_⟩
        · show scanF (pcs 10 (⟨c2.toArray⟩ : ByteArray).data.toList) _ = _
          rw [back_list]
          exact HG.out
        · show (⟨c2.toArray⟩ : ByteArray).size < tx.size
          rw [back_size]
          exact hg2
end Go.Proofs.YtccoobcggbbciadDoor
