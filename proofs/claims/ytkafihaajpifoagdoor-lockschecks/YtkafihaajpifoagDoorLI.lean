import Derived.Test.YtkafihaajpifoagDoorLG
import Derived.Laws.BytesString
namespace Go.Proofs.YtkafihaajpifoagDoor
open Go.ChangeShapes Go.WideShapes Go.ChangeAt Go.RowKit

theorem CheckActs_ends {w : World} {g : Nat} {c k : Value} {a : Act} (h : w.heap[g]? = some (.cells #[c, k] 25 (0, 0))) (h3 : a.tmps[2]?.getD undef = .pointer (some ⟨g, 0, none⟩)) :
    (results Tryd.f16 a.tmps).run Tryd.prog w = .ok (.agg #[c, k]) w := by
  obtain ⟨c1, f1, l1⟩ := cells_of (l := [_, _]) h
  have c10 := c1 0 _ rfl
  have c11 := c1 1 _ rfl
  simp [results, Tryd.results16, go_sem, h3, c10, c11]

/-- The locks that are held, as a text. -/
def sB (st : List Int) : ByteArray := ⟨(st.map (fun z => UInt8.ofNat z.toNat)).toArray⟩
theorem sB_size (st : List Int) : (sB st).size = st.length := by simp [sB, ByteArray.size]
theorem sB_at {st : List Int} (hs : Locks4 st) {k : Nat} {z : Int} (hk : st[k]? = some z) (h : k < (sB st).size) : (((sB st)[k]'h).toNat : Int) = z := by
  have e : (sB st)[k]'h = UInt8.ofNat z.toNat := by
    have h2 : k < st.length := (List.getElem?_eq_some_iff.1 hk).1
    have h3 : st[k] = z := (List.getElem?_eq_some_iff.1 hk).2
    show (sB st).data[k]'h = _
    simp [sB, h3]
  rw [e]
  obtain ⟨z0, z3⟩ := hs z (List.mem_of_getElem? hk)
  have : z.toNat < 256 := by omega
  simp [Nat.mod_eq_of_lt this]
  omega
theorem sB_push (st : List Int) (n : Int) : sB st ++ ⟨#[UInt8.ofNat n.toNat]⟩ = sB (st ++ [n]) := by
  apply ByteArray.ext
  simp [sB]

theorem toList_ne (bs : ByteArray) : ∀ (m i : Nat) (r : List UInt8), bs.size - i ≤ m → r ≠ [] → ByteArray.toList.loop bs i r ≠ []
  | 0, i, r, hm, hr => by
    unfold ByteArray.toList.loop
    rw [if_neg (by omega)]
    simpa using hr
  | m + 1, i, r, hm, hr => by
    unfold ByteArray.toList.loop
    split
    · exact toList_ne bs m (i + 1) _ (by omega) (by simp)
    · simpa using hr
theorem sB_full {st : List Int} (h : st ≠ []) : (sB st).toList.isEmpty = false := by
  have hp := List.length_pos_iff.2 h
  have hs := sB_size st
  have : (sB st).toList ≠ [] := by
    unfold ByteArray.toList ByteArray.toList.loop
    rw [if_pos (by omega)]
    exact toList_ne _ _ _ _ (Nat.le_refl _) (by simp)
  simpa using this

set_option maxRecDepth 20000 in
theorem CheckActs_many (w : World) (n c : Nat) (ad : Option Addr) (h : 200 < n) : Calls Tryd.prog 16 #[.slice ad n c] w fun r w' => r = .returned (.agg #[.int .i64 2, .int .i64 0]) ∧ Below w.heap.size w w' := by
  have hw : (200 : Int) < (n : Int) := by omega
  have H0 : Hid (FB w (w.alloc (.cells #[.int .i64 0, .int .i64 0] 25)) w.heap.size) := FB.start w
  go_enter Tryd.func16, Tryd.ntmps16
  go_wp2_with (go_at_call 6; refine (F_any _ _ _).mono ?_; rintro r w1 ⟨rfl, hb1⟩; have H1 : Hid (FB w w1 w.heap.size) := H0.out.grow hb1; obtain ⟨r10, r11, f10, f11, rl⟩ := H1.out.res2; clear hb1)
  refine bodyPost_ret (CheckActs_ends (set_two H1.out.res) rfl) rfl ?_
  exact ⟨rfl, H1.out.set _ _⟩

set_option maxRecDepth 20000 in
set_option maxHeartbeats 4000000 in
theorem CheckActs_few (w : World) (l : List Ac) (ad : Option Addr) (c : Nat) (h8 : l.length ≤ 200) (hv : RowSl Ac.vals w l (.slice ad l.length c)) : Calls Tryd.prog 16 #[.slice ad l.length c] w fun r w' => r = .returned (.agg #[.int .i64 (chkA l [] 0).1, .int .i64 (chkA l [] 0).2]) ∧ Below w.heap.size w w' := by
  have hw : ¬ ((200 : Int) < (l.length : Int)) := by omega
  obtain ⟨_, _, e, -, hcap, hrow⟩ := hv
  cases e
  have HR : Hid (l = [] ∨ ∃ b o, ad = some ⟨b, o, none⟩ ∧ ∀ q u, (l.flatMap Ac.vals)[q]? = some u → w.cell? ⟨b, o + q, none⟩ = some u) := hrow
  clear hrow
  go_enter Tryd.func16, Tryd.ntmps16
  go_wp2_with fail
  go_loopw [3, 13] (fun vs i wr => ∃ (j : Nat) (st : List Int), j ≤ l.length ∧ vs = .string (sB st) ∧ i = .int .i64 j ∧ st.length ≤ j ∧ Locks4 st ∧ FB w wr w.heap.size ∧ chkA (l.drop j) st j = chkA l [] 0) (fun _ i _ => l.length - (intOf i).toNat)
  case atStart => exact ⟨0, [], Nat.zero_le _, rfl, rfl, Nat.zero_le _, fun z hz => by simp at hz, FB.start w, rfl⟩
  case round =>
    obtain ⟨j, st, hj, rfl, rfl, hst, h4, hb, hf⟩ := hrel
    have HB : Hid (FB w wr w.heap.size ∧ Locks4 st) := ⟨hb, h4⟩
    by_cases hlt : j < l.length
    · obtain ⟨x, hx, hd⟩ := drop_at hlt
      rw [hd, chkA] at hf
      rcases HR.out with h | ⟨b, o, rfl, hrow⟩
      · rw [h] at hlt; simp at hlt
      have ha := ac_at (fun q u hq => below_cell hb.bel (hrow q u hq)) hx
      obtain ⟨c0, c1⟩ := ha
      have lb : b < wr.heap.size := World.block_lt_of_cell? _ _ c0
      obtain ⟨r10, r11, f10, f11, rl⟩ := hb.res2
      have hji : (j : Int) < (l.length : Int) := by omega
      obtain ⟨d, n⟩ := x
      dsimp only at c0 c1
      have HA : Hid (∀ W, Below wr.heap.size wr W → FB w W w.heap.size) := fun W hb' => hb.grow hb'
      have H0 := below_new wr (.cells #[.int .i64 d, .int .i64 n] 48)
      clear hb hrow h4 hx hd
      by_cases h1 : d = 1
      · subst h1
        by_cases hw : within n 1 1000 = true
        · have e : doC st ⟨1, n⟩ = 0 := by simp [doC, hw]
          rw [if_pos e] at hf
          have HF : Hid (chkA (l.drop (j + 1)) (doS st ⟨1, n⟩) (j + 1) = chkA l [] 0) := hf
          simp [within] at hw
          have w1 : ¬ (n < 1) := by omega
          have w2 : ¬ (1000 < n) := by omega
          clear hf
          go_wp2_with fail
          exact ⟨⟨j + 1, st, by omega, rfl, by simp, by omega, HB.out.2, HA.out _ H0, HF.out⟩, by simp [intOf]; omega⟩
        · have e : doC st ⟨1, n⟩ = 3 := by simp [doC, hw]
          rw [if_neg (by omega), e] at hf
          have HF : Hid ((3, (j : Int)) = chkA l [] 0) := hf
          have hn : n < 1 ∨ 1000 < n := by simp [within] at hw; omega
          clear hf
          by_cases hn1 : n < 1
          · have d1 : decide (n < 1) = true := by simpa using hn1
            go_wp2_with (go_at_call 6; refine (F_any _ _ _).mono ?_; rintro r w1 ⟨rfl, hb1⟩; have H1 : Hid (FB w w1 w.heap.size) := HA.out _ (below_seq H0 hb1); obtain ⟨s10, s11, t10, t11, sl⟩ := H1.out.res2; clear hb1)
            refine bodyPost_ret (CheckActs_ends (set_two H1.out.res) rfl) rfl ?_
            exact ⟨by rw [← HF.out], H1.out.set _ _⟩
          · have hn2 : 1000 < n := by omega
            go_wp2_with (go_at_call 6; refine (F_any _ _ _).mono ?_; rintro r w1 ⟨rfl, hb1⟩; have H1 : Hid (FB w w1 w.heap.size) := HA.out _ (below_seq H0 hb1); obtain ⟨s10, s11, t10, t11, sl⟩ := H1.out.res2; clear hb1)
            refine bodyPost_ret (CheckActs_ends (set_two H1.out.res) rfl) rfl ?_
            exact ⟨by rw [← HF.out], H1.out.set _ _⟩
      by_cases h2 : d = 2
      · subst h2
        by_cases hw : within n 0 3 = true
        · have hw2 := hw
          simp [within] at hw2
          have w1 : ¬ (n < 0) := by omega
          have w2 : ¬ (3 < n) := by omega
          have HF0 : Hid ((if doC st ⟨2, n⟩ = 0 then chkA (l.drop (j + 1)) (doS st ⟨2, n⟩) (j + 1) else (doC st ⟨2, n⟩, (j : Int))) = chkA l [] 0) := hf
          have hsz := sB_size st
          have HZ : Hid ((sB st).size = st.length) := hsz
          clear hf hsz
          go_wp2_with fail
          obtain ⟨wo, hwo⟩ : ∃ wo, wo = wr := ⟨_, rfl⟩
          subst hwo
          go_loopw [6] (fun v wl => ∃ k : Nat, k ≤ st.length ∧ v = .int .i64 k ∧ Below (wo.heap.size + 1) (wo.alloc (.cells #[.int .i64 2, .int .i64 n] 48)) wl ∧ ∀ i, i < k → st[i]? ≠ some n) (fun v _ => st.length - (intOf v).toNat)
          case atStart => exact ⟨0, Nat.zero_le _, rfl, Below.refl _ _, fun i hi => by omega⟩
          case round =>
            obtain ⟨k, hk, rfl, hbl, hno⟩ := hrel
            have k1 : wr.cell? ⟨wo.heap.size, 1, none⟩ = some (.int .i64 n) := (hbl.cell (by show wo.heap.size < wo.heap.size + 1; omega)).trans (by go_simp)
            have kl : wo.heap.size < wr.heap.size := World.block_lt_of_cell? _ _ k1
            have HL : Hid (Below (wo.heap.size + 1) (wo.alloc (.cells #[.int .i64 2, .int .i64 n] 48)) wr ∧ Below wo.heap.size wo wr ∧ ∀ i, i < k → st[i]? ≠ some n) := ⟨hbl, below_seq H0 (hbl.mono (by simp)), hno⟩
            clear hbl hno
            by_cases hkl : k < st.length
            · obtain ⟨z, hz, -⟩ := drop_at hkl
              have hks : k < (sB st).size := by rw [HZ.out]; exact hkl
              have hki : (k : Int) < ((sB st).size : Int) := by omega
              have hat := sB_at HB.out.2 hz hks
              have HT : Hid (st[k]? = some z) := hz
              clear hz
              by_cases hzn : z = n
              · subst hzn
                have hmem : z ∈ st := List.mem_of_getElem? HT.out
                have e : doC st ⟨2, z⟩ = 5 := by simp [doC, hw, hmem]
                have HF : Hid ((5, (j : Int)) = chkA l [] 0) := by
                  have := HF0.out
                  rw [if_neg (by omega), e] at this
                  exact this
                have hq : (wrap64 (((sB st)[k]'hks).toNat : Int) == z) = true := by rw [hat]; simp [wrap64]; omega
                clear hat
                go_wp2_with fail
                go_quiet (fail)
                go_wp2_with (go_at_call 6; refine (F_any _ _ _).mono ?_; rintro r w1 ⟨rfl, hb1⟩; have H1 : Hid (FB w w1 w.heap.size) := HA.out _ (below_seq (below_seq HL.out.2.1 below_drewN') hb1); obtain ⟨s10, s11, t10, t11, sl⟩ := H1.out.res2; clear hb1)
                refine bodyPost_ret (CheckActs_ends (set_two H1.out.res) rfl) rfl ?_
                exact ⟨by rw [← HF.out], H1.out.set _ _⟩
              · have hz3 := HB.out.2 z (List.mem_of_getElem? HT.out)
                have hq : (wrap64 (((sB st)[k]'hks).toNat : Int) == n) = false := by rw [hat]; simp [wrap64]; omega
                clear hat
                go_wp2_with fail
                go_quiet (fail)
                go_wp2_with fail
                refine ⟨⟨k + 1, by omega, by simp, HL.out.1.trans (below_drewN'.mono (by omega)), fun i hi => ?_⟩, by simp [intOf]; omega⟩
                by_cases hik : i = k
                · subst hik
                  rw [HT.out]
                  exact fun e => hzn (Option.some.inj e)
                · exact HL.out.2.2 i (by omega)
            · have hke : k = st.length := by omega
              subst hke
              have hmem : n ∉ st := fun hm => by
                obtain ⟨i, hi, e⟩ := List.getElem_of_mem hm
                exact HL.out.2.2 i hi (by rw [List.getElem?_eq_getElem hi, e])
              have e : doC st ⟨2, n⟩ = 0 := by simp [doC, hw, hmem]
              have HF : Hid (chkA (l.drop (j + 1)) (st ++ [n]) (j + 1) = chkA l [] 0) := by
                have := HF0.out
                rw [if_pos e] at this
                exact this
              have hkz : ¬ ((st.length : Int) < ((sB st).size : Int)) := by have := HZ.out; omega
              have hcv : (convert 65 9 (.slice (some ⟨wr.heap.size, 0, none⟩) 1 1)).run Tryd.prog (wr.alloc (.cells #[.int .u8 n] 5)) = .ok (.string ⟨#[UInt8.ofNat n.toNat]⟩) (wr.alloc (.cells #[.int .u8 n] 5)) := by
                rw [run_convert_bytes_string _ 65 9 5 _ _ _ Tryd.underlying65 Tryd.underlying5 Tryd.underlying9]
                exact run_bytesToString _ _ 1 1 [n] (by go_simp)
              clear hk hkl
              go_wp2_with fail
              refine ⟨⟨j + 1, st ++ [n], by omega, by rw [sB_push], by simp, by simp; omega, fun z hz => ?_, HA.out _ (below_seq HL.out.2.1 (below_new _ _)), HF.out⟩, by simp [intOf]; omega⟩
              rcases List.mem_append.1 hz with hz | hz
              · exact HB.out.2 z hz
              · simp at hz; omega
        · have e : doC st ⟨2, n⟩ = 3 := by simp [doC, hw]
          rw [if_neg (by omega), e] at hf
          have HF : Hid ((3, (j : Int)) = chkA l [] 0) := hf
          have hn : n < 0 ∨ 3 < n := by simp [within] at hw; omega
          clear hf
          by_cases hn1 : n < 0
          · have d1 : decide (n < 0) = true := by simpa using hn1
            go_wp2_with (go_at_call 6; refine (F_any _ _ _).mono ?_; rintro r w1 ⟨rfl, hb1⟩; have H1 : Hid (FB w w1 w.heap.size) := HA.out _ (below_seq H0 hb1); obtain ⟨s10, s11, t10, t11, sl⟩ := H1.out.res2; clear hb1)
            refine bodyPost_ret (CheckActs_ends (set_two H1.out.res) rfl) rfl ?_
            exact ⟨by rw [← HF.out], H1.out.set _ _⟩
          · have hn2 : 3 < n := by omega
            go_wp2_with (go_at_call 6; refine (F_any _ _ _).mono ?_; rintro r w1 ⟨rfl, hb1⟩; have H1 : Hid (FB w w1 w.heap.size) := HA.out _ (below_seq H0 hb1); obtain ⟨s10, s11, t10, t11, sl⟩ := H1.out.res2; clear hb1)
            refine bodyPost_ret (CheckActs_ends (set_two H1.out.res) rfl) rfl ?_
            exact ⟨by rw [← HF.out], H1.out.set _ _⟩
      by_cases h3 : d = 3
      · subst h3
        have HZ : Hid ((sB st).size = st.length) := sB_size st
        by_cases hnil : st = []
        · subst hnil
          have e : doC [] ⟨3, n⟩ = 10 := by simp [doC]
          rw [if_neg (by omega), e] at hf
          have HF : Hid ((10, (j : Int)) = chkA l [] 0) := hf
          clear hf
          rw [show sB [] = ⟨#[]⟩ from rfl]
          go_wp2_with fail
          go_quiet (fail)
          go_wp2_with (go_at_call 6; refine (F_any _ _ _).mono ?_; rintro r w1 ⟨rfl, hb1⟩; have H1 : Hid (FB w w1 w.heap.size) := HA.out _ (below_seq (below_seq H0 below_drewN') hb1); obtain ⟨s10, s11, t10, t11, sl⟩ := H1.out.res2; clear hb1)
          refine bodyPost_ret (CheckActs_ends (set_two H1.out.res) rfl) rfl ?_
          exact ⟨by rw [← HF.out], H1.out.set _ _⟩
        · obtain ⟨ys, z, rfl⟩ : ∃ ys z, st = ys ++ [z] := ⟨st.dropLast, st.getLast hnil, (List.dropLast_concat_getLast hnil).symm⟩
          have he := sB_full hnil
          have hz : (ys ++ [z])[ys.length]? = some z := by simp
          have hks : ys.length < (sB (ys ++ [z])).size := by rw [HZ.out]; simp
          have hat := sB_at HB.out.2 hz hks
          have hz3 := HB.out.2 z (List.mem_of_getElem? hz)
          have hs1 : (sB (ys ++ [z])).size = ys.length + 1 := by rw [HZ.out]; simp
          have HP : Hid ((sB (ys ++ [z])).extract 0 ys.length = sB ys) := by
            apply ByteArray.ext
            simp [sB]
          generalize sB (ys ++ [z]) = S at *
          have p1 : (S.size : Int) - 1 = (ys.length : Int) := by omega
          have hks' : S.size - 1 < S.size := by omega
          have hks2 : (S.size : Int) - 1 < (S.size : Int) := by omega
          have hks3 : 0 ≤ (S.size : Int) - 1 := by omega
          have hst' : (ys ++ [z]).length = ys.length + 1 := by simp
          rw [hst'] at hst
          have hks4 : (S.size : Int) ≤ 200 := by omega
          have hidx : ∀ W, (Instr.index 9 (.string S) (.int .i64 ((S.size : Int) - 1))).run Tryd.prog W = .ok (.int .u8 z) W := fun W => by
            rw [run_index_string W 9 S .i64 _ Tryd.underlying9, dif_pos ⟨hks3, hks2⟩, ← hat]
            have e9 : ((S.size : Int) - 1).toNat = ys.length := by omega
            simp only [e9]
          have hslc : ∀ W, (Instr.slice 9 (.string S) none (some (.int .i64 ((S.size : Int) - 1))) none).run Tryd.prog W = .ok (.string (sB ys)) W := fun W => by
            have e9 : ((S.size : Int) - 1).toNat = ys.length := by omega
            have := run_slice_string_h (P := Tryd.prog) (w := W) (t := 9) (s := S) Tryd.underlying9 .i64 ((S.size : Int) - 1) hks3 (by omega)
            rw [e9, HP.out] at this
            exact this
          have hwz : wrap64 z = z := by unfold wrap64; omega
          clear hz
          by_cases hzn : z = n
          · subst hzn
            have e : doC (ys ++ [z]) ⟨3, z⟩ = 0 := by simp [doC]
            have ed : doS (ys ++ [z]) ⟨3, z⟩ = ys := by simp [doS]
            rw [if_pos e, ed] at hf
            have HF : Hid (chkA (l.drop (j + 1)) ys (j + 1) = chkA l [] 0) := hf
            have hS1 : Hid (S.size = ys.length + 1 ∧ (S.size : Int) - 1 = (ys.length : Int)) := ⟨hs1, p1⟩
            clear hf hat hs1 hks p1 hks' hks2 hks3
            go_wp2_with fail
            go_quiet (fail)
            go_wp2_with fail
            exact ⟨⟨j + 1, ys, by omega, rfl, by simp, by omega, fun q hq => HB.out.2 q (List.mem_append_left _ hq), HA.out _ (below_seq H0 below_drewN'), HF.out⟩, by simp [intOf]; omega⟩
          · have hzb : (z == n) = false := by simpa using hzn
            have hzb' : (z != n) = true := by simpa using hzn
            have e : doC (ys ++ [z]) ⟨3, n⟩ = 10 := by simp [doC, hzn]
            rw [if_neg (by omega), e] at hf
            have HF : Hid ((10, (j : Int)) = chkA l [] 0) := hf
            have hS1 : Hid (S.size = ys.length + 1 ∧ (S.size : Int) - 1 = (ys.length : Int)) := ⟨hs1, p1⟩
            clear hf hat hs1 hks p1 hks' hks2 hks3
            go_wp2_with fail
            go_quiet (fail)
            go_wp2_with (go_at_call 6; refine (F_any _ _ _).mono ?_; rintro r w1 ⟨rfl, hb1⟩; have H1 : Hid (FB w w1 w.heap.size) := HA.out _ (below_seq (below_seq H0 below_drewN') hb1); obtain ⟨s10, s11, t10, t11, sl⟩ := H1.out.res2; clear hb1)
            refine bodyPost_ret (CheckActs_ends (set_two H1.out.res) rfl) rfl ?_
            exact ⟨by rw [← HF.out], H1.out.set _ _⟩
      · have b1 : (d == 1) = false := by simpa using h1
        have b2 : (d == 2) = false := by simpa using h2
        have b3 : (d == 3) = false := by simpa using h3
        have e : doC st ⟨d, n⟩ = 6 := by simp [doC, h1, h2, h3]
        rw [if_neg (by omega), e] at hf
        have HF : Hid ((6, (j : Int)) = chkA l [] 0) := hf
        clear hf
        go_wp2_with (go_at_call 6; refine (F_any _ _ _).mono ?_; rintro r w1 ⟨rfl, hb1⟩; have H1 : Hid (FB w w1 w.heap.size) := HA.out _ (below_seq H0 hb1); obtain ⟨s10, s11, t10, t11, sl⟩ := H1.out.res2; clear hb1)
        refine bodyPost_ret (CheckActs_ends (set_two H1.out.res) rfl) rfl ?_
        exact ⟨by rw [← HF.out], H1.out.set _ _⟩
    · have hje : j = l.length := by omega
      subst hje
      rw [List.drop_length, chkA] at hf
      obtain ⟨r10, r11, f10, f11, rl⟩ := hb.res2
      by_cases hnil : st = []
      · subst hnil
        have HF : Hid ((0, 0) = chkA l [] 0) := hf
        clear hf hb
        rw [show sB [] = ⟨#[]⟩ from rfl]
        go_wp2_with fail
        refine bodyPost_ret (CheckActs_ends (set_two HB.out.1.res) rfl) rfl ?_
        exact ⟨by rw [← HF.out], HB.out.1.set _ _⟩
      · rw [if_neg hnil] at hf
        have HF : Hid ((10, (l.length : Int)) = chkA l [] 0) := hf
        have he := sB_full hnil
        clear hf hb
        go_wp2_with (go_at_call 6; refine (F_any _ _ _).mono ?_; rintro r w1 ⟨rfl, hb1⟩; have H1 : Hid (FB w w1 w.heap.size) := HB.out.1.grow hb1; obtain ⟨s10, s11, t10, t11, sl⟩ := H1.out.res2; clear hb1)
        refine bodyPost_ret (CheckActs_ends (set_two H1.out.res) rfl) rfl ?_
        exact ⟨by rw [← HF.out], H1.out.set _ _⟩

/-- punctualref.CheckActs. -/
theorem CheckActs_any (w : World) (l : List Ac) (v : Value) (hv : RowSl Ac.vals w l v) : Calls Tryd.prog 16 #[v] w fun r w' => r = .returned (.agg #[.int .i64 (chkActs l).1, .int .i64 (chkActs l).2]) ∧ Below w.heap.size w w' := by
  obtain ⟨ad, c, rfl⟩ := hv.len
  unfold chkActs
  by_cases h : 200 < l.length
  · rw [if_pos h]
    exact CheckActs_many w l.length c ad h
  · rw [if_neg h]
    exact CheckActs_few w l ad c (by omega) hv
end Go.Proofs.YtkafihaajpifoagDoor
