import Derived.Test.YtccoobcggbbciakDoorKU0
import Derived.Test.YtccoobcggbbciakDoorKW0
namespace Go.Proofs.YtccoobcggbbciakDoor
open Go.ChangeShapes Go.WideShapes Go.ChangeAt Go.RowKit

theorem candE {WS : List (List UInt8)} {ns : List Int} {kk : Int} (h1 : nsAt WS WS.length = ns) (h2 : kAt WS WS.length = kk) : candW WS = (if ns.length = 4 then ⟨ns.getD 0 0, kk, ns.getD 1 0, ns.getD 2 0, ns.getD 3 0⟩ else if ns.length = 3 then ⟨ns.getD 0 0, kk, ns.getD 1 0, 0, ns.getD 2 0⟩ else ⟨0, kk, 0, 0, 0⟩, ns.length) := by
  rw [candW_at, h1, h2]
  match ns with
  | [] => rfl
  | [a] => rfl
  | [a, b] => rfl
  | [a, b, c] => rfl
  | [a, b, c, d] => rfl
  | a :: b :: c :: d :: f :: r =>
    rw [if_neg (by simp), if_neg (by simp)]

theorem three_of {α : Type} {l : List α} (h : l.length = 3) : ∃ a b c, l = [a, b, c] := by
  match l, h with
  | [a, b, c], _ => exact ⟨_, _, _, rfl⟩
theorem four_of {α : Type} {l : List α} (h : l.length = 4) : ∃ a b c d, l = [a, b, c, d] := by
  match l, h with
  | [a, b, c, d], _ => exact ⟨_, _, _, _, rfl⟩

theorem IW.num3 {w W : World} {g4 gA gE gn c : Nat} {LL ws : List ByteArray} {acc : List Ev} {sv : Value} {e : Ev} {n0 n1 n2 : Int} (h : IW w W g4 LL acc sv gA ws gE e (.slice (some ⟨gn, 0, none⟩) 3 c) [n0, n1, n2]) : W.cell? ⟨gn, 0, none⟩ = some (.int .i64 n0) ∧ W.cell? ⟨gn, 1, none⟩ = some (.int .i64 n1) ∧ W.cell? ⟨gn, 2, none⟩ = some (.int .i64 n2) := by
  obtain ⟨g, h1, -, -, h2⟩ := IW.num (ns := [n0, n1, n2]) h (by simp)
  cases h1
  exact ⟨h2 0 _ rfl, h2 1 _ rfl, h2 2 _ rfl⟩

theorem IW.num4 {w W : World} {g4 gA gE gn c : Nat} {LL ws : List ByteArray} {acc : List Ev} {sv : Value} {e : Ev} {n0 n1 n2 n3 : Int} (h : IW w W g4 LL acc sv gA ws gE e (.slice (some ⟨gn, 0, none⟩) 4 c) [n0, n1, n2, n3]) : W.cell? ⟨gn, 0, none⟩ = some (.int .i64 n0) ∧ W.cell? ⟨gn, 1, none⟩ = some (.int .i64 n1) ∧ W.cell? ⟨gn, 2, none⟩ = some (.int .i64 n2) ∧ W.cell? ⟨gn, 3, none⟩ = some (.int .i64 n3) := by
  obtain ⟨g, h1, -, -, h2⟩ := IW.num (ns := [n0, n1, n2, n3]) h (by simp)
  cases h1
  exact ⟨h2 0 _ rfl, h2 1 _ rfl, h2 2 _ rfl, h2 3 _ rfl⟩

theorem kind_none2 {b : ByteArray} (h : ∀ (p : Nat) (c : ByteArray), 0 < p → p < 7 → wordsB[p]? = some c → c ≠ b) : kindE b.data.toList = 0 := by
  have key : ∀ (k : Nat) (c : ByteArray), 0 < k → k < 7 → wordsB[k]? = some c → ¬ b.data.toList = c.data.toList := fun k c h0 hk hc e => h k c h0 hk hc (bytes_same e.symm)
  unfold kindE
  rw [if_neg (key 1 _ (by omega) (by omega) rfl), if_neg (key 2 _ (by omega) (by omega) rfl), if_neg (key 3 _ (by omega) (by omega) rfl), if_neg (key 4 _ (by omega) (by omega) rfl), if_neg (key 5 _ (by omega) (by omega) rfl), if_neg (key 6 _ (by omega) (by omega) rfl)]

set_option maxRecDepth 20000 in
set_option maxHeartbeats 16000000 in
theorem ReadLog_any (w : World) (s : ByteArray) (hs : s.size ≤ 99000) (hG : Gr w) : Calls Tryd.prog 9 #[.string s] w (ReadPost w s.data.toList) := by
  have H0 : Hid (FB w (w.alloc (.cells #[.int .i64 0, .int .i64 0] 27)) w.heap.size) := FB.start w
  have HG : Hid (Gr w) := hG
  obtain ⟨m, hm⟩ := hG.mx
  have hs1 : (w.alloc (.cells #[.int .i64 0, .int .i64 0] 27)).heap.size = w.heap.size + 1 := by simp
  have HSp := SplitAfter_any (w.alloc (.cells #[.int .i64 0, .int .i64 0] 27)) s m (by omega) (below_cell (below_new _ _) hm)
  clear hG hm
  rw [hs1] at HSp
  have hA := afters_are s 10
  have hLl : (Lib.splitB ⟨#[10]⟩ 1 (Lib.countB s ⟨#[10]⟩) s).length = Lib.countB s ⟨#[10]⟩ + 1 := Lib.splitB_all ⟨#[10]⟩ (by decide) 1 _ s rfl
  rw [← hLl] at HSp
  generalize Lib.splitB ⟨#[10]⟩ 1 (Lib.countB s ⟨#[10]⟩) s = LL at *
  obtain ⟨ps, hps⟩ : ∃ ps, pcs 10 s.data.toList = ps := ⟨_, rfl⟩
  rw [hps] at hA
  have HPS : Hid (pcs 10 s.data.toList = ps ∧ LL.map (·.data.toList) = ps.dropLast.map (· ++ [10]) ++ [ps.getLastD []] ∧ (∀ p ∈ ps, (10 : UInt8) ∉ p) ∧ (∀ p ∈ ps, p.length ≤ s.size)) := ⟨hps, hA, fun p hp => pcs_mem s.data.toList p (by rw [hps]; exact hp), fun p hp => by have := pcs_len (c := 10) s.data.toList p (by rw [hps]; exact hp); rw [size_list] at this; exact this⟩
  have h3 : ps ≠ [] := fun e => pcsS_ne (c := 10) (sv := []) s.data.toList (by unfold pcs at hps; rw [hps, e])
  have h4 : ps.length ≠ 0 := fun e => h3 (List.eq_nil_of_length_eq_zero e)
  have hpl : LL.length = ps.length := by
    have h1 := congrArg List.length hA
    simp at h1
    omega
  have hp1 : 1 ≤ ps.length ∧ ps.length ≤ 99001 := by
    have h5 := pcs_count (c := 10) s.data.toList
    rw [hps, size_list] at h5
    omega
  clear hA hps hLl h3 h4
  obtain ⟨lb9, p9, hl9⟩ := line_at HPS.out.2.1 (k := ps.length - 1) (by omega)
  have hcell9 : (LL.map Value.string)[ps.length - 1]? = some (.string lb9) := by rw [List.getElem?_map, hl9.1]; rfl
  have hlast9 : lb9.data.toList = ps.getLastD [] := by
    obtain ⟨-, -, ⟨-, -, h⟩ | ⟨h1, -, h2, -⟩⟩ := hl9
    · exact absurd (List.drop_eq_nil_of_le (by omega)) h
    · rw [h1, h2]
  have hemp : lb9.toList.isEmpty = decide (ps.getLastD [] = []) := by
    rw [ByteArray.toList_eq, hlast9]
    cases ps.getLastD [] <;> simp
  have HEm : Hid (lb9.toList.isEmpty = decide (ps.getLastD [] = [])) := hemp
  clear hl9 hemp
  go_enter Tryd.func9, Tryd.ntmps9
  go_upto_region 2 with (go_at_call 24; refine HSp.mono ?_; rintro r w1 ⟨rfl, hw1⟩; have H1 : Hid (RSW w w1 (w.heap.size + 1) LL [] (.slice none 0 0)) := (by
      have hbx : Below (w.alloc (.cells #[.int .i64 0, .int .i64 0] 27)).heap.size (w.alloc (.cells #[.int .i64 0, .int .i64 0] 27)) w1 := (by rw [hw1]; exact below_new _ _)
      exact ⟨TO.start (H0.out.grow hbx), by rw [hw1, ← hs1]; exact heap_alloc_new _ _⟩); clear hw1 HSp)
  clear hs1
  generalize w.heap.size + 1 = g4 at *
  have c9 := (cells_of H1.out.ll).1 _ _ hcell9
  have l9 : g4 < w1.heap.size := (Array.getElem?_eq_some_iff.1 H1.out.ll).1
  have q9 : IntKind.i64.wrap ((LL.length : Int) - 1) = ((ps.length - 1 : Nat) : Int) := by rw [hpl, IntKind.wrap_i64]; omega
  have i9 : ((ps.length - 1 : Nat) : Int) < (LL.length : Int) := by omega
  obtain ⟨nL, hnL⟩ : ∃ nL : Nat, (if ps.getLastD [] = [] then ps.length - 1 else ps.length) = nL := ⟨_, rfl⟩
  go_upto_if 26 with fail
  generalize lb9.toList.isEmpty = eb at *
  go_cut [4] from 20 to 31 (fun v W => v = .slice (some ⟨g4, 0, none⟩) nL ps.length ∧ W = w1)
  case first =>
    by_cases hl0 : ps.getLastD [] = []
    · rw [if_pos hl0] at hnL
      subst hnL
      have hem2 : eb = true := HEm.out.trans (decide_eq_true hl0)
      subst hem2
      clear HEm hl0
      have j9 : ((ps.length - 1 : Nat) : Int) ≤ (ps.length : Int) := by omega
      have j8 : ps.length - 1 ≤ ps.length := by omega
      go_wp2_with fail
      go_meet
      case rel => exact ⟨rfl, rfl⟩
    · rw [if_neg hl0] at hnL
      subst hnL
      have hem2 : eb = false := HEm.out.trans (decide_eq_false hl0)
      subst hem2
      clear HEm hl0
      go_wp2_with fail
      go_meet
      case rel => exact ⟨rfl, rfl⟩
  case rest =>
    obtain ⟨rfl, hwc⟩ := hcut
    have hwc' := hwc.symm
    subst hwc'
    clear hwc c9 l9 q9 i9 hcell9 hlast9 HEm
    have HNL : Hid ((if ps.getLastD [] = [] then ps.length - 1 else ps.length) = nL) := hnL
    have hnl2 : nL ≤ 99001 := by rw [← hnL]; split <;> omega
    clear hnL
    go_wp2_with fail
    go_loopw [5, 34] (fun sv iv wr => ∃ (k : Nat) (acc : List Ev), k < ps.length ∧ k ≤ nL ∧ iv = .int .i64 (k : Int) ∧ acc.length = k ∧ RSW w wr g4 LL acc sv ∧ Hid (scanE (ps.drop k) acc = scanE ps [])) (fun _ iv _ => nL - (intOf iv).toNat)
    case atStart => exact ⟨0, [], by omega, Nat.zero_le _, rfl, rfl, H1.out, (by rw [List.drop_zero] : scanE (ps.drop 0) [] = scanE ps [])⟩
    case round =>
      obtain ⟨k, acc, hk, hkn, rfl, hal, hrs, HQ⟩ := hrel
      have HR : Hid (RSW w wr g4 LL acc u5) := hrs
      have HAL : Hid (acc.length = k) := hal
      clear hrs H1 hal
      obtain ⟨sa, sc, rfl⟩ : ∃ sa sc, u5 = .slice sa acc.length sc := HR.out.tw.val
      by_cases hkl : k < nL
      rotate_left 1
      · have hke : nL = k := by omega
        have HE : Hid (readE s.data.toList = (acc, (0, 0))) := by
          have h9 : readE s.data.toList = (acc, (0, 0)) := by
            have hl := HNL.out
            unfold readE
            rw [HPS.out.1]
            by_cases hl0 : ps.getLastD [] = []
            · rw [if_pos hl0] at hl
              obtain ⟨lb, p, -, -, ⟨-, -, h5⟩ | ⟨-, h4, h5, -⟩⟩ := line_at HPS.out.2.1 hk
              · exact absurd (List.drop_eq_nil_of_le (by omega)) h5
              · rw [← HQ.out, h4, h5, hl0]
                rfl
            · rw [if_neg hl0] at hl
              omega
          exact h9
        subst hke
        obtain ⟨r10, r11, y10, y11, rl⟩ := HR.out.tw.fb.res2
        go_wp2_with fail
        refine bodyPost_ret (ReadLog_ends (set_two HR.out.tw.fb.res) rfl rfl) rfl ?_
        unfold ReadPost
        rw [HE.out]
        exact ⟨_, rfl, HR.out.tw.done _ _, HR.out.tw.fb.set _ _⟩
      obtain ⟨lb, p, hla⟩ := line_at HPS.out.2.1 hk
      have hlne : lb.data.toList ≠ [] := by
        obtain ⟨-, -, ⟨h1, -⟩ | ⟨h1, -, h2, h3⟩⟩ := hla
        · rw [h1]; simp
        · rw [h1, h2]
          intro e
          have hl := HNL.out
          rw [if_pos e] at hl
          omega
      have hpm := hla.2.1
      have hlbs : lb.size ≤ 99001 := by
        have h1 := HPS.out.2.2.2 p hpm
        rw [← size_list]
        obtain ⟨-, -, ⟨h2, -⟩ | ⟨h2, -⟩⟩ := hla
        · rw [h2]; simp; omega
        · rw [h2]; omega
      have HLA : Hid (LineAt ps LL k lb p ∧ (10 : UInt8) ∉ p ∧ lb.data.toList ≠ []) := ⟨hla, HPS.out.2.2.1 p hpm, hlne⟩
      have v9 := (cells_of HR.out.ll).1 k (.string lb) (by rw [List.getElem?_map, hla.1]; rfl)
      have l9 : g4 < wr.heap.size := (Array.getElem?_eq_some_iff.1 HR.out.ll).1
      have hki : (k : Int) < (nL : Int) := by omega
      have HF := Fields_any wr lb (by omega) (HG.out.below HR.out.tw.fb.bel)
      clear hla hpm hlne
      go_upto_region 10 with (go_at_call 25; refine HF.mono ?_; rintro r w3 ⟨gA, ws, rfl, H3⟩; clear HF)
      have H4 : Hid (IW w (w3.alloc (.cells #[.int .i64 0, .int .i64 0, .int .i64 0, .int .i64 0, .int .i64 0] 24)) g4 LL acc (.slice sa acc.length sc) gA ws w3.heap.size ⟨0, 0, 0, 0, 0⟩ (.slice none 0 0) []) := IW.start (HR.out.grow H3.out.2.2.1) H3.out.2.1
      obtain ⟨WS, hWS⟩ : ∃ WS, ws.map (·.data.toList) = WS := ⟨_, rfl⟩
      have HWs : Hid (ws.map (·.data.toList) = WS ∧ WS = Lib.fieldsD lb.data.toList) := ⟨hWS, hWS.symm.trans H3.out.2.2.2⟩
      clear hWS
      have hfm := fieldsD_max lb.data.toList
      rw [← HWs.out.2, ← HWs.out.1, List.length_map, size_list] at hfm
      have hwl : ws.length ≤ 99001 := by omega
      have HWz : Hid (∀ b ∈ ws, b.size ≤ 99001) := (fun b hb => by have := hfm.2 b.data.toList (List.mem_map_of_mem hb); rw [size_list] at this; omega : ∀ b ∈ ws, b.size ≤ 99001)
      clear hfm v9 l9 H3 HR
      generalize w3.alloc (.cells #[.int .i64 0, .int .i64 0, .int .i64 0, .int .i64 0, .int .i64 0] 24) = w4 at *
      generalize w3.heap.size = gE at *
      go_wp2_with fail
      go_loopw [10, 43] (fun nv iv wr => ∃ j : Nat, j ≤ ws.length ∧ iv = .int .i64 (j : Int) ∧ IW w wr g4 LL acc (.slice sa acc.length sc) gA ws gE ⟨0, kAt WS j, 0, 0, 0⟩ nv (nsAt WS j)) (fun _ iv _ => ws.length - (intOf iv).toNat)
      case atStart => exact ⟨0, Nat.zero_le _, rfl, by rw [(nsAt_zero WS).1, (nsAt_zero WS).2]; exact H4.out⟩
      case round =>
        obtain ⟨j, hj, rfl, hiw⟩ := hrel
        have HI : Hid (IW w wr g4 LL acc (.slice sa acc.length sc) gA ws gE ⟨0, kAt WS j, 0, 0, 0⟩ u10 (nsAt WS j)) := hiw
        clear hiw H4
        have lA : gA < wr.heap.size := (Array.getElem?_eq_some_iff.1 HI.out.wd).1
        by_cases hjl : j < ws.length
        · obtain ⟨b, hb⟩ : ∃ b, ws[j]? = some b := ⟨ws[j], List.getElem?_eq_getElem _⟩
          have hbw : WS[j]? = some b.data.toList := by rw [← HWs.out.1, List.getElem?_map, hb]; rfl
          have hbz := HWz.out b (List.mem_of_getElem? hb)
          have v9 := (cells_of HI.out.wd).1 j (.string b) (by rw [List.getElem?_map, hb]; rfl)
          have hji : (j : Int) < (ws.length : Int) := by omega
          have HBW : Hid (WS[j]? = some b.data.toList) := hbw
          clear hb hbw
          by_cases hj1 : j = 1
          · subst hj1
            obtain ⟨st1, st2, st3⟩ := nsAt_one HBW.out
            have H6 : Hid (IW w (wr.alloc (.cells #[.string ⟨#[]⟩, .string ⟨#[99, 111, 109, 101]⟩, .string ⟨#[114, 117, 110]⟩, .string ⟨#[100, 111, 110, 101]⟩, .string ⟨#[107, 105, 108, 108]⟩, .string ⟨#[108, 97, 116, 101]⟩, .string ⟨#[112, 117, 116]⟩] 9)) g4 LL acc (.slice sa acc.length sc) gA ws gE ⟨0, 0, 0, 0, 0⟩ u10 (nsAt WS 1) ∧ (wr.alloc (.cells #[.string ⟨#[]⟩, .string ⟨#[99, 111, 109, 101]⟩, .string ⟨#[114, 117, 110]⟩, .string ⟨#[100, 111, 110, 101]⟩, .string ⟨#[107, 105, 108, 108]⟩, .string ⟨#[108, 97, 116, 101]⟩, .string ⟨#[112, 117, 116]⟩] 9)).heap[wr.heap.size]? = some (.cells #[.string ⟨#[]⟩, .string ⟨#[99, 111, 109, 101]⟩, .string ⟨#[114, 117, 110]⟩, .string ⟨#[100, 111, 110, 101]⟩, .string ⟨#[107, 105, 108, 108]⟩, .string ⟨#[108, 97, 116, 101]⟩, .string ⟨#[112, 117, 116]⟩] 9 (0, 0)) ∧ gE < wr.heap.size) := ⟨by have := HI.out.grow (below_new wr (.cells #[.string ⟨#[]⟩, .string ⟨#[99, 111, 109, 101]⟩, .string ⟨#[114, 117, 110]⟩, .string ⟨#[100, 111, 110, 101]⟩, .string ⟨#[107, 105, 108, 108]⟩, .string ⟨#[108, 97, 116, 101]⟩, .string ⟨#[112, 117, 116]⟩] 9)); rw [st3] at this; exact this, heap_alloc_new _ _, HI.out.lt⟩
            have HSt : Hid (nsAt WS (1 + 1) = nsAt WS 1 ∧ kAt WS (1 + 1) = kindE b.data.toList) := ⟨st1, st2⟩
            clear st1 st2 st3
            go_wp2_with fail
            generalize wr.alloc (.cells #[.string ⟨#[]⟩, .string ⟨#[99, 111, 109, 101]⟩, .string ⟨#[114, 117, 110]⟩, .string ⟨#[100, 111, 110, 101]⟩, .string ⟨#[107, 105, 108, 108]⟩, .string ⟨#[108, 97, 116, 101]⟩, .string ⟨#[112, 117, 116]⟩] 9) = w6 at *
            generalize wr.heap.size = gw at *
            go_loopw [52] (fun iv wi => ∃ (i : Nat) (kv : Int), i ≤ 7 ∧ iv = .int .i64 (i : Int) ∧ IW w wi g4 LL acc (.slice sa acc.length sc) gA ws gE ⟨0, kv, 0, 0, 0⟩ u10 (nsAt WS 1) ∧ wi.heap[gw]? = some (.cells #[.string ⟨#[]⟩, .string ⟨#[99, 111, 109, 101]⟩, .string ⟨#[114, 117, 110]⟩, .string ⟨#[100, 111, 110, 101]⟩, .string ⟨#[107, 105, 108, 108]⟩, .string ⟨#[108, 97, 116, 101]⟩, .string ⟨#[112, 117, 116]⟩] 9 (0, 0)) ∧ ((kv = 0 ∧ ∀ (p : Nat) (c : ByteArray), 0 < p → p < i → wordsB[p]? = some c → c ≠ b) ∨ ∃ p : Nat, 0 < p ∧ wordsB[p]? = some b ∧ kv = (p : Int))) (fun iv _ => 7 - (intOf iv).toNat)
            case atStart => exact ⟨0, 0, by omega, rfl, H6.out.1, H6.out.2.1, .inl ⟨rfl, fun p c h0 hp => by omega⟩⟩
            case round =>
              obtain ⟨i, kv, hi, rfl, hiw, hwd, hor⟩ := hrel
              have HJ : Hid (IW w wr g4 LL acc (.slice sa acc.length sc) gA ws gE ⟨0, kv, 0, 0, 0⟩ u10 (nsAt WS 1) ∧ wr.heap[gw]? = some (.cells #[.string ⟨#[]⟩, .string ⟨#[99, 111, 109, 101]⟩, .string ⟨#[114, 117, 110]⟩, .string ⟨#[100, 111, 110, 101]⟩, .string ⟨#[107, 105, 108, 108]⟩, .string ⟨#[108, 97, 116, 101]⟩, .string ⟨#[112, 117, 116]⟩] 9 (0, 0)) ∧ ((kv = 0 ∧ ∀ (p : Nat) (c : ByteArray), 0 < p → p < i → wordsB[p]? = some c → c ≠ b) ∨ ∃ p : Nat, 0 < p ∧ wordsB[p]? = some b ∧ kv = (p : Int))) := ⟨hiw, hwd, hor⟩
              clear hiw hwd hor v9
              by_cases hi7 : i < 7
              · have hii : (i : Int) < 7 := by omega
                obtain ⟨c, hc⟩ : ∃ c, wordsB[i]? = some c := ⟨wordsB[i]'hi7, List.getElem?_eq_getElem _⟩
                have cw := words_cell HJ.out.2.1 hc
                have lw : gw < wr.heap.size := World.block_lt_of_cell? _ _ cw
                have HC : Hid (wordsB[i]? = some c) := hc
                clear hc
                by_cases e : c = b
                · by_cases hi0 : i = 0
                  · subst e hi0
                    go_wp2_with fail
                    exact ⟨⟨1, kv, by omega, rfl, HJ.out.1, HJ.out.2.1, HJ.out.2.2.elim (fun h => .inl ⟨h.1, fun p c' h0 hp => by omega⟩) .inr⟩, by simp [intOf]⟩
                  · have hi1 : (0 : Int) < (i : Int) := by omega
                    have hi2 : 0 < i := by omega
                    subst e
                    obtain ⟨f0, f1, f2, f3, f4, ff⟩ := HJ.out.1.five
                    have ff1 := ff 1
                    have fl := World.block_lt_of_cell? _ _ f1
                    clear ff
                    go_wp2_with fail
                    refine ⟨⟨i + 1, (i : Int), by omega, by simp, HJ.out.1.set 1 (i : Int) ⟨0, (i : Int), 0, 0, 0⟩ rfl, ?_, .inr ⟨i, hi2, HC.out, rfl⟩⟩, by simp [intOf]; omega⟩
                    rw [Below.heap_setCell _ _ _ _ (by show gw ≠ gE; have := H6.out.2.2; omega)]
                    exact HJ.out.2.1
                · have hne := str_ne e
                  go_wp2_with fail
                  refine ⟨⟨i + 1, kv, by omega, by simp, HJ.out.1, HJ.out.2.1, HJ.out.2.2.elim (fun h => .inl ⟨h.1, fun p c' h0 hp hc' => ?_⟩) .inr⟩, by simp [intOf]; omega⟩
                  by_cases hpi : p = i
                  · subst hpi
                    have := HC.out
                    rw [this] at hc'
                    cases hc'
                    exact e
                  · exact h.2 p c' h0 (by omega) hc'
              · have hie : i = 7 := by omega
                subst hie
                have hkv : kv = kindE b.data.toList := by
                  rcases HJ.out.2.2 with ⟨h1, h2⟩ | ⟨p, -, h2, h3⟩
                  · rw [h1, kind_none2 h2]
                  · rw [h3, kind_hit h2]
                have H7 : Hid (IW w wr g4 LL acc (.slice sa acc.length sc) gA ws gE ⟨0, kAt WS (1 + 1), 0, 0, 0⟩ u10 (nsAt WS (1 + 1))) := by
                  have h9 := HJ.out.1
                  rw [hkv, ← HSt.out.2, ← HSt.out.1] at h9
                  exact h9
                clear hkv
                go_wp2_with fail
                exact ⟨⟨1 + 1, by omega, rfl, H7.out⟩, by simp [intOf]; omega⟩
          · have hj1i : ¬ (j : Int) = 1 := by omega
            have hj1b : ((j : Int) == 1) = false := by simpa using hj1i
            have HSt : Hid (nsAt WS (j + 1) = nsAt WS j ++ [vOf b.data.toList] ∧ kAt WS (j + 1) = kAt WS j) := ⟨nsAt_step HBW.out hj1, kAt_step HBW.out hj1⟩
            have hnl := nsAt_len (ws := WS) (j := j)
            have HGr : Hid (Gr wr) := HG.out.below HI.out.rs.tw.fb.bel
            cases hat : atoF b.data.toList with
            | none =>
              have HA := Atoi_none (by omega) HGr.out hat
              have HV : Hid (vOf b.data.toList = -1152921504606846976) := (by unfold vOf; rw [hat]; rfl : vOf b.data.toList = -1152921504606846976)
              clear hat
              go_wp2_with (first
                | (go_at_call 26; refine HA.mono ?_; rintro r w6 ⟨nn, tt, pp, rfl, hb6⟩; obtain ⟨ad, cc, w7, hrun, h7⟩ := (HI.out.grow hb6).push (-1152921504606846976) (by omega); have H7 : Hid (IW w w7 g4 LL acc (.slice sa acc.length sc) gA ws gE ⟨0, kAt WS j, 0, 0, 0⟩ (.slice ad ((nsAt WS j).length + 1) cc) (nsAt WS j ++ [-1152921504606846976])) := h7; clear h7 hb6 HA)
                | (at_builtin; refine append_known rfl (.tmp 74) (.tmp 76) 38 rfl rfl rfl hrun ?_))
              exact ⟨⟨j + 1, by omega, by simp, by rw [HSt.out.1, HSt.out.2, HV.out]; exact H7.out⟩, by simp [intOf]; omega⟩
            | some n =>
              have HA := Atoi_some (by omega) HGr.out hat
              have HV : Hid (vOf b.data.toList = n) := (by unfold vOf; rw [hat]; rfl : vOf b.data.toList = n)
              clear hat
              go_wp2_with (first
                | (go_at_call 26; refine HA.mono ?_; rintro r w6 ⟨rfl, hb6⟩; obtain ⟨ad, cc, w7, hrun, h7⟩ := (HI.out.grow hb6).push n (by omega); have H7 : Hid (IW w w7 g4 LL acc (.slice sa acc.length sc) gA ws gE ⟨0, kAt WS j, 0, 0, 0⟩ (.slice ad ((nsAt WS j).length + 1) cc) (nsAt WS j ++ [n])) := h7; clear h7 hb6 HA)
                | (at_builtin; refine append_known rfl (.tmp 74) (.tmp 76) 38 rfl rfl rfl hrun ?_))
              exact ⟨⟨j + 1, by omega, by simp, by rw [HSt.out.1, HSt.out.2, HV.out]; exact H7.out⟩, by simp [intOf]; omega⟩
        · have hje : j = ws.length := by omega
          subst hje
          obtain ⟨ns, hns⟩ : ∃ ns, nsAt WS ws.length = ns := ⟨_, rfl⟩
          obtain ⟨kk, hkk⟩ : ∃ kk, kAt WS ws.length = kk := ⟨_, rfl⟩
          have hWl : WS.length = ws.length := by rw [← HWs.out.1, List.length_map]
          have HCE : Hid (candW WS = (if ns.length = 4 then ⟨ns.getD 0 0, kk, ns.getD 1 0, ns.getD 2 0, ns.getD 3 0⟩ else if ns.length = 3 then ⟨ns.getD 0 0, kk, ns.getD 1 0, 0, ns.getD 2 0⟩ else ⟨0, kk, 0, 0, 0⟩, ns.length)) := candE (by rw [hWl]; exact hns) (by rw [hWl]; exact hkk)
          have hnm : ns.length ≤ 99001 := by have := nsAt_len (ws := WS) (j := ws.length); rw [hns] at this; omega
          rw [hns, hkk] at HI
          clear hns hkk hWl
          obtain ⟨na, nc, rfl⟩ := HI.out.val
          obtain ⟨eA, heA⟩ : ∃ eA : Ev, (if ns.length = 3 then ⟨ns.getD 0 0, kk, ns.getD 1 0, 0, ns.getD 2 0⟩ else ⟨0, kk, 0, 0, 0⟩) = eA := ⟨_, rfl⟩
          go_upto_if 81 with fail
          go_cut [] from 79 to 93 (fun W => Hid (IW w W g4 LL acc (.slice sa acc.length sc) gA ws gE eA (.slice na ns.length nc) ns))
          case first =>
            by_cases h3 : ns.length = 3
            · rw [if_pos h3] at heA
              obtain ⟨n0, n1, n2, rfl⟩ := three_of h3
              obtain ⟨gn, rfl, hgn, hgl, -⟩ := HI.out.num (by simp)
              have HI2 : Hid (IW w wr g4 LL acc (.slice sa acc.length sc) gA ws gE ⟨0, kk, 0, 0, 0⟩ (.slice (some ⟨gn, 0, none⟩) 3 nc) [n0, n1, n2]) := HI.out
              simp only [List.length_cons, List.length_nil]
              have e33 : (((0 + 1 + 1 + 1 : Nat) : Int) == 3) = true := by decide
              go_upto_region 27 with fail
              refine wp_region_noPanic ?_
              refine wp_region_held_drew (S := fun w' => w'.cell? ⟨gn, 0, none⟩ = some (.int .i64 n0) ∧ w'.cell? ⟨gn, 1, none⟩ = some (.int .i64 n1) ∧ w'.cell? ⟨gn, 2, none⟩ = some (.int .i64 n2)) (by kernel_rfl) HI2.out.num3 (fun hHeld => ?_)
              have J0 : Hid (IW w wr.drew g4 LL acc (.slice sa acc.length sc) gA ws gE ⟨0, kk, 0, 0, 0⟩ (.slice (some ⟨gn, 0, none⟩) 3 nc) [n0, n1, n2]) := HI2.out.grow (Below.refl _ _).drew
              generalize hwz : wr.drew = x0 at *
              clear hwz
              refine take_at (i := 0) (n := 82) (v := ?_) rfl rfl (by kernel_rfl) (by kernel_rfl) (by kernel_rfl) (fun _ _ _ h => h) (Or.inl ⟨by rfl, ?_⟩) (by assumption) ?_
              rotate_left 1
              · intro wz hSw
                obtain ⟨s0, s1, s2⟩ := hSw
                first | (go_simp; done) | (go_simp; with_reducible rfl)
              simp only [List.set_cons_zero, List.set_cons_succ]
              refine take_at (i := 1) (n := 83) (v := ?_) rfl rfl (by kernel_rfl) (by kernel_rfl) (by kernel_rfl) (fun _ _ _ h => h) (Or.inl ⟨by rfl, ?_⟩) (by assumption) ?_
              rotate_left 1
              · intro wz hSw
                obtain ⟨s0, s1, s2⟩ := hSw
                first | (go_simp; done) | (go_simp; with_reducible rfl)
              simp only [List.set_cons_zero, List.set_cons_succ]
              refine take_at (i := 2) (n := 84) (v := ?_) rfl rfl (by kernel_rfl) (by kernel_rfl) (by kernel_rfl) (fun _ _ _ h => h) (Or.inl ⟨by rfl, ?_⟩) (by assumption) ?_
              rotate_left 1
              · intro wz hSw
                obtain ⟨s0, s1, s2⟩ := hSw
                first | (go_simp; done) | (go_simp; with_reducible rfl)
              simp only [List.set_cons_zero, List.set_cons_succ]
              refine take_at (i := 3) (n := 85) (v := ?_) rfl rfl (by kernel_rfl) (by kernel_rfl) (by kernel_rfl) (fun _ _ _ h => h) (Or.inl ⟨by rfl, ?_⟩) (by assumption) ?_
              rotate_left 1
              · intro wz hSw
                obtain ⟨s0, s1, s2⟩ := hSw
                first | (go_simp; done) | (go_simp; with_reducible rfl)
              simp only [List.set_cons_zero, List.set_cons_succ]
              refine take_at (i := 4) (n := 86) (v := ?_) rfl rfl (by kernel_rfl) (by kernel_rfl) (by kernel_rfl) (fun _ _ _ h => h) (Or.inl ⟨by rfl, ?_⟩) (by assumption) ?_
              rotate_left 1
              · intro wz hSw
                obtain ⟨s0, s1, s2⟩ := hSw
                first | (go_simp; done) | (go_simp; with_reducible rfl)
              simp only [List.set_cons_zero, List.set_cons_succ]
              refine take_at (i := 5) (n := 87) (v := ?_) rfl rfl (by kernel_rfl) (by kernel_rfl) (by kernel_rfl) (fun _ _ _ h => h) (Or.inl ⟨by rfl, ?_⟩) (by assumption) ?_
              rotate_left 1
              · intro wz hSw
                obtain ⟨s0, s1, s2⟩ := hSw
                first | (go_simp; done) | (go_simp; with_reducible rfl)
              simp only [List.set_cons_zero, List.set_cons_succ]
              refine take_at (i := 6) (n := 88) (v := ?_) rfl rfl (by kernel_rfl) (by kernel_rfl) (by kernel_rfl) (fun _ _ _ h => h) (Or.inl ⟨by rfl, ?_⟩) (by assumption) ?_
              rotate_left 1
              · intro wz hSw
                obtain ⟨s0, s1, s2⟩ := hSw
                first | (go_simp; done) | (go_simp; with_reducible rfl)
              simp only [List.set_cons_zero, List.set_cons_succ]
              refine take_at (i := 7) (n := 89) (v := ?_) rfl rfl (by kernel_rfl) (by kernel_rfl) (by kernel_rfl) (fun _ _ _ h => h) (Or.inl ⟨by rfl, ?_⟩) (by assumption) ?_
              rotate_left 1
              · intro wz hSw
                obtain ⟨s0, s1, s2⟩ := hSw
                first | (go_simp; done) | (go_simp; with_reducible rfl)
              simp only [List.set_cons_zero, List.set_cons_succ]
              refine take_at (i := 8) (n := 90) (v := ?_) rfl rfl (by kernel_rfl) (by kernel_rfl) (by kernel_rfl) (fun _ _ _ h => h) (Or.inl ⟨by rfl, ?_⟩) (by assumption) ?_
              rotate_left 1
              · intro wz hSw
                obtain ⟨s0, s1, s2⟩ := hSw
                first | (go_simp; done) | (go_simp; with_reducible rfl)
              simp only [List.set_cons_zero, List.set_cons_succ]
              refine take_at (i := 9) (n := 91) (v := ?_) rfl rfl (by kernel_rfl) (by kernel_rfl) (by kernel_rfl) (fun _ _ _ h => h) (Or.inl ⟨by rfl, ?_⟩) (by assumption) ?_
              rotate_left 1
              · intro wz hSw
                obtain ⟨s0, s1, s2⟩ := hSw
                first | (go_simp; done) | (go_simp; with_reducible rfl)
              simp only [List.set_cons_zero, List.set_cons_succ]
              obtain ⟨a0, a1, a2, a3, a4, af⟩ := J0.out.five
              have af1 := af 0
              have al := World.block_lt_of_cell? _ _ a0
              clear af
              refine wpAnyH_ready (rs := [10]) (by kernel_rfl) (by simp) ?_
              refine AllReadyH.cons rfl (fun K hK => ?_) AllReadyH.nil
              go_simp
              have J1 : Hid (IW w (x0.setCell ⟨gE, 0, none⟩ (.int .i64 n0)) g4 LL acc (.slice sa acc.length sc) gA ws gE ⟨n0, kk, 0, 0, 0⟩ (.slice (some ⟨gn, 0, none⟩) 3 nc) [n0, n1, n2]) := J0.out.set 0 n0 ⟨n0, kk, 0, 0, 0⟩ rfl
              generalize x0.setCell ⟨gE, 0, none⟩ (.int .i64 n0) = x1 at J1 ⊢
              refine hK.out _ _ J1.out.num3 (fun hHeld => ?_)
              clear hK K a0 a1 a2 a3 a4 af1 al
              try simp only [List.set_cons_zero, List.set_cons_succ]
              refine take_at (i := 11) (n := 92) (v := ?_) rfl rfl (by kernel_rfl) (by kernel_rfl) (by kernel_rfl) (fun _ _ _ h => h) (Or.inl ⟨by rfl, ?_⟩) (by assumption) ?_
              rotate_left 1
              · intro wz hSw
                obtain ⟨s0, s1, s2⟩ := hSw
                first | (go_simp; done) | (go_simp; with_reducible rfl)
              simp only [List.set_cons_zero, List.set_cons_succ]
              obtain ⟨a0, a1, a2, a3, a4, af⟩ := J1.out.five
              have af1 := af 2
              have al := World.block_lt_of_cell? _ _ a0
              clear af
              refine wpAnyH_ready (rs := [12]) (by kernel_rfl) (by simp) ?_
              refine AllReadyH.cons rfl (fun K hK => ?_) AllReadyH.nil
              go_simp
              have J2 : Hid (IW w (x1.setCell ⟨gE, 2, none⟩ (.int .i64 n1)) g4 LL acc (.slice sa acc.length sc) gA ws gE ⟨n0, kk, n1, 0, 0⟩ (.slice (some ⟨gn, 0, none⟩) 3 nc) [n0, n1, n2]) := J1.out.set 2 n1 ⟨n0, kk, n1, 0, 0⟩ rfl
              generalize x1.setCell ⟨gE, 2, none⟩ (.int .i64 n1) = x2 at J2 ⊢
              refine hK.out _ _ J2.out.num3 (fun hHeld => ?_)
              clear hK K a0 a1 a2 a3 a4 af1 al
              try simp only [List.set_cons_zero, List.set_cons_succ]
              refine take_at (i := 13) (n := 93) (v := ?_) rfl rfl (by kernel_rfl) (by kernel_rfl) (by kernel_rfl) (fun _ _ _ h => h) (Or.inl ⟨by rfl, ?_⟩) (by assumption) ?_
              rotate_left 1
              · intro wz hSw
                obtain ⟨s0, s1, s2⟩ := hSw
                first | (go_simp; done) | (go_simp; with_reducible rfl)
              simp only [List.set_cons_zero, List.set_cons_succ]
              obtain ⟨a0, a1, a2, a3, a4, af⟩ := J2.out.five
              have af1 := af 4
              have al := World.block_lt_of_cell? _ _ a0
              clear af
              refine wpAnyH_ready (rs := [14]) (by kernel_rfl) (by simp) ?_
              refine AllReadyH.cons rfl (fun K hK => ?_) AllReadyH.nil
              go_simp
              have J3 : Hid (IW w (x2.setCell ⟨gE, 4, none⟩ (.int .i64 n2)) g4 LL acc (.slice sa acc.length sc) gA ws gE ⟨n0, kk, n1, 0, n2⟩ (.slice (some ⟨gn, 0, none⟩) 3 nc) [n0, n1, n2]) := J2.out.set 4 n2 ⟨n0, kk, n1, 0, n2⟩ rfl
              generalize x2.setCell ⟨gE, 4, none⟩ (.int .i64 n2) = x3 at J3 ⊢
              refine hK.out _ _ J3.out.num3 (fun hHeld => ?_)
              clear hK K a0 a1 a2 a3 a4 af1 al
              try simp only [List.set_cons_zero, List.set_cons_succ]
              refine wpAnyH_done (by kernel_rfl) ?_ _
              refine NoPanic.normal ?_
              clear hHeld
              go_wp2_with fail
              go_meet
              case rel =>
                subst heA
                exact J3
            · have h3i : ¬ (ns.length : Int) = 3 := by omega
              have h3b : ((ns.length : Int) == 3) = false := by simpa using h3i
              rw [if_neg h3] at heA
              go_wp2_with fail
              go_meet
              case rel =>
                subst heA
                exact HI
          case rest =>
            have HIA : Hid (IW w wc g4 LL acc (.slice sa acc.length sc) gA ws gE eA (.slice na ns.length nc) ns) := hcut
            clear hcut HI
            obtain ⟨wr, hwr⟩ : ∃ wr, wr = wc := ⟨_, rfl⟩
            subst hwr
            obtain ⟨eB, heB⟩ : ∃ eB : Ev, (if ns.length = 4 then ⟨ns.getD 0 0, kk, ns.getD 1 0, ns.getD 2 0, ns.getD 3 0⟩ else if ns.length = 3 then ⟨ns.getD 0 0, kk, ns.getD 1 0, 0, ns.getD 2 0⟩ else ⟨0, kk, 0, 0, 0⟩) = eB := ⟨_, rfl⟩
            rw [heB] at HCE
            go_upto_if 96 with fail
            go_cut [] from 94 to 112 (fun W => Hid (IW w W g4 LL acc (.slice sa acc.length sc) gA ws gE eB (.slice na ns.length nc) ns))
            case first =>
              by_cases h4 : ns.length = 4
              · rw [if_pos h4] at heB
                rw [if_neg (by omega)] at heA
                subst heA
                obtain ⟨n0, n1, n2, n3, rfl⟩ := four_of h4
                obtain ⟨gn, rfl, hgn, hgl, -⟩ := HIA.out.num (by simp)
                have HI2 : Hid (IW w wr g4 LL acc (.slice sa acc.length sc) gA ws gE ⟨0, kk, 0, 0, 0⟩ (.slice (some ⟨gn, 0, none⟩) 4 nc) [n0, n1, n2, n3]) := HIA.out
                simp only [List.length_cons, List.length_nil]
                have e44 : (((0 + 1 + 1 + 1 + 1 : Nat) : Int) == 4) = true := by decide
                go_upto_region 29 with fail
                refine wp_region_noPanic ?_
                refine wp_region_held_drew (S := fun w' => w'.cell? ⟨gn, 0, none⟩ = some (.int .i64 n0) ∧ w'.cell? ⟨gn, 1, none⟩ = some (.int .i64 n1) ∧ w'.cell? ⟨gn, 2, none⟩ = some (.int .i64 n2) ∧ w'.cell? ⟨gn, 3, none⟩ = some (.int .i64 n3)) (by kernel_rfl) HI2.out.num4 (fun hHeld => ?_)
                have J0 : Hid (IW w wr.drew g4 LL acc (.slice sa acc.length sc) gA ws gE ⟨0, kk, 0, 0, 0⟩ (.slice (some ⟨gn, 0, none⟩) 4 nc) [n0, n1, n2, n3]) := HI2.out.grow (Below.refl _ _).drew
                generalize hwz : wr.drew = x0 at *
                clear hwz
                refine take_at (i := 0) (n := 97) (v := ?_) rfl rfl (by kernel_rfl) (by kernel_rfl) (by kernel_rfl) (fun _ _ _ h => h) (Or.inl ⟨by rfl, ?_⟩) (by assumption) ?_
                rotate_left 1
                · intro wz hSw
                  obtain ⟨s0, s1, s2, s3⟩ := hSw
                  first | (go_simp; done) | (go_simp; with_reducible rfl)
                simp only [List.set_cons_zero, List.set_cons_succ]
                refine take_at (i := 1) (n := 98) (v := ?_) rfl rfl (by kernel_rfl) (by kernel_rfl) (by kernel_rfl) (fun _ _ _ h => h) (Or.inl ⟨by rfl, ?_⟩) (by assumption) ?_
                rotate_left 1
                · intro wz hSw
                  obtain ⟨s0, s1, s2, s3⟩ := hSw
                  first | (go_simp; done) | (go_simp; with_reducible rfl)
                simp only [List.set_cons_zero, List.set_cons_succ]
                refine take_at (i := 2) (n := 99) (v := ?_) rfl rfl (by kernel_rfl) (by kernel_rfl) (by kernel_rfl) (fun _ _ _ h => h) (Or.inl ⟨by rfl, ?_⟩) (by assumption) ?_
                rotate_left 1
                · intro wz hSw
                  obtain ⟨s0, s1, s2, s3⟩ := hSw
                  first | (go_simp; done) | (go_simp; with_reducible rfl)
                simp only [List.set_cons_zero, List.set_cons_succ]
                refine take_at (i := 3) (n := 100) (v := ?_) rfl rfl (by kernel_rfl) (by kernel_rfl) (by kernel_rfl) (fun _ _ _ h => h) (Or.inl ⟨by rfl, ?_⟩) (by assumption) ?_
                rotate_left 1
                · intro wz hSw
                  obtain ⟨s0, s1, s2, s3⟩ := hSw
                  first | (go_simp; done) | (go_simp; with_reducible rfl)
                simp only [List.set_cons_zero, List.set_cons_succ]
                refine take_at (i := 4) (n := 101) (v := ?_) rfl rfl (by kernel_rfl) (by kernel_rfl) (by kernel_rfl) (fun _ _ _ h => h) (Or.inl ⟨by rfl, ?_⟩) (by assumption) ?_
                rotate_left 1
                · intro wz hSw
                  obtain ⟨s0, s1, s2, s3⟩ := hSw
                  first | (go_simp; done) | (go_simp; with_reducible rfl)
                simp only [List.set_cons_zero, List.set_cons_succ]
                refine take_at (i := 5) (n := 102) (v := ?_) rfl rfl (by kernel_rfl) (by kernel_rfl) (by kernel_rfl) (fun _ _ _ h => h) (Or.inl ⟨by rfl, ?_⟩) (by assumption) ?_
                rotate_left 1
                · intro wz hSw
                  obtain ⟨s0, s1, s2, s3⟩ := hSw
                  first | (go_simp; done) | (go_simp; with_reducible rfl)
                simp only [List.set_cons_zero, List.set_cons_succ]
                refine take_at (i := 6) (n := 103) (v := ?_) rfl rfl (by kernel_rfl) (by kernel_rfl) (by kernel_rfl) (fun _ _ _ h => h) (Or.inl ⟨by rfl, ?_⟩) (by assumption) ?_
                rotate_left 1
                · intro wz hSw
                  obtain ⟨s0, s1, s2, s3⟩ := hSw
                  first | (go_simp; done) | (go_simp; with_reducible rfl)
                simp only [List.set_cons_zero, List.set_cons_succ]
                refine take_at (i := 7) (n := 104) (v := ?_) rfl rfl (by kernel_rfl) (by kernel_rfl) (by kernel_rfl) (fun _ _ _ h => h) (Or.inl ⟨by rfl, ?_⟩) (by assumption) ?_
                rotate_left 1
                · intro wz hSw
                  obtain ⟨s0, s1, s2, s3⟩ := hSw
                  first | (go_simp; done) | (go_simp; with_reducible rfl)
                simp only [List.set_cons_zero, List.set_cons_succ]
                refine take_at (i := 8) (n := 105) (v := ?_) rfl rfl (by kernel_rfl) (by kernel_rfl) (by kernel_rfl) (fun _ _ _ h => h) (Or.inl ⟨by rfl, ?_⟩) (by assumption) ?_
                rotate_left 1
                · intro wz hSw
                  obtain ⟨s0, s1, s2, s3⟩ := hSw
                  first | (go_simp; done) | (go_simp; with_reducible rfl)
                simp only [List.set_cons_zero, List.set_cons_succ]
                refine take_at (i := 9) (n := 106) (v := ?_) rfl rfl (by kernel_rfl) (by kernel_rfl) (by kernel_rfl) (fun _ _ _ h => h) (Or.inl ⟨by rfl, ?_⟩) (by assumption) ?_
                rotate_left 1
                · intro wz hSw
                  obtain ⟨s0, s1, s2, s3⟩ := hSw
                  first | (go_simp; done) | (go_simp; with_reducible rfl)
                simp only [List.set_cons_zero, List.set_cons_succ]
                refine take_at (i := 10) (n := 107) (v := ?_) rfl rfl (by kernel_rfl) (by kernel_rfl) (by kernel_rfl) (fun _ _ _ h => h) (Or.inl ⟨by rfl, ?_⟩) (by assumption) ?_
                rotate_left 1
                · intro wz hSw
                  obtain ⟨s0, s1, s2, s3⟩ := hSw
                  first | (go_simp; done) | (go_simp; with_reducible rfl)
                simp only [List.set_cons_zero, List.set_cons_succ]
                refine take_at (i := 11) (n := 108) (v := ?_) rfl rfl (by kernel_rfl) (by kernel_rfl) (by kernel_rfl) (fun _ _ _ h => h) (Or.inl ⟨by rfl, ?_⟩) (by assumption) ?_
                rotate_left 1
                · intro wz hSw
                  obtain ⟨s0, s1, s2, s3⟩ := hSw
                  first | (go_simp; done) | (go_simp; with_reducible rfl)
                simp only [List.set_cons_zero, List.set_cons_succ]
                refine take_at (i := 12) (n := 109) (v := ?_) rfl rfl (by kernel_rfl) (by kernel_rfl) (by kernel_rfl) (fun _ _ _ h => h) (Or.inl ⟨by rfl, ?_⟩) (by assumption) ?_
                rotate_left 1
                · intro wz hSw
                  obtain ⟨s0, s1, s2, s3⟩ := hSw
                  first | (go_simp; done) | (go_simp; with_reducible rfl)
                simp only [List.set_cons_zero, List.set_cons_succ]
                obtain ⟨a0, a1, a2, a3, a4, af⟩ := J0.out.five
                have af1 := af 0
                have al := World.block_lt_of_cell? _ _ a0
                clear af
                refine wpAnyH_ready (rs := [13]) (by kernel_rfl) (by simp) ?_
                refine AllReadyH.cons rfl (fun K hK => ?_) AllReadyH.nil
                go_simp
                have J1 : Hid (IW w (x0.setCell ⟨gE, 0, none⟩ (.int .i64 n0)) g4 LL acc (.slice sa acc.length sc) gA ws gE ⟨n0, kk, 0, 0, 0⟩ (.slice (some ⟨gn, 0, none⟩) 4 nc) [n0, n1, n2, n3]) := J0.out.set 0 n0 ⟨n0, kk, 0, 0, 0⟩ rfl
                generalize x0.setCell ⟨gE, 0, none⟩ (.int .i64 n0) = x1 at J1 ⊢
                refine hK.out _ _ J1.out.num4 (fun hHeld => ?_)
                clear hK K a0 a1 a2 a3 a4 af1 al
                try simp only [List.set_cons_zero, List.set_cons_succ]
                refine take_at (i := 14) (n := 110) (v := ?_) rfl rfl (by kernel_rfl) (by kernel_rfl) (by kernel_rfl) (fun _ _ _ h => h) (Or.inl ⟨by rfl, ?_⟩) (by assumption) ?_
                rotate_left 1
                · intro wz hSw
                  obtain ⟨s0, s1, s2, s3⟩ := hSw
                  first | (go_simp; done) | (go_simp; with_reducible rfl)
                simp only [List.set_cons_zero, List.set_cons_succ]
                obtain ⟨a0, a1, a2, a3, a4, af⟩ := J1.out.five
                have af1 := af 2
                have al := World.block_lt_of_cell? _ _ a0
                clear af
                refine wpAnyH_ready (rs := [15]) (by kernel_rfl) (by simp) ?_
                refine AllReadyH.cons rfl (fun K hK => ?_) AllReadyH.nil
                go_simp
                have J2 : Hid (IW w (x1.setCell ⟨gE, 2, none⟩ (.int .i64 n1)) g4 LL acc (.slice sa acc.length sc) gA ws gE ⟨n0, kk, n1, 0, 0⟩ (.slice (some ⟨gn, 0, none⟩) 4 nc) [n0, n1, n2, n3]) := J1.out.set 2 n1 ⟨n0, kk, n1, 0, 0⟩ rfl
                generalize x1.setCell ⟨gE, 2, none⟩ (.int .i64 n1) = x2 at J2 ⊢
                refine hK.out _ _ J2.out.num4 (fun hHeld => ?_)
                clear hK K a0 a1 a2 a3 a4 af1 al
                try simp only [List.set_cons_zero, List.set_cons_succ]
                refine take_at (i := 16) (n := 111) (v := ?_) rfl rfl (by kernel_rfl) (by kernel_rfl) (by kernel_rfl) (fun _ _ _ h => h) (Or.inl ⟨by rfl, ?_⟩) (by assumption) ?_
                rotate_left 1
                · intro wz hSw
                  obtain ⟨s0, s1, s2, s3⟩ := hSw
                  first | (go_simp; done) | (go_simp; with_reducible rfl)
                simp only [List.set_cons_zero, List.set_cons_succ]
                obtain ⟨a0, a1, a2, a3, a4, af⟩ := J2.out.five
                have af1 := af 3
                have al := World.block_lt_of_cell? _ _ a0
                clear af
                refine wpAnyH_ready (rs := [17]) (by kernel_rfl) (by simp) ?_
                refine AllReadyH.cons rfl (fun K hK => ?_) AllReadyH.nil
                go_simp
                have J3 : Hid (IW w (x2.setCell ⟨gE, 3, none⟩ (.int .i64 n2)) g4 LL acc (.slice sa acc.length sc) gA ws gE ⟨n0, kk, n1, n2, 0⟩ (.slice (some ⟨gn, 0, none⟩) 4 nc) [n0, n1, n2, n3]) := J2.out.set 3 n2 ⟨n0, kk, n1, n2, 0⟩ rfl
                generalize x2.setCell ⟨gE, 3, none⟩ (.int .i64 n2) = x3 at J3 ⊢
                refine hK.out _ _ J3.out.num4 (fun hHeld => ?_)
                clear hK K a0 a1 a2 a3 a4 af1 al
                try simp only [List.set_cons_zero, List.set_cons_succ]
                refine take_at (i := 18) (n := 112) (v := ?_) rfl rfl (by kernel_rfl) (by kernel_rfl) (by kernel_rfl) (fun _ _ _ h => h) (Or.inl ⟨by rfl, ?_⟩) (by assumption) ?_
                rotate_left 1
                · intro wz hSw
                  obtain ⟨s0, s1, s2, s3⟩ := hSw
                  first | (go_simp; done) | (go_simp; with_reducible rfl)
                simp only [List.set_cons_zero, List.set_cons_succ]
                obtain ⟨a0, a1, a2, a3, a4, af⟩ := J3.out.five
                have af1 := af 4
                have al := World.block_lt_of_cell? _ _ a0
                clear af
                refine wpAnyH_ready (rs := [19]) (by kernel_rfl) (by simp) ?_
                refine AllReadyH.cons rfl (fun K hK => ?_) AllReadyH.nil
                go_simp
                have J4 : Hid (IW w (x3.setCell ⟨gE, 4, none⟩ (.int .i64 n3)) g4 LL acc (.slice sa acc.length sc) gA ws gE ⟨n0, kk, n1, n2, n3⟩ (.slice (some ⟨gn, 0, none⟩) 4 nc) [n0, n1, n2, n3]) := J3.out.set 4 n3 ⟨n0, kk, n1, n2, n3⟩ rfl
                generalize x3.setCell ⟨gE, 4, none⟩ (.int .i64 n3) = x4 at J4 ⊢
                refine hK.out _ _ J4.out.num4 (fun hHeld => ?_)
                clear hK K a0 a1 a2 a3 a4 af1 al
                try simp only [List.set_cons_zero, List.set_cons_succ]
                refine wpAnyH_done (by kernel_rfl) ?_ _
                refine NoPanic.normal ?_
                clear hHeld
                go_wp2_with fail
                go_meet
                case rel =>
                  subst heB
                  exact J4
              · have h4i : ¬ (ns.length : Int) = 4 := by omega
                have h4b : ((ns.length : Int) == 4) = false := by simpa using h4i
                rw [if_neg h4, heA] at heB
                go_wp2_with fail
                go_meet
                case rel =>
                  subst heB
                  exact HIA
            case rest =>
              have HIB : Hid (IW w wc g4 LL acc (.slice sa acc.length sc) gA ws gE eB (.slice na ns.length nc) ns) := hcut
              clear hcut HIA heA heB
              obtain ⟨w5, hw5⟩ : ∃ w5, w5 = wc := ⟨_, rfl⟩
              subst hw5
              obtain ⟨la, hla⟩ : ∃ la, lastE acc = la := ⟨_, rfl⟩
              have HLa : Hid (lastE acc = la) := hla
              go_upto_if 115 with fail
              go_cut [17] from 113 to 122 (fun v W => v = .int .i64 la ∧ W = w5)
              case first =>
                by_cases hz : acc.length = 0
                · have hz0 : acc = [] := List.eq_nil_of_length_eq_zero hz
                  subst hz0
                  have hla0 : la = 0 := hla.symm
                  subst hla0
                  go_wp2_with fail
                  go_meet
                  case rel => exact ⟨rfl, rfl⟩
                · obtain ⟨ad', c', he, -, hcap, hrow⟩ := HIB.out.rs.tw.rowSl
                  cases he
                  rcases hrow with h | ⟨b, o, rfl, hrow⟩
                  · rw [h] at hz; simp at hz
                  obtain ⟨y, hy⟩ : ∃ y, acc[acc.length - 1]? = some y := ⟨acc[acc.length - 1]'(by omega), List.getElem?_eq_getElem _⟩
                  have hlay : la = y.at_ := by
                    rw [← hla]
                    unfold lastE
                    rw [List.getLast?_eq_getElem?, hy]
                  have xla := (ev5_at hrow hy).1
                  rw [← hlay] at xla
                  have q9 : IntKind.i64.wrap ((acc.length : Int) - 1) = ((acc.length - 1 : Nat) : Int) := by have := HAL.out; rw [IntKind.wrap_i64]; omega
                  have i9 : ((acc.length - 1 : Nat) : Int) < (acc.length : Int) := by omega
                  have lbb : b < w5.heap.size := World.block_lt_of_cell? _ _ xla
                  have hz1 : (0 : Int) < (acc.length : Int) := by omega
                  have hz2 : 0 < acc.length := by omega
                  clear hrow hy hlay hla
                  go_wp2_with fail
                  go_meet
                  case rel => exact ⟨rfl, rfl⟩
              case rest =>
                obtain ⟨rfl, hwc⟩ := hcut
                have hwc' := hwc.symm
                subst hwc'
                clear hwc hla
                obtain ⟨tk, htk⟩ : ∃ tk : Bool, decide (3 ≤ ns.length ∧ ns.length ≤ 4 ∧ printE [eB] = lb.data.toList ∧ la ≤ eB.at_) = tk := ⟨_, rfl⟩
                have HTK : Hid (tk = true ↔ Takes WS lb.data.toList acc) := by
                  have h9 : tk = true ↔ Takes WS lb.data.toList acc := by
                    rw [← htk, decide_eq_true_iff]
                    unfold Takes
                    rw [HCE.out, HLa.out]
                  exact h9
                have HIn : Hid (inE eB) := by
                  have h9 := candW_in WS
                  rw [HCE.out] at h9
                  exact h9
                go_upto_region 33 with fail
                go_cut [143] from 123 to 142 (fun v W => v = .bool (!tk) ∧ Hid (IW w W g4 LL acc (.slice sa acc.length sc) gA ws gE eB (.slice na ns.length nc) ns))
                case first =>
                  by_cases hc3 : ns.length < 3
                  · have htf : tk = false := by rw [← htk]; exact decide_eq_false (fun h => by omega)
                    subst htf
                    have hci : (ns.length : Int) < 3 := by omega
                    go_wp2_with fail
                    go_meet
                    case rel => exact ⟨rfl, HIB⟩
                  by_cases hc4 : 4 < ns.length
                  · have htf : tk = false := by rw [← htk]; exact decide_eq_false (fun h => by omega)
                    subst htf
                    have hci : ¬ (ns.length : Int) < 3 := by omega
                    have hcj : (4 : Int) < (ns.length : Int) := by omega
                    go_wp2_with fail
                    go_meet
                    case rel => exact ⟨rfl, HIB⟩
                  have hci : ¬ (ns.length : Int) < 3 := by omega
                  have hcj : ¬ (4 : Int) < (ns.length : Int) := by omega
                  obtain ⟨f0, f1, f2, f3, f4, -⟩ := HIB.out.five
                  have fl := World.block_lt_of_cell? _ _ f0
                  have HSL : Calls Tryd.prog 11 #[.slice (some ⟨w5.heap.size, 0, none⟩) 1 1] (w5.alloc (.cells #[.int .i64 eB.at_, .int .i64 eB.k, .int .i64 eB.t, .int .i64 eB.m, .int .i64 eB.n] 24)) fun r w' => r = .returned (.string ⟨(printE [eB]).toArray⟩) ∧ Below w5.heap.size w5 w' := by
                    refine Calls.mono (ShowLog_any _ [eB] _ ⟨some ⟨w5.heap.size, 0, none⟩, 1, rfl, (fun e => by cases e), by simp, .inr ⟨w5.heap.size, 0, rfl, fun q u hq => ?_⟩⟩ ((HG.out.below HIB.out.rs.tw.fb.bel).below (below_new _ _)) (fun x hx => by rw [List.mem_singleton.1 hx]; exact HIn.out) (by simp)) ?_
                    · rw [Nat.zero_add]
                      refine (cells_of (l := [_, _, _, _, _]) (heap_alloc_new _ _)).1 q u ?_
                      simpa [Ev.vals] using hq
                    · rintro r w' ⟨rfl, hb⟩
                      exact ⟨rfl, below_seq (below_new _ _) hb⟩
                  obtain ⟨sh, hsh⟩ : ∃ sh, printE [eB] = sh := ⟨_, rfl⟩
                  rw [hsh] at HSL htk
                  clear hsh
                  by_cases hq : sh = lb.data.toList
                  · have hq1 : (sh == lb.toList) = true := by rw [ByteArray.toList_eq]; exact beq_iff_eq.2 hq
                    have hq2 : sh = lb.toList := by rw [ByteArray.toList_eq]; exact hq
                    by_cases hlt : eB.at_ < la
                    · have htf : tk = false := by rw [← htk]; exact decide_eq_false (fun h => by omega)
                      subst htf
                      clear hq htk
                      go_wp2_with (go_at_call 11; refine HSL.mono ?_; rintro r w6 ⟨rfl, hb6⟩; have H6 : Hid (IW w w6 g4 LL acc (.slice sa acc.length sc) gA ws gE eB (.slice na ns.length nc) ns) := HIB.out.grow hb6; have d0 := below_cell hb6 f0; have dl := World.block_lt_of_cell? _ _ d0; clear hb6 HSL)
                      go_meet
                      case rel => exact ⟨rfl, H6⟩
                    · have htf : tk = true := by rw [← htk]; exact decide_eq_true ⟨by omega, by omega, hq, by omega⟩
                      subst htf
                      have hle : la ≤ eB.at_ := by omega
                      clear hq htk
                      go_wp2_with (go_at_call 11; refine HSL.mono ?_; rintro r w6 ⟨rfl, hb6⟩; have H6 : Hid (IW w w6 g4 LL acc (.slice sa acc.length sc) gA ws gE eB (.slice na ns.length nc) ns) := HIB.out.grow hb6; have d0 := below_cell hb6 f0; have dl := World.block_lt_of_cell? _ _ d0; clear hb6 HSL)
                      go_meet
                      case rel => exact ⟨by rw [decide_eq_false (show ¬ eB.at_ < la by omega)]; rfl, H6⟩
                  · have hq1 : (sh == lb.toList) = false := by rw [ByteArray.toList_eq]; exact beq_eq_false_iff_ne.2 hq
                    have htf : tk = false := by rw [← htk]; exact decide_eq_false (fun h => hq h.2.2.1)
                    subst htf
                    clear htk
                    go_wp2_with (go_at_call 11; refine HSL.mono ?_; rintro r w6 ⟨rfl, hb6⟩; have H6 : Hid (IW w w6 g4 LL acc (.slice sa acc.length sc) gA ws gE eB (.slice na ns.length nc) ns) := HIB.out.grow hb6; have d0 := below_cell hb6 f0; have dl := World.block_lt_of_cell? _ _ d0; clear hb6 HSL)
                    go_meet
                    case rel => exact ⟨rfl, H6⟩
                case rest =>
                  obtain ⟨rfl, H7⟩ := hcut
                  obtain ⟨w7, hw7⟩ : ∃ w7, w7 = wc := ⟨_, rfl⟩
                  subst hw7
                  clear htk
                  cases tk with
                  | false =>
                    have HS : Hid (readE s.data.toList = ([], (1, (k : Int)))) := by
                      have h9 : readE s.data.toList = ([], (1, (k : Int))) := by
                        unfold readE
                        rw [HPS.out.1, ← HQ.out, takes_bad HLA.out.1 HLA.out.2.2 (fun h => by rw [← HWs.out.2] at h; exact absurd (HTK.out.2 h) (by simp)), HAL.out]
                      exact h9
                    go_wp2_with (go_at_call 27; refine (F_any _ _ _).mono ?_; rintro r w8 ⟨rfl, hb8⟩; have H8 : Hid (FB w w8 w.heap.size) := H7.out.rs.tw.fb.grow hb8; clear hb8; obtain ⟨r10, r11, z10, z11, rl⟩ := H8.out.res2)
                    refine bodyPost_ret (ReadLog_ends (set_two H8.out.res) rfl rfl) rfl ?_
                    unfold ReadPost
                    rw [HS.out]
                    exact ⟨_, rfl, RowSl.nil _ _, H8.out.set _ _⟩
                  | true =>
                    obtain ⟨hg1, hg2⟩ := takes_good HLA.out.1 HLA.out.2.1 HLA.out.2.2 WS (HTK.out.1 rfl)
                    rw [HCE.out] at hg1
                    dsimp only at hg1
                    have HGd : Hid (scanE (ps.drop (k + 1)) (acc ++ [eB]) = scanE ps [] ∧ k + 1 < ps.length) := ⟨hg1.symm.trans HQ.out, hg2⟩
                    clear hg1 hg2
                    obtain ⟨f0, f1, f2, f3, f4, -⟩ := H7.out.five
                    have fl := World.block_lt_of_cell? _ _ f0
                    obtain ⟨ad, cc, w8, hrun, h8, hkeep⟩ := H7.out.rs.tw.push eB (by have := HAL.out; omega)
                    have H8 : Hid (RSW w w8 g4 LL (acc ++ [eB]) (.slice ad (acc.length + 1) cc)) := ⟨h8, hkeep _ _ _ H7.out.rs.ll (by decide)⟩
                    clear h8 hkeep
                    go_wp2_with (at_builtin; refine append_known rfl (.tmp 146) (.tmp 148) 22 rfl rfl rfl hrun ?_)
                    exact ⟨⟨k + 1, acc ++ [eB], HGd.out.2, by omega, by simp, by rw [List.length_append, HAL.out]; rfl, H8.out, HGd.out.1⟩, by simp [intOf]; omega⟩
end Go.Proofs.YtccoobcggbbciakDoor
