import Derived.Test.YtccoobcggbbciaiGreatDoorMO
import Derived.Test.YtccoobcggbbciaiGreatDoorSPV
namespace Go.Proofs.YtccoobcggbbciaiGreatDoor
open Go.ChangeShapes Go.WideShapes Go.ChangeAt Go.RowKit Go.Sort

theorem vis_set {hi : Nat → Bool} {T w : Int} {left : List Int} {q : Nat} (hq : q < left.length) (hv : T < 0 ∨ hi q = true) (i : Nat) : S8.L (vis hi T (left.set q w)) i = S8.L ((vis hi T left).set q w) i := by
  rw [S8.L_set (by rw [vis_len]; exact hq), L_vis, L_vis, S8.L_set hq]
  by_cases e : i = q
  · subst e; rw [if_pos hv, if_pos rfl, if_pos rfl]
  · rw [if_neg e, if_neg e]

theorem vis_pos {hi : Nat → Bool} {T : Int} {left : List Int} {q : Nat} (h : 0 < S8.L (vis hi T left) q) : (T < 0 ∨ hi q = true) ∧ 0 < S8.L left q := by
  rw [L_vis] at h
  split at h
  · rename_i h2; exact ⟨h2, h⟩
  · omega

theorem always_any (w : World) (a : Int) : Calls Tryz.prog 68 #[.int .i64 a] w fun r w' => r = .returned (.bool true) ∧ w' = w := by
  go_enter Tryz.func68, Tryz.ntmps68
  go_wp2_with fail
  go_ret
  exact ⟨rfl, rfl⟩

theorem playG_ends {w : World} {g : Nat} {c k : Value} {a : Act} (h : w.heap[g]? = some (.cells #[c, k] 41 (0, 0))) (h3 : a.tmps[10]?.getD undef = .pointer (some ⟨g, 0, none⟩)) :
    (results Tryz.f58 a.tmps).run Tryz.prog w = .ok (.agg #[c, k]) w := by
  obtain ⟨c1, f1, l1⟩ := cells_of (l := [_, _]) h
  have c10 := c1 0 _ rfl
  have c11 := c1 1 _ rfl
  simp [results, Tryz.results58, go_sem, h3, c10, c11]

/-- Nobody has more to do than at first. -/
theorem playsT_le {l : List Jb} {hi : Nat → Bool} {cl : Nat → Int} (hl : ∀ x ∈ l, S8.okJ x) : ∀ (t : Nat) (s : S8.St) (T : Int), PlaysT l hi cl t s T → ∀ i, i < l.length → S8.L s.left i ≤ (S8.J l i).c
  | 0, s, T, h, i, hi' => by
    rw [h.1]
    unfold S8.L S8.J S8.St.init
    dsimp only
    rw [List.getD_eq_getElem?_getD, List.getElem?_map, List.getD_eq_getElem?_getD, List.getElem?_eq_getElem hi']
    exact Int.le_refl _
  | t + 1, s, T, ⟨s0, T0, b, h1, h2, h3, _⟩, i, hi' => by
    have ih := playsT_le hl t s0 T0 h1 i hi'
    have hok := playsT_ok hl t s0 T0 h1
    rw [h3]
    rcases best_rng h2 with rfl | ⟨k, rfl, hk, -, -⟩
    · exact ih
    · rw [after_someT]
      show S8.L (s0.left.set k _) i ≤ _
      rw [S8.L_set (by rw [hok.left]; exact hk)]
      by_cases e : i = k
      · rw [if_pos e, ← e]; omega
      · rw [if_neg e]; exact ih

/-- A tick of a play, as it lies. -/
structure TickG (w0 : World) (B Kb Lf Rn Rd C : Nat) (W : World) (l : List Jb) (rk : List Nat) (jv : Value) (rs pb rb eb n mb lb nb rw : Nat) (hi : Nat → Bool) (cl : Nat → Int) (t : Nat) (s : S8.St) (T : Int) (k : Nat) (th : List Nat) (tv cv : Value) (cm : List Nat) (w1 : World) (ran : List Int) : Prop where
  pg : PlayG w0 w1 B Kb Lf Rn Rd C W l rk cm k th s.left jv tv cv rs pb rb eb n s.runs s.ends mb lb nb rw T ran
  co : S8.CoreG l rk cm k th (vis hi T s.left)
  cg : S8.ComingG l rk cm
  come : ∀ p ∈ cm.take k, (S8.J l (S8.RK rk p)).a ≤ (t : Int)
  pl : PlaysT l hi cl t s T
  rl : ran.length = l.length
  rn : ∀ i, i < l.length → S8.L ran i = (S8.J l i).c - S8.L s.left i
  cq : cm.length ≤ 4000

/-- What is laid ahead of the first tick. -/
theorem PlayG.start {w0 : World} {B Kb Lf Rn Rd C : Nat} {W W1 W2 W3 : World} {l : List Jb} {rk cm : List Nat} {left : List Int} {jv cv : Value} {rb eb n mb lb nb rw : Nat} {ran : List Int} (h : S8.LineG w0 B Kb Lf Rn Rd C W l rk cm 0 [] left jv (.slice none 0 0) cv) (hm : w0.heap[mb]? = some (.cells #[.slice none 0 0, .slice none 0 0, .int .i64 (-1)] 43 (0, 0))) (hd : w0.heap.size ≤ C ∧ w0.heap.size ≤ Rn ∧ w0.heap.size ≤ Rd ∧ Rn ≠ C ∧ Rd ≠ C)
    (hlb : W.heap[lb]? = some (.cells #[.pointer (some ⟨Kb, 0, none⟩)] 98 (0, 0))) (hnb : W.heap[nb]? = some (.cells #[.slice (some ⟨rw, 0, none⟩) l.length l.length] 24 (0, 0))) (hrw : W.heap[rw]? = some (.cells (ran.map (Value.int .i64)).toArray 3 (0, 0))) (hBs : B ≤ lb ∧ B ≤ nb ∧ B ≤ rw) (hdd : lb ≠ nb ∧ lb ≠ rw ∧ nb ≠ rw)
    (hres : W1.heap[W.heap.size]? = some (.cells #[.slice none 0 0, .slice none 0 0] 41 (0, 0))) (hb1 : Below W.heap.size W W1)
    (hg1 : W1.heap.size ≤ rb) (hr : W2.heap[rb]? = some (.cells (List.replicate n (Value.int .i64 (-1))).toArray 3 (0, 0))) (hb2 : Below W1.heap.size W1 W2) (hg2 : W2.heap.size ≤ eb) (he : W3.heap[eb]? = some (.cells (List.replicate l.length (Value.int .i64 (-1))).toArray 3 (0, 0))) (hb3 : Below W2.heap.size W2 W3) :
    PlayG w0 w0 B Kb Lf Rn Rd C (W3.alloc (.cells #[.slice (some ⟨rb, 0, none⟩) n n, .slice (some ⟨eb, 0, none⟩) l.length l.length] 41)) l rk cm 0 [] left jv (.slice none 0 0) cv W.heap.size W3.heap.size rb eb n [] (List.replicate l.length (-1)) mb lb nb rw (-1) ran := by
  have l1 := lt_heapM hres
  have l2 := lt_heapM hr
  have l3 := lt_heapM he
  have l4 := lt_heapM hlb
  have l5 := lt_heapM hnb
  have l6 := lt_heapM hrw
  have s1 := hb1.size
  have s2 := hb2.size
  have s3 := hb3.size
  have hn3 := below_new W3 (.cells #[.slice (some ⟨rb, 0, none⟩) n n, .slice (some ⟨eb, 0, none⟩) l.length l.length] 41)
  have hall : Below W.heap.size W (W3.alloc (.cells #[.slice (some ⟨rb, 0, none⟩) n n, .slice (some ⟨eb, 0, none⟩) l.length l.length] 41)) := below_seq (below_seq (below_seq hb1 hb2) hb3) hn3
  have hB : B ≤ W.heap.size := h.bs
  refine ⟨Base.start hm, LineG.grow h hall, ?_, heap_alloc_new _ _, ?_, ?_, (hall.block _ l4).trans hlb, (hall.block _ l5).trans hnb, (hall.block _ l6).trans hrw, fun q hq => ?_, ?_, fun q _ e => (by cases e), hd, lt_heapM hm⟩
  · rw [hn3.block _ (by omega), hb3.block _ (by omega), hb2.block _ l1]; exact hres
  · rw [hn3.block _ (by omega), hb3.block _ l2, hr]; simp [padG]
  · rw [hn3.block _ l3, he]; simp
  · simp only [List.mem_cons, List.not_mem_nil, or_false] at hq
    rcases hq with rfl | rfl | rfl | rfl | rfl | rfl | rfl <;> omega
  · simp only [List.nodup_cons, List.mem_cons, List.not_mem_nil, or_false, not_or, not_false_eq_true, List.nodup_nil, and_true]
    omega

def PlayPost (w0 : World) (l : List Jb) (n mb : Nat) (hi : Nat → Bool) (cl : Nat → Int) (r : Ending) (W' : World) : Prop := ∃ s T w1 rb eb, PlaysT l hi cl n s T ∧ r = .returned (.agg #[.slice (some ⟨rb, 0, none⟩) n n, .slice (some ⟨eb, 0, none⟩) l.length l.length]) ∧ W'.heap[rb]? = some (.cells (s.runs.map (Value.int .i64)).toArray 3 (0, 0)) ∧ W'.heap[eb]? = some (.cells (s.ends.map (Value.int .i64)).toArray 3 (0, 0)) ∧ rb ≠ eb ∧ w0.heap.size ≤ rb ∧ w0.heap.size ≤ eb ∧ Base w0 w1 mb T ∧ Below w1.heap.size w1 W'

set_option maxRecDepth 20000 in
set_option maxHeartbeats 4000000 in
theorem playG_any (w0 W : World) (B Kb Lf Rn Rd C : Nat) (l : List Jb) (rk cm : List Nat) (jv cv : Value) (n mb lb nb rw : Nat) (set : List Cr) (cs : List Co) (tk : List Int) (sv qv tkv : Value) (sb cb ob tb : Nat) (hline : S8.LineG w0 B Kb Lf Rn Rd C W l rk cm 0 [] (l.map (·.c)) jv (.slice none 0 0) cv) (hd : w0.heap.size ≤ C ∧ w0.heap.size ≤ Rn ∧ w0.heap.size ≤ Rd ∧ Rn ≠ C ∧ Rd ≠ C) (hr : S8.Ranked l 1 rk) (hc : S8.Coming l rk cm) (hl : l.length ≤ 4000) (hok : ∀ x ∈ l, S8.okJ x) (hn : n ≤ 20000)
    (hm : w0.heap[mb]? = some (.cells #[.slice none 0 0, .slice none 0 0, .int .i64 (-1)] 43 (0, 0))) (hlb : W.heap[lb]? = some (.cells #[.pointer (some ⟨Kb, 0, none⟩)] 98 (0, 0))) (hnb : W.heap[nb]? = some (.cells #[.slice (some ⟨rw, 0, none⟩) l.length l.length] 24 (0, 0))) (hrw : W.heap[rw]? = some (.cells ((List.replicate l.length 0).map (Value.int .i64)).toArray 3 (0, 0))) (hBs : B ≤ lb ∧ B ≤ nb ∧ B ≤ rw) (hdd : lb ≠ nb ∧ lb ≠ rw ∧ nb ≠ rw)
    (hwh : Whose set cs) (hlen : cs.length = l.length) (hE : ∀ w1 T, Base w0 w1 mb T → EnvM w1 l set cs tk jv sv qv tkv sb cb ob tb) (hty : tk.length = l.length) (htk : ∀ j, j < l.length → tk[j]? = some (S8.J l j).c) :
    Calls Tryz.prog 58 #[.pointer (some ⟨Kb, 0, none⟩), .int .i64 (l.length : Int), .int .i64 (n : Int), .func (Fn.func 68) #[] #[], .func (Fn.func 69) #[] #[.pointer (some ⟨nb, 0, none⟩), .pointer (some ⟨ob, 0, none⟩), .pointer (some ⟨mb, 0, none⟩), .pointer (some ⟨tb, 0, none⟩), .pointer (some ⟨lb, 0, none⟩)]] W (PlayPost w0 l n mb (hiOf set cs) (fun j => (crOf set cs j).c)) := by
  have HQ : Hid (S8.Ranked l 1 rk ∧ S8.Coming l rk cm ∧ (∀ x ∈ l, S8.okJ x) ∧ Whose set cs ∧ cs.length = l.length ∧ (∀ w1 T, Base w0 w1 mb T → EnvM w1 l set cs tk jv sv qv tkv sb cb ob tb) ∧ tk.length = l.length ∧ (∀ j, j < l.length → tk[j]? = some (S8.J l j).c)) := ⟨hr, hc, hok, hwh, hlen, hE, hty, htk⟩
  have HST : Hid (∀ (W1 W2 W3 : World) (rb eb : Nat), W1.heap[W.heap.size]? = some (.cells #[.slice none 0 0, .slice none 0 0] 41 (0, 0)) → Below W.heap.size W W1 → W1.heap.size ≤ rb → W2.heap[rb]? = some (.cells (List.replicate n (Value.int .i64 (-1))).toArray 3 (0, 0)) → Below W1.heap.size W1 W2 → W2.heap.size ≤ eb → W3.heap[eb]? = some (.cells (List.replicate l.length (Value.int .i64 (-1))).toArray 3 (0, 0)) → Below W2.heap.size W2 W3 → PlayG w0 w0 B Kb Lf Rn Rd C (W3.alloc (.cells #[.slice (some ⟨rb, 0, none⟩) n n, .slice (some ⟨eb, 0, none⟩) l.length l.length] 41)) l rk cm 0 [] (l.map (·.c)) jv (.slice none 0 0) cv W.heap.size W3.heap.size rb eb n [] (List.replicate l.length (-1)) mb lb nb rw (-1) (List.replicate l.length 0)) := fun W1 W2 W3 rb eb h1 h2 h3 h4 h5 h6 h7 h8 => PlayG.start hline hm hd hlb hnb hrw hBs hdd h1 h2 h3 h4 h5 h6 h7 h8
  clear hline hr hc hok hwh hlen hE hty htk hm hlb hnb hrw hBs hdd hd
  go_enter Tryz.func58, Tryz.ntmps58
  go_upto_region 2 with (first | (go_at_call 89; refine (S8.Repeat_any (w1.alloc (.cells #[.int .i64 (-1)] 3)) _ l.length (heap_alloc_new _ _) (by omega)).mono ?_; rintro r w2 ⟨eb, rfl, hg2, hr2, hb2⟩; have H2 : Hid (w1.heap.size + 1 ≤ eb ∧ w2.heap[eb]? = some (.cells (List.replicate l.length (Value.int .i64 (-1))).toArray 3 (0, 0)) ∧ Below (w1.heap.size + 1) (w1.alloc (.cells #[.int .i64 (-1)] 3)) w2) := ⟨by simpa using hg2, hr2, by simpa using hb2⟩; clear hg2 hr2 hb2) | (go_at_call 89; refine (S8.Repeat_any ((W.alloc (.cells #[.slice none 0 0, .slice none 0 0] 41)).alloc (.cells #[.int .i64 (-1)] 3)) _ n (by have := heap_alloc_new (W.alloc (.cells #[.slice none 0 0, .slice none 0 0] 41)) (.cells #[.int .i64 (-1)] 3); simpa using this) (by omega)).mono ?_; rintro r w1 ⟨rb, rfl, hg1, hr1, hb1⟩; have H1 : Hid (W.heap.size + 2 ≤ rb ∧ w1.heap[rb]? = some (.cells (List.replicate n (Value.int .i64 (-1))).toArray 3 (0, 0)) ∧ Below (W.heap.size + 2) ((W.alloc (.cells #[.slice none 0 0, .slice none 0 0] 41)).alloc (.cells #[.int .i64 (-1)] 3)) w1) := ⟨by simpa using hg1, hr1, by simpa using hb1⟩; clear hg1 hr1 hb1))
  have H0 : Hid (PlayG w0 w0 B Kb Lf Rn Rd C (w2.alloc (.cells #[.slice (some ⟨rb, 0, none⟩) n n, .slice (some ⟨eb, 0, none⟩) l.length l.length] 41)) l rk cm 0 [] (l.map (·.c)) jv (.slice none 0 0) cv W.heap.size w2.heap.size rb eb n [] (List.replicate l.length (-1)) mb lb nb rw (-1) (List.replicate l.length 0)) := by
    refine HST.out ((W.alloc (.cells #[.slice none 0 0, .slice none 0 0] 41)).alloc (.cells #[.int .i64 (-1)] 3)) w1 w2 rb eb ?_ (below_seq (below_new _ _) (below_new _ _)) (by simpa using H1.out.1) H1.out.2.1 (by simpa using H1.out.2.2) ?_ H2.out.2.1 ?_
    · exact (Below.heap_alloc _ _ _ (by simp)).trans (heap_alloc_new _ _)
    · have := H2.out.1; omega
    · refine (below_new w1 (.cells #[.int .i64 (-1)] 3)).trans ?_
      exact H2.out.2.2.mono (by omega)
  clear HST H1 H2
  generalize (w2.alloc (.cells #[.slice (some ⟨rb, 0, none⟩) n n, .slice (some ⟨eb, 0, none⟩) l.length l.length] 41)) = w3 at *
  generalize w2.heap.size = pb at *
  go_wp2_with fail
  go_loopw [22] (fun i wr => ∃ (t : Nat) (s : S8.St) (T : Int) (k1 : Nat) (th1 : List Nat) (tv1 cv1 : Value) (cm1 : List Nat) (w1 : World) (ran : List Int), t ≤ n ∧ i = .int .i64 t ∧ TickG w0 B Kb Lf Rn Rd C wr l rk jv W.heap.size pb rb eb n mb lb nb rw (hiOf set cs) (fun j => (crOf set cs j).c) t s T k1 th1 tv1 cv1 cm1 w1 ran) (fun i _ => n - (intOf i).toNat)
  case atStart =>
    refine ⟨0, S8.St.init l, -1, 0, [], _, cv, cm, w0, _, Nat.zero_le _, rfl, ⟨H0.out, ⟨S8.core_start HQ.out.1 HQ.out.2.1 HQ.out.2.2.1, fun p hp _ => HQ.out.2.1.mem.2 hp⟩, HQ.out.2.1.toG, by simp, ⟨rfl, rfl⟩, by simp, fun i hi' => ?_, by rw [HQ.out.2.1.len]; exact hl⟩⟩
    unfold S8.L S8.J S8.St.init
    simp [List.getD_eq_getElem?_getD, hi']
  case round =>
    obtain ⟨t, s, T, k0, th0, tv0, cv0, cm1, w1, ran, ht, rfl, hin⟩ := hrel
    have hokt := playsT_ok HQ.out.2.2.1 t s T hin.pl
    by_cases hlt : t < n
    · have hti : (t : Int) < (n : Int) := by omega
      have HR : Hid (TickG w0 B Kb Lf Rn Rd C wr l rk jv W.heap.size pb rb eb n mb lb nb rw (hiOf set cs) (fun j => (crOf set cs j).c) t s T k0 th0 tv0 cv0 cm1 w1 ran ∧ S8.Ok l t s) := ⟨hin, hokt⟩
      clear hin hokt
      go_upto_region 6 with (go_at_call 90; refine (S8.ComeG_any w1 B Kb Lf Rn Rd C wr l 1 rk cm1 k0 th0 s.left (vis (hiOf set cs) T s.left) jv tv0 cv0 (t : Int) HR.out.1.pg.line HR.out.1.co HQ.out.1 HR.out.1.cg hl HR.out.1.come).mono ?_; rintro r w4 ⟨⟨cb', rfl⟩, k1, th1, tv1, cv1, hcw, hco1, hnow, hmv, hsub⟩; have H1 : Hid (PlayG w0 w1 B Kb Lf Rn Rd C w4 l rk cm1 k1 th1 s.left jv tv1 cv1 W.heap.size pb rb eb n s.runs s.ends mb lb nb rw T ran ∧ S8.CoreG l rk cm1 k1 th1 (vis (hiOf set cs) T s.left) ∧ S8.Now l rk cm1 k1 (t : Int)) := ⟨HR.out.1.pg.moved hcw (MovedG.of hmv), hco1, hnow⟩; clear hcw hco1 hnow hmv hsub)
      go_upto_region 7 with (go_at_call 91; refine (S8.FirstG_any w1 B Kb Lf Rn Rd C w4 l 1 rk cm1 k1 th1 s.left jv tv1 cv1 H1.out.1.line HQ.out.1 (fun p hp => H1.out.2.1.lt HR.out.1.cg hp)).mono ?_; rintro r w2' ⟨rfl, q2, rfl⟩)
      have H2 : Hid (PlayG w0 w1 B Kb Lf Rn Rd C (w4.drewN q2) l rk cm1 k1 th1 s.left jv tv1 cv1 W.heap.size pb rb eb n s.runs s.ends mb lb nb rw T ran ∧ S8.CoreG l rk cm1 k1 th1 (vis (hiOf set cs) T s.left) ∧ S8.Now l rk cm1 k1 (t : Int)) := ⟨H1.out.1.below below_drewN', H1.out.2⟩
      clear H1
      generalize w4.drewN q2 = wd at *
      have hrl := HR.out.2.runs
      cases th1 with
      | nil =>
        have hbest := H2.out.2.1.best_none HQ.out.1 HR.out.1.cg H2.out.2.2
        have HP : Hid (S8.IsBest l 1 (vis (hiOf set cs) T s.left) (t : Int) (-1)) := hbest
        have H3 : Hid (PlayG w0 w1 B Kb Lf Rn Rd C wd l rk cm1 k1 [] s.left jv tv1 cv1 W.heap.size pb rb eb n (s.runs ++ [-1]) s.ends mb lb nb rw T ran) := H2.out.1.idle (by omega)
        have hf : S8.foreJ rk [] = -1 := rfl
        clear hbest
        rw [hf]
        go_wp2_with fail
        exact ⟨⟨t + 1, ⟨s.left, s.ends, s.runs ++ [-1]⟩, T, k1, [], tv1, cv1, cm1, w1, ran, by omega, by simp, ⟨H3.out, H2.out.2.1, HR.out.1.cg, fun q hq => (by have := H2.out.2.2.come q hq; omega), ⟨s, T, -1, HR.out.1.pl, HP.out, rfl, (by unfold turnT; rw [if_neg (by omega)])⟩, HR.out.1.rl, HR.out.1.rn, HR.out.1.cq⟩⟩, by simp [intOf]; omega⟩
      | cons p th2 =>
        have hpt : p ∈ p :: th2 := List.mem_cons_self
        have hbest := H2.out.2.1.best_some HQ.out.1 HR.out.1.cg H2.out.2.2
        have hf : S8.foreJ rk (p :: th2) = ((S8.RK rk p : Nat) : Int) := rfl
        rw [hf]
        have hqm : (((S8.RK rk p : Nat) : Int) == -1) = false := by rw [beq_eq_false_iff_ne]; omega
        have hqm' : decide (((S8.RK rk p : Nat) : Int) = -1) = false := decide_eq_false (by omega)
        have hpll : p < l.length := H2.out.2.1.lt HR.out.1.cg hpt
        have hvp := vis_pos ((H2.out.2.1.core.mem p).1 hpt).2
        have hrkl : (S8.RK rk p) < l.length := HQ.out.1.lt hpll
        obtain ⟨Lv, hLv⟩ : ∃ Lv, S8.L s.left (S8.RK rk p) = Lv := ⟨_, rfl⟩
        have hL0 : 0 < Lv := by rw [← hLv]; exact hvp.2
        have hL1 : Lv ≤ 10000 := by rw [← hLv]; exact HR.out.2.small _
        have hll := HR.out.2.left
        have haft : s.after t ((S8.RK rk p : Nat) : Int) = ⟨s.left.set (S8.RK rk p) (Lv - 1), if Lv - 1 = 0 then s.ends.set (S8.RK rk p) ((t : Int) + 1) else s.ends, s.runs ++ [((S8.RK rk p : Nat) : Int)]⟩ := by
          unfold S8.St.after
          rw [if_neg (by omega), Int.toNat_natCast, hLv]
        have hthl := H2.out.2.1.len HR.out.1.cg
        have HI : Hid (TickG w0 B Kb Lf Rn Rd C wr l rk jv W.heap.size pb rb eb n mb lb nb rw (hiOf set cs) (fun j => (crOf set cs j).c) t s T k0 th0 tv0 cv0 cm1 w1 ran) := HR.out.1
        have HP : Hid (S8.IsBest l 1 (vis (hiOf set cs) T s.left) (t : Int) ((S8.RK rk p : Nat) : Int)) := hbest
        have HC : Hid (S8.L s.left (S8.RK rk p) = Lv ∧ s.left.length = l.length ∧ (S8.RK rk p) < l.length ∧ p < l.length ∧ (p :: th2).length ≤ l.length ∧ (T < 0 ∨ (hiOf set cs) (S8.RK rk p) = true)) := ⟨hLv, hll, hrkl, hpll, by omega, hvp.1⟩
        have hqi : ((S8.RK rk p : Nat) : Int) < (l.length : Int) := by omega
        have hJc := HQ.out.2.2.1 (S8.J l (S8.RK rk p)) (by
          have e : l[(S8.RK rk p)]? = some (S8.J l (S8.RK rk p)) := by unfold S8.J; rw [List.getD_eq_getElem?_getD]; simp [hrkl]
          exact List.mem_of_getElem? e)
        have hrn := HI.out.rn (S8.RK rk p) hrkl
        rw [hLv] at hrn
        obtain ⟨v, hv⟩ : ∃ v, S8.L ran (S8.RK rk p) = v := ⟨_, rfl⟩
        have hvv : v = (S8.J l (S8.RK rk p)).c - Lv := by rw [← hv]; exact hrn
        have hle : Lv ≤ (S8.J l (S8.RK rk p)).c := by
          have := playsT_le HQ.out.2.2.1 t s T HI.out.pl (S8.RK rk p) hrkl
          rw [hLv] at this; exact this
        have HV : Hid (S8.L ran (S8.RK rk p) = v ∧ 0 ≤ v ∧ v ≤ 20000) := ⟨hv, by omega, by have := hJc.2.2.2.1; omega⟩
        have HV2 : Hid (tk[(S8.RK rk p)]? = some (S8.J l (S8.RK rk p)).c) := HQ.out.2.2.2.2.2.2.2 (S8.RK rk p) hrkl
        have htt : turnI T (v + 1) (crOf set cs (S8.RK rk p)).c (S8.J l (S8.RK rk p)).c ((t : Int) + 1) = turnT l (fun j => (crOf set cs j).c) T s t ((S8.RK rk p : Nat) : Int) := by
          unfold turnI turnT
          rw [Int.toNat_natCast, hLv, hvv]
          have e : (S8.J l (S8.RK rk p)).c - Lv + 1 = (S8.J l (S8.RK rk p)).c - (Lv - 1) := by omega
          rw [e]
          have e2 : (0 : Int) ≤ ((S8.RK rk p : Nat) : Int) := by omega
          simp only [e2, true_and]
        have HTT : Hid (turnI T (v + 1) (crOf set cs (S8.RK rk p)).c (S8.J l (S8.RK rk p)).c ((t : Int) + 1) = turnT l (fun j => (crOf set cs j).c) T s t ((S8.RK rk p : Nat) : Int)) := htt
        clear htt
        have HRN : Hid (∀ w, w = Lv - 1 → ∀ i, i < l.length → S8.L (ran.set (S8.RK rk p) (v + 1)) i = (S8.J l i).c - S8.L (s.left.set (S8.RK rk p) w) i) := fun w hw i hi' => by
          rw [S8.L_set (by rw [HI.out.rl]; exact hrkl), S8.L_set (by rw [hll]; exact hrkl)]
          by_cases e : i = (S8.RK rk p)
          · rw [if_pos e, if_pos e, e]; omega
          · rw [if_neg e, if_neg e]; exact HI.out.rn i hi'
        clear hbest hLv hll hthl hpll hpt hJc hrn hv hvv hle hvp
        go_upto_region 8 with (go_at_call 68; refine (always_any _ _).mono ?_; rintro r w5 ⟨rfl, hw5⟩; have hw6 := hw5.symm; subst hw6; clear hw5)
        obtain ⟨ps, pf, pl⟩ := cells_of (l := [_, _]) H2.out.1.p
        have p0 := ps 0 _ rfl
        obtain ⟨rc, rf, rl⟩ := cells_of (l := padG n s.runs) H2.out.1.rv
        have r0 := rc t _ (List.getElem?_eq_getElem (by rw [padG_len (by omega)]; exact hlt))
        have rf0 := rf t
        generalize (padG n s.runs)[t]'(by rw [padG_len (by omega)]; exact hlt) = rold at r0
        have HB : Hid (PlayG w0 w1 B Kb Lf Rn Rd C (wd.setCell ⟨rb, t, none⟩ (.int .i64 ((S8.RK rk p : Nat) : Int))) l rk cm1 k1 (p :: th2) s.left jv tv1 cv1 W.heap.size pb rb eb n (s.runs ++ [((S8.RK rk p : Nat) : Int)]) s.ends mb lb nb rw T ran) := H2.out.1.run (i := t) (v := ((S8.RK rk p : Nat) : Int)) (by rw [← hrl]; exact padG_snoc (by omega))
        clear ps pf rc rf
        have qt : IntKind.i64.wrap ((t : Int) + 1) = (t : Int) + 1 := by rw [IntKind.wrap_i64]; omega
        by_cases hz : Lv = 1
        · subst hz
          have HA : Hid (s.after t ((S8.RK rk p : Nat) : Int) = ⟨s.left.set (S8.RK rk p) 0, s.ends.set (S8.RK rk p) ((t : Int) + 1), s.runs ++ [((S8.RK rk p : Nat) : Int)]⟩) := by
            rw [if_pos (by decide)] at haft
            exact haft
          have hel := HR.out.2.ends
          have HEL : Hid ((S8.RK rk p) < (s.ends.map (Value.int .i64)).length) := by
            have e : (S8.RK rk p) < (s.ends.map (Value.int .i64)).length := by rw [List.length_map, hel]; exact hrkl
            exact e
          clear hL0 hL1 haft hel hrkl
          go_upto_region 10 with (go_at_call 92; refine (S8.WorkG_last w1 B Kb Lf Rn Rd C _ l 1 rk cm1 k1 p (p :: th2) s.left jv tv1 cv1 HB.out.line HQ.out.1 List.mem_cons_self HC.out.2.2.2.1 HC.out.2.1 HC.out.1 H2.out.2.1.core.asc (by have := HC.out.2.2.2.2.1; omega)).mono ?_; rintro r w6 ⟨rfl, tv6, hc6, hm6⟩; have H6 : Hid (PlayG w0 w1 B Kb Lf Rn Rd C w6 l rk cm1 k1 ((p :: th2).take ((p :: th2).countP (· < p)) ++ (p :: th2).drop ((p :: th2).countP (· < p) + 1)) (s.left.set (S8.RK rk p) 0) jv tv6 cv1 W.heap.size pb rb eb n (s.runs ++ [((S8.RK rk p : Nat) : Int)]) s.ends mb lb nb rw T ran) := HB.out.moved hc6 (MovedG.of hm6); clear hc6 hm6)
          obtain ⟨ps, pf, pl⟩ := cells_of (l := [_, _]) H6.out.p
          have p1 := ps 1 _ rfl
          obtain ⟨ec, ef, el⟩ := cells_of (l := s.ends.map (Value.int .i64)) H6.out.ev
          have e0 := ec (S8.RK rk p) _ (List.getElem?_eq_getElem HEL.out)
          have ef0 := ef (S8.RK rk p)
          generalize (s.ends.map (Value.int .i64))[(S8.RK rk p)]'HEL.out = eold at e0
          clear ps pf ec ef
          have hcore := (H2.out.2.1.leave HQ.out.1 HR.out.1.cg (by rw [vis_len]; exact HC.out.2.1) List.mem_cons_self).cong (left' := vis (hiOf set cs) T (s.left.set (S8.RK rk p) 0)) (fun i => vis_set (by rw [HC.out.2.1]; exact HC.out.2.2.1) HC.out.2.2.2.2.2 i)
          have H7 := H6.out.done (i := (S8.RK rk p)) (v := (t : Int) + 1)
          have HRn := ran_any w0 w1 B Kb Lf Rn Rd C _ l rk cm1 k1 _ (s.left.set (S8.RK rk p) 0) jv tv6 cv1 W.heap.size pb rb eb n (s.runs ++ [((S8.RK rk p : Nat) : Int)]) (s.ends.set (S8.RK rk p) ((t : Int) + 1)) mb lb nb rw T ran set cs tk sv qv tkv sb cb ob tb (S8.RK rk p) v ((t : Int) + 1) (S8.J l (S8.RK rk p)).c H7 hcore HI.out.cg HQ.out.1 HQ.out.2.2.2.1 HQ.out.2.2.2.2.1 HQ.out.2.2.2.2.2.1 HC.out.2.2.1 HI.out.rl HV.out.1 HV.out.2 HV2.out HQ.out.2.2.2.2.2.2.1 hl (by omega) HI.out.cq
          rw [HTT.out] at HRn
          clear H7 hcore
          go_wp2_with (go_at_call 69; refine HRn.mono ?_; rintro r w9 ⟨rfl, w1', cm', th', tv', cv', g1, g2, g3, g4, g5⟩; have H9 : Hid (PlayG w0 w1' B Kb Lf Rn Rd C w9 l rk cm' k1 th' (s.left.set (S8.RK rk p) 0) jv tv' cv' W.heap.size pb rb eb n (s.runs ++ [((S8.RK rk p : Nat) : Int)]) (s.ends.set (S8.RK rk p) ((t : Int) + 1)) mb lb nb rw (turnT l (fun j => (crOf set cs j).c) T s t ((S8.RK rk p : Nat) : Int)) (ran.set (S8.RK rk p) (v + 1)) ∧ S8.CoreG l rk cm' k1 th' (vis (hiOf set cs) (turnT l (fun j => (crOf set cs j).c) T s t ((S8.RK rk p : Nat) : Int)) (s.left.set (S8.RK rk p) 0)) ∧ S8.ComingG l rk cm' ∧ cm'.length ≤ 4000 ∧ cm'.take k1 = cm1.take k1) := ⟨g1, g2, g3, g4, g5⟩; clear g1 g2 g3 g4 g5 HRn)
          exact ⟨⟨t + 1, ⟨s.left.set (S8.RK rk p) 0, s.ends.set (S8.RK rk p) ((t : Int) + 1), s.runs ++ [((S8.RK rk p : Nat) : Int)]⟩, _, k1, th', tv', cv', cm', w1', _, by omega, by simp, ⟨H9.out.1, H9.out.2.1, H9.out.2.2.1, (fun q hq => by rw [H9.out.2.2.2.2] at hq; have := H2.out.2.2.come q hq; omega), ⟨s, T, _, HI.out.pl, HP.out, HA.out.symm, rfl⟩, by simp [HI.out.rl], HRN.out 0 (by omega), H9.out.2.2.2.1⟩⟩, by simp [intOf]; omega⟩
        · have HA : Hid (s.after t ((S8.RK rk p : Nat) : Int) = ⟨s.left.set (S8.RK rk p) (Lv - 1), s.ends, s.runs ++ [((S8.RK rk p : Nat) : Int)]⟩) := by
            rw [if_neg (by omega)] at haft
            exact haft
          have HZ : Hid (1 < Lv ∧ Lv ≤ 10000) := by
            have e : 1 < Lv ∧ Lv ≤ 10000 := by omega
            exact e
          clear hL0 hL1 haft hrkl hz
          have hcore := (H2.out.2.1.tick (v := Lv - 1) HQ.out.1 HR.out.1.cg (by rw [vis_len]; exact HC.out.2.1) List.mem_cons_self (by have := HZ.out.1; omega)).cong (left' := vis (hiOf set cs) T (s.left.set (S8.RK rk p) (Lv - 1))) (fun i => vis_set (by rw [HC.out.2.1]; exact HC.out.2.2.1) HC.out.2.2.2.2.2 i)
          have HCo : Hid (S8.CoreG l rk cm1 k1 (p :: th2) (vis (hiOf set cs) T (s.left.set (S8.RK rk p) (Lv - 1)))) := hcore
          clear hcore
          go_wp2_with (first | (go_at_call 69; refine HRn.mono ?_; rintro r w9 ⟨rfl, w1', cm', th', tv', cv', g1, g2, g3, g4, g5⟩; have H9 : Hid (PlayG w0 w1' B Kb Lf Rn Rd C w9 l rk cm' k1 th' (s.left.set (S8.RK rk p) (Lv - 1)) jv tv' cv' W.heap.size pb rb eb n (s.runs ++ [((S8.RK rk p : Nat) : Int)]) s.ends mb lb nb rw (turnT l (fun j => (crOf set cs j).c) T s t ((S8.RK rk p : Nat) : Int)) (ran.set (S8.RK rk p) (v + 1)) ∧ S8.CoreG l rk cm' k1 th' (vis (hiOf set cs) (turnT l (fun j => (crOf set cs j).c) T s t ((S8.RK rk p : Nat) : Int)) (s.left.set (S8.RK rk p) (Lv - 1))) ∧ S8.ComingG l rk cm' ∧ cm'.length ≤ 4000 ∧ cm'.take k1 = cm1.take k1) := ⟨g1, g2, g3, g4, g5⟩; clear g1 g2 g3 g4 g5 HRn) | (go_at_call 92; refine (S8.WorkG_on w1 B Kb Lf Rn Rd C _ l rk cm1 k1 (S8.RK rk p) Lv (p :: th2) s.left jv tv1 cv1 HB.out.line HC.out.2.2.1 HC.out.2.1 HC.out.1 HZ.out.1 HZ.out.2).mono ?_; rintro r w6 ⟨rfl, hc6, hm6⟩; have H6 : PlayG w0 w1 B Kb Lf Rn Rd C w6 l rk cm1 k1 (p :: th2) (s.left.set (S8.RK rk p) (Lv - 1)) jv tv1 cv1 W.heap.size pb rb eb n (s.runs ++ [((S8.RK rk p : Nat) : Int)]) s.ends mb lb nb rw T ran := HB.out.moved hc6 (MovedG.of hm6); have HRn := ran_any w0 w1 B Kb Lf Rn Rd C w6 l rk cm1 k1 (p :: th2) (s.left.set (S8.RK rk p) (Lv - 1)) jv tv1 cv1 W.heap.size pb rb eb n (s.runs ++ [((S8.RK rk p : Nat) : Int)]) s.ends mb lb nb rw T ran set cs tk sv qv tkv sb cb ob tb (S8.RK rk p) v ((t : Int) + 1) (S8.J l (S8.RK rk p)).c H6 HCo.out HI.out.cg HQ.out.1 HQ.out.2.2.2.1 HQ.out.2.2.2.2.1 HQ.out.2.2.2.2.2.1 HC.out.2.2.1 HI.out.rl HV.out.1 HV.out.2 HV2.out HQ.out.2.2.2.2.2.2.1 hl (by omega) HI.out.cq; rw [HTT.out] at HRn; clear hc6 hm6 H6))
          exact ⟨⟨t + 1, ⟨s.left.set (S8.RK rk p) (Lv - 1), s.ends, s.runs ++ [((S8.RK rk p : Nat) : Int)]⟩, _, k1, th', tv', cv', cm', w1', _, by omega, by simp, ⟨H9.out.1, H9.out.2.1, H9.out.2.2.1, (fun q hq => by rw [H9.out.2.2.2.2] at hq; have := H2.out.2.2.come q hq; omega), ⟨s, T, _, HI.out.pl, HP.out, HA.out.symm, rfl⟩, by simp [HI.out.rl], HRN.out (Lv - 1) rfl, H9.out.2.2.2.1⟩⟩, by simp [intOf]; omega⟩
    · have hte : t = n := by omega
      subst hte
      have HE : Hid (TickG w0 B Kb Lf Rn Rd C wr l rk jv W.heap.size pb rb eb t mb lb nb rw (hiOf set cs) (fun j => (crOf set cs j).c) t s T k0 th0 tv0 cv0 cm1 w1 ran ∧ S8.Ok l t s) := ⟨hin, hokt⟩
      obtain ⟨ps, pf, pl⟩ := cells_of (l := [_, _]) hin.pg.p
      have p0 := ps 0 _ rfl
      have p1 := ps 1 _ rfl
      obtain ⟨qs, qf, ql⟩ := cells_of (l := [_, _]) hin.pg.res
      have q0 := qs 0 _ rfl
      have q1 := qs 1 _ rfl
      have qf0 := qf 0
      have qf1 := qf 1
      clear ps pf qs qf hin hokt
      go_wp2_with fail
      refine bodyPost_ret (playG_ends (g := W.heap.size) (c := .slice (some ⟨rb, 0, none⟩) t t) (k := .slice (some ⟨eb, 0, none⟩) l.length l.length) (by rw [setCell_at (setCell_at HE.out.1.pg.res)]; rfl) rfl) rfl ?_
      obtain ⟨a1, a2, a3, -, -, -, b2, b3, -, -, -, c3, -⟩ := HE.out.1.pg.ne
      have hb1 := HE.out.1.pg.bs W.heap.size (by simp)
      have hb2 := HE.out.1.pg.bs rb (by simp)
      have hb3 := HE.out.1.pg.bs eb (by simp)
      have hlow := HE.out.1.pg.line.low.2
      have hsz := HE.out.1.pg.base.size
      refine ⟨s, T, w1, rb, eb, HE.out.1.pl, rfl, ?_, ?_, c3, by omega, by omega, HE.out.1.pg.base, (HE.out.1.pg.line.bel.setCell (show w1.heap.size ≤ W.heap.size by omega) _).setCell (show w1.heap.size ≤ W.heap.size by omega) _⟩
      · rw [Below.heap_setCell _ _ _ _ (Ne.symm a2), Below.heap_setCell _ _ _ _ (Ne.symm a2), HE.out.1.pg.rv, ← HE.out.2.runs, padG_full]
      · rw [Below.heap_setCell _ _ _ _ (Ne.symm a3), Below.heap_setCell _ _ _ _ (Ne.symm a3), HE.out.1.pg.ev]
end Go.Proofs.YtccoobcggbbciaiGreatDoor
