import Derived.Test.YtccoobcggbbciaiGreatDoorGA
namespace Go.Proofs.YtccoobcggbbciaiGreatDoor.S8
open Go.ChangeShapes Go.WideShapes Go.ChangeAt Go.RowKit

set_option maxRecDepth 20000 in
set_option maxHeartbeats 2000000 in
theorem WorkG_on (w0 : World) (B K Lf Rn Rd C : Nat) (W : World) (l : List Jb) (rk cm : List Nat) (k j : Nat) (v : Int) (th : List Nat) (left : List Int) (jv tv cv : Value) (h : LineG w0 B K Lf Rn Rd C W l rk cm k th left jv tv cv) (hj : j < l.length) (hl : left.length = l.length) (hv : L left j = v) (h1 : 1 < v) (h2 : v ≤ 10000) :
    Calls Tryz.prog 92 #[.pointer (some ⟨K, 0, none⟩), .int .i64 (j : Int)] W fun r W' => r = .returned (.bool false) ∧ LineG w0 B K Lf Rn Rd C W' l rk cm k th (left.set j (v - 1)) jv tv cv ∧ MovedL W W' K Lf tv tv := by
  obtain ⟨hs, -, hlk⟩ := cells_of (l := [_, _, _, _, _, _]) h.line
  have c1 := hs 1 _ rfl
  obtain ⟨hs2, hf2, hlf⟩ := cells_of (l := left.map (Value.int .i64)) h.left
  have dL : W.cell? ⟨Lf, j, none⟩ = some (.int .i64 v) := hs2 j _ (by
    rw [List.getElem?_map, List.getElem?_eq_getElem (by omega)]
    unfold L at hv
    rw [List.getD_eq_getElem?_getD, List.getElem?_eq_getElem (by omega)] at hv
    simp at hv
    simp [hv])
  have fL := hf2 j
  have hji : (j : Int) < (l.length : Int) := by omega
  have dK : Lf ≠ K := h.dK.1
  have dK' : K ≠ Lf := Ne.symm dK
  have HR : Hid (LineG w0 B K Lf Rn Rd C (W.setCell ⟨Lf, j, none⟩ (.int .i64 (v - 1))) l rk cm k th (left.set j (v - 1)) jv tv cv ∧ MovedL W (W.setCell ⟨Lf, j, none⟩ (.int .i64 (v - 1))) K Lf tv tv) := h.ran j (v - 1)
  have hvp : (0 : Int) < v - 1 := by omega
  clear h hs hs2 hf2 hv
  go_enter Tryz.func92, Tryz.ntmps92
  go_wp2_with fail
  go_ret
  exact ⟨rfl, HR.out.1, HR.out.2⟩

set_option maxRecDepth 20000 in
set_option maxHeartbeats 2000000 in
theorem WorkG_last (w0 : World) (B K Lf Rn Rd C : Nat) (W : World) (l : List Jb) (pol : Int) (rk cm : List Nat) (k p : Nat) (th : List Nat) (left : List Int) (jv tv cv : Value) (h : LineG w0 B K Lf Rn Rd C W l rk cm k th left jv tv cv) (hr : Ranked l pol rk) (hp : p ∈ th) (hpl : p < l.length) (hl : left.length = l.length) (hv : L left (RK rk p) = 1) (ha : th.Pairwise (· < ·)) (hth : th.length ≤ 100000) :
    Calls Tryz.prog 92 #[.pointer (some ⟨K, 0, none⟩), .int .i64 ((RK rk p : Nat) : Int)] W fun r W' => r = .returned (.bool true) ∧ ∃ tv', LineG w0 B K Lf Rn Rd C W' l rk cm k (th.take (th.countP (· < p)) ++ th.drop (th.countP (· < p) + 1)) (left.set (RK rk p) 0) jv tv' cv ∧ MovedL W W' K Lf tv tv' := by
  have hj : RK rk p < l.length := hr.lt hpl
  have hidx := hr.idx hpl
  have hd := (del_asc p ha hp).1
  obtain ⟨hs, -, hlk⟩ := cells_of (l := [_, _, _, _, _, _]) h.line
  have c1 := hs 1 _ rfl
  obtain ⟨hs2, hf2, hlf⟩ := cells_of (l := left.map (Value.int .i64)) h.left
  have dL : W.cell? ⟨Lf, RK rk p, none⟩ = some (.int .i64 1) := hs2 _ _ (by
    rw [List.getElem?_map, List.getElem?_eq_getElem (by omega)]
    unfold L at hv
    rw [List.getD_eq_getElem?_getD, List.getElem?_eq_getElem (by omega)] at hv
    simp at hv
    simp [hv])
  have fL := hf2 (RK rk p)
  have dRn0 : (zI (invOf rk))[RK rk p]? = some (p : Int) := by
    unfold zI
    rw [List.getElem?_map, invOf_at (by rw [hr.len]; exact hj), hidx]
    rfl
  have hran := h.ran (RK rk p) 0
  generalize hq : RK rk p = q at *
  have hqi : (q : Int) < (l.length : Int) := by omega
  have dK : Lf ≠ K := h.dK.1
  have dK' : K ≠ Lf := Ne.symm dK
  have HR : Hid (LineG w0 B K Lf Rn Rd C (W.setCell ⟨Lf, q, none⟩ (.int .i64 0)) l rk cm k th (left.set q 0) jv tv cv ∧ MovedL W (W.setCell ⟨Lf, q, none⟩ (.int .i64 0)) K Lf tv tv) := hran
  obtain ⟨ad, c, rfl⟩ := own_slice h.there
  have c2 := hs 2 _ rfl
  have c5 := hs 5 _ rfl
  have dRn : W.cell? ⟨Rn, q, none⟩ = some (.int .i64 (p : Int)) := (cells_of (l := (zI (invOf rk)).map (Value.int .i64)) h.ranks).1 q _ (by rw [List.getElem?_map, dRn0]; rfl)
  have dRL : Rn ≠ Lf := h.dL.1
  generalize hi : th.countP (· < p) = i at *
  have e3 : zI (th.take i ++ th.drop (i + 1)) = (zI th).take i ++ (zI th).drop (i + 1) := by simp [zI, List.map_take, List.map_drop]
  have HE : Hid (zI (th.take i ++ th.drop (i + 1)) = (zI th).take i ++ (zI th).drop (i + 1)) := e3
  have HA : Hid (th.Pairwise (· < ·) ∧ th.length ≤ 100000) := ⟨ha, hth⟩
  clear h hs hs2 hf2 hv hran e3 ha hth c2 c5 dRn
  go_enter Tryz.func92, Tryz.ntmps92
  go_wp2_with fail
  obtain ⟨hs, hf, hlk⟩ := cells_of (l := [_, _, _, _, _, _]) HR.out.1.line
  have c2 := hs 2 _ rfl
  have c5 := hs 5 _ rfl
  have f5 := hf 5
  have dRn : (W.setCell ⟨Lf, q, none⟩ (.int .i64 0)).cell? ⟨Rn, q, none⟩ = some (.int .i64 (p : Int)) := (cells_of (l := (zI (invOf rk)).map (Value.int .i64)) HR.out.1.ranks).1 q _ (by rw [List.getElem?_map, dRn0]; rfl)
  have HSr := fun n => Search_any ((W.setCell ⟨Lf, q, none⟩ (.int .i64 0)).drewN n) B (.slice ad th.length c) th p (HR.out.1.drewN n).there HA.out.1 HA.out.2
  clear hs hf c1 dL fL hlf dRn0
  generalize hX : W.setCell ⟨Lf, q, none⟩ (.int .i64 0) = X at *
  rw [hi] at HSr
  have HI : Hid (th.countP (fun x => decide (x < p)) = i) := hi
  have hth2 : th.length ≤ 100000 := HA.out.2
  have hib : (i : Int) + 1 ≤ 100001 := by omega
  clear hX hi hidx hq hp hr hl hpl hj dK dK' dRL HA
  go_quiet (first | (go_at_call 129; exact Calls.quiet_of (HSr _)))
  have HR2 : Hid (LineG w0 B K Lf Rn Rd C (X.drewN nq) l rk cm k th (left.set q 0) jv (.slice ad th.length c) cv ∧ MovedL W (X.drewN nq) K Lf (.slice ad th.length c) (.slice ad th.length c)) := ⟨HR.out.1.drewN nq, HR.out.2.trans (MovedL.drewN X K Lf _ nq)⟩
  have e5 : (X.drewN nq).cell? ⟨K, 5, none⟩ = _ := c5
  have g5 : (X.drewN nq).frozen? ⟨K, 5, none⟩ = false := f5
  have hlk2 : K < (X.drewN nq).heap.size := hlk
  clear HR c2 c5 f5 dRn hlk HSr
  generalize X.drewN nq = Y at *
  have HDl := Delete_own Y B (.slice ad th.length c) (zI th) i HR2.out.1.there (by rw [zI_len]; exact hd)
  go_wp2_with (go_at_call 131; refine HDl.mono ?_; rintro r w2 ⟨tv2, rfl, ho2, hg2, hv2⟩; have H2 : Hid (LineG w0 B K Lf Rn Rd C (w2.setCell ⟨K, 5, none⟩ tv2) l rk cm k (th.take i ++ th.drop (i + 1)) (left.set q 0) jv tv2 cv ∧ MovedL Y (w2.setCell ⟨K, 5, none⟩ tv2) K Lf (.slice ad th.length c) tv2) := HR2.out.1.put (th' := th.take i ++ th.drop (i + 1)) (by rw [HE.out]; exact ho2) hg2 (.inl hv2); have hk2 := (hg2.block K hlk2 (fun e => by have h1 := HR2.out.1.low' K e.symm; have h2 := HR2.out.1.lt.1; omega)).trans HR2.out.1.line; obtain ⟨ks, kf, kl⟩ := cells_of (l := [_, _, _, _, _, _]) hk2; have k5 := ks 5 _ rfl; have y5 := kf 5; obtain ⟨ad2, n2, cc2, rfl⟩ := own_val ho2; clear ks kf hk2 ho2 hg2 hv2 HDl)
  go_ret
  exact ⟨rfl, _, H2.out.1, HR2.out.2.trans H2.out.2⟩
end Go.Proofs.YtccoobcggbbciaiGreatDoor.S8
namespace Go.Proofs.YtccoobcggbbciaiGreatDoor.S8
open Go.ChangeShapes Go.WideShapes Go.ChangeAt Go.RowKit

theorem LineG.comesLen {w0 : World} {B K Lf Rn Rd C : Nat} {W : World} {l : List Jb} {rk cm : List Nat} {k : Nat} {th : List Nat} {left : List Int} {jv tv cv : Value} (h : LineG w0 B K Lf Rn Rd C W l rk cm k th left jv tv cv) : comesLen K W = cm.length - k := by
  obtain ⟨hs, -, -⟩ := cells_of (l := [_, _, _, _, _, _]) h.line
  have c1 := hs 4 _ rfl
  obtain ⟨a, cc, e, -, -⟩ := h.cval
  unfold Go.Proofs.YtccoobcggbbciaiGreatDoor.S8.comesLen
  rw [c1, e]

set_option maxRecDepth 20000 in
set_option maxHeartbeats 2000000 in
theorem ComeG_any (w0 : World) (B K Lf Rn Rd C : Nat) (W : World) (l : List Jb) (pol : Int) (rk cm : List Nat) (k : Nat) (th : List Nat) (left vl : List Int) (jv tv cv : Value) (t : Int) (h : LineG w0 B K Lf Rn Rd C W l rk cm k th left jv tv cv) (hcore : CoreG l rk cm k th vl) (hr : Ranked l pol rk) (hc : ComingG l rk cm) (hl : l.length ≤ 4000) (hb : ∀ p ∈ cm.take k, (J l (RK rk p)).a ≤ t) :
    Calls Tryz.prog 90 #[.pointer (some ⟨K, 0, none⟩), .int .i64 t] W fun r W' => (∃ b, r = .returned (.bool b)) ∧ ∃ k' th' tv' cv', LineG w0 B K Lf Rn Rd C W' l rk cm k' th' left jv tv' cv' ∧ CoreG l rk cm k' th' vl ∧ Now l rk cm k' t ∧ MovedL W W' K Lf tv tv' ∧ (∀ x ∈ th, x ∈ th') := by
  have HK : Hid (Ranked l pol rk ∧ ComingG l rk cm) := ⟨hr, hc⟩
  have H0 : Hid (LineG w0 B K Lf Rn Rd C W l rk cm k th left jv tv cv ∧ CoreG l rk cm k th vl ∧ (∀ p ∈ cm.take k, (J l (RK rk p)).a ≤ t)) := ⟨h, hcore, hb⟩
  clear h hcore hr hc hb
  go_enter Tryz.func90, Tryz.ntmps90
  go_wp2_with fail
  go_loopw [5] (fun x wr => (∃ b, x = .bool b) ∧ ∃ k1 th1 tv1 cv1, LineG w0 B K Lf Rn Rd C wr l rk cm k1 th1 left jv tv1 cv1 ∧ CoreG l rk cm k1 th1 vl ∧ (∀ p ∈ cm.take k1, (J l (RK rk p)).a ≤ t) ∧ MovedL W wr K Lf tv tv1 ∧ (∀ x ∈ th, x ∈ th1)) (fun _ wr => comesLen K wr)
  case atStart => exact ⟨⟨_, rfl⟩, k, th, tv, cv, H0.out.1, H0.out.2.1, H0.out.2.2, MovedL.refl _ _ _ _, fun _ h => h⟩
  case round =>
    obtain ⟨⟨sb, rfl⟩, k1, th1, tv1, cv1, hw, hco, hb, hmv, hsub⟩ := hrel
    have HL : Hid (comesLen K wr = cm.length - k1) := hw.comesLen
    obtain ⟨ad, c, rfl⟩ := own_slice hw.there
    obtain ⟨hs, hf, hlk⟩ := cells_of (l := [_, _, _, _, _, _]) hw.line
    have c0 := hs 0 _ rfl
    have c2 := hs 2 _ rfl
    have c4 := hs 4 _ rfl
    have c5 := hs 5 _ rfl
    obtain ⟨a, cq, rfl, hcq, ha⟩ := hw.cval
    have HR : Hid (LineG w0 B K Lf Rn Rd C wr l rk cm k1 th1 left jv (.slice ad th1.length c) (.slice a (cm.length - k1) cq) ∧ CoreG l rk cm k1 th1 vl ∧ (∀ p ∈ cm.take k1, (J l (RK rk p)).a ≤ t) ∧ MovedL W wr K Lf tv (.slice ad th1.length c) ∧ (∀ x ∈ th, x ∈ th1)) := ⟨hw, hco, hb, hmv, hsub⟩
    clear hs hf
    by_cases hk : k1 < cm.length
    · have hkc : k1 < cm.length := hk
      obtain ⟨p, hp, -⟩ := drop_at hkc
      obtain rfl := ha hk
      have hpl : p < l.length := HK.out.2.mem p (List.mem_of_getElem? hp)
      have hql : RK rk p < l.length := HK.out.1.lt hpl
      have hix := HK.out.1.idx hpl
      have dC : wr.cell? ⟨C, k1, none⟩ = some (.int .i64 ((RK rk p : Nat) : Int)) := hw.comes.at hp
      have dRn : wr.cell? ⟨Rn, RK rk p, none⟩ = some (.int .i64 (p : Int)) := (cells_of (l := (zI (invOf rk)).map (Value.int .i64)) hw.ranks).1 _ _ (by simp only [zI]; rw [List.getElem?_map, List.getElem?_map, invOf_at (by rw [HK.out.1.len]; exact hql), hix]; rfl)
      obtain ⟨ja, jc, rfl, -, hjc, hjr⟩ := hw.jobs.below hw.bel
      rcases hjr with hjr | ⟨jb, jo, rfl, hjr⟩
      · rw [hjr] at hpl; simp at hpl
      have hJ : l[RK rk p]? = some (J l (RK rk p)) := by unfold J; rw [List.getD_eq_getElem?_getD, List.getElem?_eq_getElem hql]; rfl
      have dA : wr.cell? ⟨jb, jo + RK rk p * 5 + 1, none⟩ = some (.int .i64 (J l (RK rk p)).a) := by
        rw [Nat.add_assoc]
        exact hjr _ _ ((flat_at Jb.vals 5 Jb.len l (RK rk p) 1 _ hJ (by omega)).trans rfl)
      have HP : Hid (cm[k1]? = some p ∧ p < l.length) := ⟨hp, hpl⟩
      have hgt : decide ((0 : Int) < ((cm.length - k1 : Nat) : Int)) = true := by simp; omega
      have hgt' : 0 < cm.length - k1 := by omega
      have hqi : ((RK rk p : Nat) : Int) < (l.length : Int) := by omega
      clear ha hw hco hb hmv hsub hp hkc hjr hJ hix hpl hjc
      have HQ : Hid (RK rk p < l.length) := hql
      by_cases hat : (J l (RK rk p)).a ≤ t
      · have hat' : decide ((J l (RK rk p)).a ≤ t) = true := by simpa using hat
        have HAT : Hid ((J l (RK rk p)).a ≤ t) := hat
        clear hat hql
        obtain ⟨A, hA⟩ : ∃ A, (J l (RK rk p)).a = A := ⟨_, rfl⟩
        rw [hA] at dA hat'
        clear hA
        obtain ⟨q, hq⟩ : ∃ q, RK rk p = q := ⟨_, rfl⟩
        rw [hq] at dC dRn dA hqi
        clear hq
        go_wp2_with fail
        go_quiet (fail)
        have HR1 : Hid (LineG w0 B K Lf Rn Rd C (wr.drewN nq) l rk cm k1 th1 left (.slice (some ⟨jb, jo, none⟩) l.length jc) (.slice ad th1.length c) (.slice (some ⟨C, k1, none⟩) (cm.length - k1) cq) ∧ CoreG l rk cm k1 th1 vl ∧ (∀ p ∈ cm.take k1, (J l (RK rk p)).a ≤ t) ∧ MovedL W (wr.drewN nq) K Lf tv (.slice ad th1.length c) ∧ (∀ x ∈ th, x ∈ th1)) := ⟨HR.out.1.drewN nq, HR.out.2.1, HR.out.2.2.1, HR.out.2.2.2.1.trans (MovedL.drewN wr K Lf _ nq), HR.out.2.2.2.2⟩
        have e2 : (wr.drewN nq).cell? ⟨K, 2, none⟩ = _ := c2
        have e4 : (wr.drewN nq).cell? ⟨K, 4, none⟩ = _ := c4
        have e5 : (wr.drewN nq).cell? ⟨K, 5, none⟩ = _ := c5
        have eC : (wr.drewN nq).cell? ⟨C, k1, none⟩ = _ := dC
        have eR : (wr.drewN nq).cell? ⟨Rn, q, none⟩ = _ := dRn
        have hlk1 : K < (wr.drewN nq).heap.size := hlk
        clear HR c0 c2 c4 c5 dC dRn dA hlk hat'
        have HL1 : Hid (comesLen K wr = cm.length - k1) := HL
        generalize wr.drewN nq = wq at *
        go_wp2_with fail
        go_quiet (fail)
        have HR2 : Hid (LineG w0 B K Lf Rn Rd C (wq.drewN nq) l rk cm k1 th1 left (.slice (some ⟨jb, jo, none⟩) l.length jc) (.slice ad th1.length c) (.slice (some ⟨C, k1, none⟩) (cm.length - k1) cq) ∧ CoreG l rk cm k1 th1 vl ∧ (∀ p ∈ cm.take k1, (J l (RK rk p)).a ≤ t) ∧ MovedL W (wq.drewN nq) K Lf tv (.slice ad th1.length c) ∧ (∀ x ∈ th, x ∈ th1)) := ⟨HR1.out.1.drewN nq, HR1.out.2.1, HR1.out.2.2.1, HR1.out.2.2.2.1.trans (MovedL.drewN wq K Lf _ nq), HR1.out.2.2.2.2⟩
        have e5' : (wq.drewN nq).cell? ⟨K, 5, none⟩ = _ := e5
        have hlk2 : K < (wq.drewN nq).heap.size := hlk1
        clear HR1 e2 e4 e5 eC eR hlk1
        generalize wq.drewN nq = w5 at *
        have hIle : th1.countP (fun x => decide (x < p)) ≤ th1.length := List.countP_le_length
        have hlen4 : th1.length ≤ 4000 := by have := HR2.out.2.1.len HK.out.2; omega
        have HSr := Search_any w5 B (.slice ad th1.length c) th1 p HR2.out.1.there HR2.out.2.1.core.asc (by omega)
        generalize hI : th1.countP (fun x => decide (x < p)) = I at *
        have HI : Hid (th1.countP (fun x => decide (x < p)) = I) := hI
        clear hI
        have HIn : Hid (∀ n, Calls Tryz.prog 130 #[.slice ad th1.length c, .int .i64 (I : Int), .slice (some ⟨w5.heap.size, 0, none⟩) 1 1] ((w5.drewN n).alloc (.cells #[.int .i64 (p : Int)] 3)) fun r w7 => ∃ tv7, r = .returned tv7 ∧ (LineG w0 B K Lf Rn Rd C (w7.setCell ⟨K, 5, none⟩ tv7) l rk cm k1 (th1.take I ++ p :: th1.drop I) left (.slice (some ⟨jb, jo, none⟩) l.length jc) tv7 (.slice (some ⟨C, k1, none⟩) (cm.length - k1) cq) ∧ MovedL w5 (w7.setCell ⟨K, 5, none⟩ tv7) K Lf (.slice ad th1.length c) tv7) ∧ (∃ a7 n7 c7, tv7 = .slice a7 n7 c7) ∧ w7.cell? ⟨K, 5, none⟩ = some (.slice ad th1.length c) ∧ w7.frozen? ⟨K, 5, none⟩ = false ∧ w7.cell? ⟨K, 4, none⟩ = some (.slice (some ⟨C, k1, none⟩) (cm.length - k1) cq) ∧ w7.frozen? ⟨K, 4, none⟩ = false ∧ K < w7.heap.size) := fun n => by
          have hCo := (HR2.out.1.drewN n).alloc (.cells #[.int .i64 (p : Int)] 3)
          have hoL : ∀ g, (Value.slice ad th1.length c).ownBlock = some g → g < w5.heap.size := fun g e => (HR2.out.1.there.low e).2
          refine (Insert_own ((w5.drewN n).alloc (.cells #[.int .i64 (p : Int)] 3)) B (.slice ad th1.length c) (zI th1) I w5.heap.size (p : Int) hCo.1.there (by rw [zI_len]; exact hIle) (by rw [zI_len]; omega) (heap_alloc_new _ _) (fun e => by have := hoL _ e; omega) hCo.1.bs).mono ?_
          rintro r w7 ⟨tv7, rfl, ho7, hg7, hv7⟩
          have hx := hCo.1.put (th' := th1.take I ++ p :: th1.drop I) (by rw [show zI (th1.take I ++ p :: th1.drop I) = (zI th1).take I ++ (p : Int) :: (zI th1).drop I by simp [zI, List.map_take, List.map_drop]]; exact ho7) hg7 hv7
          have hK7 := (hg7.block K (by have := hCo.1.bs; have := hCo.1.lt.1; omega) (fun e => by have := hCo.1.low' K e.symm; have := hCo.1.lt.1; omega)).trans hCo.1.line
          obtain ⟨ks, kf, kl⟩ := cells_of (l := [_, _, _, _, _, _]) hK7
          exact ⟨tv7, rfl, ⟨hx.1, ((MovedL.drewN w5 K Lf _ n).trans hCo.2).trans hx.2⟩, own_val ho7, ks 5 _ rfl, kf 5, ks 4 _ rfl, kf 4, kl⟩
        go_wp2_with (first
          | (go_at_call 130; refine (HIn.out _).mono ?_; rintro r w7 ⟨tv7, rfl, h7, ⟨a7, n7, cc7, rfl⟩, k5, y5, k4, y4, kl⟩; have H7 : Hid (LineG w0 B K Lf Rn Rd C (w7.setCell ⟨K, 5, none⟩ (.slice a7 n7 cc7)) l rk cm k1 (th1.take I ++ p :: th1.drop I) left (.slice (some ⟨jb, jo, none⟩) l.length jc) (.slice a7 n7 cc7) (.slice (some ⟨C, k1, none⟩) (cm.length - k1) cq) ∧ MovedL w5 (w7.setCell ⟨K, 5, none⟩ (.slice a7 n7 cc7)) K Lf (.slice ad th1.length c) (.slice a7 n7 cc7)) := h7; clear h7)
          | (go_at_call 129; refine HSr.mono ?_; rintro r w6 ⟨rfl, q2, rfl⟩; have e6 : (w5.drewN q2).cell? ⟨K, 5, none⟩ = some (.slice ad th1.length c) := e5'; have hlk3 : K < (w5.drewN q2).heap.size := hlk2; clear HSr))
        have hn := H7.out.1.next (.slice (if cq = 1 then some ⟨C, k1, none⟩ else some ⟨C, k1 + 1, none⟩) (cm.length - k1 - 1) (cq - 1)) ⟨_, _, by rw [Nat.sub_sub], by omega, fun h => if_neg (by omega)⟩
        have hcm := HR2.out.2.1.come HK.out.2 HP.out.1
        rw [HI.out] at hcm
        refine ⟨⟨⟨_, rfl⟩, k1 + 1, _, _, _, hn.1, hcm.1, fun q hq => ?_, (HR2.out.2.2.2.1.trans H7.out.2).trans hn.2, fun x hx => ?_⟩, ?_⟩
        · rw [List.take_add_one, HP.out.1] at hq
          rcases List.mem_append.1 hq with hq | hq
          · exact HR2.out.2.2.1 q hq
          · simp at hq
            subst hq
            exact HAT.out
        · have hx1 := HR2.out.2.2.2.2 x hx
          rw [← List.take_append_drop I th1] at hx1
          rcases List.mem_append.1 hx1 with hx1 | hx1
          · exact List.mem_append_left _ hx1
          · exact List.mem_append_right _ (List.mem_cons_of_mem _ hx1)
        · rw [hn.1.comesLen, HL1.out]
          omega
      · have hat' : decide ((J l (RK rk p)).a ≤ t) = false := by simpa using hat
        have hlt : t < (J l (RK rk p)).a := by omega
        have HAT : Hid (t < (J l (RK rk p)).a) := hlt
        clear hat hql hlt
        obtain ⟨A, hA⟩ : ∃ A, (J l (RK rk p)).a = A := ⟨_, rfl⟩
        rw [hA] at dA hat'
        clear hA
        obtain ⟨q, hq⟩ : ∃ q, RK rk p = q := ⟨_, rfl⟩
        rw [hq] at dC dRn dA hqi
        clear hq
        go_wp2_with fail
        go_quiet (fail)
        go_wp2_with fail
        go_ret
        exact ⟨⟨_, rfl⟩, k1, th1, _, _, HR.out.1.drewN nq, HR.out.2.1, ⟨HR.out.2.2.1, HK.out.2.wait HP.out.1 HAT.out⟩, HR.out.2.2.2.1.trans (MovedL.drewN wr K Lf _ nq), HR.out.2.2.2.2⟩
    · have hz : cm.length - k1 = 0 := by omega
      rw [hz] at c4
      have hdr : cm.drop k1 = [] := List.drop_of_length_le (by omega)
      clear ha hw hco hb hmv hsub
      go_wp2_with fail
      go_quiet (fail)
      go_wp2_with fail
      go_ret
      exact ⟨⟨_, rfl⟩, k1, th1, _, _, HR.out.1.drewN nq, HR.out.2.1, ⟨HR.out.2.2.1, by rw [hdr]; simp⟩, HR.out.2.2.2.1.trans (MovedL.drewN wr K Lf _ nq), HR.out.2.2.2.2⟩
end Go.Proofs.YtccoobcggbbciaiGreatDoor.S8
