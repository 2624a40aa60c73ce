import Derived.Test.YtccoobcggbbciaiGreatDoorSRA
namespace Go.Proofs.YtccoobcggbbciaiGreatDoor.S8
open Go.ChangeShapes Go.WideShapes Go.ChangeAt Go.RowKit

set_option maxRecDepth 20000 in
set_option maxHeartbeats 2000000 in
theorem Work_on (w0 : World) (B K Lf Rn Rd C : Nat) (W : World) (l : List Jb) (rk cm : List Nat) (k j : Nat) (v : Int) (th : List Nat) (left : List Int) (jv tv cv : Value) (h : LineW w0 B K Lf Rn Rd C W l rk cm k th left jv tv cv) (hj : j < l.length) (hl : left.length = l.length) (hv : L left j = v) (h1 : 1 < v) (h2 : v ≤ 10000) :
    Calls Tryz.prog 92 #[.pointer (some ⟨K, 0, none⟩), .int .i64 (j : Int)] W fun r W' => r = .returned (.bool false) ∧ LineW w0 B K Lf Rn Rd C W' l rk cm k th (left.set j (v - 1)) jv tv cv ∧ MovedL W W' K Lf tv tv := by
  obtain ⟨hs, -, hlk⟩ := cells_of (l := [_, _, _, _, _, _]) h.line
  have c1 := hs 1 _ rfl
  obtain ⟨hs2, hf2, hlf⟩ := cells_of (l := left.map (Value.int .i64)) h.left
  have dL : W.cell? ⟨Lf, j, none⟩ = some (.int .i64 v) := hs2 j _ (by
    rw [List.getElem?_map, List.getElem?_eq_getElem (by omega)]
    unfold L at hv
    rw [List.getD_eq_getElem?_getD, List.getElem?_eq_getElem (by omega)] at hv
    simp at hv
    simp [hv])
  have fL := hf2 j
  have hji : (j : Int) < (l.length : Int) := by omega
  have dK : Lf ≠ K := h.dK.1
  have dK' : K ≠ Lf := Ne.symm dK
  have HR : Hid (LineW w0 B K Lf Rn Rd C (W.setCell ⟨Lf, j, none⟩ (.int .i64 (v - 1))) l rk cm k th (left.set j (v - 1)) jv tv cv ∧ MovedL W (W.setCell ⟨Lf, j, none⟩ (.int .i64 (v - 1))) K Lf tv tv) := h.ran j (v - 1)
  have hvp : (0 : Int) < v - 1 := by omega
  clear h hs hs2 hf2 hv
  go_enter Tryz.func92, Tryz.ntmps92
  go_wp2_with fail
  go_ret
  exact ⟨rfl, HR.out.1, HR.out.2⟩

set_option maxRecDepth 20000 in
set_option maxHeartbeats 2000000 in
theorem Work_last (w0 : World) (B K Lf Rn Rd C : Nat) (W : World) (l : List Jb) (pol : Int) (rk cm : List Nat) (k p : Nat) (th : List Nat) (left : List Int) (jv tv cv : Value) (h : LineW w0 B K Lf Rn Rd C W l rk cm k th left jv tv cv) (hr : Ranked l pol rk) (hp : p ∈ th) (hpl : p < l.length) (hl : left.length = l.length) (hv : L left (RK rk p) = 1) (ha : th.Pairwise (· < ·)) (hth : th.length ≤ 100000) :
    Calls Tryz.prog 92 #[.pointer (some ⟨K, 0, none⟩), .int .i64 ((RK rk p : Nat) : Int)] W fun r W' => r = .returned (.bool true) ∧ ∃ tv', LineW w0 B K Lf Rn Rd C W' l rk cm k (th.take (th.countP (· < p)) ++ th.drop (th.countP (· < p) + 1)) (left.set (RK rk p) 0) jv tv' cv ∧ MovedL W W' K Lf tv tv' := by
  have hj : RK rk p < l.length := hr.lt hpl
  have hidx := hr.idx hpl
  have hd := (del_asc p ha hp).1
  obtain ⟨hs, -, hlk⟩ := cells_of (l := [_, _, _, _, _, _]) h.line
  have c1 := hs 1 _ rfl
  obtain ⟨hs2, hf2, hlf⟩ := cells_of (l := left.map (Value.int .i64)) h.left
  have dL : W.cell? ⟨Lf, RK rk p, none⟩ = some (.int .i64 1) := hs2 _ _ (by
    rw [List.getElem?_map, List.getElem?_eq_getElem (by omega)]
    unfold L at hv
    rw [List.getD_eq_getElem?_getD, List.getElem?_eq_getElem (by omega)] at hv
    simp at hv
    simp [hv])
  have fL := hf2 (RK rk p)
  have dRn0 : (zI (invOf rk))[RK rk p]? = some (p : Int) := by
    unfold zI
    rw [List.getElem?_map, invOf_at (by rw [hr.len]; exact hj), hidx]
    rfl
  have hran := h.ran (RK rk p) 0
  generalize hq : RK rk p = q at *
  have hqi : (q : Int) < (l.length : Int) := by omega
  have dK : Lf ≠ K := h.dK.1
  have dK' : K ≠ Lf := Ne.symm dK
  have HR : Hid (LineW w0 B K Lf Rn Rd C (W.setCell ⟨Lf, q, none⟩ (.int .i64 0)) l rk cm k th (left.set q 0) jv tv cv ∧ MovedL W (W.setCell ⟨Lf, q, none⟩ (.int .i64 0)) K Lf tv tv) := hran
  obtain ⟨ad, c, rfl⟩ := own_slice h.there
  have c2 := hs 2 _ rfl
  have c5 := hs 5 _ rfl
  have dRn : W.cell? ⟨Rn, q, none⟩ = some (.int .i64 (p : Int)) := (cells_of (l := (zI (invOf rk)).map (Value.int .i64)) h.ranks).1 q _ (by rw [List.getElem?_map, dRn0]; rfl)
  have dRL : Rn ≠ Lf := h.dL.1
  generalize hi : th.countP (· < p) = i at *
  have e3 : zI (th.take i ++ th.drop (i + 1)) = (zI th).take i ++ (zI th).drop (i + 1) := by simp [zI, List.map_take, List.map_drop]
  have HE : Hid (zI (th.take i ++ th.drop (i + 1)) = (zI th).take i ++ (zI th).drop (i + 1)) := e3
  have HA : Hid (th.Pairwise (· < ·) ∧ th.length ≤ 100000) := ⟨ha, hth⟩
  clear h hs hs2 hf2 hv hran e3 ha hth c2 c5 dRn
  go_enter Tryz.func92, Tryz.ntmps92
  go_wp2_with fail
  obtain ⟨hs, hf, hlk⟩ := cells_of (l := [_, _, _, _, _, _]) HR.out.1.line
  have c2 := hs 2 _ rfl
  have c5 := hs 5 _ rfl
  have f5 := hf 5
  have dRn : (W.setCell ⟨Lf, q, none⟩ (.int .i64 0)).cell? ⟨Rn, q, none⟩ = some (.int .i64 (p : Int)) := (cells_of (l := (zI (invOf rk)).map (Value.int .i64)) HR.out.1.ranks).1 q _ (by rw [List.getElem?_map, dRn0]; rfl)
  have HSr := fun n => Search_any ((W.setCell ⟨Lf, q, none⟩ (.int .i64 0)).drewN n) B (.slice ad th.length c) th p (HR.out.1.drewN n).there HA.out.1 HA.out.2
  clear hs hf c1 dL fL hlf dRn0
  generalize hX : W.setCell ⟨Lf, q, none⟩ (.int .i64 0) = X at *
  rw [hi] at HSr
  have HI : Hid (th.countP (fun x => decide (x < p)) = i) := hi
  have hth2 : th.length ≤ 100000 := HA.out.2
  have hib : (i : Int) + 1 ≤ 100001 := by omega
  clear hX hi hidx hq hp hr hl hpl hj dK dK' dRL HA
  go_quiet (first | (go_at_call 129; exact Calls.quiet_of (HSr _)))
  have HR2 : Hid (LineW w0 B K Lf Rn Rd C (X.drewN nq) l rk cm k th (left.set q 0) jv (.slice ad th.length c) cv ∧ MovedL W (X.drewN nq) K Lf (.slice ad th.length c) (.slice ad th.length c)) := ⟨HR.out.1.drewN nq, HR.out.2.trans (MovedL.drewN X K Lf _ nq)⟩
  have e5 : (X.drewN nq).cell? ⟨K, 5, none⟩ = _ := c5
  have g5 : (X.drewN nq).frozen? ⟨K, 5, none⟩ = false := f5
  have hlk2 : K < (X.drewN nq).heap.size := hlk
  clear HR c2 c5 f5 dRn hlk HSr
  generalize X.drewN nq = Y at *
  have HDl := Delete_own Y B (.slice ad th.length c) (zI th) i HR2.out.1.there (by rw [zI_len]; exact hd)
  go_wp2_with (go_at_call 131; refine HDl.mono ?_; rintro r w2 ⟨tv2, rfl, ho2, hg2, hv2⟩; have H2 : Hid (LineW w0 B K Lf Rn Rd C (w2.setCell ⟨K, 5, none⟩ tv2) l rk cm k (th.take i ++ th.drop (i + 1)) (left.set q 0) jv tv2 cv ∧ MovedL Y (w2.setCell ⟨K, 5, none⟩ tv2) K Lf (.slice ad th.length c) tv2) := HR2.out.1.put (th' := th.take i ++ th.drop (i + 1)) (by rw [HE.out]; exact ho2) hg2 (.inl hv2); have hk2 := (hg2.block K hlk2 (fun e => by have h1 := HR2.out.1.low' K e.symm; have h2 := HR2.out.1.lt.1; omega)).trans HR2.out.1.line; obtain ⟨ks, kf, kl⟩ := cells_of (l := [_, _, _, _, _, _]) hk2; have k5 := ks 5 _ rfl; have y5 := kf 5; obtain ⟨ad2, n2, cc2, rfl⟩ := own_val ho2; clear ks kf hk2 ho2 hg2 hv2 HDl)
  go_ret
  exact ⟨rfl, _, H2.out.1, HR2.out.2.trans H2.out.2⟩
end Go.Proofs.YtccoobcggbbciaiGreatDoor.S8
