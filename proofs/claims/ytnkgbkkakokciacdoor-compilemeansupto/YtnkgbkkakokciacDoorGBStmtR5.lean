import Derived.Test.YtnkgbkkakokciacDoorGBCheckP
namespace Go.Proofs.YtnkgbkkakokciacDoor.B
open Go.ChangeShapes Go.WideShapes Go.ChangeAt Go.RowKit
set_option maxRecDepth 20000 in
set_option maxHeartbeats 8000000 in
theorem stmt_r5 (w0:World) (N:Nat) (hN:N≤1048576) (hL:ListOk w0 N) (w:World) (wb B:Nat) (i:Int) (v:Value) (ar:List (Int × Int)) (n ek en ck ak an bk bn lo mo:Int) (ead aad bad yad lad:Option Addr) (em ec am ac bm bc yc lc:Nat) (hv hc ho:Bool) (e ca cb:Ex) (b l:List St)
  (hbk:e.nodes+ca.nodes+cb.nodes+St.bulkAll b+St.bulkAll l≤N) (hwb:w0.heap.size≤wb) (hwb0:2<wb) (hB0:Below w0.heap.size w0 w) (hfm:FormsIn w0)
  (he:e.In w0 (.agg #[.int .i64 ek,.int .i64 en,.slice ead em ec])) (hca:ca.In w0 (.agg #[.int .i64 ak,.int .i64 an,.slice aad am ac])) (hcb:cb.In w0 (.agg #[.int .i64 bk,.int .i64 bn,.slice bad bm bc]))
  (hy:St.Sl w0 b (.slice yad b.length yc)) (hl:St.Sl w0 l (.slice lad l.length lc)) (hwk:Wk w wb B i v ar) (hi1 : -1≤i) (hi2:i+1+(St.bulkAll b+St.bulkAll l:Nat)≤2097152) (har:ar.length+1+(St.bulkAll b+St.bulkAll l)≤2097152)
  (t0:w.cell? ⟨2,6*6,none⟩=some (.int .i64 lo)) (t1:w.cell? ⟨2,6*6+1,none⟩=some (.int .i64 mo)) (t2:w.cell? ⟨2,6*6+2,none⟩=some (.bool hv)) (t3:w.cell? ⟨2,6*6+3,none⟩=some (.bool hc)) (t4:w.cell? ⟨2,6*6+4,none⟩=some (.bool true)) (t5:w.cell? ⟨2,6*6+5,none⟩=some (.bool ho))
  (hlo:lo≤n) :
  Calls Tryd.prog 120 #[.pointer (some ⟨wb,0,none⟩),.agg #[.int .i64 6,.int .i64 n,.int .i64 ek,.int .i64 en,.slice ead em ec,.int .i64 ck,.int .i64 ak,.int .i64 an,.slice aad am ac,.int .i64 bk,.int .i64 bn,.slice bad bm bc,.slice yad b.length yc,.slice lad l.length lc]] w
   fun r w'=>r = .returned (.int .i64 (lookR (decide (n≤mo)) (!moreS hv hc true ho (exNone ek en em) ck (exNone ak an am) (exNone bk bn bm) b.length l.length) hv hc (decide ((ar.length:Int)<6)) (!decide ((6,n) ∈ ar)) (e.node 0).1 (condErr ck ca cb) (i+1) (chk2 b l (ar++[(6,n)]) (i+1))).1)∧∃ v',Wk w' wb B (lookR (decide (n≤mo)) (!moreS hv hc true ho (exNone ek en em) ck (exNone ak an am) (exNone bk bn bm) b.length l.length) hv hc (decide ((ar.length:Int)<6)) (!decide ((6,n) ∈ ar)) (e.node 0).1 (condErr ck ca cb) (i+1) (chk2 b l (ar++[(6,n)]) (i+1))).2 v' ar∧WR wb w w' v v':=by
 have b0:w.cell? ⟨wb,0,none⟩=some (.int .i64 i):=by unfold World.cell?;rw [hwk.blk];rfl
 have hf:∀ j,w.frozen? ⟨wb,j,none⟩=false:=by intro j;unfold World.frozen?;rw [hwk.blk];simp
 have hl':wb<w.heap.size:=World.block_lt_of_cell? _ _ b0
 obtain ⟨vad,vcap,rfl⟩:∃ vad vcap,v = .slice vad ar.length vcap:=by
  obtain ⟨xs,ho,-⟩:=hwk.owns
  exact owns_value ho
 have HW:=hwk.begun (.cells #[.int .i64 6,.int .i64 n,.int .i64 ek,.int .i64 en,.slice ead em ec,.int .i64 ck,.int .i64 ak,.int .i64 an,.slice aad am ac,.int .i64 bk,.int .i64 bn,.slice bad bm bc,.slice yad b.length yc,.slice lad l.length lc] 123) (i+1)
 have HH:Hid (ListOk w0 N∧Below w0.heap.size w0 w∧FormsIn w0∧e.In w0 (.agg #[.int .i64 ek,.int .i64 en,.slice ead em ec])∧ca.In w0 (.agg #[.int .i64 ak,.int .i64 an,.slice aad am ac])∧cb.In w0 (.agg #[.int .i64 bk,.int .i64 bn,.slice bad bm bc])∧St.Sl w0 b (.slice yad b.length yc)∧St.Sl w0 l (.slice lad l.length lc)∧Wk w wb B i (.slice vad ar.length vcap) ar):=⟨hL,hB0,hfm,he,hca,hcb,hy,hl,hwk⟩
 have HW':Hid (_∧_):=HW
 clear HW hL hB0 hfm he hca hcb hy hl hwk
 have n0:wb≠0:=by omega
 have n1:0≠wb:=by omega
 have n2:2<w.heap.size:=by omega
 have n3:¬ 0=w.heap.size:=by omega
 have hdlo:decide (lo≤n)=true:=decide_eq_true hlo
 have HLO:Hid (lo≤n):=hlo
 clear hlo
 obtain ⟨X,hX⟩:∃ X,X=((w.setCell ⟨wb,0,none⟩ (.int .i64 (i+1))).alloc (.cells #[.int .i64 6,.int .i64 n,.int .i64 ek,.int .i64 en,.slice ead em ec,.int .i64 ck,.int .i64 ak,.int .i64 an,.slice aad am ac,.int .i64 bk,.int .i64 bn,.slice bad bm bc,.slice yad b.length yc,.slice lad l.length lc] 123)).alloc (.cells #[.int .i64 lo,.int .i64 mo,.bool hv,.bool hc,.bool true,.bool ho] 203):=⟨_,rfl⟩
 have hSX:SS w.heap.size (w.heap.size+1) (.int .i64 6) (.int .i64 n) (.int .i64 ek) (.int .i64 en) (.slice ead em ec) (.int .i64 ck) (.int .i64 ak) (.int .i64 an) (.slice aad am ac) (.int .i64 bk) (.int .i64 bn) (.slice bad bm bc) (.slice yad b.length yc) (.slice lad l.length lc) (.int .i64 lo) (.int .i64 mo) (.bool hv) (.bool hc) (.bool true) (.bool ho) X:=by
  rw [hX]
  refine ⟨?_,?_⟩
  ·unfold copyIs
   refine (Below.heap_alloc _ _ _ (by simp)).trans ?_
   have:=heap_alloc_new (w.setCell ⟨wb,0,none⟩ (.int .i64 (i+1))) (.cells #[.int .i64 6,.int .i64 n,.int .i64 ek,.int .i64 en,.slice ead em ec,.int .i64 ck,.int .i64 ak,.int .i64 an,.slice aad am ac,.int .i64 bk,.int .i64 bn,.slice bad bm bc,.slice yad b.length yc,.slice lad l.length lc] 123)
   simpa using this
  ·have:=heap_alloc_new ((w.setCell ⟨wb,0,none⟩ (.int .i64 (i+1))).alloc (.cells #[.int .i64 6,.int .i64 n,.int .i64 ek,.int .i64 en,.slice ead em ec,.int .i64 ck,.int .i64 ak,.int .i64 an,.slice aad am ac,.int .i64 bk,.int .i64 bn,.slice bad bm bc,.slice yad b.length yc,.slice lad l.length lc] 123)) (.cells #[.int .i64 lo,.int .i64 mo,.bool hv,.bool hc,.bool true,.bool ho] 203)
   simpa using this
 have HX:Hid (Wk X wb B (i+1) (.slice vad ar.length vcap) ar∧WR wb w X (.slice vad ar.length vcap) (.slice vad ar.length vcap)∧Below w0.heap.size w0 X):=by
  have h1:Below ((w.setCell ⟨wb,0,none⟩ (.int .i64 (i+1))).alloc (.cells #[.int .i64 6,.int .i64 n,.int .i64 ek,.int .i64 en,.slice ead em ec,.int .i64 ck,.int .i64 ak,.int .i64 an,.slice aad am ac,.int .i64 bk,.int .i64 bn,.slice bad bm bc,.slice yad b.length yc,.slice lad l.length lc] 123)).heap.size ((w.setCell ⟨wb,0,none⟩ (.int .i64 (i+1))).alloc (.cells #[.int .i64 6,.int .i64 n,.int .i64 ek,.int .i64 en,.slice ead em ec,.int .i64 ck,.int .i64 ak,.int .i64 an,.slice aad am ac,.int .i64 bk,.int .i64 bn,.slice bad bm bc,.slice yad b.length yc,.slice lad l.length lc] 123)) X:=by
   rw [hX]
   exact (Below.refl _ _).alloc (Nat.le_refl _) _
  have h2:=HW'.out.2.trans (WR.of_below h1)
  exact ⟨HW'.out.1.below h1,h2,h2.low HH.out.2.2.2.2.2.2.2.2 hwb HH.out.2.1⟩
 have HN:Hid ((w.heap.size≠wb∧some w.heap.size≠(Value.slice vad ar.length vcap).ownBlock)∧(w.heap.size+1≠wb∧some (w.heap.size+1)≠(Value.slice vad ar.length vcap).ownBlock)):=by
  refine ⟨⟨by omega,fun h=>?_⟩,⟨by omega,fun h=>?_⟩⟩
  ·have:=(HH.out.2.2.2.2.2.2.2.2.own_lt _ h.symm).2;omega
  ·have:=(HH.out.2.2.2.2.2.2.2.2.own_lt _ h.symm).2;omega
 go_enter Tryd.func120,Tryd.ntmps120
 go_upto_region 5 with fail
 rw [← hX]
 clear hX t0 t1 t2 t3 t4 t5 b0 hf HW'
 refine wp_region_held_drew (S:=SS w.heap.size (w.heap.size+1) (.int .i64 6) (.int .i64 n) (.int .i64 ek) (.int .i64 en) (.slice ead em ec) (.int .i64 ck) (.int .i64 ak) (.int .i64 an) (.slice aad am ac) (.int .i64 bk) (.int .i64 bn) (.slice bad bm bc) (.slice yad b.length yc) (.slice lad l.length lc) (.int .i64 lo) (.int .i64 mo) (.bool hv) (.bool hc) (.bool true) (.bool ho)) (by kernel_rfl) (hSX.below (Below.refl _ _).drew) (fun hHeld=>?_)
 refine tk (i:=0) (n:=25) (v:=?_) ?_ ?_
 rotate_left 1
 ·intro wz hSw
  first | (go_simp;done) | (go_simp;with_reducible rfl)
 simp only [ls0,ls1]
 refine tk (i:=1) (n:=26) (v:=?_) ?_ ?_
 rotate_left 1
 ·intro wz hSw
  obtain ⟨d0,d1,d2,d3,d4,d5⟩:=hSw.y
  clear hSw
  first | (go_simp;done) | (go_simp;with_reducible rfl)
 simp only [ls0,ls1]
 refine tk (i:=2) (n:=27) (v:=?_) ?_ ?_
 rotate_left 1
 ·intro wz hSw
  first | (go_simp;done) | (go_simp;with_reducible rfl)
 simp only [ls0,ls1]
 refine tk (i:=3) (n:=28) (v:=?_) ?_ ?_
 rotate_left 1
 ·intro wz hSw
  obtain ⟨d0,d1,d2,d3,d4,d5,d6,d7,d8,d9,d10,d11,d12,d13⟩:=hSw.x
  clear hSw
  first | (go_simp;done) | (go_simp;with_reducible rfl)
 simp only [ls0,ls1]
 refine tk (i:=4) (n:=29) (v:=?_) ?_ ?_
 rotate_left 1
 ·intro wz hSw
  first | (go_simp;done) | (go_simp;with_reducible rfl)
 simp only [ls0,ls1]
 refine tk (i:=5) (n:=30) (v:=?_) ?_ ?_
 rotate_left 1
 ·intro wz hSw
  first | (go_simp;done) | (go_simp;with_reducible rfl)
 simp only [ls0,ls1]
 refine tk (i:=6) (n:=31) (v:=?_) ?_ ?_
 rotate_left 1
 ·intro wz hSw
  first | (go_simp;done) | (go_simp;with_reducible rfl)
 simp only [ls0,ls1]
 refine tk (i:=7) (n:=32) (v:=?_) ?_ ?_
 rotate_left 1
 ·intro wz hSw
  obtain ⟨d0,d1,d2,d3,d4,d5,d6,d7,d8,d9,d10,d11,d12,d13⟩:=hSw.x
  clear hSw
  first | (go_simp;done) | (go_simp;with_reducible rfl)
 simp only [ls0,ls1]
 refine tk (i:=8) (n:=33) (v:=?_) ?_ ?_
 rotate_left 1
 ·intro wz hSw
  first | (go_simp;done) | (go_simp;with_reducible rfl)
 simp only [ls0,ls1]
 refine tk (i:=9) (n:=34) (v:=?_) ?_ ?_
 rotate_left 1
 ·intro wz hSw
  obtain ⟨d0,d1,d2,d3,d4,d5⟩:=hSw.y
  clear hSw
  first | (go_simp;done) | (go_simp;with_reducible rfl)
 simp only [ls0,ls1]
 refine tk (i:=10) (n:=35) (v:=?_) ?_ ?_
 rotate_left 1
 ·intro wz hSw
  first | (go_simp;done) | (go_simp;with_reducible rfl)
 simp only [ls0,ls1]
 refine tk (i:=11) (n:=36) (v:=?_) ?_ ?_
 rotate_left 1
 ·intro wz hSw
  first | (go_simp;done) | (go_simp;with_reducible rfl)
 simp only [ls0,ls1]
 refine tk (i:=13) (n:=38) (v:=?_) ?_ ?_
 rotate_left 1
 ·intro wz hSw
  obtain ⟨d0,d1,d2,d3,d4,d5,d6,d7,d8,d9,d10,d11,d12,d13⟩:=hSw.x
  clear hSw
  first | (go_simp;done) | (go_simp;with_reducible rfl)
 simp only [ls0,ls1]
 refine tk (i:=14) (n:=39) (v:=?_) ?_ ?_
 rotate_left 1
 ·intro wz hSw
  obtain ⟨d0,d1,d2,d3,d4,d5⟩:=hSw.y
  clear hSw
  first | (go_simp;done) | (go_simp;with_reducible rfl)
 simp only [ls0,ls1]
 refine tk (i:=18) (n:=43) (v:=?_) ?_ ?_
 rotate_left 1
 ·intro wz hSw
  first | (go_simp;done) | (go_simp;with_reducible rfl)
 simp only [ls0,ls1]
 refine tk (i:=19) (n:=44) (v:=?_) ?_ ?_
 rotate_left 1
 ·intro wz hSw
  obtain ⟨d0,d1,d2,d3,d4,d5⟩:=hSw.y
  clear hSw
  first | (go_simp;done) | (go_simp;with_reducible rfl)
 simp only [ls0,ls1]
 refine tk (i:=20) (n:=45) (v:=?_) ?_ ?_
 rotate_left 1
 ·intro wz hSw
  first | (go_simp;done) | (go_simp;with_reducible rfl)
 simp only [ls0,ls1]
 refine tk (i:=21) (n:=46) (v:=?_) ?_ ?_
 rotate_left 1
 ·intro wz hSw
  obtain ⟨d0,d1,d2,d3,d4,d5,d6,d7,d8,d9,d10,d11,d12,d13⟩:=hSw.x
  clear hSw
  first | (go_simp;done) | (go_simp;with_reducible rfl)
 simp only [ls0,ls1]
 refine tk (i:=24) (n:=49) (v:=?_) ?_ ?_
 rotate_left 1
 ·intro wz hSw
  first | (go_simp;done) | (go_simp;with_reducible rfl)
 simp only [ls0,ls1]
 refine tk (i:=25) (n:=50) (v:=?_) ?_ ?_
 rotate_left 1
 ·intro wz hSw
  obtain ⟨d0,d1,d2,d3,d4,d5⟩:=hSw.y
  clear hSw
  first | (go_simp;done) | (go_simp;with_reducible rfl)
 simp only [ls0,ls1]
 refine tk (i:=26) (n:=51) (v:=?_) ?_ ?_
 rotate_left 1
 ·intro wz hSw
  first | (go_simp;done) | (go_simp;with_reducible rfl)
 simp only [ls0,ls1]
 refine tk (i:=27) (n:=52) (v:=?_) ?_ ?_
 rotate_left 1
 ·intro wz hSw
  obtain ⟨d0,d1,d2,d3,d4,d5,d6,d7,d8,d9,d10,d11,d12,d13⟩:=hSw.x
  clear hSw
  first | (go_simp;done) | (go_simp;with_reducible rfl)
 simp only [ls0,ls1]
 refine tk (i:=30) (n:=55) (v:=?_) ?_ ?_
 rotate_left 1
 ·intro wz hSw
  first | (go_simp;done) | (go_simp;with_reducible rfl)
 simp only [ls0,ls1]
 refine tk (i:=31) (n:=56) (v:=?_) ?_ ?_
 rotate_left 1
 ·intro wz hSw
  obtain ⟨d0,d1,d2,d3,d4,d5⟩:=hSw.y
  clear hSw
  first | (go_simp;done) | (go_simp;with_reducible rfl)
 simp only [ls0,ls1]
 refine tk (i:=32) (n:=57) (v:=?_) ?_ ?_
 rotate_left 1
 ·intro wz hSw
  first | (go_simp;done) | (go_simp;with_reducible rfl)
 simp only [ls0,ls1]
 refine tk (i:=42) (n:=67) (v:=?_) ?_ ?_
 rotate_left 1
 ·intro wz hSw
  first | (go_simp;done) | (go_simp;with_reducible rfl)
 simp only [ls0,ls1]
 refine tk (i:=43) (n:=68) (v:=?_) ?_ ?_
 rotate_left 1
 ·intro wz hSw
  obtain ⟨d0,d1,d2,d3,d4,d5,d6,d7,d8,d9,d10,d11,d12,d13⟩:=hSw.x
  clear hSw
  first | (go_simp;done) | (go_simp;with_reducible rfl)
 simp only [ls0,ls1]
 refine tk (i:=44) (n:=69) (v:=?_) ?_ ?_
 rotate_left 1
 ·intro wz hSw
  first | (go_simp;done) | (go_simp;with_reducible rfl)
 simp only [ls0,ls1]
 refine tk (i:=53) (n:=78) (v:=?_) ?_ ?_
 rotate_left 1
 ·intro wz hSw
  first | (go_simp;done) | (go_simp;with_reducible rfl)
 simp only [ls0,ls1]
 refine tk (i:=54) (n:=79) (v:=?_) ?_ ?_
 rotate_left 1
 ·intro wz hSw
  obtain ⟨d0,d1,d2,d3,d4,d5,d6,d7,d8,d9,d10,d11,d12,d13⟩:=hSw.x
  clear hSw
  first | (go_simp;done) | (go_simp;with_reducible rfl)
 simp only [ls0,ls1]
 refine wpAnyH_ready (rs:=[12]) (by kernel_rfl) (by simp) ?_
 refine AllReadyH.cons rfl (fun K hK=>?_) AllReadyH.nil
 go_simp
 go_wp2_with (go_at_call 137;refine (needs_b _ _ _).mono ?_;rintro r w12 ⟨q0,s0,rfl,hc12,hb12⟩;have HB12:Hid (Below X.drew.heap.size X.drew w12):=hb12;have HC12:Hid _:=hc12;have hS12:=hHeld.below hb12;clear hHeld hc12 hb12)
 refine hK.out _ _ hS12 (fun hHeld=>?_)
 clear hK K
 clear hS12
 refine wpAnyH_ready (rs:=[15]) (by kernel_rfl) (by simp) ?_
 refine AllReadyH.cons rfl (fun K hK=>?_) AllReadyH.nil
 go_simp
 go_wp2_with (go_at_call 138;refine (hasMore_any _ _ _ _ _ _ _ _ _ _ _ _ _ _ _ _ _ _ _ _ _ _ _ _ _ _ _ _ _ _ _).mono ?_;rintro r w15 ⟨rfl,hb15⟩;have HB15:Hid (Below w12.heap.size w12 w15):=hb15;have hS15:=hHeld.below hb15;clear hHeld hb15)
 refine hK.out _ _ hS15 (fun hHeld=>?_)
 clear hK K
 clear hS15
 refine tk (i:=16) (n:=41) (v:=?_) ?_ ?_
 rotate_left 1
 ·intro wz hSw
  first | (go_simp;done) | (go_simp;with_reducible rfl)
 simp only [ls0,ls1]
 refine wpAnyH_ready (rs:=[17]) (by kernel_rfl) (by simp) ?_
 refine AllReadyH.cons rfl (fun K hK=>?_) AllReadyH.nil
 go_simp
 go_wp2_with (go_at_call 137;refine (needs_b _ _ _).mono ?_;rintro r w17 ⟨q1,s1,rfl,hc17,hb17⟩;have HB17:Hid (Below w15.heap.size w15 w17):=hb17;have HC17:Hid _:=hc17;have hS17:=hHeld.below hb17;clear hHeld hc17 hb17)
 refine hK.out _ _ hS17 (fun hHeld=>?_)
 clear hK K
 clear hS17
 refine wpAnyH_ready (rs:=[22]) (by kernel_rfl) (by simp) ?_
 refine AllReadyH.cons rfl (fun K hK=>?_) AllReadyH.nil
 go_simp
 go_wp2_with (go_at_call 140;refine (expr_b _ _ _ _ _ _).mono ?_;rintro r w22 ⟨p2,rfl,hc22,hb22⟩;have HB22:Hid (Below w17.heap.size w17 w22):=hb22;have HC22:Hid _:=hc22;have hS22:=hHeld.below hb22;clear hHeld hc22 hb22)
 refine hK.out _ _ hS22 (fun hHeld=>?_)
 clear hK K
 clear hS22
 refine wpAnyH_ready (rs:=[23]) (by kernel_rfl) (by simp) ?_
 refine AllReadyH.cons rfl (fun K hK=>?_) AllReadyH.nil
 go_simp
 go_wp2_with (go_at_call 139;refine (only_b _ _ _ _).mono ?_;rintro r wq ⟨jf2,df2,rfl,Hf2,rfl⟩;have hSq:=hHeld;clear hHeld)
 refine hK.out _ _ hSq (fun hHeld=>?_)
 clear hK K
 clear hSq
 refine wpAnyH_ready (rs:=[28]) (by kernel_rfl) (by simp) ?_
 refine AllReadyH.cons rfl (fun K hK=>?_) AllReadyH.nil
 go_simp
 go_wp2_with (go_at_call 141;refine (cond_b _ _ _ _ _ _ _ _ _ _ _ _).mono ?_;rintro r w28 ⟨p3,rfl,hc28,hb28⟩;have HB28:Hid (Below w22.heap.size w22 w28):=hb28;have HC28:Hid _:=hc28;have hS28:=hHeld.below hb28;clear hHeld hc28 hb28)
 refine hK.out _ _ hS28 (fun hHeld=>?_)
 clear hK K
 clear hS28
 refine wpAnyH_ready (rs:=[29]) (by kernel_rfl) (by simp) ?_
 refine AllReadyH.cons rfl (fun K hK=>?_) AllReadyH.nil
 go_simp
 go_wp2_with (go_at_call 139;refine (only_b _ _ _ _).mono ?_;rintro r wq ⟨jf3,df3,rfl,Hf3,rfl⟩;have hSq:=hHeld;clear hHeld)
 refine hK.out _ _ hSq (fun hHeld=>?_)
 clear hK K
 clear hSq
 refine tk (i:=33) (n:=58) (v:=?_) ?_ ?_
 rotate_left 1
 ·intro wz hSw
  first | (go_simp;done) | (go_simp;with_reducible rfl)
 simp only [ls0,ls1]
 have eF:Below X.heap.size X w28:=below_seq (below_seq (below_seq (below_seq (below_seq (Below.refl _ X).drew HB12.out) HB15.out) HB17.out) HB22.out) HB28.out
 have HF28:Hid (Below X.heap.size X w28):=eF
 clear eF
 refine tk (i:=34) (n:=59) (v:=?_) ?_ ?_
 rotate_left 1
 ·intro wz hSw
  first | (go_simp;done) | (go_simp;with_reducible rfl)
 simp only [ls0,ls1]
 refine tk (i:=35) (n:=60) (v:=?_) ?_ ?_
 rotate_left 1
 ·intro wz hSw
  first | (go_simp;done) | (go_simp;with_reducible rfl)
 simp only [ls0,ls1]
 refine tk (i:=36) (n:=61) (v:=?_) ?_ ?_
 rotate_left 1
 ·intro wz hSw
  first | (go_simp;done) | (go_simp;with_reducible rfl)
 simp only [ls0,ls1]
 have ba:w28.cell? ⟨wb,1,none⟩=some (.slice vad ar.length vcap):=by
  have hk:=(HX.out.1.below HF28.out).blk
  unfold World.cell?;rw [hk];rfl
 refine wpAnyH_ready (rs:=[37]) (by kernel_rfl) (by simp) ?_
 refine AllReadyH.cons rfl (fun K hK=>?_) AllReadyH.nil
 go_simp
 refine hK.out _ _ hHeld (fun hHeld=>?_)
 clear hK K
 clear ba
 refine tk (i:=38) (n:=63) (v:=?_) ?_ ?_
 rotate_left 1
 ·intro wz hSw
  first | (go_simp;done) | (go_simp;with_reducible rfl)
 simp only [ls0,ls1]
 refine tk (i:=39) (n:=64) (v:=?_) ?_ ?_
 rotate_left 1
 ·intro wz hSw
  first | (go_simp;done) | (go_simp;with_reducible rfl)
 simp only [ls0,ls1]
 refine tk (i:=40) (n:=65) (v:=?_) ?_ ?_
 rotate_left 1
 ·intro wz hSw
  first | (go_simp;done) | (go_simp;with_reducible rfl)
 simp only [ls0,ls1]
 refine wpAnyH_ready (rs:=[41]) (by kernel_rfl) (by simp) ?_
 refine AllReadyH.cons rfl (fun K hK=>?_) AllReadyH.nil
 go_simp
 go_wp2_with (go_at_call 137;refine (needs_b _ _ _).mono ?_;rintro r w41 ⟨q4,s4,rfl,hc41,hb41⟩;have HB41:Hid (Below w28.heap.size w28 w41):=hb41;have HC41:Hid _:=hc41;have hS41:=hHeld.below hb41;clear hHeld hc41 hb41)
 refine hK.out _ _ hS41 (fun hHeld=>?_)
 clear hK K
 clear hS41
 refine tk (i:=45) (n:=70) (v:=?_) ?_ ?_
 rotate_left 1
 ·intro wz hSw
  first | (go_simp;done) | (go_simp;with_reducible rfl)
 simp only [ls0,ls1]
 refine tk (i:=46) (n:=71) (v:=?_) ?_ ?_
 rotate_left 1
 ·intro wz hSw
  first | (go_simp;done) | (go_simp;with_reducible rfl)
 simp only [ls0,ls1]
 refine tk (i:=47) (n:=72) (v:=?_) ?_ ?_
 rotate_left 1
 ·intro wz hSw
  first | (go_simp;done) | (go_simp;with_reducible rfl)
 simp only [ls0,ls1]
 refine tk (i:=48) (n:=73) (v:=?_) ?_ ?_
 rotate_left 1
 ·intro wz hSw
  obtain ⟨d0,d1,d2,d3,d4,d5,d6,d7,d8,d9,d10,d11,d12,d13⟩:=hSw.x
  clear hSw
  first | (go_simp;done) | (go_simp;with_reducible rfl)
 simp only [ls0,ls1]
 refine wpAnyH_ready (rs:=[49]) (by kernel_rfl) (by simp) ?_
 refine AllReadyH.cons rfl (fun K hK=>?_) AllReadyH.nil
 go_simp
 go_wp2_with (go_at_call 142;refine (held_any _ wb B (i+1) n (.slice vad ar.length vcap) ar (HX.out.1.below (below_seq HF28.out HB41.out)) (by omega)).mono ?_;rintro r w49 ⟨rfl,hb49⟩;have HB49:Hid (Below w41.heap.size w41 w49):=hb49;have hS49:=hHeld.below hb49;clear hHeld hb49)
 refine hK.out _ _ hS49 (fun hHeld=>?_)
 clear hK K
 clear hS49
 refine tk (i:=50) (n:=75) (v:=?_) ?_ ?_
 rotate_left 1
 ·intro wz hSw
  first | (go_simp;done) | (go_simp;with_reducible rfl)
 simp only [ls0,ls1]
 refine tk (i:=51) (n:=76) (v:=?_) ?_ ?_
 rotate_left 1
 ·intro wz hSw
  first | (go_simp;done) | (go_simp;with_reducible rfl)
 simp only [ls0,ls1]
 refine wpAnyH_ready (rs:=[52]) (by kernel_rfl) (by simp) ?_
 refine AllReadyH.cons rfl (fun K hK=>?_) AllReadyH.nil
 go_simp
 go_wp2_with (go_at_call 137;refine (needs_b _ _ _).mono ?_;rintro r w52 ⟨q5,s5,rfl,hc52,hb52⟩;have HB52:Hid (Below w49.heap.size w49 w52):=hb52;have HC52:Hid _:=hc52;have hS52:=hHeld.below hb52;clear hHeld hc52 hb52)
 refine hK.out _ _ hS52 (fun hHeld=>?_)
 clear hK K
 clear hS52
 refine wpAnyH_ready (rs:=[55]) (by kernel_rfl) (by simp) ?_
 refine AllReadyH.cons rfl (fun K hK=>?_) AllReadyH.nil
 go_simp
 go_wp2_with (go_at_call 143;refine (inner_b _ _ _ _ _ _ _ _ _ _ _ _ _ _ _ _ _ _ _ _ _ _ _ _ _ _).mono ?_;rintro r w55 ⟨p6,p7,rfl,hc55,hb55⟩;have HB55:Hid (Below w52.heap.size w52 w55):=hb55;have HC55:Hid _:=hc55;have hS55:=hHeld.below hb55;have HS55:Hid (SS w.heap.size (w.heap.size+1) (.int .i64 6) (.int .i64 n) (.int .i64 ek) (.int .i64 en) (.slice ead em ec) (.int .i64 ck) (.int .i64 ak) (.int .i64 an) (.slice aad am ac) (.int .i64 bk) (.int .i64 bn) (.slice bad bm bc) (.slice yad b.length yc) (.slice lad l.length lc) (.int .i64 lo) (.int .i64 mo) (.bool hv) (.bool hc) (.bool true) (.bool ho) w55):=hS55;clear hHeld hc55 hb55)
 refine hK.out _ _ hS55 (fun hHeld=>?_)
 clear hK K
 clear hS55
 refine wpAnyH_ready (rs:=[56]) (by kernel_rfl) (by simp) ?_
 refine AllReadyH.cons rfl (fun K hK=>?_) AllReadyH.nil
 go_simp
 refine hK.out _ _ (hHeld.alloc _) (fun hHeld=>?_)
 clear hK K
 refine wpAnyH_ready (rs:=[57]) (by kernel_rfl) (by simp) ?_
 refine AllReadyH.cons rfl (fun K hK=>?_) AllReadyH.nil
 go_simp
 go_wp2_with (go_at_call 136;have e52:=HB55.out;have e49:=below_seq HB52.out e52;have e41:=below_seq HB49.out e49;have e28:=below_seq HB41.out e41;have e22:=below_seq HB28.out e28;have e17:=below_seq HB22.out e22;have e12:=below_seq HB15.out (below_seq HB17.out e17);have f52:=below_seq (below_seq (below_seq HF28.out HB41.out) HB49.out) HB52.out;have eX:=below_seq HF28.out e28;refine (stmt_end w0 N hN HH.out.1 X w12 w17 w22 w28 w41 w52 w55 wb B (i+1) (.slice vad ar.length vcap) ar q0 s0 q1 s1 p2 p3 q4 s4 q5 s5 p6 p7 _ _ 6 n ek en ck ak an bk bn ead aad bad yad lad em ec am ac bm bc yc lc e ca cb b l (decide (n≤mo)) (!moreS hv hc true ho (exNone ek en em) ck (exNone ak an am) (exNone bk bn bm) b.length l.length) hv hc (decide ((ar.length:Int)<6)) (!decide ((6,n) ∈ ar)) _ _ Hf2.out Hf3.out hbk hwb HX.out.2.2 HH.out.2.2.1 HH.out.2.2.2.1 HH.out.2.2.2.2.1 HH.out.2.2.2.2.2.1 HH.out.2.2.2.2.2.2.1 HH.out.2.2.2.2.2.2.2.1 HX.out.1 (by omega) hi2 har eX e12 e17 e22 e28 e41 e52 f52.size HC12.out HC17.out HC22.out HC28.out HC41.out HC52.out HC55.out).mono ?_;rintro r w57 ⟨rfl,v57,hk57,hr57,hr58⟩;have hS57:SS w.heap.size (w.heap.size+1) (.int .i64 6) (.int .i64 n) (.int .i64 ek) (.int .i64 en) (.slice ead em ec) (.int .i64 ck) (.int .i64 ak) (.int .i64 an) (.slice aad am ac) (.int .i64 bk) (.int .i64 bn) (.slice bad bm bc) (.slice yad b.length yc) (.slice lad l.length lc) (.int .i64 lo) (.int .i64 mo) (.bool hv) (.bool hc) (.bool true) (.bool ho) w57:=SS.of (hr58.block _ HS55.out.lt.1 HN.out.1.1 HN.out.1.2) (hr58.block _ HS55.out.lt.2 HN.out.2.1 HN.out.2.2) HS55.out;have HR57:Hid (_∧_):=⟨hk57,hr57⟩;clear hk57 hr57 hr58 hHeld e52 e41 e28 e22 e17 e12 f52 eX)
 refine hK.out _ _ hS57 (fun hHeld=>?_)
 clear hK K hS57
 refine tk (i:=58) (n:=4) (v:=?_) ?_ ?_
 rotate_left 1
 ·intro wz hSw
  first | (go_simp;done) | (go_simp;with_reducible rfl)
 simp only [ls0,ls1]
 refine wpAnyH_done (by kernel_rfl) ?_ _
 go_wp2_with fail
 go_ret
 exact ⟨rfl,v57,HR57.out.1,HX.out.2.1.trans HR57.out.2⟩
end Go.Proofs.YtnkgbkkakokciacDoor.B
