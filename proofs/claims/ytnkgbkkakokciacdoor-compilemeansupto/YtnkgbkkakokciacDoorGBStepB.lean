import Derived.Test.YtnkgbkkakokciacDoorGBStepA
namespace Go.Proofs.YtnkgbkkakokciacDoor.B
open Go.ChangeShapes Go.WideShapes Go.ChangeAt Go.RowKit
theorem keepN5 {X Y:World} {p q o:Nat} {y x1 x2 x3 x4:Value} (hp:Y.heap[p]?=X.heap[p]?) (hq:Y.heap[q]?=X.heap[q]?) (h:X.cell? ⟨p,0,none⟩=some y∧X.cell? ⟨q,o+1,none⟩=some x1∧X.cell? ⟨q,o+2,none⟩=some x2∧X.cell? ⟨q,o+3,none⟩=some x3∧X.cell? ⟨q,o+4,none⟩=some x4) :
  Y.cell? ⟨p,0,none⟩=some y∧Y.cell? ⟨q,o+1,none⟩=some x1∧Y.cell? ⟨q,o+2,none⟩=some x2∧Y.cell? ⟨q,o+3,none⟩=some x3∧Y.cell? ⟨q,o+4,none⟩=some x4 :=
 ⟨(World.cell?_of_block hp).trans h.1,(World.cell?_of_block hq).trans h.2.1,(World.cell?_of_block hq).trans h.2.2.1,(World.cell?_of_block hq).trans h.2.2.2.1,(World.cell?_of_block hq).trans h.2.2.2.2⟩
set_option maxRecDepth 20000 in
set_option maxHeartbeats 4000000 in
theorem step_1 (w0 w:World) (rb vb B vc nb nc:Nat) (iv pv:Value) (L:List Nd) (is:List Int) (s:Ms) (at_:Nat) (hh:Here w0 w rb vb B vc nb nc iv pv L is s) (hst:s.steps<20000) (hA:at_<L.length) (_:L.length≤2097152) (n ek en:Int) (ead:Option Addr) (em ec:Nat) (m:Nat) (hm:m<8) (hnm:n=m) (e:Ex) (hne:e.nodes≤1048576) (hoke:e.Ok) (hein:e.In w0 (.agg #[.int .i64 ek,.int .i64 en,.slice ead em ec]))
  (c0:w.cell? ⟨nb,at_*16,none⟩=some (.int .i64 1)) (c1:w.cell? ⟨nb,at_*16+1,none⟩=some (.int .i64 n)) (c2:w.cell? ⟨nb,at_*16+2,none⟩=some (.int .i64 ek)) (c3:w.cell? ⟨nb,at_*16+3,none⟩=some (.int .i64 en)) (c4:w.cell? ⟨nb,at_*16+4,none⟩=some (.slice ead em ec)) :
  Calls Tryd.prog 134 #[.pointer (some ⟨rb,0,none⟩),.int .i64 at_] w (RunPost rb vb B vc iv (.slice (some ⟨nb,0,none⟩) L.length nc) w pv ({ s with steps:=s.steps+1,vars:=s.vars.set m (e.val s.vars is) },none)):=by
 subst hnm
 obtain ⟨r0,r1,r2,r3,r4,rf,rl⟩:=hh.rn.cells
 have hd:((s.steps:Int) == 20000)=false:=by simp;omega
 have hnr:nb≠rb:=hh.nr
 have hE:=hh.rn.stepped (s.steps+1)
 have HE:Hid (Here w0 (w.setCell ⟨rb,2,none⟩ (.int .i64 ((s.steps:Int)+1))) rb vb B vc nb nc iv pv L is { s with steps:=s.steps+1 }∧RR rb vb w (w.setCell ⟨rb,2,none⟩ (.int .i64 ((s.steps:Int)+1))) pv pv):=⟨hh.next hE.1 hE.2 (by simp only;omega) (by have:=hh.pt;simp only;omega) hh.nl,hE.2⟩
 obtain ⟨q0,q1,-,q3,q4,qf,ql⟩:=HE.out.1.rn.cells
 have e0:=cell_set' (u:=.int .i64 ((s.steps:Int)+1)) (a:=⟨rb,2,none⟩) hnr c0
 have e1:=cell_set' (u:=.int .i64 ((s.steps:Int)+1)) (a:=⟨rb,2,none⟩) hnr c1
 have e2:=cell_set' (u:=.int .i64 ((s.steps:Int)+1)) (a:=⟨rb,2,none⟩) hnr c2
 have e3:=cell_set' (u:=.int .i64 ((s.steps:Int)+1)) (a:=⟨rb,2,none⟩) hnr c3
 have e4:=cell_set' (u:=.int .i64 ((s.steps:Int)+1)) (a:=⟨rb,2,none⟩) hnr c4
 have HN:Hid (nb<w.heap.size):=hh.nl
 clear hE hh c0 c1 c2 c3 c4
 have HY:Hid (e.Ok∧e.In w0 (.agg #[.int .i64 ek,.int .i64 en,.slice ead em ec])):=⟨hoke,hein⟩
 have hnv:nb≠vb:=HE.out.1.nv
 have hrv:rb≠vb:=HE.out.1.rn.ne
 clear hoke hein
 have m0:(0:Int)≤(m:Int):=by omega
 have m8:(m:Int)<8:=by omega
 have m9:¬ (8:Int)≤(m:Int):=by omega
 go_enter Tryd.func134,Tryd.ntmps134
 go_wp2_with fail
 go_region_held3 (fun w'=>w'.cell? ⟨rb,0,none⟩=some (.slice (some ⟨vb,0,none⟩) 8 vc)∧w'.cell? ⟨nb,at_*16+1,none⟩=some (.int .i64 m)∧w'.cell? ⟨nb,at_*16+2,none⟩=some (.int .i64 ek)∧w'.cell? ⟨nb,at_*16+3,none⟩=some (.int .i64 en)∧w'.cell? ⟨nb,at_*16+4,none⟩=some (.slice ead em ec))
  (first | assumption | exact ⟨q0,e1,e2,e3,e4⟩ | exact keepN5 (Below.heap_setCell _ _ _ _ (by simpa using hrv)) (Below.heap_setCell _ _ _ _ (by simpa using hnv)) (by assumption))
  (first
   | (go_at_call 148;refine (value_any rb s.vars is 1048577 e _ _ (by omega) (by omega) HY.out.1 ((HE.out.1.rn.below (Below.refl _ _).drew).val HE.out.1.ins HE.out.1.low.drew) (HY.out.2.below HE.out.1.low.drew)).mono ?_;rintro r w6 ⟨rfl,hb6⟩;have hS6:=keepN5 (hb6.block rb (World.block_lt_of_cell? _ _ q0)) (hb6.block nb (World.block_lt_of_cell? _ _ e1)) ‹_∧_∧_∧_∧_›;have HC6:Hid (Rn w6 rb vb B vc 139 iv (.slice (some ⟨nb,0,none⟩) L.length nc) pv { s with steps:=s.steps+1 }∧Below (w.setCell ⟨rb,2,none⟩ (.int .i64 ((s.steps:Int)+1))).heap.size (w.setCell ⟨rb,2,none⟩ (.int .i64 ((s.steps:Int)+1))) w6):=⟨HE.out.1.rn.below (below_seq (Below.refl _ _).drew hb6),below_seq (Below.refl _ _).drew hb6⟩;have v6:=HC6.out.1.vcells.1 m hm;have v6f:=HC6.out.1.vcells.2.1;clear hb6))
 have R:=HC6.out.1.varSet m hm (e.val s.vars is)
 go_wp2_with fail
 go_end0
 exact ⟨rfl,pv,R.1,HE.out.2.trans ((RR.of_below HC6.out.2).trans R.2)⟩
set_option maxRecDepth 20000 in
set_option maxHeartbeats 4000000 in
theorem step_3 (w0 w:World) (rb vb B vc nb nc:Nat) (iv pv:Value) (L:List Nd) (is:List Int) (s:Ms) (at_:Nat) (hh:Here w0 w rb vb B vc nb nc iv pv L is s) (hst:s.steps<20000) (hA:at_<L.length) (hL:L.length≤2097152) (ck ak an bk bn:Int) (aad bad:Option Addr) (am ac bm bc oo nn:Nat) (N:Nat) (hP:ListP w0 rb vb B vc nb nc iv L is N) (b l:List St) (hbN:St.bulkAll b≤N) (hlN:St.bulkAll l≤N) (hok:St.OkAll b) (hokl:St.OkAll l) (hsub:Sub L b (at_+1)) (hsubl:Sub L l (at_+1+St.countAll b)) (hoo:oo=at_+1+St.countAll b) (hnn:nn=at_+1+St.countAll b+St.countAll l) (ca cb:Ex) (hck:1≤ck∧ck≤4) (hna:ca.nodes≤1048576) (hnb:cb.nodes≤1048576) (hoka:ca.Ok) (hokb:cb.Ok) (hca:ca.In w0 (.agg #[.int .i64 ak,.int .i64 an,.slice aad am ac])) (hcb:cb.In w0 (.agg #[.int .i64 bk,.int .i64 bn,.slice bad bm bc]))
  (c0:w.cell? ⟨nb,at_*16,none⟩=some (.int .i64 3)) (c5:w.cell? ⟨nb,at_*16+5,none⟩=some (.int .i64 ck)) (c6:w.cell? ⟨nb,at_*16+6,none⟩=some (.int .i64 ak)) (c7:w.cell? ⟨nb,at_*16+7,none⟩=some (.int .i64 an)) (c8:w.cell? ⟨nb,at_*16+8,none⟩=some (.slice aad am ac)) (c9:w.cell? ⟨nb,at_*16+9,none⟩=some (.int .i64 bk)) (c10:w.cell? ⟨nb,at_*16+10,none⟩=some (.int .i64 bn)) (c11:w.cell? ⟨nb,at_*16+11,none⟩=some (.slice bad bm bc)) (c14:w.cell? ⟨nb,at_*16+14,none⟩=some (.int .i64 (oo:Nat))) (c15:w.cell? ⟨nb,at_*16+15,none⟩=some (.int .i64 (nn:Nat))) :
  Calls Tryd.prog 134 #[.pointer (some ⟨rb,0,none⟩),.int .i64 at_] w (RunPost rb vb B vc iv (.slice (some ⟨nb,0,none⟩) L.length nc) w pv (if condOf is ck ca cb s then St.runAll is b (at_+1) { s with steps:=s.steps+1 } else St.runAll is l (at_+1+St.countAll b) { s with steps:=s.steps+1 })):=by
 subst hoo hnn
 obtain ⟨r0,r1,r2,r3,r4,rf,rl⟩:=hh.rn.cells
 have hd:((s.steps:Int) == 20000)=false:=by simp;omega
 have hnr:nb≠rb:=hh.nr
 have hE:=hh.rn.stepped (s.steps+1)
 have HE:Hid (Here w0 (w.setCell ⟨rb,2,none⟩ (.int .i64 ((s.steps:Int)+1))) rb vb B vc nb nc iv pv L is { s with steps:=s.steps+1 }∧RR rb vb w (w.setCell ⟨rb,2,none⟩ (.int .i64 ((s.steps:Int)+1))) pv pv):=⟨hh.next hE.1 hE.2 (by simp only;omega) (by have:=hh.pt;simp only;omega) hh.nl,hE.2⟩
 obtain ⟨q0,q1,-,q3,q4,qf,ql⟩:=HE.out.1.rn.cells
 have e0:=cell_set' (u:=.int .i64 ((s.steps:Int)+1)) (a:=⟨rb,2,none⟩) hnr c0
 have e5:=cell_set' (u:=.int .i64 ((s.steps:Int)+1)) (a:=⟨rb,2,none⟩) hnr c5
 have e6:=cell_set' (u:=.int .i64 ((s.steps:Int)+1)) (a:=⟨rb,2,none⟩) hnr c6
 have e7:=cell_set' (u:=.int .i64 ((s.steps:Int)+1)) (a:=⟨rb,2,none⟩) hnr c7
 have e8:=cell_set' (u:=.int .i64 ((s.steps:Int)+1)) (a:=⟨rb,2,none⟩) hnr c8
 have e9:=cell_set' (u:=.int .i64 ((s.steps:Int)+1)) (a:=⟨rb,2,none⟩) hnr c9
 have e10:=cell_set' (u:=.int .i64 ((s.steps:Int)+1)) (a:=⟨rb,2,none⟩) hnr c10
 have e11:=cell_set' (u:=.int .i64 ((s.steps:Int)+1)) (a:=⟨rb,2,none⟩) hnr c11
 have e14:=cell_set' (u:=.int .i64 ((s.steps:Int)+1)) (a:=⟨rb,2,none⟩) hnr c14
 have e15:=cell_set' (u:=.int .i64 ((s.steps:Int)+1)) (a:=⟨rb,2,none⟩) hnr c15
 have HN:Hid (nb<w.heap.size):=hh.nl
 clear hE hh c0 c5 c6 c7 c8 c9 c10 c11 c14 c15
 have HP:Hid (ListP w0 rb vb B vc nb nc iv L is N∧(St.OkAll b∧Sub L b (at_+1))∧(St.OkAll l∧Sub L l (at_+1+St.countAll b))):=⟨hP,⟨hok,hsub⟩,⟨hokl,hsubl⟩⟩
 have HY:Hid (ca.Ok∧cb.Ok∧ca.In w0 (.agg #[.int .i64 ak,.int .i64 an,.slice aad am ac])∧cb.In w0 (.agg #[.int .i64 bk,.int .i64 bn,.slice bad bm bc])):=⟨hoka,hokb,hca,hcb⟩
 have HNO:Hid (some nb≠pv.ownBlock):=fun e=>by have:=(HE.out.1.rn.own_lt nb e.symm).1;have:=HE.out.1.nB;omega
 have hsl:=hsub.le
 have hsl':=hsubl.le
 clear hP hok hsub hokl hsubl hoka hokb hca hcb
 cases hcv:condVal ck (ca.val s.vars is) (cb.val s.vars is)
 ·have HCV:Hid (condVal ck (ca.val s.vars is) (cb.val s.vars is)=false):=hcv
  have hif:condOf is ck ca cb s=false:=hcv
  rw [hif]
  clear hcv hif
  simp only [Bool.false_eq_true,if_false]
  go_enter Tryd.func134,Tryd.ntmps134
  go_wp2_with (go_at_call 149;refine (holds_any rb s.vars is ck ak an bk bn hck ca cb aad bad am ac bm bc _ hna hnb HY.out.1 HY.out.2.1 (HE.out.1.rn.val HE.out.1.ins HE.out.1.low) (HY.out.2.2.1.below HE.out.1.low) (HY.out.2.2.2.below HE.out.1.low)).mono ?_;rintro r w6 ⟨rfl,hb6⟩;rw [HCV.out];have f14:=below_cell hb6 e14;have f15:=below_cell hb6 e15;have H6:Hid (Here w0 w6 rb vb B vc nb nc iv pv L is { s with steps:=s.steps+1 }∧Below (w.setCell ⟨rb,2,none⟩ (.int .i64 ((s.steps:Int)+1))).heap.size (w.setCell ⟨rb,2,none⟩ (.int .i64 ((s.steps:Int)+1))) w6):=⟨HE.out.1.below hb6 HE.out.1.nl,hb6⟩;clear hb6)
  rcases hz:St.runAll is l (at_+1+St.countAll b) { s with steps:=s.steps+1 } with ⟨s3,_ | z⟩
  ·have HZ:Hid (_=_):=hz
   clear hz
   refine wp_region_held_drew (S:=fun w'=>w'.cell? ⟨nb,at_*16+14,none⟩=some (.int .i64 ((at_+1+St.countAll b:Nat):Int))∧w'.cell? ⟨nb,at_*16+15,none⟩=some (.int .i64 ((at_+1+St.countAll b+St.countAll l:Nat):Int))) (by kernel_rfl) ⟨f14,f15⟩ (fun hHeld=>?_)
   refine tk (i:=0) (n:=96) (v:=?_) ?_ ?_
   rotate_left 1
   ·intro wz hSw
    first | (go_simp;done) | (go_simp;with_reducible rfl)
   simp only [ls0,ls1]
   refine tk (i:=1) (n:=97) (v:=?_) ?_ ?_
   rotate_left 1
   ·intro wz hSw
    first | (go_simp;done) | (go_simp;with_reducible rfl)
   simp only [ls0,ls1]
   refine tk (i:=2) (n:=98) (v:=?_) ?_ ?_
   rotate_left 1
   ·intro wz hSw
    first | (go_simp;done) | (go_simp;with_reducible rfl)
   simp only [ls0,ls1]
   refine tk (i:=3) (n:=99) (v:=?_) ?_ ?_
   rotate_left 1
   ·intro wz hSw
    first | (go_simp;done) | (go_simp;with_reducible rfl)
   simp only [ls0,ls1]
   refine tk (i:=4) (n:=100) (v:=?_) ?_ ?_
   rotate_left 1
   ·intro wz hSw
    first | (go_simp;done) | (go_simp;with_reducible rfl)
   simp only [ls0,ls1]
   refine tk (i:=5) (n:=101) (v:=?_) ?_ ?_
   rotate_left 1
   ·intro wz hSw
    first | (go_simp;done) | (go_simp;with_reducible rfl)
   simp only [ls0,ls1]
   refine tk (i:=6) (n:=102) (v:=?_) ?_ ?_
   rotate_left 1
   ·intro wz hSw
    first | (go_simp;done) | (go_simp;with_reducible rfl)
   simp only [ls0,ls1]
   refine tk (i:=7) (n:=103) (v:=?_) ?_ ?_
   rotate_left 1
   ·intro wz hSw
    first | (go_simp;done) | (go_simp;with_reducible rfl)
   simp only [ls0,ls1]
   refine tk (i:=8) (n:=104) (v:=?_) ?_ ?_
   rotate_left 1
   ·intro wz hSw
    first | (go_simp;done) | (go_simp;with_reducible rfl)
   simp only [ls0,ls1]
   refine wpAnyH_ready (rs:=[9]) (by kernel_rfl) (by simp) ?_
   refine AllReadyH.cons rfl (fun K hK=>?_) AllReadyH.nil
   go_simp
   go_wp2_with (go_at_call 108;refine (HP.out.1 l _ pv { s with steps:=s.steps+1 } (at_+1+St.countAll b) hlN HP.out.2.2.1 HP.out.2.2.2 (H6.out.1.below (Below.refl _ _).drew H6.out.1.nl)).mono ?_;intro r w3 hpost;unfold RunPost at hpost;rw [HZ.out] at hpost;obtain ⟨rfl,pv3,hk3,hr3⟩:=hpost;have H3:Hid (_∧_):=⟨hk3,hr3⟩;clear hk3 hr3)
   refine hK.out _ _ ⟨H3.out.2.cell HE.out.1.nr HE.out.1.nv HNO.out hHeld.1,H3.out.2.cell HE.out.1.nr HE.out.1.nv HNO.out hHeld.2⟩ (fun hHeld=>?_)
   clear hK K
   refine wpAnyH_done (by kernel_rfl) ?_ _
   go_wp2_with fail
   go_end0
   exact ⟨rfl,pv3,H3.out.1,HE.out.2.trans ((RR.of_below (below_seq H6.out.2 (Below.refl _ _).drew)).trans H3.out.2)⟩
  ·have HZ:Hid (_=_):=hz
   clear hz
   refine wp_region_held_drew (S:=fun w'=>w'.cell? ⟨nb,at_*16+14,none⟩=some (.int .i64 ((at_+1+St.countAll b:Nat):Int))∧w'.cell? ⟨nb,at_*16+15,none⟩=some (.int .i64 ((at_+1+St.countAll b+St.countAll l:Nat):Int))) (by kernel_rfl) ⟨f14,f15⟩ (fun hHeld=>?_)
   refine tk (i:=0) (n:=96) (v:=?_) ?_ ?_
   rotate_left 1
   ·intro wz hSw
    first | (go_simp;done) | (go_simp;with_reducible rfl)
   simp only [ls0,ls1]
   refine tk (i:=1) (n:=97) (v:=?_) ?_ ?_
   rotate_left 1
   ·intro wz hSw
    first | (go_simp;done) | (go_simp;with_reducible rfl)
   simp only [ls0,ls1]
   refine tk (i:=2) (n:=98) (v:=?_) ?_ ?_
   rotate_left 1
   ·intro wz hSw
    first | (go_simp;done) | (go_simp;with_reducible rfl)
   simp only [ls0,ls1]
   refine tk (i:=3) (n:=99) (v:=?_) ?_ ?_
   rotate_left 1
   ·intro wz hSw
    first | (go_simp;done) | (go_simp;with_reducible rfl)
   simp only [ls0,ls1]
   refine tk (i:=4) (n:=100) (v:=?_) ?_ ?_
   rotate_left 1
   ·intro wz hSw
    first | (go_simp;done) | (go_simp;with_reducible rfl)
   simp only [ls0,ls1]
   refine tk (i:=5) (n:=101) (v:=?_) ?_ ?_
   rotate_left 1
   ·intro wz hSw
    first | (go_simp;done) | (go_simp;with_reducible rfl)
   simp only [ls0,ls1]
   refine tk (i:=6) (n:=102) (v:=?_) ?_ ?_
   rotate_left 1
   ·intro wz hSw
    first | (go_simp;done) | (go_simp;with_reducible rfl)
   simp only [ls0,ls1]
   refine tk (i:=7) (n:=103) (v:=?_) ?_ ?_
   rotate_left 1
   ·intro wz hSw
    first | (go_simp;done) | (go_simp;with_reducible rfl)
   simp only [ls0,ls1]
   refine tk (i:=8) (n:=104) (v:=?_) ?_ ?_
   rotate_left 1
   ·intro wz hSw
    first | (go_simp;done) | (go_simp;with_reducible rfl)
   simp only [ls0,ls1]
   refine wpAnyH_ready (rs:=[9]) (by kernel_rfl) (by simp) ?_
   refine AllReadyH.cons rfl (fun K hK=>?_) AllReadyH.nil
   go_simp
   go_wp2_with (go_at_call 108;refine (HP.out.1 l _ pv { s with steps:=s.steps+1 } (at_+1+St.countAll b) hlN HP.out.2.2.1 HP.out.2.2.2 (H6.out.1.below (Below.refl _ _).drew H6.out.1.nl)).mono ?_;intro r w3 hpost;unfold RunPost at hpost;rw [HZ.out] at hpost;obtain ⟨rfl,pv3,hr3⟩:=hpost;have H3:Hid _:=hr3;clear hr3)
   refine ⟨rfl,?_⟩
   exact ⟨rfl,pv3,HE.out.2.trans ((RR.of_below (below_seq H6.out.2 (Below.refl _ _).drew)).trans H3.out)⟩
 ·have HCV:Hid (condVal ck (ca.val s.vars is) (cb.val s.vars is)=true):=hcv
  have hif:condOf is ck ca cb s=true:=hcv
  rw [hif]
  clear hcv hif
  simp only [if_true]
  go_enter Tryd.func134,Tryd.ntmps134
  rcases hz:St.runAll is b (at_+1) { s with steps:=s.steps+1 } with ⟨s3,_ | z⟩
  ·have HZ:Hid (_=_):=hz
   clear hz
   go_wp2_with (first | (go_at_call 149;refine (holds_any rb s.vars is ck ak an bk bn hck ca cb aad bad am ac bm bc _ hna hnb HY.out.1 HY.out.2.1 (HE.out.1.rn.val HE.out.1.ins HE.out.1.low) (HY.out.2.2.1.below HE.out.1.low) (HY.out.2.2.2.below HE.out.1.low)).mono ?_;rintro r w6 ⟨rfl,hb6⟩;rw [HCV.out];have f14:=below_cell hb6 e14;have f15:=below_cell hb6 e15;have H6:Hid (Here w0 w6 rb vb B vc nb nc iv pv L is { s with steps:=s.steps+1 }∧Below (w.setCell ⟨rb,2,none⟩ (.int .i64 ((s.steps:Int)+1))).heap.size (w.setCell ⟨rb,2,none⟩ (.int .i64 ((s.steps:Int)+1))) w6):=⟨HE.out.1.below hb6 HE.out.1.nl,hb6⟩;clear hb6) | (go_at_call 108;refine (HP.out.1 b _ pv { s with steps:=s.steps+1 } (at_+1) hbN HP.out.2.1.1 HP.out.2.1.2 H6.out.1).mono ?_;intro r w3 hpost;unfold RunPost at hpost;rw [HZ.out] at hpost;obtain ⟨rfl,pv3,hk3,hr3⟩:=hpost;have H3:Hid (_∧_):=⟨hk3,hr3⟩;clear hk3 hr3))
   go_end0
   exact ⟨rfl,pv3,H3.out.1,HE.out.2.trans ((RR.of_below H6.out.2).trans H3.out.2)⟩
  ·have HZ:Hid (_=_):=hz
   clear hz
   go_wp2_with (first | (go_at_call 149;refine (holds_any rb s.vars is ck ak an bk bn hck ca cb aad bad am ac bm bc _ hna hnb HY.out.1 HY.out.2.1 (HE.out.1.rn.val HE.out.1.ins HE.out.1.low) (HY.out.2.2.1.below HE.out.1.low) (HY.out.2.2.2.below HE.out.1.low)).mono ?_;rintro r w6 ⟨rfl,hb6⟩;rw [HCV.out];have f14:=below_cell hb6 e14;have f15:=below_cell hb6 e15;have H6:Hid (Here w0 w6 rb vb B vc nb nc iv pv L is { s with steps:=s.steps+1 }∧Below (w.setCell ⟨rb,2,none⟩ (.int .i64 ((s.steps:Int)+1))).heap.size (w.setCell ⟨rb,2,none⟩ (.int .i64 ((s.steps:Int)+1))) w6):=⟨HE.out.1.below hb6 HE.out.1.nl,hb6⟩;clear hb6) | (go_at_call 108;refine (HP.out.1 b _ pv { s with steps:=s.steps+1 } (at_+1) hbN HP.out.2.1.1 HP.out.2.1.2 H6.out.1).mono ?_;intro r w3 hpost;unfold RunPost at hpost;rw [HZ.out] at hpost;obtain ⟨rfl,pv3,hr3⟩:=hpost;have H3:Hid _:=hr3;clear hr3))
   refine ⟨rfl,?_⟩
   exact ⟨rfl,pv3,HE.out.2.trans ((RR.of_below H6.out.2).trans H3.out)⟩
end Go.Proofs.YtnkgbkkakokciacDoor.B
