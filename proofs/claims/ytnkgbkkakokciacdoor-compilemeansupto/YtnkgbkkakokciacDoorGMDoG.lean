import Derived.Test.YtnkgbkkakokciacDoorGMDoA
namespace Go.Proofs.YtnkgbkkakokciacDoor
open Go.ChangeShapes Go.WideShapes Go.ChangeAt Go.RowKit
section
variable (w:World) (mb B:Nat) (l:List In) (iv ov:Value) (ins:List Int) (sp:Int) (s:MS) (sv pv:Value)
set_option maxRecDepth 20000 in
set_option maxHeartbeats 4000000 in
theorem do_11 (m:Nat) (b:Int) (h:MM w mb B l iv ov ins sp s sv pv) (_:s.st.length≤1000) (hpc:s.pc≤1000000):Calls Tryd.prog 49 #[.pointer (some ⟨mb,0,none⟩),.agg #[.int .i64 11,.int .i64 (m:Int),.int .i64 b]] w (Does w mb B l iv ov ins sp s sv pv ⟨11,(m:Int),b⟩):=by
 have HM:Hid (DS w (w.alloc (.cells #[.int .i64 11,.int .i64 (m:Int),.int .i64 b] 35)) mb B l iv ov ins sp ⟨11,(m:Int),b⟩ s sv pv sv pv):=DS.start h ⟨11,(m:Int),b⟩
 have c23:=h.c_pc
 have lm:=h.lt
 obtain ⟨q,g,hov,hq,hg,hqm,hgm⟩:=h.ops
 subst hov
 have HO:Hid (MM w mb B l iv (.map (some q)) ins sp s sv pv∧q<mb∧g<mb∧w.heap[q]?=some (.map (opsEs g) 5)∧w.heap[g]?=some (.cells #[.func (Fn.func 87) #[] #[]] 151 (0,0))):=⟨h,hq,hg,hqm,hgm⟩
 clear h hqm hgm hq hg
 go_enter Tryd.func49,Tryd.ntmps49
 go_wp2_with (go_at_call 48;refine (over_11 _ mb _ _).mono ?_;rintro r w3 ⟨rfl,hb3⟩;have H3:Hid (DS _ w3 _ _ _ _ _ _ _ _ _ _ _ _ _):=HM.out.grow hb3;clear hb3)
 have H3w:=H3.out
 obtain ⟨z0,z1,z2,z3,z4,zf,zm,zx,zn⟩:=H3.out.reads
 try dsimp only at z0 z1 z2
 refine wp_region_noPanic ?_
 refine wp_region_held_drew (S:=fun w'=>w'.cell? ⟨w.heap.size,0,none⟩=some (.int .i64 11)∧w'.cell? ⟨w.heap.size,1,none⟩=some (.int .i64 (m:Int))∧w'.cell? ⟨w.heap.size,2,none⟩=some (.int .i64 b)∧w'.cell? ⟨mb,23,none⟩=some (.int .i64 (s.pc:Int))) (by kernel_rfl) (show (w3.drew.cell? ⟨w.heap.size,0,none⟩=some (.int .i64 11)∧w3.drew.cell? ⟨w.heap.size,1,none⟩=some (.int .i64 (m:Int))∧w3.drew.cell? ⟨w.heap.size,2,none⟩=some (.int .i64 b)∧w3.drew.cell? ⟨mb,23,none⟩=some (.int .i64 (s.pc:Int))) from ⟨z0,z1,z2,z3⟩) (fun hHeld=>?_)
 refine tk (i:=0) (n:=17) (v:=?_) ?_ ?_
 rotate_left 1
 ·intro wz hSw
  first | (go_simp;done) | (go_simp;with_reducible rfl)
 simp only [ls0,ls1]
 refine tk (i:=1) (n:=18) (v:=?_) ?_ ?_
 rotate_left 1
 ·intro wz hSw
  first | (go_simp;done) | (go_simp;with_reducible rfl)
 simp only [ls0,ls1]
 refine tk (i:=2) (n:=19) (v:=?_) ?_ ?_
 rotate_left 1
 ·intro wz hSw
  first | (go_simp;done) | (go_simp;with_reducible rfl)
 simp only [ls0,ls1]
 refine tk (i:=3) (n:=20) (v:=?_) ?_ ?_
 rotate_left 1
 ·intro wz hSw
  first | (go_simp;done) | (go_simp;with_reducible rfl)
 simp only [ls0,ls1]
 refine tk (i:=4) (n:=21) (v:=?_) ?_ ?_
 rotate_left 1
 ·intro wz hSw
  first | (go_simp;done) | (go_simp;with_reducible rfl)
 simp only [ls0,ls1]
 refine wpAnyH_ready (rs:=[5]) (by kernel_rfl) (by simp) ?_
 refine AllReadyH.cons rfl (fun K hK=>?_) AllReadyH.nil
 go_simp
 go_wp2_with (go_at_call 83;refine (ways_first _ s.pc ⟨11,(m:Int),b⟩ (m:Int) (by omega) (by simp [waysOf])).mono ?_;rintro r w5 ⟨⟨qb,qo,qn,qc,rfl,cq⟩,hb5⟩;have H5:Hid (DS w w5 _ _ _ _ _ _ _ _ _ _ _ _ _):=H3.out.grow (below_seq (Below.refl _ _).drew hb5);obtain ⟨u0,u1,u2,v0,v1,vf,vm,vx,vn⟩:=H5.out.reads;clear hb5)
 try dsimp only at u0 u1 u2
 refine hK.out _ _ ⟨u0,u1,u2,v0⟩ (fun hHeld=>?_)
 clear hK K
 refine tk (i:=6) (n:=23) (v:=?_) ?_ ?_
 rotate_left 1
 ·intro wz hSw
  first | (go_simp;done) | (go_simp;with_reducible rfl)
 simp only [ls0,ls1]
 refine wpAnyH_ready (rs:=[7]) (by kernel_rfl) (by simp) ?_
 refine AllReadyH.cons rfl (fun K hK=>?_) AllReadyH.nil
 go_simp
 refine hK.out _ _ ⟨u0,u1,u2,v0⟩ (fun hHeld=>?_)
 clear hK K
 refine tk (i:=8) (n:=4) (v:=?_) ?_ ?_
 rotate_left 1
 ·intro wz hSw
  first | (go_simp;done) | (go_simp;with_reducible rfl)
 simp only [ls0,ls1]
 refine wpAnyH_done (by kernel_rfl) ?_ _
 refine NoPanic.normal ?_
 have H4:Hid (DS w (w5.setCell ⟨mb,23,none⟩ (.int .i64 (m:Int))) _ _ _ _ _ _ _ _ _ _ _ _ _):=H5.out.setA m
 go_wp2_with fail
 generalize hw4:(w5.setCell ⟨mb,23,none⟩ (.int .i64 (m:Int)))=w4 at *
 clear hw4
 have hqk:=(H4.out.old HO.out.1 HO.out.2.1).trans HO.out.2.2.2.1
 obtain ⟨ku0,-,-,-,kv1,-,-,-,-⟩:=H4.out.reads
 have hlk:=look_none (w:=w4.drew) (z:=11) hqk (ops_none g (by omega))
 have hS0:w4.drew.cell? ⟨w.heap.size,0,none⟩=some (.int .i64 11)∧w4.drew.cell? ⟨mb,25,none⟩=some (.map (some q)):=⟨ku0,kv1⟩
 refine wp_region_noPanic ?_
 refine wp_region_held_drew (S:=fun w'=>w'.cell? ⟨w.heap.size,0,none⟩=some (.int .i64 11)∧w'.cell? ⟨mb,25,none⟩=some (.map (some q))) (by kernel_rfl) hS0 (fun hHeld=>?_)
 refine tk (i:=0) (n:=125) (v:=?_) ?_ ?_
 rotate_left 1
 ·intro wz hSw
  first | (go_simp;done) | (go_simp;with_reducible rfl)
 simp only [ls0,ls1]
 refine tk (i:=1) (n:=126) (v:=?_) ?_ ?_
 rotate_left 1
 ·intro wz hSw
  first | (go_simp;done) | (go_simp;with_reducible rfl)
 simp only [ls0,ls1]
 refine tk (i:=2) (n:=127) (v:=?_) ?_ ?_
 rotate_left 1
 ·intro wz hSw
  first | (go_simp;done) | (go_simp;with_reducible rfl)
 simp only [ls0,ls1]
 refine tk (i:=3) (n:=128) (v:=?_) ?_ ?_
 rotate_left 1
 ·intro wz hSw
  first | (go_simp;done) | (go_simp;with_reducible rfl)
 simp only [ls0,ls1]
 refine tk (i:=4) (n:=129) (v:=?_) ?_ ?_
 rotate_left 1
 ·intro wz hSw
  first | (go_simp;done) | (go_simp;with_reducible rfl)
 simp only [ls0,ls1]
 refine tk (i:=5) (n:=130) (v:=?_) ?_ ?_
 rotate_left 1
 ·intro wz hSw
  first | (go_simp;done) | (go_simp;with_reducible rfl)
 simp only [ls0,ls1]
 refine wpAnyH_ready (rs:=[6]) (by kernel_rfl) (by simp) ?_
 refine AllReadyH.cons rfl (fun K hK=>?_) AllReadyH.nil
 go_simp
 refine hK.out _ _ hS0 (fun hHeld=>?_)
 clear hK K
 refine tk (i:=7) (n:=124) (v:=?_) ?_ ?_
 rotate_left 1
 ·intro wz hSw
  first | (go_simp;done) | (go_simp;with_reducible rfl)
 simp only [ls0,ls1]
 refine tk (i:=8) (n:=132) (v:=?_) ?_ ?_
 rotate_left 1
 ·intro wz hSw
  first | (go_simp;done) | (go_simp;with_reducible rfl)
 simp only [ls0,ls1]
 refine tk (i:=9) (n:=133) (v:=?_) ?_ ?_
 rotate_left 1
 ·intro wz hSw
  first | (go_simp;done) | (go_simp;with_reducible rfl)
 simp only [ls0,ls1]
 refine tk (i:=10) (n:=5) (v:=?_) ?_ ?_
 rotate_left 1
 ·intro wz hSw
  first | (go_simp;done) | (go_simp;with_reducible rfl)
 simp only [ls0,ls1]
 refine tk (i:=11) (n:=6) (v:=?_) ?_ ?_
 rotate_left 1
 ·intro wz hSw
  first | (go_simp;done) | (go_simp;with_reducible rfl)
 simp only [ls0,ls1]
 refine wpAnyH_done (by kernel_rfl) ?_ _
 refine NoPanic.normal ?_
 go_wp2_with fail
 go_end0
 exact ⟨rfl,sv,pv,(H4.out.grow (Below.refl _ _).drew).mm,(H4.out.grow (Below.refl _ _).drew).mr⟩
set_option maxRecDepth 20000 in
set_option maxHeartbeats 4000000 in
theorem do_12t (m:Nat) (b:Int) (n:Nat) (h:MM w mb B l iv ov ins sp s sv pv) (hl:s.st.length≤1000) (hpc:s.pc≤1000000) (hn:s.st.length=n+1) (hz:s.top=0):Calls Tryd.prog 49 #[.pointer (some ⟨mb,0,none⟩),.agg #[.int .i64 12,.int .i64 (m:Int),.int .i64 b]] w (Does w mb B l iv ov ins sp s sv pv ⟨12,(m:Int),b⟩):=by
 have HM:Hid (DS w (w.alloc (.cells #[.int .i64 12,.int .i64 (m:Int),.int .i64 b] 35)) mb B l iv ov ins sp ⟨12,(m:Int),b⟩ s sv pv sv pv):=DS.start h ⟨12,(m:Int),b⟩
 have c23:=h.c_pc
 have lm:=h.lt
 obtain ⟨q,g,hov,hq,hg,hqm,hgm⟩:=h.ops
 subst hov
 have hzb:(s.top == 0)=true:=by simpa using hz
 have HZ:Hid (s.top=0):=hz
 clear hz
 have HO:Hid (MM w mb B l iv (.map (some q)) ins sp s sv pv∧q<mb∧g<mb∧w.heap[q]?=some (.map (opsEs g) 5)∧w.heap[g]?=some (.cells #[.func (Fn.func 87) #[] #[]] 151 (0,0))):=⟨h,hq,hg,hqm,hgm⟩
 clear h hqm hgm hq hg
 go_enter Tryd.func49,Tryd.ntmps49
 have htop:({ pc:=m,st:=s.st,vs:=s.vs,cs:=s.cs,ps:=s.ps }:MS).top=s.top:=rfl
 go_wp2_with (go_at_call 48;refine (over_12 _ mb B l iv _ ins sp s sv pv (m:Int) b n HM.out.mm hn (by omega)).mono ?_;rw [hzb];rintro r w3 ⟨rfl,hb3⟩;have H3:Hid (DS _ w3 _ _ _ _ _ _ _ _ _ _ _ _ _):=HM.out.grow hb3;clear hb3)
 have H3w:=H3.out
 obtain ⟨z0,z1,z2,z3,z4,zf,zm,zx,zn⟩:=H3.out.reads
 try dsimp only at z0 z1 z2
 refine wp_region_noPanic ?_
 refine wp_region_held_drew (S:=fun w'=>w'.cell? ⟨w.heap.size,0,none⟩=some (.int .i64 12)∧w'.cell? ⟨w.heap.size,1,none⟩=some (.int .i64 (m:Int))∧w'.cell? ⟨w.heap.size,2,none⟩=some (.int .i64 b)∧w'.cell? ⟨mb,23,none⟩=some (.int .i64 (s.pc:Int))) (by kernel_rfl) (show (w3.drew.cell? ⟨w.heap.size,0,none⟩=some (.int .i64 12)∧w3.drew.cell? ⟨w.heap.size,1,none⟩=some (.int .i64 (m:Int))∧w3.drew.cell? ⟨w.heap.size,2,none⟩=some (.int .i64 b)∧w3.drew.cell? ⟨mb,23,none⟩=some (.int .i64 (s.pc:Int))) from ⟨z0,z1,z2,z3⟩) (fun hHeld=>?_)
 refine tk (i:=0) (n:=17) (v:=?_) ?_ ?_
 rotate_left 1
 ·intro wz hSw
  first | (go_simp;done) | (go_simp;with_reducible rfl)
 simp only [ls0,ls1]
 refine tk (i:=1) (n:=18) (v:=?_) ?_ ?_
 rotate_left 1
 ·intro wz hSw
  first | (go_simp;done) | (go_simp;with_reducible rfl)
 simp only [ls0,ls1]
 refine tk (i:=2) (n:=19) (v:=?_) ?_ ?_
 rotate_left 1
 ·intro wz hSw
  first | (go_simp;done) | (go_simp;with_reducible rfl)
 simp only [ls0,ls1]
 refine tk (i:=3) (n:=20) (v:=?_) ?_ ?_
 rotate_left 1
 ·intro wz hSw
  first | (go_simp;done) | (go_simp;with_reducible rfl)
 simp only [ls0,ls1]
 refine tk (i:=4) (n:=21) (v:=?_) ?_ ?_
 rotate_left 1
 ·intro wz hSw
  first | (go_simp;done) | (go_simp;with_reducible rfl)
 simp only [ls0,ls1]
 refine wpAnyH_ready (rs:=[5]) (by kernel_rfl) (by simp) ?_
 refine AllReadyH.cons rfl (fun K hK=>?_) AllReadyH.nil
 go_simp
 go_wp2_with (go_at_call 83;refine (ways_first _ s.pc ⟨12,(m:Int),b⟩ (m:Int) (by omega) (by simp [waysOf])).mono ?_;rintro r w5 ⟨⟨qb,qo,qn,qc,rfl,cq⟩,hb5⟩;have H5:Hid (DS w w5 _ _ _ _ _ _ _ _ _ _ _ _ _):=H3.out.grow (below_seq (Below.refl _ _).drew hb5);obtain ⟨u0,u1,u2,v0,v1,vf,vm,vx,vn⟩:=H5.out.reads;clear hb5)
 try dsimp only at u0 u1 u2
 refine hK.out _ _ ⟨u0,u1,u2,v0⟩ (fun hHeld=>?_)
 clear hK K
 refine tk (i:=6) (n:=23) (v:=?_) ?_ ?_
 rotate_left 1
 ·intro wz hSw
  first | (go_simp;done) | (go_simp;with_reducible rfl)
 simp only [ls0,ls1]
 refine wpAnyH_ready (rs:=[7]) (by kernel_rfl) (by simp) ?_
 refine AllReadyH.cons rfl (fun K hK=>?_) AllReadyH.nil
 go_simp
 refine hK.out _ _ ⟨u0,u1,u2,v0⟩ (fun hHeld=>?_)
 clear hK K
 refine tk (i:=8) (n:=4) (v:=?_) ?_ ?_
 rotate_left 1
 ·intro wz hSw
  first | (go_simp;done) | (go_simp;with_reducible rfl)
 simp only [ls0,ls1]
 refine wpAnyH_done (by kernel_rfl) ?_ _
 refine NoPanic.normal ?_
 have H4:Hid (DS w (w5.setCell ⟨mb,23,none⟩ (.int .i64 (m:Int))) _ _ _ _ _ _ _ _ _ _ _ _ _):=H5.out.setA m
 go_wp2_with (go_at_call 85;refine (pop_any _ mb B l iv _ ins sp _ _ _ n H4.out.mm (by dsimp only;first | omega | (simp only [List.length_dropLast];omega)) (by omega)).mono ?_;rw [htop];rintro r w6 ⟨rfl,sv6,hm5,hr5⟩;have H6:Hid (DS w w6 _ _ _ _ _ _ _ _ _ _ _ _ _):=H4.out.step hm5 hr5;obtain ⟨u06,u16,u26,v06,v16,vf6,vm6,vx6,vn6⟩:=H6.out.reads;clear hm5 hr5)
 have hqk:=(H6.out.old HO.out.1 HO.out.2.1).trans HO.out.2.2.2.1
 obtain ⟨ku0,-,-,-,kv1,-,-,-,-⟩:=H6.out.reads
 have hlk:=look_none (w:=w6.drew) (z:=12) hqk (ops_none g (by omega))
 have hS0:w6.drew.cell? ⟨w.heap.size,0,none⟩=some (.int .i64 12)∧w6.drew.cell? ⟨mb,25,none⟩=some (.map (some q)):=⟨ku0,kv1⟩
 refine wp_region_noPanic ?_
 refine wp_region_held_drew (S:=fun w'=>w'.cell? ⟨w.heap.size,0,none⟩=some (.int .i64 12)∧w'.cell? ⟨mb,25,none⟩=some (.map (some q))) (by kernel_rfl) hS0 (fun hHeld=>?_)
 refine tk (i:=0) (n:=125) (v:=?_) ?_ ?_
 rotate_left 1
 ·intro wz hSw
  first | (go_simp;done) | (go_simp;with_reducible rfl)
 simp only [ls0,ls1]
 refine tk (i:=1) (n:=126) (v:=?_) ?_ ?_
 rotate_left 1
 ·intro wz hSw
  first | (go_simp;done) | (go_simp;with_reducible rfl)
 simp only [ls0,ls1]
 refine tk (i:=2) (n:=127) (v:=?_) ?_ ?_
 rotate_left 1
 ·intro wz hSw
  first | (go_simp;done) | (go_simp;with_reducible rfl)
 simp only [ls0,ls1]
 refine tk (i:=3) (n:=128) (v:=?_) ?_ ?_
 rotate_left 1
 ·intro wz hSw
  first | (go_simp;done) | (go_simp;with_reducible rfl)
 simp only [ls0,ls1]
 refine tk (i:=4) (n:=129) (v:=?_) ?_ ?_
 rotate_left 1
 ·intro wz hSw
  first | (go_simp;done) | (go_simp;with_reducible rfl)
 simp only [ls0,ls1]
 refine tk (i:=5) (n:=130) (v:=?_) ?_ ?_
 rotate_left 1
 ·intro wz hSw
  first | (go_simp;done) | (go_simp;with_reducible rfl)
 simp only [ls0,ls1]
 refine wpAnyH_ready (rs:=[6]) (by kernel_rfl) (by simp) ?_
 refine AllReadyH.cons rfl (fun K hK=>?_) AllReadyH.nil
 go_simp
 refine hK.out _ _ hS0 (fun hHeld=>?_)
 clear hK K
 refine tk (i:=7) (n:=124) (v:=?_) ?_ ?_
 rotate_left 1
 ·intro wz hSw
  first | (go_simp;done) | (go_simp;with_reducible rfl)
 simp only [ls0,ls1]
 refine tk (i:=8) (n:=132) (v:=?_) ?_ ?_
 rotate_left 1
 ·intro wz hSw
  first | (go_simp;done) | (go_simp;with_reducible rfl)
 simp only [ls0,ls1]
 refine tk (i:=9) (n:=133) (v:=?_) ?_ ?_
 rotate_left 1
 ·intro wz hSw
  first | (go_simp;done) | (go_simp;with_reducible rfl)
 simp only [ls0,ls1]
 refine tk (i:=10) (n:=5) (v:=?_) ?_ ?_
 rotate_left 1
 ·intro wz hSw
  first | (go_simp;done) | (go_simp;with_reducible rfl)
 simp only [ls0,ls1]
 refine tk (i:=11) (n:=6) (v:=?_) ?_ ?_
 rotate_left 1
 ·intro wz hSw
  first | (go_simp;done) | (go_simp;with_reducible rfl)
 simp only [ls0,ls1]
 refine wpAnyH_done (by kernel_rfl) ?_ _
 refine NoPanic.normal ?_
 go_wp2_with fail
 go_end0
 have hmd:mdo ins ⟨12,(m:Int),b⟩ s=⟨m,s.st.dropLast,s.vs,s.cs,s.ps⟩:=by simp [mdo,nextI,overI,HZ.out]
 refine ⟨rfl,sv6,pv,?_,(H6.out.grow (Below.refl _ _).drew).mr⟩
 rw [hmd]
 exact (H6.out.grow (Below.refl _ _).drew).mm
set_option maxRecDepth 20000 in
set_option maxHeartbeats 4000000 in
theorem do_14t (m t:Nat) (cv:Int) (h:MM w mb B l iv ov ins sp s sv pv) (_:s.st.length≤1000) (hpc:s.pc≤1000000) (hm:m<8) (hz:s.cs.getD m 0=cv) (hc0:0<cv) (hc1:cv≤1000):Calls Tryd.prog 49 #[.pointer (some ⟨mb,0,none⟩),.agg #[.int .i64 14,.int .i64 (m:Int),.int .i64 (t:Int)]] w (Does w mb B l iv ov ins sp s sv pv ⟨14,(m:Int),(t:Int)⟩):=by
 have HM:Hid (DS w (w.alloc (.cells #[.int .i64 14,.int .i64 (m:Int),.int .i64 (t:Int)] 35)) mb B l iv ov ins sp ⟨14,(m:Int),(t:Int)⟩ s sv pv sv pv):=DS.start h ⟨14,(m:Int),(t:Int)⟩
 have c23:=h.c_pc
 have lm:=h.lt
 obtain ⟨q,g,hov,hq,hg,hqm,hgm⟩:=h.ops
 subst hov
 have hmi:(m:Int)<8:=by omega
 have hzb:decide (0<s.cs.getD m 0)=true:=by rw [hz];simpa using hc0
 have HZ:Hid (s.cs.getD m 0=cv):=hz
 have hwe:IntKind.i64.wrap (cv - 1)=cv - 1:=by rw [IntKind.wrap_i64];omega
 have hmx:(if IntKind.i64.wrap (cv - 1)<0 then 0 else IntKind.i64.wrap (cv - 1))=cv - 1:=by rw [hwe,if_neg (by omega)]
 clear hz hwe
 have HO:Hid (MM w mb B l iv (.map (some q)) ins sp s sv pv∧q<mb∧g<mb∧w.heap[q]?=some (.map (opsEs g) 5)∧w.heap[g]?=some (.cells #[.func (Fn.func 87) #[] #[]] 151 (0,0))):=⟨h,hq,hg,hqm,hgm⟩
 clear h hqm hgm hq hg
 go_enter Tryd.func49,Tryd.ntmps49
 go_wp2_with (go_at_call 48;refine (over_14 _ mb B l iv _ ins sp s sv pv m (t:Int) HM.out.mm hm).mono ?_;rw [hzb];rintro r w3 ⟨rfl,hb3⟩;have H3:Hid (DS _ w3 _ _ _ _ _ _ _ _ _ _ _ _ _):=HM.out.grow hb3;clear hb3)
 clear hzb
 have H3w:=H3.out
 obtain ⟨z0,z1,z2,z3,z4,zf,zm,zx,zn⟩:=H3.out.reads
 try dsimp only at z0 z1 z2
 refine wp_region_noPanic ?_
 refine wp_region_held_drew (S:=fun w'=>w'.cell? ⟨w.heap.size,0,none⟩=some (.int .i64 14)∧w'.cell? ⟨w.heap.size,1,none⟩=some (.int .i64 (m:Int))∧w'.cell? ⟨w.heap.size,2,none⟩=some (.int .i64 (t:Int))∧w'.cell? ⟨mb,23,none⟩=some (.int .i64 (s.pc:Int))) (by kernel_rfl) (show (w3.drew.cell? ⟨w.heap.size,0,none⟩=some (.int .i64 14)∧w3.drew.cell? ⟨w.heap.size,1,none⟩=some (.int .i64 (m:Int))∧w3.drew.cell? ⟨w.heap.size,2,none⟩=some (.int .i64 (t:Int))∧w3.drew.cell? ⟨mb,23,none⟩=some (.int .i64 (s.pc:Int))) from ⟨z0,z1,z2,z3⟩) (fun hHeld=>?_)
 refine tk (i:=0) (n:=17) (v:=?_) ?_ ?_
 rotate_left 1
 ·intro wz hSw
  first | (go_simp;done) | (go_simp;with_reducible rfl)
 simp only [ls0,ls1]
 refine tk (i:=1) (n:=18) (v:=?_) ?_ ?_
 rotate_left 1
 ·intro wz hSw
  first | (go_simp;done) | (go_simp;with_reducible rfl)
 simp only [ls0,ls1]
 refine tk (i:=2) (n:=19) (v:=?_) ?_ ?_
 rotate_left 1
 ·intro wz hSw
  first | (go_simp;done) | (go_simp;with_reducible rfl)
 simp only [ls0,ls1]
 refine tk (i:=3) (n:=20) (v:=?_) ?_ ?_
 rotate_left 1
 ·intro wz hSw
  first | (go_simp;done) | (go_simp;with_reducible rfl)
 simp only [ls0,ls1]
 refine tk (i:=4) (n:=21) (v:=?_) ?_ ?_
 rotate_left 1
 ·intro wz hSw
  first | (go_simp;done) | (go_simp;with_reducible rfl)
 simp only [ls0,ls1]
 refine wpAnyH_ready (rs:=[5]) (by kernel_rfl) (by simp) ?_
 refine AllReadyH.cons rfl (fun K hK=>?_) AllReadyH.nil
 go_simp
 go_wp2_with (go_at_call 83;refine (ways_first _ s.pc ⟨14,(m:Int),(t:Int)⟩ (t:Int) (by omega) (by simp [waysOf])).mono ?_;rintro r w5 ⟨⟨qb,qo,qn,qc,rfl,cq⟩,hb5⟩;have H5:Hid (DS w w5 _ _ _ _ _ _ _ _ _ _ _ _ _):=H3.out.grow (below_seq (Below.refl _ _).drew hb5);obtain ⟨u0,u1,u2,v0,v1,vf,vm,vx,vn⟩:=H5.out.reads;clear hb5)
 try dsimp only at u0 u1 u2
 refine hK.out _ _ ⟨u0,u1,u2,v0⟩ (fun hHeld=>?_)
 clear hK K
 refine tk (i:=6) (n:=23) (v:=?_) ?_ ?_
 rotate_left 1
 ·intro wz hSw
  first | (go_simp;done) | (go_simp;with_reducible rfl)
 simp only [ls0,ls1]
 refine wpAnyH_ready (rs:=[7]) (by kernel_rfl) (by simp) ?_
 refine AllReadyH.cons rfl (fun K hK=>?_) AllReadyH.nil
 go_simp
 refine hK.out _ _ ⟨u0,u1,u2,v0⟩ (fun hHeld=>?_)
 clear hK K
 refine tk (i:=8) (n:=4) (v:=?_) ?_ ?_
 rotate_left 1
 ·intro wz hSw
  first | (go_simp;done) | (go_simp;with_reducible rfl)
 simp only [ls0,ls1]
 refine wpAnyH_done (by kernel_rfl) ?_ _
 refine NoPanic.normal ?_
 have H4:Hid (DS w (w5.setCell ⟨mb,23,none⟩ (.int .i64 (t:Int))) _ _ _ _ _ _ _ _ _ _ _ _ _):=H5.out.setA t
 go_wp2_with fail
 clear z0 z1 z2 z3 z4 zf zm zx zn u0 u1 u2 v0 v1 vf vm vx vn
 generalize hw4:(w5.setCell ⟨mb,23,none⟩ (.int .i64 (t:Int)))=w4 at *
 clear hw4
 obtain ⟨z0,z1,z2,z3,z4,zf,zm,zx,zn⟩:=H4.out.reads
 have c5:=H4.out.c_cs hm
 dsimp only at c5
 rw [HZ.out] at c5
 refine wp_region_noPanic ?_
 refine wp_region_held_drew (S:=fun w'=>w'.cell? ⟨w.heap.size,1,none⟩=some (.int .i64 (m:Int))) (by kernel_rfl) (show (w4.drew.cell? ⟨w.heap.size,1,none⟩=some (.int .i64 (m:Int))) from z1) (fun hHeld=>?_)
 refine tk (i:=0) (n:=101) (v:=?_) ?_ ?_
 rotate_left 1
 ·intro wz hSw
  first | (go_simp;done) | (go_simp;with_reducible rfl)
 simp only [ls0,ls1]
 refine tk (i:=1) (n:=102) (v:=?_) ?_ ?_
 rotate_left 1
 ·intro wz hSw
  first | (go_simp;done) | (go_simp;with_reducible rfl)
 simp only [ls0,ls1]
 refine tk (i:=2) (n:=103) (v:=?_) ?_ ?_
 rotate_left 1
 ·intro wz hSw
  first | (go_simp;done) | (go_simp;with_reducible rfl)
 simp only [ls0,ls1]
 refine tk (i:=3) (n:=104) (v:=?_) ?_ ?_
 rotate_left 1
 ·intro wz hSw
  first | (go_simp;done) | (go_simp;with_reducible rfl)
 simp only [ls0,ls1]
 refine tk (i:=4) (n:=105) (v:=?_) ?_ ?_
 rotate_left 1
 ·intro wz hSw
  first | (go_simp;done) | (go_simp;with_reducible rfl)
 simp only [ls0,ls1]
 refine tk (i:=5) (n:=106) (v:=?_) ?_ ?_
 rotate_left 1
 ·intro wz hSw
  first | (go_simp;done) | (go_simp;with_reducible rfl)
 simp only [ls0,ls1]
 refine tk (i:=6) (n:=107) (v:=?_) ?_ ?_
 rotate_left 1
 ·intro wz hSw
  first | (go_simp;done) | (go_simp;with_reducible rfl)
 simp only [ls0,ls1]
 refine tk (i:=7) (n:=108) (v:=?_) ?_ ?_
 rotate_left 1
 ·intro wz hSw
  first | (go_simp;done) | (go_simp;with_reducible rfl)
 simp only [ls0,ls1]
 refine tk (i:=8) (n:=109) (v:=?_) ?_ ?_
 rotate_left 1
 ·intro wz hSw
  first | (go_simp;done) | (go_simp;with_reducible rfl)
 simp only [ls0,ls1]
 refine tk (i:=12) (n:=113) (v:=?_) ?_ ?_
 rotate_left 1
 ·intro wz hSw
  first | (go_simp;done) | (go_simp;with_reducible rfl)
 simp only [ls0,ls1]
 refine tk (i:=13) (n:=114) (v:=?_) ?_ ?_
 rotate_left 1
 ·intro wz hSw
  first | (go_simp;done) | (go_simp;with_reducible rfl)
 simp only [ls0,ls1]
 refine wpAnyH_ready (rs:=[9]) (by kernel_rfl) (by simp) ?_
 refine AllReadyH.cons rfl (fun K hK=>?_) AllReadyH.nil
 go_simp
 refine hK.out _ _ z1 (fun hHeld=>?_)
 clear hK K
 refine tk (i:=10) (n:=111) (v:=?_) ?_ ?_
 rotate_left 1
 ·intro wz hSw
  first | (go_simp;done) | (go_simp;with_reducible rfl)
 simp only [ls0,ls1]
 refine tk (i:=11) (n:=112) (v:=?_) ?_ ?_
 rotate_left 1
 ·intro wz hSw
  first | (go_simp;done) | (go_simp;with_reducible rfl)
 simp only [ls0,ls1]
 refine tk (i:=14) (n:=115) (v:=?_) ?_ ?_
 rotate_left 1
 ·intro wz hSw
  first | (go_simp;done) | (go_simp;with_reducible rfl)
 simp only [ls0,ls1]
 have H6:Hid (DS w (w4.setCell ⟨mb,13+m,none⟩ (.int .i64 (cv - 1))).drew _ _ _ _ _ _ _ _ _ _ _ _ _):=(H4.out.setC hm (cv - 1)).grow (Below.refl _ _).drew
 obtain ⟨-,k1,k2,-⟩:=H6.out.reads
 refine wpAnyH_ready (rs:=[15]) (by kernel_rfl) (by simp) ?_
 refine AllReadyH.cons rfl (fun K hK=>?_) AllReadyH.nil
 go_simp
 try rw [hmx]
 refine hK.out _ ((w4.setCell ⟨mb,13+m,none⟩ (.int .i64 (cv - 1))).drew) k1 (fun hHeld=>?_)
 clear hK K
 refine wpAnyH_done (by kernel_rfl) ?_ _
 refine NoPanic.normal ?_
 clear k1
 generalize hw6:(w4.setCell ⟨mb,13+m,none⟩ (.int .i64 (cv - 1))).drew=w6 at *
 clear hw6
 go_wp2_with fail
 have hqk:=(H6.out.old HO.out.1 HO.out.2.1).trans HO.out.2.2.2.1
 obtain ⟨ku0,-,-,-,kv1,-,-,-,-⟩:=H6.out.reads
 have hlk:=look_none (w:=w6.drew) (z:=14) hqk (ops_none g (by omega))
 have hS0:w6.drew.cell? ⟨w.heap.size,0,none⟩=some (.int .i64 14)∧w6.drew.cell? ⟨mb,25,none⟩=some (.map (some q)):=⟨ku0,kv1⟩
 refine wp_region_noPanic ?_
 refine wp_region_held_drew (S:=fun w'=>w'.cell? ⟨w.heap.size,0,none⟩=some (.int .i64 14)∧w'.cell? ⟨mb,25,none⟩=some (.map (some q))) (by kernel_rfl) hS0 (fun hHeld=>?_)
 refine tk (i:=0) (n:=125) (v:=?_) ?_ ?_
 rotate_left 1
 ·intro wz hSw
  first | (go_simp;done) | (go_simp;with_reducible rfl)
 simp only [ls0,ls1]
 refine tk (i:=1) (n:=126) (v:=?_) ?_ ?_
 rotate_left 1
 ·intro wz hSw
  first | (go_simp;done) | (go_simp;with_reducible rfl)
 simp only [ls0,ls1]
 refine tk (i:=2) (n:=127) (v:=?_) ?_ ?_
 rotate_left 1
 ·intro wz hSw
  first | (go_simp;done) | (go_simp;with_reducible rfl)
 simp only [ls0,ls1]
 refine tk (i:=3) (n:=128) (v:=?_) ?_ ?_
 rotate_left 1
 ·intro wz hSw
  first | (go_simp;done) | (go_simp;with_reducible rfl)
 simp only [ls0,ls1]
 refine tk (i:=4) (n:=129) (v:=?_) ?_ ?_
 rotate_left 1
 ·intro wz hSw
  first | (go_simp;done) | (go_simp;with_reducible rfl)
 simp only [ls0,ls1]
 refine tk (i:=5) (n:=130) (v:=?_) ?_ ?_
 rotate_left 1
 ·intro wz hSw
  first | (go_simp;done) | (go_simp;with_reducible rfl)
 simp only [ls0,ls1]
 refine wpAnyH_ready (rs:=[6]) (by kernel_rfl) (by simp) ?_
 refine AllReadyH.cons rfl (fun K hK=>?_) AllReadyH.nil
 go_simp
 refine hK.out _ _ hS0 (fun hHeld=>?_)
 clear hK K
 refine tk (i:=7) (n:=124) (v:=?_) ?_ ?_
 rotate_left 1
 ·intro wz hSw
  first | (go_simp;done) | (go_simp;with_reducible rfl)
 simp only [ls0,ls1]
 refine tk (i:=8) (n:=132) (v:=?_) ?_ ?_
 rotate_left 1
 ·intro wz hSw
  first | (go_simp;done) | (go_simp;with_reducible rfl)
 simp only [ls0,ls1]
 refine tk (i:=9) (n:=133) (v:=?_) ?_ ?_
 rotate_left 1
 ·intro wz hSw
  first | (go_simp;done) | (go_simp;with_reducible rfl)
 simp only [ls0,ls1]
 refine tk (i:=10) (n:=5) (v:=?_) ?_ ?_
 rotate_left 1
 ·intro wz hSw
  first | (go_simp;done) | (go_simp;with_reducible rfl)
 simp only [ls0,ls1]
 refine tk (i:=11) (n:=6) (v:=?_) ?_ ?_
 rotate_left 1
 ·intro wz hSw
  first | (go_simp;done) | (go_simp;with_reducible rfl)
 simp only [ls0,ls1]
 refine wpAnyH_done (by kernel_rfl) ?_ _
 refine NoPanic.normal ?_
 go_wp2_with fail
 go_end0
 have hmd:mdo ins ⟨14,(m:Int),(t:Int)⟩ s=⟨t,s.st,s.vs,s.cs.set m (cv - 1),s.ps⟩:=by have:=HZ.out;rw [List.getD_eq_getElem?_getD] at this;simp [mdo,nextI,overI,this,hc0]
 refine ⟨rfl,sv,pv,?_,(H6.out.grow (Below.refl _ _).drew).mr⟩
 rw [hmd]
 exact (H6.out.grow (Below.refl _ _).drew).mm
end
end Go.Proofs.YtnkgbkkakokciacDoor
