import Derived.Test.YtnkgbkkakokciacDoorGMDoA
namespace Go.Proofs.YtnkgbkkakokciacDoor
open Go.ChangeShapes Go.WideShapes Go.ChangeAt Go.RowKit
section
variable (w:World) (mb B:Nat) (l:List In) (iv ov:Value) (ins:List Int) (sp:Int) (s:MS) (sv pv:Value)
set_option maxRecDepth 20000 in
set_option maxHeartbeats 4000000 in
theorem do_2 (m:Nat) (b:Int) (h:MM w mb B l iv ov ins sp s sv pv) (hl:s.st.length≤1000) (hpc:s.pc≤1000000) (hm:m<8):Calls Tryd.prog 49 #[.pointer (some ⟨mb,0,none⟩),.agg #[.int .i64 2,.int .i64 (m:Int),.int .i64 b]] w (Does w mb B l iv ov ins sp s sv pv ⟨2,(m:Int),b⟩):=by
 have HM:Hid (DS w (w.alloc (.cells #[.int .i64 2,.int .i64 (m:Int),.int .i64 b] 35)) mb B l iv ov ins sp ⟨2,(m:Int),b⟩ s sv pv sv pv):=DS.start h ⟨2,(m:Int),b⟩
 have c23:=h.c_pc
 have lm:=h.lt
 obtain ⟨q,g,hov,hq,hg,hqm,hgm⟩:=h.ops
 subst hov
 have hmi:(m:Int)<8:=by omega
 have HO:Hid (MM w mb B l iv (.map (some q)) ins sp s sv pv∧q<mb∧g<mb∧w.heap[q]?=some (.map (opsEs g) 5)∧w.heap[g]?=some (.cells #[.func (Fn.func 87) #[] #[]] 151 (0,0))):=⟨h,hq,hg,hqm,hgm⟩
 clear h hqm hgm hq hg
 go_enter Tryd.func49,Tryd.ntmps49
 go_wp2_with (go_at_call 48;refine (over_other _ mb 2 _ _ (by first | decide | omega) (by first | decide | omega) (by first | decide | omega)).mono ?_;rintro r w3 ⟨rfl,hb3⟩;have H3:Hid (DS _ w3 _ _ _ _ _ _ _ _ _ _ _ _ _):=HM.out.grow hb3;obtain ⟨x0,x1,x2,y0,y1,yf,ym,yx,yn⟩:=H3.out.reads;clear hb3)
 have H4:Hid (DS w (w3.setCell ⟨mb,23,none⟩ (.int .i64 ((s.pc:Int)+1))) _ _ _ _ _ _ _ _ _ _ _ _ _):=H3.out.setA1
 generalize hw4:(w3.setCell ⟨mb,23,none⟩ (.int .i64 ((s.pc:Int)+1)))=w4 at *
 clear hw4
 have cv:=H4.out.c_vs hm
 obtain ⟨z0,z1,z2,z3,z4,zf,zm,zx,zn⟩:=H4.out.reads
 generalize hzv:s.vs.getD m 0=zv at *
 have HZ:Hid (_=_):=hzv
 clear hzv
 refine wp_region_noPanic ?_
 refine wp_region_held_drew (S:=fun w'=>w'.cell? ⟨w.heap.size,1,none⟩=some (.int .i64 (m:Int))∧w'.cell? ⟨mb,1+m,none⟩=some (.int .i64 zv)) (by kernel_rfl) (show (w4.drew.cell? ⟨w.heap.size,1,none⟩=some (.int .i64 (m:Int))∧w4.drew.cell? ⟨mb,1+m,none⟩=some (.int .i64 zv)) from ⟨z1,cv⟩) (fun hHeld=>?_)
 refine tk (i:=0) (n:=39) (v:=?_) ?_ ?_
 rotate_left 1
 ·intro wz hSw
  first | (go_simp;done) | (go_simp;with_reducible rfl)
 simp only [ls0,ls1]
 refine tk (i:=1) (n:=40) (v:=?_) ?_ ?_
 rotate_left 1
 ·intro wz hSw
  first | (go_simp;done) | (go_simp;with_reducible rfl)
 simp only [ls0,ls1]
 refine tk (i:=2) (n:=41) (v:=?_) ?_ ?_
 rotate_left 1
 ·intro wz hSw
  first | (go_simp;done) | (go_simp;with_reducible rfl)
 simp only [ls0,ls1]
 refine tk (i:=3) (n:=42) (v:=?_) ?_ ?_
 rotate_left 1
 ·intro wz hSw
  first | (go_simp;done) | (go_simp;with_reducible rfl)
 simp only [ls0,ls1]
 refine tk (i:=4) (n:=43) (v:=?_) ?_ ?_
 rotate_left 1
 ·intro wz hSw
  first | (go_simp;done) | (go_simp;with_reducible rfl)
 simp only [ls0,ls1]
 refine tk (i:=5) (n:=44) (v:=?_) ?_ ?_
 rotate_left 1
 ·intro wz hSw
  first | (go_simp;done) | (go_simp;with_reducible rfl)
 simp only [ls0,ls1]
 refine tk (i:=6) (n:=45) (v:=?_) ?_ ?_
 rotate_left 1
 ·intro wz hSw
  first | (go_simp;done) | (go_simp;with_reducible rfl)
 simp only [ls0,ls1]
 refine tk (i:=7) (n:=46) (v:=?_) ?_ ?_
 rotate_left 1
 ·intro wz hSw
  first | (go_simp;done) | (go_simp;with_reducible rfl)
 simp only [ls0,ls1]
 refine wpAnyH_ready (rs:=[8]) (by kernel_rfl) (by simp) ?_
 refine AllReadyH.cons rfl (fun K hK=>?_) AllReadyH.nil
 go_simp
 have H4d:Hid (DS w w4.drew _ _ _ _ _ _ _ _ _ _ _ _ _):=H4.out.grow (Below.refl _ _).drew
 go_wp2_with (go_at_call 84;refine (push_any _ mb B l iv _ ins sp _ _ _ zv H4d.out.mm (by dsimp only;omega)).mono ?_;rintro r w5 ⟨rfl,sv5,hm5,hr5⟩;have H5:Hid (DS w w5 _ _ _ _ _ _ _ _ _ _ _ _ _):=H4d.out.step hm5 hr5;obtain ⟨u0,u1,u2,v0,v1,vf,vm,vx,vn⟩:=H5.out.reads;clear hm5 hr5)
 have c5:=H5.out.c_vs hm
 try dsimp only at c5
 rw [HZ.out] at c5
 refine hK.out _ _ ⟨u1,c5⟩ (fun hHeld=>?_)
 clear hK K
 refine wpAnyH_done (by kernel_rfl) ?_ _
 refine NoPanic.normal ?_
 go_wp2_with fail
 have hqk:=(H5.out.old HO.out.1 HO.out.2.1).trans HO.out.2.2.2.1
 obtain ⟨ku0,-,-,-,kv1,-,-,-,-⟩:=H5.out.reads
 have hlk:=look_none (w:=w5.drew) (z:=2) hqk (ops_none g (by omega))
 have hS0:w5.drew.cell? ⟨w.heap.size,0,none⟩=some (.int .i64 2)∧w5.drew.cell? ⟨mb,25,none⟩=some (.map (some q)):=⟨ku0,kv1⟩
 refine wp_region_noPanic ?_
 refine wp_region_held_drew (S:=fun w'=>w'.cell? ⟨w.heap.size,0,none⟩=some (.int .i64 2)∧w'.cell? ⟨mb,25,none⟩=some (.map (some q))) (by kernel_rfl) hS0 (fun hHeld=>?_)
 refine tk (i:=0) (n:=125) (v:=?_) ?_ ?_
 rotate_left 1
 ·intro wz hSw
  first | (go_simp;done) | (go_simp;with_reducible rfl)
 simp only [ls0,ls1]
 refine tk (i:=1) (n:=126) (v:=?_) ?_ ?_
 rotate_left 1
 ·intro wz hSw
  first | (go_simp;done) | (go_simp;with_reducible rfl)
 simp only [ls0,ls1]
 refine tk (i:=2) (n:=127) (v:=?_) ?_ ?_
 rotate_left 1
 ·intro wz hSw
  first | (go_simp;done) | (go_simp;with_reducible rfl)
 simp only [ls0,ls1]
 refine tk (i:=3) (n:=128) (v:=?_) ?_ ?_
 rotate_left 1
 ·intro wz hSw
  first | (go_simp;done) | (go_simp;with_reducible rfl)
 simp only [ls0,ls1]
 refine tk (i:=4) (n:=129) (v:=?_) ?_ ?_
 rotate_left 1
 ·intro wz hSw
  first | (go_simp;done) | (go_simp;with_reducible rfl)
 simp only [ls0,ls1]
 refine tk (i:=5) (n:=130) (v:=?_) ?_ ?_
 rotate_left 1
 ·intro wz hSw
  first | (go_simp;done) | (go_simp;with_reducible rfl)
 simp only [ls0,ls1]
 refine wpAnyH_ready (rs:=[6]) (by kernel_rfl) (by simp) ?_
 refine AllReadyH.cons rfl (fun K hK=>?_) AllReadyH.nil
 go_simp
 refine hK.out _ _ hS0 (fun hHeld=>?_)
 clear hK K
 refine tk (i:=7) (n:=124) (v:=?_) ?_ ?_
 rotate_left 1
 ·intro wz hSw
  first | (go_simp;done) | (go_simp;with_reducible rfl)
 simp only [ls0,ls1]
 refine tk (i:=8) (n:=132) (v:=?_) ?_ ?_
 rotate_left 1
 ·intro wz hSw
  first | (go_simp;done) | (go_simp;with_reducible rfl)
 simp only [ls0,ls1]
 refine tk (i:=9) (n:=133) (v:=?_) ?_ ?_
 rotate_left 1
 ·intro wz hSw
  first | (go_simp;done) | (go_simp;with_reducible rfl)
 simp only [ls0,ls1]
 refine tk (i:=10) (n:=5) (v:=?_) ?_ ?_
 rotate_left 1
 ·intro wz hSw
  first | (go_simp;done) | (go_simp;with_reducible rfl)
 simp only [ls0,ls1]
 refine tk (i:=11) (n:=6) (v:=?_) ?_ ?_
 rotate_left 1
 ·intro wz hSw
  first | (go_simp;done) | (go_simp;with_reducible rfl)
 simp only [ls0,ls1]
 refine wpAnyH_done (by kernel_rfl) ?_ _
 refine NoPanic.normal ?_
 go_wp2_with fail
 go_end0
 have HE:=H5.out.grow (Below.refl _ _).drew
 rw [← HZ.out] at HE
 exact ⟨rfl,sv5,pv,HE.mm,HE.mr⟩
set_option maxRecDepth 20000 in
set_option maxHeartbeats 4000000 in
theorem do_9 (m:Nat) (b:Int) (h:MM w mb B l iv ov ins sp s sv pv) (hl:s.st.length≤1000) (hpc:s.pc≤1000000) (hm:m<4):Calls Tryd.prog 49 #[.pointer (some ⟨mb,0,none⟩),.agg #[.int .i64 9,.int .i64 (m:Int),.int .i64 b]] w (Does w mb B l iv ov ins sp s sv pv ⟨9,(m:Int),b⟩):=by
 have HM:Hid (DS w (w.alloc (.cells #[.int .i64 9,.int .i64 (m:Int),.int .i64 b] 35)) mb B l iv ov ins sp ⟨9,(m:Int),b⟩ s sv pv sv pv):=DS.start h ⟨9,(m:Int),b⟩
 have c23:=h.c_pc
 have lm:=h.lt
 obtain ⟨q,g,hov,hq,hg,hqm,hgm⟩:=h.ops
 subst hov
 have hmi:(m:Int)<4:=by omega
 have HO:Hid (MM w mb B l iv (.map (some q)) ins sp s sv pv∧q<mb∧g<mb∧w.heap[q]?=some (.map (opsEs g) 5)∧w.heap[g]?=some (.cells #[.func (Fn.func 87) #[] #[]] 151 (0,0))):=⟨h,hq,hg,hqm,hgm⟩
 clear h hqm hgm hq hg
 go_enter Tryd.func49,Tryd.ntmps49
 go_wp2_with (go_at_call 48;refine (over_other _ mb 9 _ _ (by first | decide | omega) (by first | decide | omega) (by first | decide | omega)).mono ?_;rintro r w3 ⟨rfl,hb3⟩;have H3:Hid (DS _ w3 _ _ _ _ _ _ _ _ _ _ _ _ _):=HM.out.grow hb3;obtain ⟨x0,x1,x2,y0,y1,yf,ym,yx,yn⟩:=H3.out.reads;clear hb3)
 have H4:Hid (DS w (w3.setCell ⟨mb,23,none⟩ (.int .i64 ((s.pc:Int)+1))) _ _ _ _ _ _ _ _ _ _ _ _ _):=H3.out.setA1
 generalize hw4:(w3.setCell ⟨mb,23,none⟩ (.int .i64 ((s.pc:Int)+1)))=w4 at *
 clear hw4
 have cv:=H4.out.c_in hm
 obtain ⟨z0,z1,z2,z3,z4,zf,zm,zx,zn⟩:=H4.out.reads
 generalize hzv:ins.getD m 0=zv at *
 have HZ:Hid (_=_):=hzv
 clear hzv
 refine wp_region_noPanic ?_
 refine wp_region_held_drew (S:=fun w'=>w'.cell? ⟨w.heap.size,1,none⟩=some (.int .i64 (m:Int))∧w'.cell? ⟨mb,9+m,none⟩=some (.int .i64 zv)) (by kernel_rfl) (show (w4.drew.cell? ⟨w.heap.size,1,none⟩=some (.int .i64 (m:Int))∧w4.drew.cell? ⟨mb,9+m,none⟩=some (.int .i64 zv)) from ⟨z1,cv⟩) (fun hHeld=>?_)
 refine tk (i:=0) (n:=60) (v:=?_) ?_ ?_
 rotate_left 1
 ·intro wz hSw
  first | (go_simp;done) | (go_simp;with_reducible rfl)
 simp only [ls0,ls1]
 refine tk (i:=1) (n:=61) (v:=?_) ?_ ?_
 rotate_left 1
 ·intro wz hSw
  first | (go_simp;done) | (go_simp;with_reducible rfl)
 simp only [ls0,ls1]
 refine tk (i:=2) (n:=62) (v:=?_) ?_ ?_
 rotate_left 1
 ·intro wz hSw
  first | (go_simp;done) | (go_simp;with_reducible rfl)
 simp only [ls0,ls1]
 refine tk (i:=3) (n:=63) (v:=?_) ?_ ?_
 rotate_left 1
 ·intro wz hSw
  first | (go_simp;done) | (go_simp;with_reducible rfl)
 simp only [ls0,ls1]
 refine tk (i:=4) (n:=64) (v:=?_) ?_ ?_
 rotate_left 1
 ·intro wz hSw
  first | (go_simp;done) | (go_simp;with_reducible rfl)
 simp only [ls0,ls1]
 refine tk (i:=5) (n:=65) (v:=?_) ?_ ?_
 rotate_left 1
 ·intro wz hSw
  first | (go_simp;done) | (go_simp;with_reducible rfl)
 simp only [ls0,ls1]
 refine tk (i:=6) (n:=66) (v:=?_) ?_ ?_
 rotate_left 1
 ·intro wz hSw
  first | (go_simp;done) | (go_simp;with_reducible rfl)
 simp only [ls0,ls1]
 refine tk (i:=7) (n:=67) (v:=?_) ?_ ?_
 rotate_left 1
 ·intro wz hSw
  first | (go_simp;done) | (go_simp;with_reducible rfl)
 simp only [ls0,ls1]
 refine wpAnyH_ready (rs:=[8]) (by kernel_rfl) (by simp) ?_
 refine AllReadyH.cons rfl (fun K hK=>?_) AllReadyH.nil
 go_simp
 have H4d:Hid (DS w w4.drew _ _ _ _ _ _ _ _ _ _ _ _ _):=H4.out.grow (Below.refl _ _).drew
 go_wp2_with (go_at_call 84;refine (push_any _ mb B l iv _ ins sp _ _ _ zv H4d.out.mm (by dsimp only;omega)).mono ?_;rintro r w5 ⟨rfl,sv5,hm5,hr5⟩;have H5:Hid (DS w w5 _ _ _ _ _ _ _ _ _ _ _ _ _):=H4d.out.step hm5 hr5;obtain ⟨u0,u1,u2,v0,v1,vf,vm,vx,vn⟩:=H5.out.reads;clear hm5 hr5)
 have c5:=H5.out.c_in hm
 try dsimp only at c5
 rw [HZ.out] at c5
 refine hK.out _ _ ⟨u1,c5⟩ (fun hHeld=>?_)
 clear hK K
 refine wpAnyH_done (by kernel_rfl) ?_ _
 refine NoPanic.normal ?_
 go_wp2_with fail
 have hqk:=(H5.out.old HO.out.1 HO.out.2.1).trans HO.out.2.2.2.1
 obtain ⟨ku0,-,-,-,kv1,-,-,-,-⟩:=H5.out.reads
 have hlk:=look_none (w:=w5.drew) (z:=9) hqk (ops_none g (by omega))
 have hS0:w5.drew.cell? ⟨w.heap.size,0,none⟩=some (.int .i64 9)∧w5.drew.cell? ⟨mb,25,none⟩=some (.map (some q)):=⟨ku0,kv1⟩
 refine wp_region_noPanic ?_
 refine wp_region_held_drew (S:=fun w'=>w'.cell? ⟨w.heap.size,0,none⟩=some (.int .i64 9)∧w'.cell? ⟨mb,25,none⟩=some (.map (some q))) (by kernel_rfl) hS0 (fun hHeld=>?_)
 refine tk (i:=0) (n:=125) (v:=?_) ?_ ?_
 rotate_left 1
 ·intro wz hSw
  first | (go_simp;done) | (go_simp;with_reducible rfl)
 simp only [ls0,ls1]
 refine tk (i:=1) (n:=126) (v:=?_) ?_ ?_
 rotate_left 1
 ·intro wz hSw
  first | (go_simp;done) | (go_simp;with_reducible rfl)
 simp only [ls0,ls1]
 refine tk (i:=2) (n:=127) (v:=?_) ?_ ?_
 rotate_left 1
 ·intro wz hSw
  first | (go_simp;done) | (go_simp;with_reducible rfl)
 simp only [ls0,ls1]
 refine tk (i:=3) (n:=128) (v:=?_) ?_ ?_
 rotate_left 1
 ·intro wz hSw
  first | (go_simp;done) | (go_simp;with_reducible rfl)
 simp only [ls0,ls1]
 refine tk (i:=4) (n:=129) (v:=?_) ?_ ?_
 rotate_left 1
 ·intro wz hSw
  first | (go_simp;done) | (go_simp;with_reducible rfl)
 simp only [ls0,ls1]
 refine tk (i:=5) (n:=130) (v:=?_) ?_ ?_
 rotate_left 1
 ·intro wz hSw
  first | (go_simp;done) | (go_simp;with_reducible rfl)
 simp only [ls0,ls1]
 refine wpAnyH_ready (rs:=[6]) (by kernel_rfl) (by simp) ?_
 refine AllReadyH.cons rfl (fun K hK=>?_) AllReadyH.nil
 go_simp
 refine hK.out _ _ hS0 (fun hHeld=>?_)
 clear hK K
 refine tk (i:=7) (n:=124) (v:=?_) ?_ ?_
 rotate_left 1
 ·intro wz hSw
  first | (go_simp;done) | (go_simp;with_reducible rfl)
 simp only [ls0,ls1]
 refine tk (i:=8) (n:=132) (v:=?_) ?_ ?_
 rotate_left 1
 ·intro wz hSw
  first | (go_simp;done) | (go_simp;with_reducible rfl)
 simp only [ls0,ls1]
 refine tk (i:=9) (n:=133) (v:=?_) ?_ ?_
 rotate_left 1
 ·intro wz hSw
  first | (go_simp;done) | (go_simp;with_reducible rfl)
 simp only [ls0,ls1]
 refine tk (i:=10) (n:=5) (v:=?_) ?_ ?_
 rotate_left 1
 ·intro wz hSw
  first | (go_simp;done) | (go_simp;with_reducible rfl)
 simp only [ls0,ls1]
 refine tk (i:=11) (n:=6) (v:=?_) ?_ ?_
 rotate_left 1
 ·intro wz hSw
  first | (go_simp;done) | (go_simp;with_reducible rfl)
 simp only [ls0,ls1]
 refine wpAnyH_done (by kernel_rfl) ?_ _
 refine NoPanic.normal ?_
 go_wp2_with fail
 go_end0
 have HE:=H5.out.grow (Below.refl _ _).drew
 rw [← HZ.out] at HE
 exact ⟨rfl,sv5,pv,HE.mm,HE.mr⟩
set_option maxRecDepth 20000 in
set_option maxHeartbeats 4000000 in
theorem do_3 (m:Nat) (b:Int) (n:Nat) (h:MM w mb B l iv ov ins sp s sv pv) (hl:s.st.length≤1000) (hpc:s.pc≤1000000) (hm:m<8) (hn:s.st.length=n+1):Calls Tryd.prog 49 #[.pointer (some ⟨mb,0,none⟩),.agg #[.int .i64 3,.int .i64 (m:Int),.int .i64 b]] w (Does w mb B l iv ov ins sp s sv pv ⟨3,(m:Int),b⟩):=by
 have HM:Hid (DS w (w.alloc (.cells #[.int .i64 3,.int .i64 (m:Int),.int .i64 b] 35)) mb B l iv ov ins sp ⟨3,(m:Int),b⟩ s sv pv sv pv):=DS.start h ⟨3,(m:Int),b⟩
 have c23:=h.c_pc
 have lm:=h.lt
 obtain ⟨q,g,hov,hq,hg,hqm,hgm⟩:=h.ops
 subst hov
 have hmi:(m:Int)<8:=by omega
 have HO:Hid (MM w mb B l iv (.map (some q)) ins sp s sv pv∧q<mb∧g<mb∧w.heap[q]?=some (.map (opsEs g) 5)∧w.heap[g]?=some (.cells #[.func (Fn.func 87) #[] #[]] 151 (0,0))):=⟨h,hq,hg,hqm,hgm⟩
 clear h hqm hgm hq hg
 go_enter Tryd.func49,Tryd.ntmps49
 go_wp2_with (go_at_call 48;refine (over_other _ mb 3 _ _ (by first | decide | omega) (by first | decide | omega) (by first | decide | omega)).mono ?_;rintro r w3 ⟨rfl,hb3⟩;have H3:Hid (DS _ w3 _ _ _ _ _ _ _ _ _ _ _ _ _):=HM.out.grow hb3;obtain ⟨x0,x1,x2,y0,y1,yf,ym,yx,yn⟩:=H3.out.reads;clear hb3)
 have H4:Hid (DS w (w3.setCell ⟨mb,23,none⟩ (.int .i64 ((s.pc:Int)+1))) _ _ _ _ _ _ _ _ _ _ _ _ _):=H3.out.setA1
 generalize hw4:(w3.setCell ⟨mb,23,none⟩ (.int .i64 ((s.pc:Int)+1)))=w4 at *
 clear hw4
 obtain ⟨z0,z1,z2,z3,z4,zf,zm,zx,zn⟩:=H4.out.reads
 refine wp_region_noPanic ?_
 refine wp_region_held_drew (S:=fun w'=>w'.cell? ⟨w.heap.size,1,none⟩=some (.int .i64 (m:Int))) (by kernel_rfl) (show (w4.drew.cell? ⟨w.heap.size,1,none⟩=some (.int .i64 (m:Int))) from z1) (fun hHeld=>?_)
 refine tk (i:=0) (n:=50) (v:=?_) ?_ ?_
 rotate_left 1
 ·intro wz hSw
  first | (go_simp;done) | (go_simp;with_reducible rfl)
 simp only [ls0,ls1]
 refine tk (i:=1) (n:=51) (v:=?_) ?_ ?_
 rotate_left 1
 ·intro wz hSw
  first | (go_simp;done) | (go_simp;with_reducible rfl)
 simp only [ls0,ls1]
 refine tk (i:=2) (n:=52) (v:=?_) ?_ ?_
 rotate_left 1
 ·intro wz hSw
  first | (go_simp;done) | (go_simp;with_reducible rfl)
 simp only [ls0,ls1]
 refine tk (i:=3) (n:=53) (v:=?_) ?_ ?_
 rotate_left 1
 ·intro wz hSw
  first | (go_simp;done) | (go_simp;with_reducible rfl)
 simp only [ls0,ls1]
 refine tk (i:=5) (n:=55) (v:=?_) ?_ ?_
 rotate_left 1
 ·intro wz hSw
  first | (go_simp;done) | (go_simp;with_reducible rfl)
 simp only [ls0,ls1]
 refine tk (i:=6) (n:=56) (v:=?_) ?_ ?_
 rotate_left 1
 ·intro wz hSw
  first | (go_simp;done) | (go_simp;with_reducible rfl)
 simp only [ls0,ls1]
 refine wpAnyH_ready (rs:=[4]) (by kernel_rfl) (by simp) ?_
 refine AllReadyH.cons rfl (fun K hK=>?_) AllReadyH.nil
 go_simp
 have H4d:Hid (DS w w4.drew _ _ _ _ _ _ _ _ _ _ _ _ _):=H4.out.grow (Below.refl _ _).drew
 have htop:({ pc:=s.pc+1,st:=s.st,vs:=s.vs,cs:=s.cs,ps:=s.ps }:MS).top=s.top:=rfl
 go_wp2_with (go_at_call 85;refine (pop_any _ mb B l iv _ ins sp _ _ _ n H4d.out.mm (by dsimp only;first | omega | (simp only [List.length_dropLast];omega)) (by omega)).mono ?_;rw [htop];rintro r w5 ⟨rfl,sv5,hm5,hr5⟩;have H5:Hid (DS w w5 _ _ _ _ _ _ _ _ _ _ _ _ _):=H4d.out.step hm5 hr5;obtain ⟨u05,u15,u25,v05,v15,vf5,vm5,vx5,vn5⟩:=H5.out.reads;clear hm5 hr5)
 have c5:=H5.out.c_vs hm
 refine hK.out _ _ u15 (fun hHeld=>?_)
 clear hK K
 refine tk (i:=7) (n:=57) (v:=?_) ?_ ?_
 rotate_left 1
 ·intro wz hSw
  first | (go_simp;done) | (go_simp;with_reducible rfl)
 simp only [ls0,ls1]
 refine wpAnyH_ready (rs:=[8]) (by kernel_rfl) (by simp) ?_
 refine AllReadyH.cons rfl (fun K hK=>?_) AllReadyH.nil
 go_simp
 refine hK.out _ _ (show (w5.setCell ⟨mb,1+m,none⟩ (.int .i64 s.top)).cell? ⟨w.heap.size,1,none⟩=_ from (H5.out.setV hm s.top).reads.2.1) (fun hHeld=>?_)
 clear hK K
 refine wpAnyH_done (by kernel_rfl) ?_ _
 refine NoPanic.normal ?_
 have H6:Hid (DS w (w5.setCell ⟨mb,1+m,none⟩ (.int .i64 s.top)) _ _ _ _ _ _ _ _ _ _ _ _ _):=H5.out.setV hm s.top
 generalize hw6:(w5.setCell ⟨mb,1+m,none⟩ (.int .i64 s.top))=w6 at *
 clear hw6
 go_wp2_with fail
 have hqk:=(H6.out.old HO.out.1 HO.out.2.1).trans HO.out.2.2.2.1
 obtain ⟨ku0,-,-,-,kv1,-,-,-,-⟩:=H6.out.reads
 have hlk:=look_none (w:=w6.drew) (z:=3) hqk (ops_none g (by omega))
 have hS0:w6.drew.cell? ⟨w.heap.size,0,none⟩=some (.int .i64 3)∧w6.drew.cell? ⟨mb,25,none⟩=some (.map (some q)):=⟨ku0,kv1⟩
 refine wp_region_noPanic ?_
 refine wp_region_held_drew (S:=fun w'=>w'.cell? ⟨w.heap.size,0,none⟩=some (.int .i64 3)∧w'.cell? ⟨mb,25,none⟩=some (.map (some q))) (by kernel_rfl) hS0 (fun hHeld=>?_)
 refine tk (i:=0) (n:=125) (v:=?_) ?_ ?_
 rotate_left 1
 ·intro wz hSw
  first | (go_simp;done) | (go_simp;with_reducible rfl)
 simp only [ls0,ls1]
 refine tk (i:=1) (n:=126) (v:=?_) ?_ ?_
 rotate_left 1
 ·intro wz hSw
  first | (go_simp;done) | (go_simp;with_reducible rfl)
 simp only [ls0,ls1]
 refine tk (i:=2) (n:=127) (v:=?_) ?_ ?_
 rotate_left 1
 ·intro wz hSw
  first | (go_simp;done) | (go_simp;with_reducible rfl)
 simp only [ls0,ls1]
 refine tk (i:=3) (n:=128) (v:=?_) ?_ ?_
 rotate_left 1
 ·intro wz hSw
  first | (go_simp;done) | (go_simp;with_reducible rfl)
 simp only [ls0,ls1]
 refine tk (i:=4) (n:=129) (v:=?_) ?_ ?_
 rotate_left 1
 ·intro wz hSw
  first | (go_simp;done) | (go_simp;with_reducible rfl)
 simp only [ls0,ls1]
 refine tk (i:=5) (n:=130) (v:=?_) ?_ ?_
 rotate_left 1
 ·intro wz hSw
  first | (go_simp;done) | (go_simp;with_reducible rfl)
 simp only [ls0,ls1]
 refine wpAnyH_ready (rs:=[6]) (by kernel_rfl) (by simp) ?_
 refine AllReadyH.cons rfl (fun K hK=>?_) AllReadyH.nil
 go_simp
 refine hK.out _ _ hS0 (fun hHeld=>?_)
 clear hK K
 refine tk (i:=7) (n:=124) (v:=?_) ?_ ?_
 rotate_left 1
 ·intro wz hSw
  first | (go_simp;done) | (go_simp;with_reducible rfl)
 simp only [ls0,ls1]
 refine tk (i:=8) (n:=132) (v:=?_) ?_ ?_
 rotate_left 1
 ·intro wz hSw
  first | (go_simp;done) | (go_simp;with_reducible rfl)
 simp only [ls0,ls1]
 refine tk (i:=9) (n:=133) (v:=?_) ?_ ?_
 rotate_left 1
 ·intro wz hSw
  first | (go_simp;done) | (go_simp;with_reducible rfl)
 simp only [ls0,ls1]
 refine tk (i:=10) (n:=5) (v:=?_) ?_ ?_
 rotate_left 1
 ·intro wz hSw
  first | (go_simp;done) | (go_simp;with_reducible rfl)
 simp only [ls0,ls1]
 refine tk (i:=11) (n:=6) (v:=?_) ?_ ?_
 rotate_left 1
 ·intro wz hSw
  first | (go_simp;done) | (go_simp;with_reducible rfl)
 simp only [ls0,ls1]
 refine wpAnyH_done (by kernel_rfl) ?_ _
 refine NoPanic.normal ?_
 go_wp2_with fail
 go_end0
 exact ⟨rfl,sv5,pv,(H6.out.grow (Below.refl _ _).drew).mm,(H6.out.grow (Below.refl _ _).drew).mr⟩
end
section
variable (w:World) (mb B:Nat) (l:List In) (iv ov:Value) (ins:List Int) (sp:Int) (s:MS) (sv pv:Value)
set_option maxRecDepth 20000 in
set_option maxHeartbeats 4000000 in
theorem do_13 (m:Nat) (c:Int) (h:MM w mb B l iv ov ins sp s sv pv) (_:s.st.length≤1000) (hpc:s.pc≤1000000) (hm:m<8):Calls Tryd.prog 49 #[.pointer (some ⟨mb,0,none⟩),.agg #[.int .i64 13,.int .i64 (m:Int),.int .i64 c]] w (Does w mb B l iv ov ins sp s sv pv ⟨13,(m:Int),c⟩):=by
 have HM:Hid (DS w (w.alloc (.cells #[.int .i64 13,.int .i64 (m:Int),.int .i64 c] 35)) mb B l iv ov ins sp ⟨13,(m:Int),c⟩ s sv pv sv pv):=DS.start h ⟨13,(m:Int),c⟩
 have c23:=h.c_pc
 have lm:=h.lt
 obtain ⟨q,g,hov,hq,hg,hqm,hgm⟩:=h.ops
 subst hov
 have hmi:(m:Int)<8:=by omega
 have HO:Hid (MM w mb B l iv (.map (some q)) ins sp s sv pv∧q<mb∧g<mb∧w.heap[q]?=some (.map (opsEs g) 5)∧w.heap[g]?=some (.cells #[.func (Fn.func 87) #[] #[]] 151 (0,0))):=⟨h,hq,hg,hqm,hgm⟩
 clear h hqm hgm hq hg
 go_enter Tryd.func49,Tryd.ntmps49
 go_wp2_with (go_at_call 48;refine (over_other _ mb 13 _ _ (by first | decide | omega) (by first | decide | omega) (by first | decide | omega)).mono ?_;rintro r w3 ⟨rfl,hb3⟩;have H3:Hid (DS _ w3 _ _ _ _ _ _ _ _ _ _ _ _ _):=HM.out.grow hb3;obtain ⟨x0,x1,x2,y0,y1,yf,ym,yx,yn⟩:=H3.out.reads;clear hb3)
 have H4:Hid (DS w (w3.setCell ⟨mb,23,none⟩ (.int .i64 ((s.pc:Int)+1))) _ _ _ _ _ _ _ _ _ _ _ _ _):=H3.out.setA1
 generalize hw4:(w3.setCell ⟨mb,23,none⟩ (.int .i64 ((s.pc:Int)+1)))=w4 at *
 clear hw4
 obtain ⟨z0,z1,z2,z3,z4,zf,zm,zx,zn⟩:=H4.out.reads
 have c5:=H4.out.c_cs hm
 refine wp_region_noPanic ?_
 refine wp_region_held_drew (S:=fun w'=>w'.cell? ⟨w.heap.size,1,none⟩=some (.int .i64 (m:Int))∧w'.cell? ⟨w.heap.size,2,none⟩=some (.int .i64 c)) (by kernel_rfl) (show (w4.drew.cell? ⟨w.heap.size,1,none⟩=some (.int .i64 (m:Int))∧w4.drew.cell? ⟨w.heap.size,2,none⟩=some (.int .i64 c)) from ⟨z1,z2⟩) (fun hHeld=>?_)
 refine tk (i:=0) (n:=91) (v:=?_) ?_ ?_
 rotate_left 1
 ·intro wz hSw
  first | (go_simp;done) | (go_simp;with_reducible rfl)
 simp only [ls0,ls1]
 refine tk (i:=1) (n:=92) (v:=?_) ?_ ?_
 rotate_left 1
 ·intro wz hSw
  first | (go_simp;done) | (go_simp;with_reducible rfl)
 simp only [ls0,ls1]
 refine tk (i:=2) (n:=93) (v:=?_) ?_ ?_
 rotate_left 1
 ·intro wz hSw
  first | (go_simp;done) | (go_simp;with_reducible rfl)
 simp only [ls0,ls1]
 refine tk (i:=3) (n:=94) (v:=?_) ?_ ?_
 rotate_left 1
 ·intro wz hSw
  first | (go_simp;done) | (go_simp;with_reducible rfl)
 simp only [ls0,ls1]
 refine tk (i:=4) (n:=95) (v:=?_) ?_ ?_
 rotate_left 1
 ·intro wz hSw
  first | (go_simp;done) | (go_simp;with_reducible rfl)
 simp only [ls0,ls1]
 refine tk (i:=5) (n:=96) (v:=?_) ?_ ?_
 rotate_left 1
 ·intro wz hSw
  first | (go_simp;done) | (go_simp;with_reducible rfl)
 simp only [ls0,ls1]
 refine tk (i:=6) (n:=97) (v:=?_) ?_ ?_
 rotate_left 1
 ·intro wz hSw
  first | (go_simp;done) | (go_simp;with_reducible rfl)
 simp only [ls0,ls1]
 refine tk (i:=7) (n:=98) (v:=?_) ?_ ?_
 rotate_left 1
 ·intro wz hSw
  first | (go_simp;done) | (go_simp;with_reducible rfl)
 simp only [ls0,ls1]
 have H6:Hid (DS w (w4.setCell ⟨mb,13+m,none⟩ (.int .i64 c)).drew _ _ _ _ _ _ _ _ _ _ _ _ _):=(H4.out.setC hm c).grow (Below.refl _ _).drew
 obtain ⟨-,k1,k2,-⟩:=H6.out.reads
 refine wpAnyH_ready (rs:=[8]) (by kernel_rfl) (by simp) ?_
 refine AllReadyH.cons rfl (fun K hK=>?_) AllReadyH.nil
 go_simp
 refine hK.out _ _ ⟨k1,k2⟩ (fun hHeld=>?_)
 clear hK K
 refine wpAnyH_done (by kernel_rfl) ?_ _
 refine NoPanic.normal ?_
 clear k1 k2
 generalize hw6:(w4.setCell ⟨mb,13+m,none⟩ (.int .i64 c)).drew=w6 at *
 clear hw6
 go_wp2_with fail
 have hqk:=(H6.out.old HO.out.1 HO.out.2.1).trans HO.out.2.2.2.1
 obtain ⟨ku0,-,-,-,kv1,-,-,-,-⟩:=H6.out.reads
 have hlk:=look_none (w:=w6.drew) (z:=13) hqk (ops_none g (by omega))
 have hS0:w6.drew.cell? ⟨w.heap.size,0,none⟩=some (.int .i64 13)∧w6.drew.cell? ⟨mb,25,none⟩=some (.map (some q)):=⟨ku0,kv1⟩
 refine wp_region_noPanic ?_
 refine wp_region_held_drew (S:=fun w'=>w'.cell? ⟨w.heap.size,0,none⟩=some (.int .i64 13)∧w'.cell? ⟨mb,25,none⟩=some (.map (some q))) (by kernel_rfl) hS0 (fun hHeld=>?_)
 refine tk (i:=0) (n:=125) (v:=?_) ?_ ?_
 rotate_left 1
 ·intro wz hSw
  first | (go_simp;done) | (go_simp;with_reducible rfl)
 simp only [ls0,ls1]
 refine tk (i:=1) (n:=126) (v:=?_) ?_ ?_
 rotate_left 1
 ·intro wz hSw
  first | (go_simp;done) | (go_simp;with_reducible rfl)
 simp only [ls0,ls1]
 refine tk (i:=2) (n:=127) (v:=?_) ?_ ?_
 rotate_left 1
 ·intro wz hSw
  first | (go_simp;done) | (go_simp;with_reducible rfl)
 simp only [ls0,ls1]
 refine tk (i:=3) (n:=128) (v:=?_) ?_ ?_
 rotate_left 1
 ·intro wz hSw
  first | (go_simp;done) | (go_simp;with_reducible rfl)
 simp only [ls0,ls1]
 refine tk (i:=4) (n:=129) (v:=?_) ?_ ?_
 rotate_left 1
 ·intro wz hSw
  first | (go_simp;done) | (go_simp;with_reducible rfl)
 simp only [ls0,ls1]
 refine tk (i:=5) (n:=130) (v:=?_) ?_ ?_
 rotate_left 1
 ·intro wz hSw
  first | (go_simp;done) | (go_simp;with_reducible rfl)
 simp only [ls0,ls1]
 refine wpAnyH_ready (rs:=[6]) (by kernel_rfl) (by simp) ?_
 refine AllReadyH.cons rfl (fun K hK=>?_) AllReadyH.nil
 go_simp
 refine hK.out _ _ hS0 (fun hHeld=>?_)
 clear hK K
 refine tk (i:=7) (n:=124) (v:=?_) ?_ ?_
 rotate_left 1
 ·intro wz hSw
  first | (go_simp;done) | (go_simp;with_reducible rfl)
 simp only [ls0,ls1]
 refine tk (i:=8) (n:=132) (v:=?_) ?_ ?_
 rotate_left 1
 ·intro wz hSw
  first | (go_simp;done) | (go_simp;with_reducible rfl)
 simp only [ls0,ls1]
 refine tk (i:=9) (n:=133) (v:=?_) ?_ ?_
 rotate_left 1
 ·intro wz hSw
  first | (go_simp;done) | (go_simp;with_reducible rfl)
 simp only [ls0,ls1]
 refine tk (i:=10) (n:=5) (v:=?_) ?_ ?_
 rotate_left 1
 ·intro wz hSw
  first | (go_simp;done) | (go_simp;with_reducible rfl)
 simp only [ls0,ls1]
 refine tk (i:=11) (n:=6) (v:=?_) ?_ ?_
 rotate_left 1
 ·intro wz hSw
  first | (go_simp;done) | (go_simp;with_reducible rfl)
 simp only [ls0,ls1]
 refine wpAnyH_done (by kernel_rfl) ?_ _
 refine NoPanic.normal ?_
 go_wp2_with fail
 go_end0
 exact ⟨rfl,sv,pv,(H6.out.grow (Below.refl _ _).drew).mm,(H6.out.grow (Below.refl _ _).drew).mr⟩
set_option maxRecDepth 20000 in
set_option maxHeartbeats 4000000 in
theorem do_15 (m:Nat) (b:Int) (h:MM w mb B l iv ov ins sp s sv pv) (_:s.st.length≤1000) (hpc:s.pc≤1000000) (hm:m<8):Calls Tryd.prog 49 #[.pointer (some ⟨mb,0,none⟩),.agg #[.int .i64 15,.int .i64 (m:Int),.int .i64 b]] w (Does w mb B l iv ov ins sp s sv pv ⟨15,(m:Int),b⟩):=by
 have HM:Hid (DS w (w.alloc (.cells #[.int .i64 15,.int .i64 (m:Int),.int .i64 b] 35)) mb B l iv ov ins sp ⟨15,(m:Int),b⟩ s sv pv sv pv):=DS.start h ⟨15,(m:Int),b⟩
 have c23:=h.c_pc
 have lm:=h.lt
 obtain ⟨q,g,hov,hq,hg,hqm,hgm⟩:=h.ops
 subst hov
 have hmi:(m:Int)<8:=by omega
 have HO:Hid (MM w mb B l iv (.map (some q)) ins sp s sv pv∧q<mb∧g<mb∧w.heap[q]?=some (.map (opsEs g) 5)∧w.heap[g]?=some (.cells #[.func (Fn.func 87) #[] #[]] 151 (0,0))):=⟨h,hq,hg,hqm,hgm⟩
 clear h hqm hgm hq hg
 go_enter Tryd.func49,Tryd.ntmps49
 go_wp2_with (go_at_call 48;refine (over_other _ mb 15 _ _ (by first | decide | omega) (by first | decide | omega) (by first | decide | omega)).mono ?_;rintro r w3 ⟨rfl,hb3⟩;have H3:Hid (DS _ w3 _ _ _ _ _ _ _ _ _ _ _ _ _):=HM.out.grow hb3;obtain ⟨x0,x1,x2,y0,y1,yf,ym,yx,yn⟩:=H3.out.reads;clear hb3)
 have H4:Hid (DS w (w3.setCell ⟨mb,23,none⟩ (.int .i64 ((s.pc:Int)+1))) _ _ _ _ _ _ _ _ _ _ _ _ _):=H3.out.setA1
 generalize hw4:(w3.setCell ⟨mb,23,none⟩ (.int .i64 ((s.pc:Int)+1)))=w4 at *
 clear hw4
 obtain ⟨z0,z1,z2,z3,z4,zf,zm,zx,zn⟩:=H4.out.reads
 have c5:=H4.out.c_cs hm
 refine wp_region_noPanic ?_
 refine wp_region_held_drew (S:=fun w'=>w'.cell? ⟨w.heap.size,1,none⟩=some (.int .i64 (m:Int))) (by kernel_rfl) (show (w4.drew.cell? ⟨w.heap.size,1,none⟩=some (.int .i64 (m:Int))) from z1) (fun hHeld=>?_)
 refine tk (i:=0) (n:=118) (v:=?_) ?_ ?_
 rotate_left 1
 ·intro wz hSw
  first | (go_simp;done) | (go_simp;with_reducible rfl)
 simp only [ls0,ls1]
 refine tk (i:=1) (n:=119) (v:=?_) ?_ ?_
 rotate_left 1
 ·intro wz hSw
  first | (go_simp;done) | (go_simp;with_reducible rfl)
 simp only [ls0,ls1]
 refine tk (i:=2) (n:=120) (v:=?_) ?_ ?_
 rotate_left 1
 ·intro wz hSw
  first | (go_simp;done) | (go_simp;with_reducible rfl)
 simp only [ls0,ls1]
 refine tk (i:=3) (n:=121) (v:=?_) ?_ ?_
 rotate_left 1
 ·intro wz hSw
  first | (go_simp;done) | (go_simp;with_reducible rfl)
 simp only [ls0,ls1]
 refine tk (i:=4) (n:=122) (v:=?_) ?_ ?_
 rotate_left 1
 ·intro wz hSw
  first | (go_simp;done) | (go_simp;with_reducible rfl)
 simp only [ls0,ls1]
 refine tk (i:=5) (n:=123) (v:=?_) ?_ ?_
 rotate_left 1
 ·intro wz hSw
  first | (go_simp;done) | (go_simp;with_reducible rfl)
 simp only [ls0,ls1]
 have H6:Hid (DS w (w4.setCell ⟨mb,13+m,none⟩ (.int .i64 0)).drew _ _ _ _ _ _ _ _ _ _ _ _ _):=(H4.out.setC hm 0).grow (Below.refl _ _).drew
 obtain ⟨-,k1,k2,-⟩:=H6.out.reads
 refine wpAnyH_ready (rs:=[6]) (by kernel_rfl) (by simp) ?_
 refine AllReadyH.cons rfl (fun K hK=>?_) AllReadyH.nil
 go_simp
 refine hK.out _ _ k1 (fun hHeld=>?_)
 clear hK K
 refine wpAnyH_done (by kernel_rfl) ?_ _
 refine NoPanic.normal ?_
 clear k1
 generalize hw6:(w4.setCell ⟨mb,13+m,none⟩ (.int .i64 0)).drew=w6 at *
 clear hw6
 go_wp2_with fail
 have hqk:=(H6.out.old HO.out.1 HO.out.2.1).trans HO.out.2.2.2.1
 obtain ⟨ku0,-,-,-,kv1,-,-,-,-⟩:=H6.out.reads
 have hlk:=look_none (w:=w6.drew) (z:=15) hqk (ops_none g (by omega))
 have hS0:w6.drew.cell? ⟨w.heap.size,0,none⟩=some (.int .i64 15)∧w6.drew.cell? ⟨mb,25,none⟩=some (.map (some q)):=⟨ku0,kv1⟩
 refine wp_region_noPanic ?_
 refine wp_region_held_drew (S:=fun w'=>w'.cell? ⟨w.heap.size,0,none⟩=some (.int .i64 15)∧w'.cell? ⟨mb,25,none⟩=some (.map (some q))) (by kernel_rfl) hS0 (fun hHeld=>?_)
 refine tk (i:=0) (n:=125) (v:=?_) ?_ ?_
 rotate_left 1
 ·intro wz hSw
  first | (go_simp;done) | (go_simp;with_reducible rfl)
 simp only [ls0,ls1]
 refine tk (i:=1) (n:=126) (v:=?_) ?_ ?_
 rotate_left 1
 ·intro wz hSw
  first | (go_simp;done) | (go_simp;with_reducible rfl)
 simp only [ls0,ls1]
 refine tk (i:=2) (n:=127) (v:=?_) ?_ ?_
 rotate_left 1
 ·intro wz hSw
  first | (go_simp;done) | (go_simp;with_reducible rfl)
 simp only [ls0,ls1]
 refine tk (i:=3) (n:=128) (v:=?_) ?_ ?_
 rotate_left 1
 ·intro wz hSw
  first | (go_simp;done) | (go_simp;with_reducible rfl)
 simp only [ls0,ls1]
 refine tk (i:=4) (n:=129) (v:=?_) ?_ ?_
 rotate_left 1
 ·intro wz hSw
  first | (go_simp;done) | (go_simp;with_reducible rfl)
 simp only [ls0,ls1]
 refine tk (i:=5) (n:=130) (v:=?_) ?_ ?_
 rotate_left 1
 ·intro wz hSw
  first | (go_simp;done) | (go_simp;with_reducible rfl)
 simp only [ls0,ls1]
 refine wpAnyH_ready (rs:=[6]) (by kernel_rfl) (by simp) ?_
 refine AllReadyH.cons rfl (fun K hK=>?_) AllReadyH.nil
 go_simp
 refine hK.out _ _ hS0 (fun hHeld=>?_)
 clear hK K
 refine tk (i:=7) (n:=124) (v:=?_) ?_ ?_
 rotate_left 1
 ·intro wz hSw
  first | (go_simp;done) | (go_simp;with_reducible rfl)
 simp only [ls0,ls1]
 refine tk (i:=8) (n:=132) (v:=?_) ?_ ?_
 rotate_left 1
 ·intro wz hSw
  first | (go_simp;done) | (go_simp;with_reducible rfl)
 simp only [ls0,ls1]
 refine tk (i:=9) (n:=133) (v:=?_) ?_ ?_
 rotate_left 1
 ·intro wz hSw
  first | (go_simp;done) | (go_simp;with_reducible rfl)
 simp only [ls0,ls1]
 refine tk (i:=10) (n:=5) (v:=?_) ?_ ?_
 rotate_left 1
 ·intro wz hSw
  first | (go_simp;done) | (go_simp;with_reducible rfl)
 simp only [ls0,ls1]
 refine tk (i:=11) (n:=6) (v:=?_) ?_ ?_
 rotate_left 1
 ·intro wz hSw
  first | (go_simp;done) | (go_simp;with_reducible rfl)
 simp only [ls0,ls1]
 refine wpAnyH_done (by kernel_rfl) ?_ _
 refine NoPanic.normal ?_
 go_wp2_with fail
 go_end0
 exact ⟨rfl,sv,pv,(H6.out.grow (Below.refl _ _).drew).mm,(H6.out.grow (Below.refl _ _).drew).mr⟩
end
end Go.Proofs.YtnkgbkkakokciacDoor
