import Derived.Test.YtnkgbkkakokciacDoorGMDoA
namespace Go.Proofs.YtnkgbkkakokciacDoor
open Go.ChangeShapes Go.WideShapes Go.ChangeAt Go.RowKit
section
variable (w:World) (mb B:Nat) (l:List In) (iv ov:Value) (ins:List Int) (sp:Int) (s:MS) (sv pv:Value)
set_option maxRecDepth 20000 in
set_option maxHeartbeats 4000000 in
theorem do_10 (m:Nat) (b:Int) (n:Nat) (h:MM w mb B l iv ov ins sp s sv pv) (hl:s.st.length≤1000) (hpc:s.pc≤1000000) (hn:s.st.length=n+1) (hps:s.ps.length≤4000000):Calls Tryd.prog 49 #[.pointer (some ⟨mb,0,none⟩),.agg #[.int .i64 10,.int .i64 (m:Int),.int .i64 b]] w (Does w mb B l iv ov ins sp s sv pv ⟨10,(m:Int),b⟩):=by
 have HM:Hid (DS w (w.alloc (.cells #[.int .i64 10,.int .i64 (m:Int),.int .i64 b] 35)) mb B l iv ov ins sp ⟨10,(m:Int),b⟩ s sv pv sv pv):=DS.start h ⟨10,(m:Int),b⟩
 have c23:=h.c_pc
 have lm:=h.lt
 obtain ⟨q,g,hov,hq,hg,hqm,hgm⟩:=h.ops
 subst hov
 have HO:Hid (MM w mb B l iv (.map (some q)) ins sp s sv pv∧q<mb∧g<mb∧w.heap[q]?=some (.map (opsEs g) 5)∧w.heap[g]?=some (.cells #[.func (Fn.func 87) #[] #[]] 151 (0,0))):=⟨h,hq,hg,hqm,hgm⟩
 clear h hqm hgm hq hg
 go_enter Tryd.func49,Tryd.ntmps49
 go_wp2_with (go_at_call 48;refine (over_other _ mb 10 _ _ (by first | decide | omega) (by first | decide | omega) (by first | decide | omega)).mono ?_;rintro r w3 ⟨rfl,hb3⟩;have H3:Hid (DS _ w3 _ _ _ _ _ _ _ _ _ _ _ _ _):=HM.out.grow hb3;obtain ⟨x0,x1,x2,y0,y1,yf,ym,yx,yn⟩:=H3.out.reads;clear hb3)
 have H4:Hid (DS w (w3.setCell ⟨mb,23,none⟩ (.int .i64 ((s.pc:Int)+1))) _ _ _ _ _ _ _ _ _ _ _ _ _):=H3.out.setA1
 generalize hw4:(w3.setCell ⟨mb,23,none⟩ (.int .i64 ((s.pc:Int)+1)))=w4 at *
 clear hw4
 obtain ⟨z0,z1,z2,z3,z4,zf,zm,zx,zn⟩:=H4.out.reads
 have c22:=H4.out.mm.c_pv
 refine wp_region_noPanic ?_
 refine wp_region_held_drew (S:=fun w'=>w'.cell? ⟨w.heap.size,1,none⟩=some (.int .i64 (m:Int))) (by kernel_rfl) (show (w4.drew.cell? ⟨w.heap.size,1,none⟩=some (.int .i64 (m:Int))) from z1) (fun hHeld=>?_)
 refine tk (i:=0) (n:=71) (v:=?_) ?_ ?_
 rotate_left 1
 ·intro wz hSw
  first | (go_simp;done) | (go_simp;with_reducible rfl)
 simp only [ls0,ls1]
 refine tk (i:=1) (n:=72) (v:=?_) ?_ ?_
 rotate_left 1
 ·intro wz hSw
  first | (go_simp;done) | (go_simp;with_reducible rfl)
 simp only [ls0,ls1]
 refine tk (i:=2) (n:=73) (v:=?_) ?_ ?_
 rotate_left 1
 ·intro wz hSw
  first | (go_simp;done) | (go_simp;with_reducible rfl)
 simp only [ls0,ls1]
 refine tk (i:=3) (n:=74) (v:=?_) ?_ ?_
 rotate_left 1
 ·intro wz hSw
  first | (go_simp;done) | (go_simp;with_reducible rfl)
 simp only [ls0,ls1]
 refine tk (i:=5) (n:=76) (v:=?_) ?_ ?_
 rotate_left 1
 ·intro wz hSw
  first | (go_simp;done) | (go_simp;with_reducible rfl)
 simp only [ls0,ls1]
 refine tk (i:=6) (n:=77) (v:=?_) ?_ ?_
 rotate_left 1
 ·intro wz hSw
  first | (go_simp;done) | (go_simp;with_reducible rfl)
 simp only [ls0,ls1]
 refine tk (i:=7) (n:=78) (v:=?_) ?_ ?_
 rotate_left 1
 ·intro wz hSw
  first | (go_simp;done) | (go_simp;with_reducible rfl)
 simp only [ls0,ls1]
 have htop:({ pc:=s.pc+1,st:=s.st,vs:=s.vs,cs:=s.cs,ps:=s.ps }:MS).top=s.top:=rfl
 have H4d:Hid (DS w w4.drew _ _ _ _ _ _ _ _ _ _ _ _ _):=H4.out.grow (Below.refl _ _).drew
 refine wpAnyH_ready (rs:=[4,8]) (by kernel_rfl) (by simp) ?_
 refine AllReadyH.cons rfl (fun K hK=>?_) (AllReadyH.cons rfl (fun K hK=>?_) AllReadyH.nil)
 ·go_simp
  refine hK.out _ _ z1 (fun hHeld=>?_)
  clear hK K
  refine wpAnyH_ready (rs:=[8]) (by kernel_rfl) (by simp) ?_
  refine AllReadyH.cons rfl (fun K hK=>?_) AllReadyH.nil
  go_simp
  go_wp2_with (go_at_call 85;refine (pop_any _ mb B l iv _ ins sp _ _ _ n H4d.out.mm (by dsimp only;first | omega | (simp only [List.length_dropLast];omega)) (by omega)).mono ?_;rw [htop];rintro r w5 ⟨rfl,sv5,hm5,hr5⟩;have H5:Hid (DS w w5 _ _ _ _ _ _ _ _ _ _ _ _ _):=H4d.out.step hm5 hr5;obtain ⟨u05,u15,u25,v05,v15,vf5,vm5,vx5,vn5⟩:=H5.out.reads;clear hm5 hr5)
  have c5:=H5.out.mm.c_pv
  refine hK.out _ _ u15 (fun hHeld=>?_)
  clear hK K
  refine tk (i:=9) (n:=80) (v:=?_) ?_ ?_
  rotate_left 1
  ·intro wz hSw
   first | (go_simp;done) | (go_simp;with_reducible rfl)
  simp only [ls0,ls1]
  obtain ⟨ad6,c6,w6,hrun,hds,d0,d1,d2,d3⟩:=H5.out.put (m:Int) s.top (by dsimp only;omega)
  dsimp only at hrun hds
  have HD:Hid (DS w (w6.setCell ⟨mb,22,none⟩ (.slice ad6 (s.ps.length+1) c6)) _ _ _ _ _ _ _ _ _ _ _ _ _):=hds
  clear hds
  refine wpAnyH_ready (rs:=[10]) (by kernel_rfl) (by simp) ?_
  refine AllReadyH.cons rfl (fun K hK=>?_) AllReadyH.nil
  go_simp
  refine hK.out _ _ (show (w5.alloc (.cells #[.int .i64 (m:Int),.int .i64 s.top] 43)).cell? ⟨w.heap.size,1,none⟩=some (.int .i64 (m:Int)) from below_cell (below_new _ _) u15) (fun hHeld=>?_)
  clear hK K
  refine wpAnyH_ready (rs:=[11]) (by kernel_rfl) (by simp) ?_
  refine AllReadyH.cons rfl (fun K hK=>?_) AllReadyH.nil
  refine region_append rfl (.tmp 75) (.tmp 81) 25 rfl rfl rfl hrun ?_
  refine hK.out _ _ d3 (fun hHeld=>?_)
  clear hK K
  refine tk (i:=12) (n:=83) (v:=?_) ?_ ?_
  rotate_left 1
  ·intro wz hSw
   first | (go_simp;done) | (go_simp;with_reducible rfl)
  simp only [ls0,ls1]
  refine tk (i:=13) (n:=84) (v:=?_) ?_ ?_
  rotate_left 1
  ·intro wz hSw
   first | (go_simp;done) | (go_simp;with_reducible rfl)
  simp only [ls0,ls1]
  refine wpAnyH_ready (rs:=[14]) (by kernel_rfl) (by simp) ?_
  refine AllReadyH.cons rfl (fun K hK=>?_) AllReadyH.nil
  go_simp
  obtain ⟨-,k1,-⟩:=HD.out.reads
  refine hK.out _ _ k1 (fun hHeld=>?_)
  clear hK K
  refine wpAnyH_done (by kernel_rfl) ?_ _
  refine NoPanic.normal ?_
  clear k1
  generalize hw7:(w6.setCell ⟨mb,22,none⟩ (.slice ad6 (s.ps.length+1) c6))=w7 at *
  clear hw7
  go_wp2_with fail
  have hqk:=(HD.out.old HO.out.1 HO.out.2.1).trans HO.out.2.2.2.1
  obtain ⟨ku0,-,-,-,kv1,-,-,-,-⟩:=HD.out.reads
  have hlk:=look_none (w:=w7.drew) (z:=10) hqk (ops_none g (by omega))
  have hS0:w7.drew.cell? ⟨w.heap.size,0,none⟩=some (.int .i64 10)∧w7.drew.cell? ⟨mb,25,none⟩=some (.map (some q)):=⟨ku0,kv1⟩
  refine wp_region_noPanic ?_
  refine wp_region_held_drew (S:=fun w'=>w'.cell? ⟨w.heap.size,0,none⟩=some (.int .i64 10)∧w'.cell? ⟨mb,25,none⟩=some (.map (some q))) (by kernel_rfl) hS0 (fun hHeld=>?_)
  refine tk (i:=0) (n:=125) (v:=?_) ?_ ?_
  rotate_left 1
  ·intro wz hSw
   first | (go_simp;done) | (go_simp;with_reducible rfl)
  simp only [ls0,ls1]
  refine tk (i:=1) (n:=126) (v:=?_) ?_ ?_
  rotate_left 1
  ·intro wz hSw
   first | (go_simp;done) | (go_simp;with_reducible rfl)
  simp only [ls0,ls1]
  refine tk (i:=2) (n:=127) (v:=?_) ?_ ?_
  rotate_left 1
  ·intro wz hSw
   first | (go_simp;done) | (go_simp;with_reducible rfl)
  simp only [ls0,ls1]
  refine tk (i:=3) (n:=128) (v:=?_) ?_ ?_
  rotate_left 1
  ·intro wz hSw
   first | (go_simp;done) | (go_simp;with_reducible rfl)
  simp only [ls0,ls1]
  refine tk (i:=4) (n:=129) (v:=?_) ?_ ?_
  rotate_left 1
  ·intro wz hSw
   first | (go_simp;done) | (go_simp;with_reducible rfl)
  simp only [ls0,ls1]
  refine tk (i:=5) (n:=130) (v:=?_) ?_ ?_
  rotate_left 1
  ·intro wz hSw
   first | (go_simp;done) | (go_simp;with_reducible rfl)
  simp only [ls0,ls1]
  refine wpAnyH_ready (rs:=[6]) (by kernel_rfl) (by simp) ?_
  refine AllReadyH.cons rfl (fun K hK=>?_) AllReadyH.nil
  go_simp
  refine hK.out _ _ hS0 (fun hHeld=>?_)
  clear hK K
  refine tk (i:=7) (n:=124) (v:=?_) ?_ ?_
  rotate_left 1
  ·intro wz hSw
   first | (go_simp;done) | (go_simp;with_reducible rfl)
  simp only [ls0,ls1]
  refine tk (i:=8) (n:=132) (v:=?_) ?_ ?_
  rotate_left 1
  ·intro wz hSw
   first | (go_simp;done) | (go_simp;with_reducible rfl)
  simp only [ls0,ls1]
  refine tk (i:=9) (n:=133) (v:=?_) ?_ ?_
  rotate_left 1
  ·intro wz hSw
   first | (go_simp;done) | (go_simp;with_reducible rfl)
  simp only [ls0,ls1]
  refine tk (i:=10) (n:=5) (v:=?_) ?_ ?_
  rotate_left 1
  ·intro wz hSw
   first | (go_simp;done) | (go_simp;with_reducible rfl)
  simp only [ls0,ls1]
  refine tk (i:=11) (n:=6) (v:=?_) ?_ ?_
  rotate_left 1
  ·intro wz hSw
   first | (go_simp;done) | (go_simp;with_reducible rfl)
  simp only [ls0,ls1]
  refine wpAnyH_done (by kernel_rfl) ?_ _
  refine NoPanic.normal ?_
  go_wp2_with fail
  go_end0
  exact ⟨rfl,sv5,_,(HD.out.grow (Below.refl _ _).drew).mm,(HD.out.grow (Below.refl _ _).drew).mr⟩
 ·go_simp
  go_wp2_with (go_at_call 85;refine (pop_any _ mb B l iv _ ins sp _ _ _ n H4d.out.mm (by dsimp only;first | omega | (simp only [List.length_dropLast];omega)) (by omega)).mono ?_;rw [htop];rintro r w5 ⟨rfl,sv5,hm5,hr5⟩;have H5:Hid (DS w w5 _ _ _ _ _ _ _ _ _ _ _ _ _):=H4d.out.step hm5 hr5;obtain ⟨u05,u15,u25,v05,v15,vf5,vm5,vx5,vn5⟩:=H5.out.reads;clear hm5 hr5)
  have c5:=H5.out.mm.c_pv
  refine hK.out _ _ u15 (fun hHeld=>?_)
  clear hK K
  refine tk (i:=9) (n:=80) (v:=?_) ?_ ?_
  rotate_left 1
  ·intro wz hSw
   first | (go_simp;done) | (go_simp;with_reducible rfl)
  simp only [ls0,ls1]
  obtain ⟨ad6,c6,w6,hrun,hds,d0,d1,d2,d3⟩:=H5.out.put (m:Int) s.top (by dsimp only;omega)
  dsimp only at hrun hds
  have HD:Hid (DS w (w6.setCell ⟨mb,22,none⟩ (.slice ad6 (s.ps.length+1) c6)) _ _ _ _ _ _ _ _ _ _ _ _ _):=hds
  clear hds
  refine wpAnyH_ready (rs:=[4,10]) (by kernel_rfl) (by simp) ?_
  refine AllReadyH.cons rfl (fun K hK=>?_) (AllReadyH.cons rfl (fun K hK=>?_) AllReadyH.nil)
  ·go_simp
   refine hK.out _ _ u15 (fun hHeld=>?_)
   clear hK K
   refine wpAnyH_ready (rs:=[10]) (by kernel_rfl) (by simp) ?_
   refine AllReadyH.cons rfl (fun K hK=>?_) AllReadyH.nil
   go_simp
   refine hK.out _ _ (show (w5.alloc (.cells #[.int .i64 (m:Int),.int .i64 s.top] 43)).cell? ⟨w.heap.size,1,none⟩=some (.int .i64 (m:Int)) from below_cell (below_new _ _) u15) (fun hHeld=>?_)
   clear hK K
   refine wpAnyH_ready (rs:=[11]) (by kernel_rfl) (by simp) ?_
   refine AllReadyH.cons rfl (fun K hK=>?_) AllReadyH.nil
   refine region_append rfl (.tmp 75) (.tmp 81) 25 rfl rfl rfl hrun ?_
   refine hK.out _ _ d3 (fun hHeld=>?_)
   clear hK K
   refine tk (i:=12) (n:=83) (v:=?_) ?_ ?_
   rotate_left 1
   ·intro wz hSw
    first | (go_simp;done) | (go_simp;with_reducible rfl)
   simp only [ls0,ls1]
   refine tk (i:=13) (n:=84) (v:=?_) ?_ ?_
   rotate_left 1
   ·intro wz hSw
    first | (go_simp;done) | (go_simp;with_reducible rfl)
   simp only [ls0,ls1]
   refine wpAnyH_ready (rs:=[14]) (by kernel_rfl) (by simp) ?_
   refine AllReadyH.cons rfl (fun K hK=>?_) AllReadyH.nil
   go_simp
   obtain ⟨-,k1,-⟩:=HD.out.reads
   refine hK.out _ _ k1 (fun hHeld=>?_)
   clear hK K
   refine wpAnyH_done (by kernel_rfl) ?_ _
   refine NoPanic.normal ?_
   clear k1
   generalize hw7:(w6.setCell ⟨mb,22,none⟩ (.slice ad6 (s.ps.length+1) c6))=w7 at *
   clear hw7
   go_wp2_with fail
   have hqk:=(HD.out.old HO.out.1 HO.out.2.1).trans HO.out.2.2.2.1
   obtain ⟨ku0,-,-,-,kv1,-,-,-,-⟩:=HD.out.reads
   have hlk:=look_none (w:=w7.drew) (z:=10) hqk (ops_none g (by omega))
   have hS0:w7.drew.cell? ⟨w.heap.size,0,none⟩=some (.int .i64 10)∧w7.drew.cell? ⟨mb,25,none⟩=some (.map (some q)):=⟨ku0,kv1⟩
   refine wp_region_noPanic ?_
   refine wp_region_held_drew (S:=fun w'=>w'.cell? ⟨w.heap.size,0,none⟩=some (.int .i64 10)∧w'.cell? ⟨mb,25,none⟩=some (.map (some q))) (by kernel_rfl) hS0 (fun hHeld=>?_)
   refine tk (i:=0) (n:=125) (v:=?_) ?_ ?_
   rotate_left 1
   ·intro wz hSw
    first | (go_simp;done) | (go_simp;with_reducible rfl)
   simp only [ls0,ls1]
   refine tk (i:=1) (n:=126) (v:=?_) ?_ ?_
   rotate_left 1
   ·intro wz hSw
    first | (go_simp;done) | (go_simp;with_reducible rfl)
   simp only [ls0,ls1]
   refine tk (i:=2) (n:=127) (v:=?_) ?_ ?_
   rotate_left 1
   ·intro wz hSw
    first | (go_simp;done) | (go_simp;with_reducible rfl)
   simp only [ls0,ls1]
   refine tk (i:=3) (n:=128) (v:=?_) ?_ ?_
   rotate_left 1
   ·intro wz hSw
    first | (go_simp;done) | (go_simp;with_reducible rfl)
   simp only [ls0,ls1]
   refine tk (i:=4) (n:=129) (v:=?_) ?_ ?_
   rotate_left 1
   ·intro wz hSw
    first | (go_simp;done) | (go_simp;with_reducible rfl)
   simp only [ls0,ls1]
   refine tk (i:=5) (n:=130) (v:=?_) ?_ ?_
   rotate_left 1
   ·intro wz hSw
    first | (go_simp;done) | (go_simp;with_reducible rfl)
   simp only [ls0,ls1]
   refine wpAnyH_ready (rs:=[6]) (by kernel_rfl) (by simp) ?_
   refine AllReadyH.cons rfl (fun K hK=>?_) AllReadyH.nil
   go_simp
   refine hK.out _ _ hS0 (fun hHeld=>?_)
   clear hK K
   refine tk (i:=7) (n:=124) (v:=?_) ?_ ?_
   rotate_left 1
   ·intro wz hSw
    first | (go_simp;done) | (go_simp;with_reducible rfl)
   simp only [ls0,ls1]
   refine tk (i:=8) (n:=132) (v:=?_) ?_ ?_
   rotate_left 1
   ·intro wz hSw
    first | (go_simp;done) | (go_simp;with_reducible rfl)
   simp only [ls0,ls1]
   refine tk (i:=9) (n:=133) (v:=?_) ?_ ?_
   rotate_left 1
   ·intro wz hSw
    first | (go_simp;done) | (go_simp;with_reducible rfl)
   simp only [ls0,ls1]
   refine tk (i:=10) (n:=5) (v:=?_) ?_ ?_
   rotate_left 1
   ·intro wz hSw
    first | (go_simp;done) | (go_simp;with_reducible rfl)
   simp only [ls0,ls1]
   refine tk (i:=11) (n:=6) (v:=?_) ?_ ?_
   rotate_left 1
   ·intro wz hSw
    first | (go_simp;done) | (go_simp;with_reducible rfl)
   simp only [ls0,ls1]
   refine wpAnyH_done (by kernel_rfl) ?_ _
   refine NoPanic.normal ?_
   go_wp2_with fail
   go_end0
   exact ⟨rfl,sv5,_,(HD.out.grow (Below.refl _ _).drew).mm,(HD.out.grow (Below.refl _ _).drew).mr⟩
  ·go_simp
   refine hK.out _ _ (show (w5.alloc (.cells #[.int .i64 (m:Int),.int .i64 s.top] 43)).cell? ⟨w.heap.size,1,none⟩=some (.int .i64 (m:Int)) from below_cell (below_new _ _) u15) (fun hHeld=>?_)
   clear hK K
   refine wpAnyH_ready (rs:=[4]) (by kernel_rfl) (by simp) ?_
   refine AllReadyH.cons rfl (fun K hK=>?_) AllReadyH.nil
   go_simp
   refine hK.out _ _ (below_cell (below_new _ _) u15) (fun hHeld=>?_)
   clear hK K
   refine wpAnyH_ready (rs:=[11]) (by kernel_rfl) (by simp) ?_
   refine AllReadyH.cons rfl (fun K hK=>?_) AllReadyH.nil
   refine region_append rfl (.tmp 75) (.tmp 81) 25 rfl rfl rfl hrun ?_
   refine hK.out _ _ d3 (fun hHeld=>?_)
   clear hK K
   refine tk (i:=12) (n:=83) (v:=?_) ?_ ?_
   rotate_left 1
   ·intro wz hSw
    first | (go_simp;done) | (go_simp;with_reducible rfl)
   simp only [ls0,ls1]
   refine tk (i:=13) (n:=84) (v:=?_) ?_ ?_
   rotate_left 1
   ·intro wz hSw
    first | (go_simp;done) | (go_simp;with_reducible rfl)
   simp only [ls0,ls1]
   refine wpAnyH_ready (rs:=[14]) (by kernel_rfl) (by simp) ?_
   refine AllReadyH.cons rfl (fun K hK=>?_) AllReadyH.nil
   go_simp
   obtain ⟨-,k1,-⟩:=HD.out.reads
   refine hK.out _ _ k1 (fun hHeld=>?_)
   clear hK K
   refine wpAnyH_done (by kernel_rfl) ?_ _
   refine NoPanic.normal ?_
   clear k1
   generalize hw7:(w6.setCell ⟨mb,22,none⟩ (.slice ad6 (s.ps.length+1) c6))=w7 at *
   clear hw7
   go_wp2_with fail
   have hqk:=(HD.out.old HO.out.1 HO.out.2.1).trans HO.out.2.2.2.1
   obtain ⟨ku0,-,-,-,kv1,-,-,-,-⟩:=HD.out.reads
   have hlk:=look_none (w:=w7.drew) (z:=10) hqk (ops_none g (by omega))
   have hS0:w7.drew.cell? ⟨w.heap.size,0,none⟩=some (.int .i64 10)∧w7.drew.cell? ⟨mb,25,none⟩=some (.map (some q)):=⟨ku0,kv1⟩
   refine wp_region_noPanic ?_
   refine wp_region_held_drew (S:=fun w'=>w'.cell? ⟨w.heap.size,0,none⟩=some (.int .i64 10)∧w'.cell? ⟨mb,25,none⟩=some (.map (some q))) (by kernel_rfl) hS0 (fun hHeld=>?_)
   refine tk (i:=0) (n:=125) (v:=?_) ?_ ?_
   rotate_left 1
   ·intro wz hSw
    first | (go_simp;done) | (go_simp;with_reducible rfl)
   simp only [ls0,ls1]
   refine tk (i:=1) (n:=126) (v:=?_) ?_ ?_
   rotate_left 1
   ·intro wz hSw
    first | (go_simp;done) | (go_simp;with_reducible rfl)
   simp only [ls0,ls1]
   refine tk (i:=2) (n:=127) (v:=?_) ?_ ?_
   rotate_left 1
   ·intro wz hSw
    first | (go_simp;done) | (go_simp;with_reducible rfl)
   simp only [ls0,ls1]
   refine tk (i:=3) (n:=128) (v:=?_) ?_ ?_
   rotate_left 1
   ·intro wz hSw
    first | (go_simp;done) | (go_simp;with_reducible rfl)
   simp only [ls0,ls1]
   refine tk (i:=4) (n:=129) (v:=?_) ?_ ?_
   rotate_left 1
   ·intro wz hSw
    first | (go_simp;done) | (go_simp;with_reducible rfl)
   simp only [ls0,ls1]
   refine tk (i:=5) (n:=130) (v:=?_) ?_ ?_
   rotate_left 1
   ·intro wz hSw
    first | (go_simp;done) | (go_simp;with_reducible rfl)
   simp only [ls0,ls1]
   refine wpAnyH_ready (rs:=[6]) (by kernel_rfl) (by simp) ?_
   refine AllReadyH.cons rfl (fun K hK=>?_) AllReadyH.nil
   go_simp
   refine hK.out _ _ hS0 (fun hHeld=>?_)
   clear hK K
   refine tk (i:=7) (n:=124) (v:=?_) ?_ ?_
   rotate_left 1
   ·intro wz hSw
    first | (go_simp;done) | (go_simp;with_reducible rfl)
   simp only [ls0,ls1]
   refine tk (i:=8) (n:=132) (v:=?_) ?_ ?_
   rotate_left 1
   ·intro wz hSw
    first | (go_simp;done) | (go_simp;with_reducible rfl)
   simp only [ls0,ls1]
   refine tk (i:=9) (n:=133) (v:=?_) ?_ ?_
   rotate_left 1
   ·intro wz hSw
    first | (go_simp;done) | (go_simp;with_reducible rfl)
   simp only [ls0,ls1]
   refine tk (i:=10) (n:=5) (v:=?_) ?_ ?_
   rotate_left 1
   ·intro wz hSw
    first | (go_simp;done) | (go_simp;with_reducible rfl)
   simp only [ls0,ls1]
   refine tk (i:=11) (n:=6) (v:=?_) ?_ ?_
   rotate_left 1
   ·intro wz hSw
    first | (go_simp;done) | (go_simp;with_reducible rfl)
   simp only [ls0,ls1]
   refine wpAnyH_done (by kernel_rfl) ?_ _
   refine NoPanic.normal ?_
   go_wp2_with fail
   go_end0
   exact ⟨rfl,sv5,_,(HD.out.grow (Below.refl _ _).drew).mm,(HD.out.grow (Below.refl _ _).drew).mr⟩
end
section
variable (w:World) (mb B:Nat) (l:List In) (iv ov:Value) (ins:List Int) (sp:Int) (s:MS) (sv pv:Value)
set_option maxRecDepth 20000 in
set_option maxHeartbeats 4000000 in
theorem do_12f (a b:Int) (n:Nat) (h:MM w mb B l iv ov ins sp s sv pv) (hl:s.st.length≤1000) (hpc:s.pc≤1000000) (hn:s.st.length=n+1) (hz:s.top≠0):Calls Tryd.prog 49 #[.pointer (some ⟨mb,0,none⟩),.agg #[.int .i64 12,.int .i64 a,.int .i64 b]] w (Does w mb B l iv ov ins sp s sv pv ⟨12,a,b⟩):=by
 have HM:Hid (DS w (w.alloc (.cells #[.int .i64 12,.int .i64 a,.int .i64 b] 35)) mb B l iv ov ins sp ⟨12,a,b⟩ s sv pv sv pv):=DS.start h ⟨12,a,b⟩
 have c23:=h.c_pc
 have lm:=h.lt
 obtain ⟨q,g,hov,hq,hg,hqm,hgm⟩:=h.ops
 subst hov
 have hzb:(s.top == 0)=false:=by simpa using hz
 have HO:Hid (MM w mb B l iv (.map (some q)) ins sp s sv pv∧q<mb∧g<mb∧w.heap[q]?=some (.map (opsEs g) 5)∧w.heap[g]?=some (.cells #[.func (Fn.func 87) #[] #[]] 151 (0,0))):=⟨h,hq,hg,hqm,hgm⟩
 clear h hqm hgm hq hg
 go_enter Tryd.func49,Tryd.ntmps49
 have htop:({ pc:=s.pc+1,st:=s.st,vs:=s.vs,cs:=s.cs,ps:=s.ps }:MS).top=s.top:=rfl
 go_wp2_with (first | (go_at_call 48;refine (over_12 _ mb B l iv _ ins sp s sv pv a b n HM.out.mm hn (by omega)).mono ?_;rw [hzb];rintro r w3 ⟨rfl,hb3⟩;have H3:Hid (DS _ w3 _ _ _ _ _ _ _ _ _ _ _ _ _):=HM.out.grow hb3;obtain ⟨x0,x1,x2,y0,y1,yf,ym,yx,yn⟩:=H3.out.reads;clear hb3) | (go_at_call 85;refine (pop_any _ mb B l iv _ ins sp _ _ _ n H3.out.setA1.mm (by dsimp only;first | omega | (simp only [List.length_dropLast];omega)) (by omega)).mono ?_;rw [htop];rintro r w5 ⟨rfl,sv5,hm5,hr5⟩;have H5:Hid (DS w w5 _ _ _ _ _ _ _ _ _ _ _ _ _):=H3.out.setA1.step hm5 hr5;obtain ⟨u05,u15,u25,v05,v15,vf5,vm5,vx5,vn5⟩:=H5.out.reads;clear hm5 hr5))
 have hqk:=(H5.out.old HO.out.1 HO.out.2.1).trans HO.out.2.2.2.1
 obtain ⟨ku0,-,-,-,kv1,-,-,-,-⟩:=H5.out.reads
 have hlk:=look_none (w:=w5.drew) (z:=12) hqk (ops_none g (by omega))
 have hS0:w5.drew.cell? ⟨w.heap.size,0,none⟩=some (.int .i64 12)∧w5.drew.cell? ⟨mb,25,none⟩=some (.map (some q)):=⟨ku0,kv1⟩
 refine wp_region_noPanic ?_
 refine wp_region_held_drew (S:=fun w'=>w'.cell? ⟨w.heap.size,0,none⟩=some (.int .i64 12)∧w'.cell? ⟨mb,25,none⟩=some (.map (some q))) (by kernel_rfl) hS0 (fun hHeld=>?_)
 refine tk (i:=0) (n:=125) (v:=?_) ?_ ?_
 rotate_left 1
 ·intro wz hSw
  first | (go_simp;done) | (go_simp;with_reducible rfl)
 simp only [ls0,ls1]
 refine tk (i:=1) (n:=126) (v:=?_) ?_ ?_
 rotate_left 1
 ·intro wz hSw
  first | (go_simp;done) | (go_simp;with_reducible rfl)
 simp only [ls0,ls1]
 refine tk (i:=2) (n:=127) (v:=?_) ?_ ?_
 rotate_left 1
 ·intro wz hSw
  first | (go_simp;done) | (go_simp;with_reducible rfl)
 simp only [ls0,ls1]
 refine tk (i:=3) (n:=128) (v:=?_) ?_ ?_
 rotate_left 1
 ·intro wz hSw
  first | (go_simp;done) | (go_simp;with_reducible rfl)
 simp only [ls0,ls1]
 refine tk (i:=4) (n:=129) (v:=?_) ?_ ?_
 rotate_left 1
 ·intro wz hSw
  first | (go_simp;done) | (go_simp;with_reducible rfl)
 simp only [ls0,ls1]
 refine tk (i:=5) (n:=130) (v:=?_) ?_ ?_
 rotate_left 1
 ·intro wz hSw
  first | (go_simp;done) | (go_simp;with_reducible rfl)
 simp only [ls0,ls1]
 refine wpAnyH_ready (rs:=[6]) (by kernel_rfl) (by simp) ?_
 refine AllReadyH.cons rfl (fun K hK=>?_) AllReadyH.nil
 go_simp
 refine hK.out _ _ hS0 (fun hHeld=>?_)
 clear hK K
 refine tk (i:=7) (n:=124) (v:=?_) ?_ ?_
 rotate_left 1
 ·intro wz hSw
  first | (go_simp;done) | (go_simp;with_reducible rfl)
 simp only [ls0,ls1]
 refine tk (i:=8) (n:=132) (v:=?_) ?_ ?_
 rotate_left 1
 ·intro wz hSw
  first | (go_simp;done) | (go_simp;with_reducible rfl)
 simp only [ls0,ls1]
 refine tk (i:=9) (n:=133) (v:=?_) ?_ ?_
 rotate_left 1
 ·intro wz hSw
  first | (go_simp;done) | (go_simp;with_reducible rfl)
 simp only [ls0,ls1]
 refine tk (i:=10) (n:=5) (v:=?_) ?_ ?_
 rotate_left 1
 ·intro wz hSw
  first | (go_simp;done) | (go_simp;with_reducible rfl)
 simp only [ls0,ls1]
 refine tk (i:=11) (n:=6) (v:=?_) ?_ ?_
 rotate_left 1
 ·intro wz hSw
  first | (go_simp;done) | (go_simp;with_reducible rfl)
 simp only [ls0,ls1]
 refine wpAnyH_done (by kernel_rfl) ?_ _
 refine NoPanic.normal ?_
 go_wp2_with fail
 go_end0
 have hmd:mdo ins ⟨12,a,b⟩ s=⟨s.pc+1,s.st.dropLast,s.vs,s.cs,s.ps⟩:=by simp [mdo,nextI,overI,hz]
 refine ⟨rfl,sv5,pv,?_,(H5.out.grow (Below.refl _ _).drew).mr⟩
 rw [hmd]
 exact (H5.out.grow (Below.refl _ _).drew).mm
set_option maxRecDepth 20000 in
set_option maxHeartbeats 4000000 in
theorem do_14f (m:Nat) (b:Int) (h:MM w mb B l iv ov ins sp s sv pv) (_:s.st.length≤1000) (hpc:s.pc≤1000000) (hm:m<8) (hz:s.cs.getD m 0=0):Calls Tryd.prog 49 #[.pointer (some ⟨mb,0,none⟩),.agg #[.int .i64 14,.int .i64 (m:Int),.int .i64 b]] w (Does w mb B l iv ov ins sp s sv pv ⟨14,(m:Int),b⟩):=by
 have HM:Hid (DS w (w.alloc (.cells #[.int .i64 14,.int .i64 (m:Int),.int .i64 b] 35)) mb B l iv ov ins sp ⟨14,(m:Int),b⟩ s sv pv sv pv):=DS.start h ⟨14,(m:Int),b⟩
 have c23:=h.c_pc
 have lm:=h.lt
 obtain ⟨q,g,hov,hq,hg,hqm,hgm⟩:=h.ops
 subst hov
 have hmi:(m:Int)<8:=by omega
 have hzb:decide (0<s.cs.getD m 0)=false:=by rw [hz];rfl
 have HZ:Hid (s.cs.getD m 0=0):=hz
 clear hz
 have HO:Hid (MM w mb B l iv (.map (some q)) ins sp s sv pv∧q<mb∧g<mb∧w.heap[q]?=some (.map (opsEs g) 5)∧w.heap[g]?=some (.cells #[.func (Fn.func 87) #[] #[]] 151 (0,0))):=⟨h,hq,hg,hqm,hgm⟩
 clear h hqm hgm hq hg
 go_enter Tryd.func49,Tryd.ntmps49
 go_wp2_with (go_at_call 48;refine (over_14 _ mb B l iv _ ins sp s sv pv m b HM.out.mm hm).mono ?_;rw [hzb];rintro r w3 ⟨rfl,hb3⟩;have H3:Hid (DS _ w3 _ _ _ _ _ _ _ _ _ _ _ _ _):=HM.out.grow hb3;obtain ⟨x0,x1,x2,y0,y1,yf,ym,yx,yn⟩:=H3.out.reads;clear hb3)
 clear hzb
 have H4:Hid (DS w (w3.setCell ⟨mb,23,none⟩ (.int .i64 ((s.pc:Int)+1))) _ _ _ _ _ _ _ _ _ _ _ _ _):=H3.out.setA1
 generalize hw4:(w3.setCell ⟨mb,23,none⟩ (.int .i64 ((s.pc:Int)+1)))=w4 at *
 clear hw4
 obtain ⟨z0,z1,z2,z3,z4,zf,zm,zx,zn⟩:=H4.out.reads
 have c5:=H4.out.c_cs hm
 dsimp only at c5
 rw [HZ.out] at c5
 refine wp_region_noPanic ?_
 refine wp_region_held_drew (S:=fun w'=>w'.cell? ⟨w.heap.size,1,none⟩=some (.int .i64 (m:Int))) (by kernel_rfl) (show (w4.drew.cell? ⟨w.heap.size,1,none⟩=some (.int .i64 (m:Int))) from z1) (fun hHeld=>?_)
 refine tk (i:=0) (n:=101) (v:=?_) ?_ ?_
 rotate_left 1
 ·intro wz hSw
  first | (go_simp;done) | (go_simp;with_reducible rfl)
 simp only [ls0,ls1]
 refine tk (i:=1) (n:=102) (v:=?_) ?_ ?_
 rotate_left 1
 ·intro wz hSw
  first | (go_simp;done) | (go_simp;with_reducible rfl)
 simp only [ls0,ls1]
 refine tk (i:=2) (n:=103) (v:=?_) ?_ ?_
 rotate_left 1
 ·intro wz hSw
  first | (go_simp;done) | (go_simp;with_reducible rfl)
 simp only [ls0,ls1]
 refine tk (i:=3) (n:=104) (v:=?_) ?_ ?_
 rotate_left 1
 ·intro wz hSw
  first | (go_simp;done) | (go_simp;with_reducible rfl)
 simp only [ls0,ls1]
 refine tk (i:=4) (n:=105) (v:=?_) ?_ ?_
 rotate_left 1
 ·intro wz hSw
  first | (go_simp;done) | (go_simp;with_reducible rfl)
 simp only [ls0,ls1]
 refine tk (i:=5) (n:=106) (v:=?_) ?_ ?_
 rotate_left 1
 ·intro wz hSw
  first | (go_simp;done) | (go_simp;with_reducible rfl)
 simp only [ls0,ls1]
 refine tk (i:=6) (n:=107) (v:=?_) ?_ ?_
 rotate_left 1
 ·intro wz hSw
  first | (go_simp;done) | (go_simp;with_reducible rfl)
 simp only [ls0,ls1]
 refine tk (i:=7) (n:=108) (v:=?_) ?_ ?_
 rotate_left 1
 ·intro wz hSw
  first | (go_simp;done) | (go_simp;with_reducible rfl)
 simp only [ls0,ls1]
 refine tk (i:=8) (n:=109) (v:=?_) ?_ ?_
 rotate_left 1
 ·intro wz hSw
  first | (go_simp;done) | (go_simp;with_reducible rfl)
 simp only [ls0,ls1]
 refine tk (i:=12) (n:=113) (v:=?_) ?_ ?_
 rotate_left 1
 ·intro wz hSw
  first | (go_simp;done) | (go_simp;with_reducible rfl)
 simp only [ls0,ls1]
 refine tk (i:=13) (n:=114) (v:=?_) ?_ ?_
 rotate_left 1
 ·intro wz hSw
  first | (go_simp;done) | (go_simp;with_reducible rfl)
 simp only [ls0,ls1]
 refine wpAnyH_ready (rs:=[9]) (by kernel_rfl) (by simp) ?_
 refine AllReadyH.cons rfl (fun K hK=>?_) AllReadyH.nil
 go_simp
 refine hK.out _ _ z1 (fun hHeld=>?_)
 clear hK K
 refine tk (i:=10) (n:=111) (v:=?_) ?_ ?_
 rotate_left 1
 ·intro wz hSw
  first | (go_simp;done) | (go_simp;with_reducible rfl)
 simp only [ls0,ls1]
 refine tk (i:=11) (n:=112) (v:=?_) ?_ ?_
 rotate_left 1
 ·intro wz hSw
  first | (go_simp;done) | (go_simp;with_reducible rfl)
 simp only [ls0,ls1]
 refine tk (i:=14) (n:=115) (v:=?_) ?_ ?_
 rotate_left 1
 ·intro wz hSw
  first | (go_simp;done) | (go_simp;with_reducible rfl)
 simp only [ls0,ls1]
 have H6:Hid (DS w (w4.setCell ⟨mb,13+m,none⟩ (.int .i64 (0))).drew _ _ _ _ _ _ _ _ _ _ _ _ _):=(H4.out.setC hm (0)).grow (Below.refl _ _).drew
 obtain ⟨-,k1,k2,-⟩:=H6.out.reads
 refine wpAnyH_ready (rs:=[15]) (by kernel_rfl) (by simp) ?_
 refine AllReadyH.cons rfl (fun K hK=>?_) AllReadyH.nil
 go_simp
 refine hK.out _ ((w4.setCell ⟨mb,13+m,none⟩ (.int .i64 (0))).drew) k1 (fun hHeld=>?_)
 clear hK K
 refine wpAnyH_done (by kernel_rfl) ?_ _
 refine NoPanic.normal ?_
 clear k1
 generalize hw6:(w4.setCell ⟨mb,13+m,none⟩ (.int .i64 (0))).drew=w6 at *
 clear hw6
 go_wp2_with fail
 have hqk:=(H6.out.old HO.out.1 HO.out.2.1).trans HO.out.2.2.2.1
 obtain ⟨ku0,-,-,-,kv1,-,-,-,-⟩:=H6.out.reads
 have hlk:=look_none (w:=w6.drew) (z:=14) hqk (ops_none g (by omega))
 have hS0:w6.drew.cell? ⟨w.heap.size,0,none⟩=some (.int .i64 14)∧w6.drew.cell? ⟨mb,25,none⟩=some (.map (some q)):=⟨ku0,kv1⟩
 refine wp_region_noPanic ?_
 refine wp_region_held_drew (S:=fun w'=>w'.cell? ⟨w.heap.size,0,none⟩=some (.int .i64 14)∧w'.cell? ⟨mb,25,none⟩=some (.map (some q))) (by kernel_rfl) hS0 (fun hHeld=>?_)
 refine tk (i:=0) (n:=125) (v:=?_) ?_ ?_
 rotate_left 1
 ·intro wz hSw
  first | (go_simp;done) | (go_simp;with_reducible rfl)
 simp only [ls0,ls1]
 refine tk (i:=1) (n:=126) (v:=?_) ?_ ?_
 rotate_left 1
 ·intro wz hSw
  first | (go_simp;done) | (go_simp;with_reducible rfl)
 simp only [ls0,ls1]
 refine tk (i:=2) (n:=127) (v:=?_) ?_ ?_
 rotate_left 1
 ·intro wz hSw
  first | (go_simp;done) | (go_simp;with_reducible rfl)
 simp only [ls0,ls1]
 refine tk (i:=3) (n:=128) (v:=?_) ?_ ?_
 rotate_left 1
 ·intro wz hSw
  first | (go_simp;done) | (go_simp;with_reducible rfl)
 simp only [ls0,ls1]
 refine tk (i:=4) (n:=129) (v:=?_) ?_ ?_
 rotate_left 1
 ·intro wz hSw
  first | (go_simp;done) | (go_simp;with_reducible rfl)
 simp only [ls0,ls1]
 refine tk (i:=5) (n:=130) (v:=?_) ?_ ?_
 rotate_left 1
 ·intro wz hSw
  first | (go_simp;done) | (go_simp;with_reducible rfl)
 simp only [ls0,ls1]
 refine wpAnyH_ready (rs:=[6]) (by kernel_rfl) (by simp) ?_
 refine AllReadyH.cons rfl (fun K hK=>?_) AllReadyH.nil
 go_simp
 refine hK.out _ _ hS0 (fun hHeld=>?_)
 clear hK K
 refine tk (i:=7) (n:=124) (v:=?_) ?_ ?_
 rotate_left 1
 ·intro wz hSw
  first | (go_simp;done) | (go_simp;with_reducible rfl)
 simp only [ls0,ls1]
 refine tk (i:=8) (n:=132) (v:=?_) ?_ ?_
 rotate_left 1
 ·intro wz hSw
  first | (go_simp;done) | (go_simp;with_reducible rfl)
 simp only [ls0,ls1]
 refine tk (i:=9) (n:=133) (v:=?_) ?_ ?_
 rotate_left 1
 ·intro wz hSw
  first | (go_simp;done) | (go_simp;with_reducible rfl)
 simp only [ls0,ls1]
 refine tk (i:=10) (n:=5) (v:=?_) ?_ ?_
 rotate_left 1
 ·intro wz hSw
  first | (go_simp;done) | (go_simp;with_reducible rfl)
 simp only [ls0,ls1]
 refine tk (i:=11) (n:=6) (v:=?_) ?_ ?_
 rotate_left 1
 ·intro wz hSw
  first | (go_simp;done) | (go_simp;with_reducible rfl)
 simp only [ls0,ls1]
 refine wpAnyH_done (by kernel_rfl) ?_ _
 refine NoPanic.normal ?_
 go_wp2_with fail
 go_end0
 have hmd:mdo ins ⟨14,(m:Int),b⟩ s=⟨s.pc+1,s.st,s.vs,s.cs.set m 0,s.ps⟩:=by have:=HZ.out;rw [List.getD_eq_getElem?_getD] at this;simp [mdo,nextI,overI,this]
 refine ⟨rfl,sv,pv,?_,(H6.out.grow (Below.refl _ _).drew).mr⟩
 rw [hmd]
 exact (H6.out.grow (Below.refl _ _).drew).mm
end
end Go.Proofs.YtnkgbkkakokciacDoor
