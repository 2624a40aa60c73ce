import Derived.Test.YtnkgbkkakokciacDoorGMDo
namespace Go.Proofs.YtnkgbkkakokciacDoor
open Go.ChangeShapes Go.WideShapes Go.ChangeAt Go.RowKit
theorem infoPut:(Tryd.prog.info? 43).map (fun i=>(i.zero,i.size,i.bytes))=some (some (.agg #[.int .i64 0,.int .i64 0]),2,16):=by kernel_rfl
theorem region_append {P:Program} {ops:Array Oper} {o:Oper} {a:Act} {w:World} {K:Act→World→Prop} {Q:Exit→Act→World→Prop} {E:Prop} [Decidable (Region.wanted o (yielded ops a.tmps)=true)] (hgd:o.guard=none) (s x:Operand) (t:TypeId)
  (ho:o.op = .call { callee:=.builtin .append,args:=#[s,x],argTypes:=#[t,t] }) {v u v':Value} {w':World} (hs:a.eval s=v) (hx:a.eval x=u)
  (hrun:(Builtin.append_ #[t,t] o.type #[v,u]).run P w = .ok v' w') (h:K (a.put o.dst v') w'):if Region.wanted o (yielded ops a.tmps)=true then Oper.wp P o a w K Q else E:=by
 have hw:Region.wanted o (yielded ops a.tmps)=true:=by simp [Region.wanted,hgd]
 rw [if_pos hw]
 unfold Oper.wp
 simp [execOp,ho,resolve,invoke,builtin,hs,hx,hrun,Result.andThen]
 exact h
theorem DS.put {w W:World} {mb B:Nat} {l:List In} {iv ov:Value} {ins:List Int} {sp:Int} {x:In} {s':MS} {sv pv sv' pv':Value} (h:DS w W mb B l iv ov ins sp x s' sv pv sv' pv') (a t:Int) (hl:s'.ps.length≤4000000) :
  ∃ ad c w4,(Builtin.append_ #[25,25] 25 #[pv',.slice (some ⟨W.heap.size,0,none⟩) 1 1]).run Tryd.prog (W.alloc (.cells #[.int .i64 a,.int .i64 t] 43)) = .ok (.slice ad (s'.ps.length+1) c) w4 ∧
   DS w (w4.setCell ⟨mb,22,none⟩ (.slice ad (s'.ps.length+1) c)) mb B l iv ov ins sp x { s' with ps:=s'.ps++[(a,t)] } sv pv sv' (.slice ad (s'.ps.length+1) c)∧w4.cell? ⟨mb,22,none⟩=some pv'∧w4.frozen? ⟨mb,22,none⟩=false∧mb<w4.heap.size∧w4.cell? ⟨w.heap.size,1,none⟩=some (.int .i64 x.a):=by
 obtain ⟨i0,hi0,hz0,hz1,hz2⟩:=info_parts infoPut
 have hB:=h.mm.bas
 have hn:=h.mm.nmb
 have h1:=h.grow (below_new W (.cells #[.int .i64 a,.int .i64 t] 43))
 obtain ⟨v4,w4,hrun,ho4,hg4,hv4⟩:=append_two (P:=Tryd.prog) (W.alloc (.cells #[.int .i64 a,.int .i64 t] 43)) B W.heap.size 25 25 43 i0 _ 2 16 Tryd.underlying25 hi0 hz0 hz1 hz2 rfl (by decide) pv' s'.ps.length (putVs s'.ps) h1.mm.pts _ 1 [.int .i64 a,.int .i64 t] (World.ownsRow_lit W #[.int .i64 a,.int .i64 t] 1 (Nat.le_refl _) (by decide) rfl) (by intro u hu;simp at hu;rcases hu with hu | hu <;> subst hu <;> rfl) (by unfold maxLen;omega) (by omega) (by simp;omega)
 obtain ⟨ad,c,rfl⟩:=owns_value ho4
 have hb4:=(hg4.block mb h1.mm.lt (fun e=>by have:=(h1.mm.pts.lt mb e.symm).1;omega)).trans h1.mm.blk
 obtain ⟨p1,p2⟩:=h1.mm.pushP hg4 (ps':=s'.ps++[(a,t)]) (by rw [List.length_append,putVs_snoc];exact ho4) hv4
 have hx4:=(hg4.block w.heap.size (Array.getElem?_eq_some_iff.1 h1.xb.blk).1 h1.xb.npv).trans h1.xb.blk
 exact ⟨ad,c,w4,hrun,h1.step p1 p2,(cells_of hb4).1 _ _ (machVs_rest h.mm.lv h.mm.li h.mm.lc 1),(cells_of hb4).2.1 22,(cells_of hb4).2.2,(cells_of (l:=[_,_,_]) hx4).1 1 _ rfl⟩
theorem ways_first (w:World) (k:Nat) (x:In) (z:Int) (hk:k≤4194304) (hz:(waysOf k x).head?=some z):Calls Tryd.prog 83 #[.int .i64 k,x.val] w fun r w'=>(∃ b o n c,r = .returned (.slice (some ⟨b,o,none⟩) (n+1) c)∧w'.cell? ⟨b,o,none⟩=some (.int .i64 z))∧Below w.heap.size w w':=by
 refine (ways_any w k x hk).mono ?_
 rintro r w' ⟨⟨v,rfl,ad,c,rfl,h1⟩,hb⟩
 refine ⟨?_,hb⟩
 rcases hw:waysOf k x with _ | ⟨y,t⟩
 ·rw [hw] at hz;simp at hz
 ·rw [hw] at hz h1
  simp only [List.head?_cons,Option.some.injEq] at hz
  subst hz
  rcases h1 with h1 | ⟨b,o,rfl,h1⟩
  ·simp at h1
  ·have:=h1 0 (by simp)
   exact ⟨b,o,t.length,c,by simp,by simpa using this⟩
theorem DS.old {w W:World} {mb B:Nat} {l:List In} {iv ov:Value} {ins:List Int} {sp:Int} {x:In} {s s':MS} {sv pv sv' pv':Value} (h:DS w W mb B l iv ov ins sp x s' sv pv sv' pv') (h0:MM w mb B l iv ov ins sp s sv pv) {k:Nat} (hk:k<mb):W.heap[k]?=w.heap[k]? :=
 h.mr.block k (by have:=h0.lt;omega) (by omega) (fun e=>by have:=(h0.stk.lt k e.symm).1;have:=h0.nmb;omega) (fun e=>by have:=(h0.pts.lt k e.symm).1;have:=h0.nmb;omega)
theorem DS.c_vs {w W:World} {mb B:Nat} {l:List In} {iv ov:Value} {ins:List Int} {sp:Int} {x:In} {s':MS} {sv pv sv' pv':Value} (h:DS w W mb B l iv ov ins sp x s' sv pv sv' pv') {m:Nat} (hm:m<8):W.cell? ⟨mb,1+m,none⟩=some (.int .i64 (s'.vs.getD m 0)):=by
 rw [Nat.add_comm];exact h.mm.c_vs hm
theorem DS.c_in {w W:World} {mb B:Nat} {l:List In} {iv ov:Value} {ins:List Int} {sp:Int} {x:In} {s':MS} {sv pv sv' pv':Value} (h:DS w W mb B l iv ov ins sp x s' sv pv sv' pv') {m:Nat} (hm:m<4):W.cell? ⟨mb,9+m,none⟩=some (.int .i64 (ins.getD m 0)):=by
 rw [Nat.add_comm];exact h.mm.c_in hm
theorem DS.c_cs {w W:World} {mb B:Nat} {l:List In} {iv ov:Value} {ins:List Int} {sp:Int} {x:In} {s':MS} {sv pv sv' pv':Value} (h:DS w W mb B l iv ov ins sp x s' sv pv sv' pv') {m:Nat} (hm:m<8):W.cell? ⟨mb,13+m,none⟩=some (.int .i64 (s'.cs.getD m 0)):=by
 rw [Nat.add_comm];exact h.mm.c_cs hm
section
variable (w:World) (mb B:Nat) (l:List In) (iv ov:Value) (ins:List Int) (sp:Int) (s:MS) (sv pv:Value)
set_option maxRecDepth 20000 in
set_option maxHeartbeats 4000000 in
theorem do_1 (a b:Int) (h:MM w mb B l iv ov ins sp s sv pv) (hl:s.st.length≤1000) (hpc:s.pc≤1000000):Calls Tryd.prog 49 #[.pointer (some ⟨mb,0,none⟩),.agg #[.int .i64 1,.int .i64 a,.int .i64 b]] w (Does w mb B l iv ov ins sp s sv pv ⟨1,a,b⟩):=by
 have HM:Hid (DS w (w.alloc (.cells #[.int .i64 1,.int .i64 a,.int .i64 b] 35)) mb B l iv ov ins sp ⟨1,a,b⟩ s sv pv sv pv):=DS.start h ⟨1,a,b⟩
 have c23:=h.c_pc
 have lm:=h.lt
 obtain ⟨q,g,hov,hq,hg,hqm,hgm⟩:=h.ops
 subst hov
 have HO:Hid (MM w mb B l iv (.map (some q)) ins sp s sv pv∧q<mb∧g<mb∧w.heap[q]?=some (.map (opsEs g) 5)∧w.heap[g]?=some (.cells #[.func (Fn.func 87) #[] #[]] 151 (0,0))):=⟨h,hq,hg,hqm,hgm⟩
 clear h hqm hgm hq hg
 go_enter Tryd.func49,Tryd.ntmps49
 go_wp2_with (first
  | (go_at_call 48;refine (over_other _ mb 1 _ _ (by first | decide | omega) (by first | decide | omega) (by first | decide | omega)).mono ?_;rintro r w3 ⟨rfl,hb3⟩;have H3:Hid (DS _ w3 _ _ _ _ _ _ _ _ _ _ _ _ _):=HM.out.grow hb3;obtain ⟨x0,x1,x2,y0,y1,yf,ym,yx,yn⟩:=H3.out.reads;clear hb3)
  | (go_at_call 84;refine (push_any _ mb B l iv _ ins sp _ _ _ a H3.out.setA1.mm (by dsimp only;omega)).mono ?_;rintro r w5 ⟨rfl,sv5,hm5,hr5⟩;have H5:Hid (DS w w5 _ _ _ _ _ _ _ _ _ _ _ _ _):=H3.out.setA1.step hm5 hr5;obtain ⟨u0,u1,u2,v0,v1,vf,vm,vx,vn⟩:=H5.out.reads;clear hm5 hr5))
 have hqk:=(H5.out.old HO.out.1 HO.out.2.1).trans HO.out.2.2.2.1
 obtain ⟨ku0,-,-,-,kv1,-,-,-,-⟩:=H5.out.reads
 have hlk:=look_none (w:=w5.drew) (z:=1) hqk (ops_none g (by omega))
 have hS0:w5.drew.cell? ⟨w.heap.size,0,none⟩=some (.int .i64 1)∧w5.drew.cell? ⟨mb,25,none⟩=some (.map (some q)):=⟨ku0,kv1⟩
 refine wp_region_noPanic ?_
 refine wp_region_held_drew (S:=fun w'=>w'.cell? ⟨w.heap.size,0,none⟩=some (.int .i64 1)∧w'.cell? ⟨mb,25,none⟩=some (.map (some q))) (by kernel_rfl) hS0 (fun hHeld=>?_)
 refine tk (i:=0) (n:=125) (v:=?_) ?_ ?_
 rotate_left 1
 ·intro wz hSw
  first | (go_simp;done) | (go_simp;with_reducible rfl)
 simp only [ls0,ls1]
 refine tk (i:=1) (n:=126) (v:=?_) ?_ ?_
 rotate_left 1
 ·intro wz hSw
  first | (go_simp;done) | (go_simp;with_reducible rfl)
 simp only [ls0,ls1]
 refine tk (i:=2) (n:=127) (v:=?_) ?_ ?_
 rotate_left 1
 ·intro wz hSw
  first | (go_simp;done) | (go_simp;with_reducible rfl)
 simp only [ls0,ls1]
 refine tk (i:=3) (n:=128) (v:=?_) ?_ ?_
 rotate_left 1
 ·intro wz hSw
  first | (go_simp;done) | (go_simp;with_reducible rfl)
 simp only [ls0,ls1]
 refine tk (i:=4) (n:=129) (v:=?_) ?_ ?_
 rotate_left 1
 ·intro wz hSw
  first | (go_simp;done) | (go_simp;with_reducible rfl)
 simp only [ls0,ls1]
 refine tk (i:=5) (n:=130) (v:=?_) ?_ ?_
 rotate_left 1
 ·intro wz hSw
  first | (go_simp;done) | (go_simp;with_reducible rfl)
 simp only [ls0,ls1]
 refine wpAnyH_ready (rs:=[6]) (by kernel_rfl) (by simp) ?_
 refine AllReadyH.cons rfl (fun K hK=>?_) AllReadyH.nil
 go_simp
 refine hK.out _ _ hS0 (fun hHeld=>?_)
 clear hK K
 refine tk (i:=7) (n:=124) (v:=?_) ?_ ?_
 rotate_left 1
 ·intro wz hSw
  first | (go_simp;done) | (go_simp;with_reducible rfl)
 simp only [ls0,ls1]
 refine tk (i:=8) (n:=132) (v:=?_) ?_ ?_
 rotate_left 1
 ·intro wz hSw
  first | (go_simp;done) | (go_simp;with_reducible rfl)
 simp only [ls0,ls1]
 refine tk (i:=9) (n:=133) (v:=?_) ?_ ?_
 rotate_left 1
 ·intro wz hSw
  first | (go_simp;done) | (go_simp;with_reducible rfl)
 simp only [ls0,ls1]
 refine tk (i:=10) (n:=5) (v:=?_) ?_ ?_
 rotate_left 1
 ·intro wz hSw
  first | (go_simp;done) | (go_simp;with_reducible rfl)
 simp only [ls0,ls1]
 refine tk (i:=11) (n:=6) (v:=?_) ?_ ?_
 rotate_left 1
 ·intro wz hSw
  first | (go_simp;done) | (go_simp;with_reducible rfl)
 simp only [ls0,ls1]
 refine wpAnyH_done (by kernel_rfl) ?_ _
 refine NoPanic.normal ?_
 go_wp2_with fail
 go_end0
 exact ⟨rfl,sv5,pv,(H5.out.grow (Below.refl _ _).drew).mm,(H5.out.grow (Below.refl _ _).drew).mr⟩
set_option maxRecDepth 20000 in
set_option maxHeartbeats 4000000 in
theorem do_16 (a b:Int) (h:MM w mb B l iv ov ins sp s sv pv) (_:s.st.length≤1000) (hpc:s.pc≤1000000):Calls Tryd.prog 49 #[.pointer (some ⟨mb,0,none⟩),.agg #[.int .i64 16,.int .i64 a,.int .i64 b]] w (Does w mb B l iv ov ins sp s sv pv ⟨16,a,b⟩):=by
 have HM:Hid (DS w (w.alloc (.cells #[.int .i64 16,.int .i64 a,.int .i64 b] 35)) mb B l iv ov ins sp ⟨16,a,b⟩ s sv pv sv pv):=DS.start h ⟨16,a,b⟩
 have c23:=h.c_pc
 have lm:=h.lt
 obtain ⟨q,g,hov,hq,hg,hqm,hgm⟩:=h.ops
 subst hov
 have HO:Hid (MM w mb B l iv (.map (some q)) ins sp s sv pv∧q<mb∧g<mb∧w.heap[q]?=some (.map (opsEs g) 5)∧w.heap[g]?=some (.cells #[.func (Fn.func 87) #[] #[]] 151 (0,0))):=⟨h,hq,hg,hqm,hgm⟩
 clear h hqm hgm hq hg
 go_enter Tryd.func49,Tryd.ntmps49
 go_wp2_with (go_at_call 48;refine (over_other _ mb 16 _ _ (by first | decide | omega) (by first | decide | omega) (by first | decide | omega)).mono ?_;rintro r w3 ⟨rfl,hb3⟩;have H3:Hid (DS _ w3 _ _ _ _ _ _ _ _ _ _ _ _ _):=HM.out.grow hb3;obtain ⟨x0,x1,x2,y0,y1,yf,ym,yx,yn⟩:=H3.out.reads;clear hb3)
 have H4:Hid (DS w (w3.setCell ⟨mb,23,none⟩ (.int .i64 ((s.pc:Int)+1))) _ _ _ _ _ _ _ _ _ _ _ _ _):=H3.out.setA1
 generalize hw4:(w3.setCell ⟨mb,23,none⟩ (.int .i64 ((s.pc:Int)+1)))=w4 at *
 clear hw4
 have hqk:=(H4.out.old HO.out.1 HO.out.2.1).trans HO.out.2.2.2.1
 obtain ⟨ku0,-,-,-,kv1,-,-,-,-⟩:=H4.out.reads
 have hlk:=look_none (w:=w4.drew) (z:=16) hqk (ops_none g (by omega))
 have hS0:w4.drew.cell? ⟨w.heap.size,0,none⟩=some (.int .i64 16)∧w4.drew.cell? ⟨mb,25,none⟩=some (.map (some q)):=⟨ku0,kv1⟩
 refine wp_region_noPanic ?_
 refine wp_region_held_drew (S:=fun w'=>w'.cell? ⟨w.heap.size,0,none⟩=some (.int .i64 16)∧w'.cell? ⟨mb,25,none⟩=some (.map (some q))) (by kernel_rfl) hS0 (fun hHeld=>?_)
 refine tk (i:=0) (n:=125) (v:=?_) ?_ ?_
 rotate_left 1
 ·intro wz hSw
  first | (go_simp;done) | (go_simp;with_reducible rfl)
 simp only [ls0,ls1]
 refine tk (i:=1) (n:=126) (v:=?_) ?_ ?_
 rotate_left 1
 ·intro wz hSw
  first | (go_simp;done) | (go_simp;with_reducible rfl)
 simp only [ls0,ls1]
 refine tk (i:=2) (n:=127) (v:=?_) ?_ ?_
 rotate_left 1
 ·intro wz hSw
  first | (go_simp;done) | (go_simp;with_reducible rfl)
 simp only [ls0,ls1]
 refine tk (i:=3) (n:=128) (v:=?_) ?_ ?_
 rotate_left 1
 ·intro wz hSw
  first | (go_simp;done) | (go_simp;with_reducible rfl)
 simp only [ls0,ls1]
 refine tk (i:=4) (n:=129) (v:=?_) ?_ ?_
 rotate_left 1
 ·intro wz hSw
  first | (go_simp;done) | (go_simp;with_reducible rfl)
 simp only [ls0,ls1]
 refine tk (i:=5) (n:=130) (v:=?_) ?_ ?_
 rotate_left 1
 ·intro wz hSw
  first | (go_simp;done) | (go_simp;with_reducible rfl)
 simp only [ls0,ls1]
 refine wpAnyH_ready (rs:=[6]) (by kernel_rfl) (by simp) ?_
 refine AllReadyH.cons rfl (fun K hK=>?_) AllReadyH.nil
 go_simp
 refine hK.out _ _ hS0 (fun hHeld=>?_)
 clear hK K
 refine tk (i:=7) (n:=124) (v:=?_) ?_ ?_
 rotate_left 1
 ·intro wz hSw
  first | (go_simp;done) | (go_simp;with_reducible rfl)
 simp only [ls0,ls1]
 refine tk (i:=8) (n:=132) (v:=?_) ?_ ?_
 rotate_left 1
 ·intro wz hSw
  first | (go_simp;done) | (go_simp;with_reducible rfl)
 simp only [ls0,ls1]
 refine tk (i:=9) (n:=133) (v:=?_) ?_ ?_
 rotate_left 1
 ·intro wz hSw
  first | (go_simp;done) | (go_simp;with_reducible rfl)
 simp only [ls0,ls1]
 refine tk (i:=10) (n:=5) (v:=?_) ?_ ?_
 rotate_left 1
 ·intro wz hSw
  first | (go_simp;done) | (go_simp;with_reducible rfl)
 simp only [ls0,ls1]
 refine tk (i:=11) (n:=6) (v:=?_) ?_ ?_
 rotate_left 1
 ·intro wz hSw
  first | (go_simp;done) | (go_simp;with_reducible rfl)
 simp only [ls0,ls1]
 refine wpAnyH_done (by kernel_rfl) ?_ _
 refine NoPanic.normal ?_
 go_wp2_with fail
 go_end0
 exact ⟨rfl,sv,pv,(H4.out.grow (Below.refl _ _).drew).mm,(H4.out.grow (Below.refl _ _).drew).mr⟩
set_option maxRecDepth 20000 in
set_option maxHeartbeats 4000000 in
theorem do_17 (a b:Int) (h:MM w mb B l iv ov ins sp s sv pv) (_:s.st.length≤1000) (hpc:s.pc≤1000000):Calls Tryd.prog 49 #[.pointer (some ⟨mb,0,none⟩),.agg #[.int .i64 17,.int .i64 a,.int .i64 b]] w (Does w mb B l iv ov ins sp s sv pv ⟨17,a,b⟩):=by
 have HM:Hid (DS w (w.alloc (.cells #[.int .i64 17,.int .i64 a,.int .i64 b] 35)) mb B l iv ov ins sp ⟨17,a,b⟩ s sv pv sv pv):=DS.start h ⟨17,a,b⟩
 have c23:=h.c_pc
 have lm:=h.lt
 obtain ⟨q,g,hov,hq,hg,hqm,hgm⟩:=h.ops
 subst hov
 have HO:Hid (MM w mb B l iv (.map (some q)) ins sp s sv pv∧q<mb∧g<mb∧w.heap[q]?=some (.map (opsEs g) 5)∧w.heap[g]?=some (.cells #[.func (Fn.func 87) #[] #[]] 151 (0,0))):=⟨h,hq,hg,hqm,hgm⟩
 clear h hqm hgm hq hg
 go_enter Tryd.func49,Tryd.ntmps49
 go_wp2_with (go_at_call 48;refine (over_other _ mb 17 _ _ (by first | decide | omega) (by first | decide | omega) (by first | decide | omega)).mono ?_;rintro r w3 ⟨rfl,hb3⟩;have H3:Hid (DS _ w3 _ _ _ _ _ _ _ _ _ _ _ _ _):=HM.out.grow hb3;obtain ⟨x0,x1,x2,y0,y1,yf,ym,yx,yn⟩:=H3.out.reads;clear hb3)
 have H4:Hid (DS w (w3.setCell ⟨mb,23,none⟩ (.int .i64 ((s.pc:Int)+1))) _ _ _ _ _ _ _ _ _ _ _ _ _):=H3.out.setA1
 generalize hw4:(w3.setCell ⟨mb,23,none⟩ (.int .i64 ((s.pc:Int)+1)))=w4 at *
 clear hw4
 have hqk:=(H4.out.old HO.out.1 HO.out.2.1).trans HO.out.2.2.2.1
 obtain ⟨ku0,-,-,-,kv1,-,-,-,-⟩:=H4.out.reads
 have hlk:=look_none (w:=w4.drew) (z:=17) hqk (ops_none g (by omega))
 have hS0:w4.drew.cell? ⟨w.heap.size,0,none⟩=some (.int .i64 17)∧w4.drew.cell? ⟨mb,25,none⟩=some (.map (some q)):=⟨ku0,kv1⟩
 refine wp_region_noPanic ?_
 refine wp_region_held_drew (S:=fun w'=>w'.cell? ⟨w.heap.size,0,none⟩=some (.int .i64 17)∧w'.cell? ⟨mb,25,none⟩=some (.map (some q))) (by kernel_rfl) hS0 (fun hHeld=>?_)
 refine tk (i:=0) (n:=125) (v:=?_) ?_ ?_
 rotate_left 1
 ·intro wz hSw
  first | (go_simp;done) | (go_simp;with_reducible rfl)
 simp only [ls0,ls1]
 refine tk (i:=1) (n:=126) (v:=?_) ?_ ?_
 rotate_left 1
 ·intro wz hSw
  first | (go_simp;done) | (go_simp;with_reducible rfl)
 simp only [ls0,ls1]
 refine tk (i:=2) (n:=127) (v:=?_) ?_ ?_
 rotate_left 1
 ·intro wz hSw
  first | (go_simp;done) | (go_simp;with_reducible rfl)
 simp only [ls0,ls1]
 refine tk (i:=3) (n:=128) (v:=?_) ?_ ?_
 rotate_left 1
 ·intro wz hSw
  first | (go_simp;done) | (go_simp;with_reducible rfl)
 simp only [ls0,ls1]
 refine tk (i:=4) (n:=129) (v:=?_) ?_ ?_
 rotate_left 1
 ·intro wz hSw
  first | (go_simp;done) | (go_simp;with_reducible rfl)
 simp only [ls0,ls1]
 refine tk (i:=5) (n:=130) (v:=?_) ?_ ?_
 rotate_left 1
 ·intro wz hSw
  first | (go_simp;done) | (go_simp;with_reducible rfl)
 simp only [ls0,ls1]
 refine wpAnyH_ready (rs:=[6]) (by kernel_rfl) (by simp) ?_
 refine AllReadyH.cons rfl (fun K hK=>?_) AllReadyH.nil
 go_simp
 refine hK.out _ _ hS0 (fun hHeld=>?_)
 clear hK K
 refine tk (i:=7) (n:=124) (v:=?_) ?_ ?_
 rotate_left 1
 ·intro wz hSw
  first | (go_simp;done) | (go_simp;with_reducible rfl)
 simp only [ls0,ls1]
 refine tk (i:=8) (n:=132) (v:=?_) ?_ ?_
 rotate_left 1
 ·intro wz hSw
  first | (go_simp;done) | (go_simp;with_reducible rfl)
 simp only [ls0,ls1]
 refine tk (i:=9) (n:=133) (v:=?_) ?_ ?_
 rotate_left 1
 ·intro wz hSw
  first | (go_simp;done) | (go_simp;with_reducible rfl)
 simp only [ls0,ls1]
 refine tk (i:=10) (n:=5) (v:=?_) ?_ ?_
 rotate_left 1
 ·intro wz hSw
  first | (go_simp;done) | (go_simp;with_reducible rfl)
 simp only [ls0,ls1]
 refine tk (i:=11) (n:=6) (v:=?_) ?_ ?_
 rotate_left 1
 ·intro wz hSw
  first | (go_simp;done) | (go_simp;with_reducible rfl)
 simp only [ls0,ls1]
 refine wpAnyH_done (by kernel_rfl) ?_ _
 refine NoPanic.normal ?_
 go_wp2_with fail
 go_end0
 exact ⟨rfl,sv,pv,(H4.out.grow (Below.refl _ _).drew).mm,(H4.out.grow (Below.refl _ _).drew).mr⟩
set_option maxRecDepth 20000 in
set_option maxHeartbeats 4000000 in
theorem do_18 (a b:Int) (h:MM w mb B l iv ov ins sp s sv pv) (_:s.st.length≤1000) (hpc:s.pc≤1000000):Calls Tryd.prog 49 #[.pointer (some ⟨mb,0,none⟩),.agg #[.int .i64 18,.int .i64 a,.int .i64 b]] w (Does w mb B l iv ov ins sp s sv pv ⟨18,a,b⟩):=by
 have HM:Hid (DS w (w.alloc (.cells #[.int .i64 18,.int .i64 a,.int .i64 b] 35)) mb B l iv ov ins sp ⟨18,a,b⟩ s sv pv sv pv):=DS.start h ⟨18,a,b⟩
 have c23:=h.c_pc
 have lm:=h.lt
 obtain ⟨q,g,hov,hq,hg,hqm,hgm⟩:=h.ops
 subst hov
 have HO:Hid (MM w mb B l iv (.map (some q)) ins sp s sv pv∧q<mb∧g<mb∧w.heap[q]?=some (.map (opsEs g) 5)∧w.heap[g]?=some (.cells #[.func (Fn.func 87) #[] #[]] 151 (0,0))):=⟨h,hq,hg,hqm,hgm⟩
 clear h hqm hgm hq hg
 go_enter Tryd.func49,Tryd.ntmps49
 go_wp2_with (go_at_call 48;refine (over_other _ mb 18 _ _ (by first | decide | omega) (by first | decide | omega) (by first | decide | omega)).mono ?_;rintro r w3 ⟨rfl,hb3⟩;have H3:Hid (DS _ w3 _ _ _ _ _ _ _ _ _ _ _ _ _):=HM.out.grow hb3;obtain ⟨x0,x1,x2,y0,y1,yf,ym,yx,yn⟩:=H3.out.reads;clear hb3)
 have H4:Hid (DS w (w3.setCell ⟨mb,23,none⟩ (.int .i64 ((s.pc:Int)+1))) _ _ _ _ _ _ _ _ _ _ _ _ _):=H3.out.setA1
 generalize hw4:(w3.setCell ⟨mb,23,none⟩ (.int .i64 ((s.pc:Int)+1)))=w4 at *
 clear hw4
 have hqk:=(H4.out.old HO.out.1 HO.out.2.1).trans HO.out.2.2.2.1
 obtain ⟨ku0,-,-,-,kv1,-,-,-,-⟩:=H4.out.reads
 have hlk:=look_none (w:=w4.drew) (z:=18) hqk (ops_none g (by omega))
 have hS0:w4.drew.cell? ⟨w.heap.size,0,none⟩=some (.int .i64 18)∧w4.drew.cell? ⟨mb,25,none⟩=some (.map (some q)):=⟨ku0,kv1⟩
 refine wp_region_noPanic ?_
 refine wp_region_held_drew (S:=fun w'=>w'.cell? ⟨w.heap.size,0,none⟩=some (.int .i64 18)∧w'.cell? ⟨mb,25,none⟩=some (.map (some q))) (by kernel_rfl) hS0 (fun hHeld=>?_)
 refine tk (i:=0) (n:=125) (v:=?_) ?_ ?_
 rotate_left 1
 ·intro wz hSw
  first | (go_simp;done) | (go_simp;with_reducible rfl)
 simp only [ls0,ls1]
 refine tk (i:=1) (n:=126) (v:=?_) ?_ ?_
 rotate_left 1
 ·intro wz hSw
  first | (go_simp;done) | (go_simp;with_reducible rfl)
 simp only [ls0,ls1]
 refine tk (i:=2) (n:=127) (v:=?_) ?_ ?_
 rotate_left 1
 ·intro wz hSw
  first | (go_simp;done) | (go_simp;with_reducible rfl)
 simp only [ls0,ls1]
 refine tk (i:=3) (n:=128) (v:=?_) ?_ ?_
 rotate_left 1
 ·intro wz hSw
  first | (go_simp;done) | (go_simp;with_reducible rfl)
 simp only [ls0,ls1]
 refine tk (i:=4) (n:=129) (v:=?_) ?_ ?_
 rotate_left 1
 ·intro wz hSw
  first | (go_simp;done) | (go_simp;with_reducible rfl)
 simp only [ls0,ls1]
 refine tk (i:=5) (n:=130) (v:=?_) ?_ ?_
 rotate_left 1
 ·intro wz hSw
  first | (go_simp;done) | (go_simp;with_reducible rfl)
 simp only [ls0,ls1]
 refine wpAnyH_ready (rs:=[6]) (by kernel_rfl) (by simp) ?_
 refine AllReadyH.cons rfl (fun K hK=>?_) AllReadyH.nil
 go_simp
 refine hK.out _ _ hS0 (fun hHeld=>?_)
 clear hK K
 refine tk (i:=7) (n:=124) (v:=?_) ?_ ?_
 rotate_left 1
 ·intro wz hSw
  first | (go_simp;done) | (go_simp;with_reducible rfl)
 simp only [ls0,ls1]
 refine tk (i:=8) (n:=132) (v:=?_) ?_ ?_
 rotate_left 1
 ·intro wz hSw
  first | (go_simp;done) | (go_simp;with_reducible rfl)
 simp only [ls0,ls1]
 refine tk (i:=9) (n:=133) (v:=?_) ?_ ?_
 rotate_left 1
 ·intro wz hSw
  first | (go_simp;done) | (go_simp;with_reducible rfl)
 simp only [ls0,ls1]
 refine tk (i:=10) (n:=5) (v:=?_) ?_ ?_
 rotate_left 1
 ·intro wz hSw
  first | (go_simp;done) | (go_simp;with_reducible rfl)
 simp only [ls0,ls1]
 refine tk (i:=11) (n:=6) (v:=?_) ?_ ?_
 rotate_left 1
 ·intro wz hSw
  first | (go_simp;done) | (go_simp;with_reducible rfl)
 simp only [ls0,ls1]
 refine wpAnyH_done (by kernel_rfl) ?_ _
 refine NoPanic.normal ?_
 go_wp2_with fail
 go_end0
 exact ⟨rfl,sv,pv,(H4.out.grow (Below.refl _ _).drew).mm,(H4.out.grow (Below.refl _ _).drew).mr⟩
end
end Go.Proofs.YtnkgbkkakokciacDoor
