import Derived.Test.YtnkgbkkakokciacDoorGMRunA
namespace Go.Proofs.YtnkgbkkakokciacDoor.B
open Go.ChangeShapes Go.WideShapes Go.ChangeAt Go.RowKit
def Ow (w:World) (B:Nat) (v:Value) (l:List Io):Prop:=w.ownsRow B 35 3 v l.length (insVs l)
theorem Ow.below {w w':World} {B:Nat} {v:Value} {l:List Io} (h:Ow w B v l) (hb:Below w.heap.size w w'):Ow w' B v l:=ownsRow_same h (fun k _ hk=>hb.block k hk)
theorem Ow.sl {w:World} {B:Nat} {v:Value} {l:List Io} (h:Ow w B v l):InSl w l v:=insR h rfl
end Go.Proofs.YtnkgbkkakokciacDoor.B
namespace Go.Proofs.YtnkgbkkakokciacDoor
open Go.ChangeShapes Go.WideShapes Go.ChangeAt Go.RowKit
theorem IntSl.below {w w':World} {vs:List Int} {v:Value} (h:IntSl w vs v) (hb:Below w.heap.size w w'):IntSl w' vs v:=by
 obtain ⟨ad,c,h1,h2⟩:=h
 refine ⟨ad,c,h1,?_⟩
 rcases h2 with h2 | ⟨b,o,h2,h3⟩
 ·exact .inl h2
 ·exact .inr ⟨b,o,h2,fun j hj=>below_cell hb (h3 j hj)⟩
structure RR (w W:World) (mb:Nat) (l:List In) (M:Int→Option Int) (iv ov:Value) (ins vars:List Int) (d:Nat) (s:MS) (t:Int) (sv pv:Value):Prop where
 mm:MM W mb (mb+1) l iv ov ins 0 s sv pv
 rb:RB w W
 mi:MI l M s
 ps:s.ps.length≤d
 tl:0≤t∧t≤1000*d
 run:runF l ins (20000 - d) s t=runF l ins 20000 (ms0 vars) 0
theorem RR.grow {w W W':World} {mb:Nat} {l:List In} {M:Int→Option Int} {iv ov:Value} {ins vars:List Int} {d:Nat} {s:MS} {t:Int} {sv pv:Value} (h:RR w W mb l M iv ov ins vars d s t sv pv) (hb:Below W.heap.size W W'):RR w W' mb l M iv ov ins vars d s t sv pv :=
 ⟨h.mm.grow hb,h.rb.grow hb,h.mi,h.ps,h.tl,h.run⟩
theorem mdo_ps (ins:List Int) (x:In) (s:MS):(mdo ins x s).ps.length≤s.ps.length+1:=by
 show (if x.op=10 then s.ps++[(x.a,s.top)] else s.ps).length≤_
 split <;> simp
theorem RR.step {w W W':World} {mb:Nat} {l:List In} {M:Int→Option Int} {iv ov:Value} {ins vars:List Int} {d:Nat} {s:MS} {t:Int} {sv pv sv' pv':Value} (h:RR w W mb l M iv ov ins vars d s t sv pv) (g:GoodI l M) (hlt:w.heap.size+1<mb) (hpc:s.pc<l.length) (hd:d<20000) (hm:MM W' mb (mb+1) l iv ov ins 0 (mdo ins (atI l s) s) sv' pv') (hr:MR mb W W' sv pv sv' pv') :
  RR w W' mb l M iv ov ins vars (d+1) (mdo ins (atI l s) s) (t+costI (atI l s) (overI (atI l s) s)) sv' pv':=by
 have hc:=cost_le (g.form _ hpc) (overI (atI l s) s)
 have hc':1≤costI (atI l s) (overI (atI l s) s)∧costI (atI l s) (overI (atI l s) s)≤1000:=hc
 refine ⟨hm,h.rb.move h.mm hr hlt,h.mi.step g hpc ins,Nat.le_trans (mdo_ps ins _ s) (by have:=h.ps;omega),by have:=h.tl;omega,?_⟩
 rw [← h.run,show 20000 - d=(20000 - (d+1))+1 by omega,run_at (by omega)]
theorem MM.next {w:World} {mb B:Nat} {l:List In} {iv ov:Value} {ins:List Int} {sp:Int} {s:MS} {sv pv:Value} (h:MM w mb B l iv ov ins sp s sv pv) (hpc:s.pc<l.length):∃ b o c,iv = .slice (some ⟨b,o,none⟩) l.length c∧w.cell? ⟨b,o+s.pc*3,none⟩=some (.int .i64 (atI l s).op)∧w.cell? ⟨b,o+s.pc*3+1,none⟩=some (.int .i64 (atI l s).a)∧w.cell? ⟨b,o+s.pc*3+2,none⟩=some (.int .i64 (atI l s).b):=by
 obtain ⟨⟨ad,c,rfl,h0 | ⟨b,o,rfl,h1⟩⟩,-⟩:=h.img
 ·rw [h0] at hpc;simp at hpc
 ·exact ⟨b,o,c,rfl,h1 _ hpc⟩
def RunPost (w:World) (l:List In) (ins vs:List Int) (r:Ending) (w':World):Prop:=Below w.heap.size w w'∧((∃ p,runF l ins 20000 (ms0 vs) 0 = .inl p∧r = .returned (failV 11 (p:Int))) ∨
 ∃ s t u q,runF l ins 20000 (ms0 vs) 0 = .inr (s,t)∧r = .returned (.tuple #[.agg #[u,q,.int .i64 t],.agg #[.int .i64 0,.int .i64 0]])∧w'.ownsRow w.heap.size 3 1 u s.vs.length (intVs s.vs)∧w'.ownsRow w.heap.size 43 2 q s.ps.length (putVs s.ps)∧(∀ k,u.ownBlock=some k→q.ownBlock≠some k)∧s.ps.length≤20000)
theorem ownsRow_low {w:World} {B B' n size:Nat} {e:TypeId} {v:Value} {xs:List Value} (h:w.ownsRow B e size v n xs) (hb:B'≤B):w.ownsRow B' e size v n xs:=by
 obtain ⟨hl,h | ⟨g,cap,cur,he,hB,hr⟩⟩:=h
 ·exact ⟨hl,.inl h⟩
 ·exact ⟨hl,.inr ⟨g,cap,cur,he,Nat.le_trans hb hB,hr⟩⟩
theorem RB.keeps {w W:World} {B n size:Nat} {e:TypeId} {v:Value} {xs:List Value} (hr:W.ownsRow B e size v n xs) (hB:w.heap.size+2≤B) (a0 a1 a2 c k:Value) :
  (((((W.setCell ⟨w.heap.size,0,none⟩ a0).setCell ⟨w.heap.size,1,none⟩ a1).setCell ⟨w.heap.size,2,none⟩ a2).setCell ⟨w.heap.size+1,0,none⟩ c).setCell ⟨w.heap.size+1,1,none⟩ k).ownsRow w.heap.size e size v n xs:=by
 refine ownsRow_low (ownsRow_same hr fun j hj _=>?_) (by omega)
 rw [Below.heap_setCell _ _ _ _ (by show j≠w.heap.size+1;omega),Below.heap_setCell _ _ _ _ (by show j≠w.heap.size+1;omega),Below.heap_setCell _ _ _ _ (by show j≠w.heap.size;omega),Below.heap_setCell _ _ _ _ (by show j≠w.heap.size;omega),Below.heap_setCell _ _ _ _ (by show j≠w.heap.size;omega)]
set_option maxRecDepth 20000 in
set_option maxHeartbeats 8000000 in
theorem Run_ok (w:World) (l:List In) (M:Int→Option Int) (iad:Option Addr) (ic:Nat) (vad nad:Option Addr) (vc nc:Nat) (vs ins:List Int) (g:GoodI l M) (hkk:KindsIn w) (h:InSl w l (.slice iad l.length ic)) (hnil:iad=none→l.length=0∧ic=0) (k:Int) (hc:checkI l=(0,k)) (hv:vs.length=8) (hi:ins.length=4) (hvs:IntSl w vs (.slice vad vs.length vc)) (hins:IntSl w ins (.slice nad ins.length nc)) :
  Calls Tryd.prog 13 #[.slice iad l.length ic,.slice vad 8 vc,.slice nad 4 nc] w (RunPost w l ins vs):=by
 have hlen:=g.len
 have HK:Hid (KindsIn w∧(InSl w l (.slice iad l.length ic)∧(iad=none→l.length=0∧ic=0))∧checkI l=(0,k)∧GoodI l M∧IntSl w vs (.slice vad vs.length vc)∧IntSl w ins (.slice nad ins.length nc)):=⟨hkk,⟨h,hnil⟩,hc,g,hvs,hins⟩
 clear hkk h hnil hc hvs hins
 have HG:Hid (GoodI l M):=g
 clear g
 go_enter Tryd.func13,Tryd.ntmps13
 go_wp2_with (go_at_call 19;refine (New_ok _ l _ _ vad nad vc nc vs ins (HK.out.1.below (RB.start w).bel) (HK.out.2.1.1.below (RB.start w).bel) HK.out.2.1.2 k HK.out.2.2.1 (by omega) hv hi (HK.out.2.2.2.2.1.below (RB.start w).bel) (HK.out.2.2.2.2.2.below (RB.start w).bel)).mono ?_;rintro r w9 ⟨mb,iv,ov,rfl,hmb,hmm9,hb9⟩;have H9:Hid (RR w w9 mb l M iv ov ins vs 0 (ms0 vs) 0 (.slice none 0 0) (.slice none 0 0)):=⟨hmm9,(RB.start w).grow hb9,MI.start HG.out hv,Nat.zero_le _,by omega,rfl⟩;clear hb9 hmm9)
 have hmb':w.heap.size+1<mb:=by simp at hmb;omega
 have H1:Hid (RR w (w9.alloc (.cells #[.int .i64 0,.int .i64 0] 30)) mb l M iv ov ins vs 0 (ms0 vs) 0 (.slice none 0 0) (.slice none 0 0)):=H9.out.grow (below_new _ _)
 clear H9 hmb
 generalize (w9.alloc (.cells #[.int .i64 0,.int .i64 0] 30))=w1 at *
 go_loopw [10,11] (fun t i wr=>∃ (d:Nat) (tk:Int) (s:MS) (sv pv:Value),d≤20000∧t = .int .i64 tk∧i = .int .i64 d∧RR w wr mb l M iv ov ins vs d s tk sv pv) (fun _ i _=>20000 - (intOf i).toNat)
 case atStart=>exact ⟨0,0,_,_,_,Nat.zero_le _,rfl,rfl,H1.out⟩
 case round =>
  clear H1
  obtain ⟨d,tk,s,sv,pv,hd,rfl,rfl,hrr⟩:=hrel
  have htl:=hrr.tl
  have HS:Hid (RR w wr mb l M iv ov ins vs d s tk sv pv):=hrr
  clear hrr
  by_cases hpc:s.pc=l.length
  ·have hdn:decide (s.pc=l.length)=true:=by simpa using hpc
   have HE:Hid (runF l ins 20000 (ms0 vs) 0 = .inr (s,tk)):=HS.out.run.symm.trans (run_end hpc)
   clear hpc
   go_wp2_with (first
    | (go_at_call 23;refine (Done_any _ mb (mb+1) l iv ov ins 0 s sv pv HS.out.mm).mono ?_;rw [hdn];rintro r w2 ⟨rfl,hb2⟩;have H2:Hid (RR w w2 mb l M iv ov ins vs d s tk sv pv):=HS.out.grow hb2;clear hb2)
    | (go_at_call 50;refine (Vars_any _ mb (mb+1) l iv ov ins 0 s sv pv H2.out.mm).mono ?_;rintro r w3 ⟨u,rfl,hu,hb3⟩;obtain ⟨ua,uc,eu⟩:=owns_value hu;subst eu;have l23:w2.heap.size≤w3.heap.size:=hb3.size;have H3:Hid (RR w w3 mb l M iv ov ins vs d s tk sv pv∧w3.ownsRow w2.heap.size 3 1 (.slice ua s.vs.length uc) s.vs.length (intVs s.vs)):=⟨H2.out.grow hb3,hu⟩;clear hb3 hu)
    | (go_at_call 51;refine (Puts_any _ mb (mb+1) l iv ov ins 0 s sv pv H3.out.1.mm (by have:=H3.out.1.ps;omega)).mono ?_;rintro r w4 ⟨q,rfl,hq,hb4⟩;obtain ⟨qa,qc,eq⟩:=owns_value hq;subst eq;have H4:Hid (RR w w4 mb l M iv ov ins vs d s tk sv pv∧w4.ownsRow w2.heap.size 3 1 (.slice ua s.vs.length uc) s.vs.length (intVs s.vs)∧w4.ownsRow w3.heap.size 43 2 (.slice qa s.ps.length qc) s.ps.length (putVs s.ps)):=⟨H3.out.1.grow hb4,ownsRow_same H3.out.2 (fun k _ hk=>hb4.block k hk),hq⟩;obtain ⟨rs9,rf9,rl9⟩:=cells_of (l:=[_,_]) H4.out.1.rb.r7;obtain ⟨rt9,rg9,rm9⟩:=cells_of (l:=[_,_,_]) H4.out.1.rb.r6;have r90:=rs9 0 _ rfl;have r91:=rs9 1 _ rfl;have r60:=rt9 0 _ rfl;have r61:=rt9 1 _ rfl;have r62:=rt9 2 _ rfl;clear hb4 hq rs9 rt9))
   have l2:w.heap.size+2≤w2.heap.size:=by have:=H2.out.mm.lt;omega
   have l3:w2.heap.size≤w3.heap.size:=by have:=H3.out.1.mm.lt;exact l23
   obtain ⟨t1,t2,t3⟩:=H4.out.1.rb.tell (.slice ua s.vs.length uc) (.slice qa s.ps.length qc) (.int .i64 tk) (.int .i64 0) (.int .i64 0)
   refine bodyPost_ret (v:=.tuple #[.agg #[.slice ua s.vs.length uc,.slice qa s.ps.length qc,.int .i64 tk],.agg #[.int .i64 0,.int .i64 0]]) (Run_ends t1 t2 rfl rfl) rfl ⟨t3,.inr ⟨s,tk,_,_,HE.out,rfl,RB.keeps H4.out.2.1 l2 _ _ _ _ _,RB.keeps H4.out.2.2 (by omega) _ _ _ _ _,fun k hk hk'=>?_,by have:=H4.out.1.ps;omega⟩⟩
   have h1:=(H3.out.2.lt k hk).2
   have h2:=(H4.out.2.2.lt k hk').1
   omega
  ·have hlt:s.pc<l.length:=by have:=HS.out.mi.pc;omega
   have hdn:decide (s.pc=l.length)=false:=by simpa using hpc
   by_cases hd2:d=20000
   ·have hdb:((d:Int) == 20000)=true:=by rw [hd2];rfl
    have HE:Hid (runF l ins 20000 (ms0 vs) 0 = .inl s.pc):=HS.out.run.symm.trans (by rw [hd2,Nat.sub_self,runF,if_neg hpc])
    clear hpc
    go_wp2_with (go_at_call 23;refine (Done_any _ mb (mb+1) l iv ov ins 0 s sv pv HS.out.mm).mono ?_;rw [hdn];rintro r w2 ⟨rfl,hb2⟩;have H2:Hid (RR w w2 mb l M iv ov ins vs d s tk sv pv):=HS.out.grow hb2;clear hb2)
    have c23:=H2.out.mm.c_pc
    have lmb:=H2.out.mm.lt
    obtain ⟨rs9,rf9,rl9⟩:=cells_of (l:=[_,_]) H2.out.rb.r7
    obtain ⟨rt9,rg9,rm9⟩:=cells_of (l:=[_,_,_]) H2.out.rb.r6
    have r90:=rs9 0 _ rfl
    have r91:=rs9 1 _ rfl
    have r60:=rt9 0 _ rfl
    have r61:=rt9 1 _ rfl
    have r62:=rt9 2 _ rfl
    clear rs9 rt9
    refine wp_region_noPanic ?_
    refine wp_region_held_drew (S:=fun w'=>w'.cell? ⟨mb,23,none⟩=some (.int .i64 (s.pc:Int))) (by kernel_rfl) (show w2.drew.cell? ⟨mb,23,none⟩=some (.int .i64 (s.pc:Int)) from c23) (fun hHeld=>?_)
    refine Go.Proofs.YtnkgbkkakokciacDoor.tk (i:=0) (n:=32) (v:=?_) ?_ ?_
    rotate_left 1
    ·intro wz hSw
     first | (go_simp;done) | (go_simp;with_reducible rfl)
    simp only [ls0,ls1]
    refine Go.Proofs.YtnkgbkkakokciacDoor.tk (i:=1) (n:=33) (v:=?_) ?_ ?_
    rotate_left 1
    ·intro wz hSw
     first | (go_simp;done) | (go_simp;with_reducible rfl)
    simp only [ls0,ls1]
    refine Go.Proofs.YtnkgbkkakokciacDoor.tk (i:=2) (n:=34) (v:=?_) ?_ ?_
    rotate_left 1
    ·intro wz hSw
     first | (go_simp;done) | (go_simp;with_reducible rfl)
    simp only [ls0,ls1]
    refine Go.Proofs.YtnkgbkkakokciacDoor.tk (i:=3) (n:=35) (v:=?_) ?_ ?_
    rotate_left 1
    ·intro wz hSw
     first | (go_simp;done) | (go_simp;with_reducible rfl)
    simp only [ls0,ls1]
    refine Go.Proofs.YtnkgbkkakokciacDoor.tk (i:=4) (n:=36) (v:=?_) ?_ ?_
    rotate_left 1
    ·intro wz hSw
     first | (go_simp;done) | (go_simp;with_reducible rfl)
    simp only [ls0,ls1]
    refine Go.Proofs.YtnkgbkkakokciacDoor.tk (i:=5) (n:=37) (v:=?_) ?_ ?_
    rotate_left 1
    ·intro wz hSw
     first | (go_simp;done) | (go_simp;with_reducible rfl)
    simp only [ls0,ls1]
    refine wpAnyH_ready (rs:=[6]) (by kernel_rfl) (by simp) ?_
    refine AllReadyH.cons rfl (fun K hK=>?_) AllReadyH.nil
    go_simp
    refine hK.out _ ((((w2.setCell ⟨w.heap.size,0,none⟩ (.slice none 0 0)).setCell ⟨w.heap.size,1,none⟩ (.slice none 0 0)).setCell ⟨w.heap.size,2,none⟩ (.int .i64 0)).drew) (by go_simp) (fun hHeld=>?_)
    clear hK K
    refine wpAnyH_ready (rs:=[7]) (by kernel_rfl) (by simp) ?_
    refine AllReadyH.cons rfl (fun K hK=>?_) AllReadyH.nil
    go_simp
    refine hK.out _ ((((((w2.setCell ⟨w.heap.size,0,none⟩ (.slice none 0 0)).setCell ⟨w.heap.size,1,none⟩ (.slice none 0 0)).setCell ⟨w.heap.size,2,none⟩ (.int .i64 0)).setCell ⟨w.heap.size+1,0,none⟩ (.int .i64 11)).setCell ⟨w.heap.size+1,1,none⟩ (.int .i64 (s.pc:Int))).drew) (by go_simp) (fun hHeld=>?_)
    clear hK K
    refine wpAnyH_done (by kernel_rfl) ?_ _
    refine NoPanic.normal ?_
    go_wp2_with fail
    obtain ⟨t1,t2,t3⟩:=H2.out.rb.tell (.slice none 0 0) (.slice none 0 0) (.int .i64 0) (.int .i64 11) (.int .i64 (s.pc:Int))
    exact bodyPost_ret (v:=failV 11 (s.pc:Int)) (Run_ends t1 t2 rfl rfl) rfl ⟨t3.drew,.inl ⟨s.pc,HE.out,rfl⟩⟩
   ·have hdb:((d:Int) == 20000)=false:=by simp;omega
    go_wp2_with (go_at_call 23;refine (Done_any _ mb (mb+1) l iv ov ins 0 s sv pv HS.out.mm).mono ?_;rw [hdn];rintro r w2 ⟨rfl,hb2⟩;have H2:Hid (RR w w2 mb l M iv ov ins vs d s tk sv pv):=HS.out.grow hb2;clear hb2)
    obtain ⟨ib,io,icc,hiv,x0,x1,x2⟩:=H2.out.mm.next hlt
    subst hiv
    obtain ⟨hform,htk,hht,hnx⟩:=MI.here HG.out H2.out.mi hlt
    have hstl:s.st.length≤1000:=by have t1:=takes_le (m:=(atI l s).op.toNat) (by have:=form_op hform;omega);omega
    have c23:=H2.out.mm.c_pc
    have c0:=H2.out.mm.c_iv
    have lmb:=H2.out.mm.lt
    have hli:(s.pc:Int)<(l.length:Int):=by omega
    generalize hx:atI l s=x at *
    have HX:Hid (atI l s=x):=hx
    clear hx
    obtain ⟨xo,xa,xb⟩:=x
    dsimp only at x0 x1 x2
    refine wp_region_noPanic ?_
    refine wp_region_held_drew (S:=fun w'=>w'.cell? ⟨mb,0,none⟩=some (.slice (some ⟨ib,io,none⟩) l.length icc)∧w'.cell? ⟨mb,23,none⟩=some (.int .i64 (s.pc:Int))∧w'.cell? ⟨ib,io+s.pc*3,none⟩=some (.int .i64 xo)∧w'.cell? ⟨ib,io+s.pc*3+1,none⟩=some (.int .i64 xa)∧w'.cell? ⟨ib,io+s.pc*3+2,none⟩=some (.int .i64 xb)) (by kernel_rfl) (show w2.drew.cell? ⟨mb,0,none⟩=some (.slice (some ⟨ib,io,none⟩) l.length icc)∧w2.drew.cell? ⟨mb,23,none⟩=some (.int .i64 (s.pc:Int))∧w2.drew.cell? ⟨ib,io+s.pc*3,none⟩=some (.int .i64 xo)∧w2.drew.cell? ⟨ib,io+s.pc*3+1,none⟩=some (.int .i64 xa)∧w2.drew.cell? ⟨ib,io+s.pc*3+2,none⟩=some (.int .i64 xb) from ⟨c0,c23,x0,x1,x2⟩) (fun hHeld=>?_)
    refine Go.Proofs.YtnkgbkkakokciacDoor.tk (i:=0) (n:=38) (v:=?_) ?_ ?_
    rotate_left 1
    ·intro wz hSw
     first | (go_simp;done) | (go_simp;with_reducible rfl)
    simp only [ls0,ls1]
    refine Go.Proofs.YtnkgbkkakokciacDoor.tk (i:=1) (n:=39) (v:=?_) ?_ ?_
    rotate_left 1
    ·intro wz hSw
     first | (go_simp;done) | (go_simp;with_reducible rfl)
    simp only [ls0,ls1]
    refine Go.Proofs.YtnkgbkkakokciacDoor.tk (i:=2) (n:=40) (v:=?_) ?_ ?_
    rotate_left 1
    ·intro wz hSw
     first | (go_simp;done) | (go_simp;with_reducible rfl)
    simp only [ls0,ls1]
    refine Go.Proofs.YtnkgbkkakokciacDoor.tk (i:=3) (n:=41) (v:=?_) ?_ ?_
    rotate_left 1
    ·intro wz hSw
     first | (go_simp;done) | (go_simp;with_reducible rfl)
    simp only [ls0,ls1]
    refine Go.Proofs.YtnkgbkkakokciacDoor.tk (i:=4) (n:=42) (v:=?_) ?_ ?_
    rotate_left 1
    ·intro wz hSw
     first | (go_simp;done) | (go_simp;with_reducible rfl)
    simp only [ls0,ls1]
    refine Go.Proofs.YtnkgbkkakokciacDoor.tk (i:=5) (n:=43) (v:=?_) ?_ ?_
    rotate_left 1
    ·intro wz hSw
     first | (go_simp;done) | (go_simp;with_reducible rfl)
    simp only [ls0,ls1]
    refine Go.Proofs.YtnkgbkkakokciacDoor.tk (i:=6) (n:=44) (v:=?_) ?_ ?_
    rotate_left 1
    ·intro wz hSw
     first | (go_simp;done) | (go_simp;with_reducible rfl)
    simp only [ls0,ls1]
    refine Go.Proofs.YtnkgbkkakokciacDoor.tk (i:=7) (n:=45) (v:=?_) ?_ ?_
    rotate_left 1
    ·intro wz hSw
     first | (go_simp;done) | (go_simp;with_reducible rfl)
    simp only [ls0,ls1]
    refine Go.Proofs.YtnkgbkkakokciacDoor.tk (i:=8) (n:=46) (v:=?_) ?_ ?_
    rotate_left 1
    ·intro wz hSw
     first | (go_simp;done) | (go_simp;with_reducible rfl)
    simp only [ls0,ls1]
    refine Go.Proofs.YtnkgbkkakokciacDoor.tk (i:=9) (n:=47) (v:=?_) ?_ ?_
    rotate_left 1
    ·intro wz hSw
     first | (go_simp;done) | (go_simp;with_reducible rfl)
    simp only [ls0,ls1]
    refine wpAnyH_ready (rs:=[10]) (by kernel_rfl) (by simp) ?_
    refine AllReadyH.cons rfl (fun K hK=>?_) AllReadyH.nil
    go_simp
    refine hK.out _ ((w2.alloc (.cells #[.int .i64 0,.int .i64 0,.int .i64 0] 35)).drew) ⟨below_cell (below_new w2 (.cells #[.int .i64 0,.int .i64 0,.int .i64 0] 35)) c0,below_cell (below_new w2 (.cells #[.int .i64 0,.int .i64 0,.int .i64 0] 35)) c23,below_cell (below_new w2 (.cells #[.int .i64 0,.int .i64 0,.int .i64 0] 35)) x0,below_cell (below_new w2 (.cells #[.int .i64 0,.int .i64 0,.int .i64 0] 35)) x1,below_cell (below_new w2 (.cells #[.int .i64 0,.int .i64 0,.int .i64 0] 35)) x2⟩ (fun hHeld=>?_)
    clear hK K
    refine wpAnyH_ready (rs:=[11]) (by kernel_rfl) (by simp) ?_
    refine AllReadyH.cons rfl (fun K hK=>?_) AllReadyH.nil
    go_simp
    refine hK.out _ ((w2.alloc (.cells #[.int .i64 xo,.int .i64 xa,.int .i64 xb] 35)).drew) ⟨below_cell (below_new w2 (.cells #[.int .i64 xo,.int .i64 xa,.int .i64 xb] 35)) c0,below_cell (below_new w2 (.cells #[.int .i64 xo,.int .i64 xa,.int .i64 xb] 35)) c23,below_cell (below_new w2 (.cells #[.int .i64 xo,.int .i64 xa,.int .i64 xb] 35)) x0,below_cell (below_new w2 (.cells #[.int .i64 xo,.int .i64 xa,.int .i64 xb] 35)) x1,below_cell (below_new w2 (.cells #[.int .i64 xo,.int .i64 xa,.int .i64 xb] 35)) x2⟩ (fun hHeld=>?_)
    clear hK K
    refine wpAnyH_done (by kernel_rfl) ?_ _
    refine NoPanic.normal ?_
    have H3:Hid (RR w (w2.alloc (.cells #[.int .i64 xo,.int .i64 xa,.int .i64 xb] 35)).drew mb l M (.slice (some ⟨ib,io,none⟩) l.length icc) ov ins vs d s tk sv pv):=H2.out.grow (below_new _ _).drew
    obtain ⟨y0,y1,y2⟩:(w2.alloc (.cells #[.int .i64 xo,.int .i64 xa,.int .i64 xb] 35)).drew.cell? ⟨w2.heap.size,0,none⟩=some (.int .i64 xo)∧(w2.alloc (.cells #[.int .i64 xo,.int .i64 xa,.int .i64 xb] 35)).drew.cell? ⟨w2.heap.size,1,none⟩=some (.int .i64 xa)∧(w2.alloc (.cells #[.int .i64 xo,.int .i64 xa,.int .i64 xb] 35)).drew.cell? ⟨w2.heap.size,2,none⟩=some (.int .i64 xb):=⟨by go_simp,by go_simp,by go_simp⟩
    clear x0 x1 x2 c23 c0
    generalize hw3:(w2.alloc (.cells #[.int .i64 xo,.int .i64 xa,.int .i64 xb] 35)).drew=w3 at *
    clear hw3
    go_wp2_with fail
    refine wp_region_noPanic ?_
    refine wp_region_held_drew (S:=fun w'=>w'.cell? ⟨w2.heap.size,0,none⟩=some (.int .i64 xo)∧w'.cell? ⟨w2.heap.size,1,none⟩=some (.int .i64 xa)∧w'.cell? ⟨w2.heap.size,2,none⟩=some (.int .i64 xb)) (by kernel_rfl) (show w3.drew.cell? ⟨w2.heap.size,0,none⟩=some (.int .i64 xo)∧w3.drew.cell? ⟨w2.heap.size,1,none⟩=some (.int .i64 xa)∧w3.drew.cell? ⟨w2.heap.size,2,none⟩=some (.int .i64 xb) from ⟨y0,y1,y2⟩) (fun hHeld=>?_)
    refine Go.Proofs.YtnkgbkkakokciacDoor.tk (i:=0) (n:=48) (v:=?_) ?_ ?_
    rotate_left 1
    ·intro wz hSw
     first | (go_simp;done) | (go_simp;with_reducible rfl)
    simp only [ls0,ls1]
    refine Go.Proofs.YtnkgbkkakokciacDoor.tk (i:=1) (n:=49) (v:=?_) ?_ ?_
    rotate_left 1
    ·intro wz hSw
     first | (go_simp;done) | (go_simp;with_reducible rfl)
    simp only [ls0,ls1]
    refine Go.Proofs.YtnkgbkkakokciacDoor.tk (i:=2) (n:=50) (v:=?_) ?_ ?_
    rotate_left 1
    ·intro wz hSw
     first | (go_simp;done) | (go_simp;with_reducible rfl)
    simp only [ls0,ls1]
    refine Go.Proofs.YtnkgbkkakokciacDoor.tk (i:=3) (n:=51) (v:=?_) ?_ ?_
    rotate_left 1
    ·intro wz hSw
     first | (go_simp;done) | (go_simp;with_reducible rfl)
    simp only [ls0,ls1]
    refine wpAnyH_ready (rs:=[4]) (by kernel_rfl) (by simp) ?_
    refine AllReadyH.cons rfl (fun K hK=>?_) AllReadyH.nil
    go_simp
    have H3d:Hid (RR w w3.drew mb l M (.slice (some ⟨ib,io,none⟩) l.length icc) ov ins vs d s tk sv pv):=H3.out.grow (Below.refl _ _).drew
    go_wp2_with (go_at_call 48;refine (over_any _ mb (mb+1) l _ ov ins 0 s sv pv ⟨xo,xa,xb⟩ H3d.out.mm hform htk (by omega)).mono ?_;rintro r w4 ⟨rfl,hb4⟩;have H4:Hid (RR w w4 mb l M (.slice (some ⟨ib,io,none⟩) l.length icc) ov ins vs d s tk sv pv):=H3d.out.grow hb4;have hS4:=(⟨below_cell hb4 y0,below_cell hb4 y1,below_cell hb4 y2⟩:_∧_∧_);clear hb4)
    refine hK.out _ _ hS4 (fun hHeld=>?_)
    clear hK K
    generalize hov:overI ⟨xo,xa,xb⟩ s=ovr at *
    have HO:Hid (_=_):=hov
    clear hov
    refine wpAnyH_ready (rs:=[5]) (by kernel_rfl) (by simp) ?_
    refine AllReadyH.cons rfl (fun K hK=>?_) AllReadyH.nil
    go_simp
    go_wp2_with (go_at_call 28;refine (cost_any _ ⟨xo,xa,xb⟩ ovr (HK.out.1.below H4.out.rb.bel) hform).mono ?_;rintro r w5 ⟨rfl,hb5⟩;have H5:Hid (RR w w5 mb l M (.slice (some ⟨ib,io,none⟩) l.length icc) ov ins vs d s tk sv pv):=H4.out.grow hb5;have hS5:=(⟨below_cell hb5 hS4.1,below_cell hb5 hS4.2.1,below_cell hb5 hS4.2.2⟩:_∧_∧_);clear hb5)
    refine hK.out _ _ hS5 (fun hHeld=>?_)
    clear hK K
    have hcz:=cost_le hform ovr
    generalize hco:costI ⟨xo,xa,xb⟩ ovr=cz at *
    have HC:Hid (_=_):=hco
    clear hco
    refine Go.Proofs.YtnkgbkkakokciacDoor.tk (i:=6) (n:=54) (v:=?_) ?_ ?_
    rotate_left 1
    ·intro wz hSw
     first | (go_simp;done) | (go_simp;with_reducible rfl)
    simp only [ls0,ls1]
    refine Go.Proofs.YtnkgbkkakokciacDoor.tk (i:=7) (n:=10) (v:=?_) ?_ ?_
    rotate_left 1
    ·intro wz hSw
     first | (go_simp;done) | (go_simp;with_reducible rfl)
    simp only [ls0,ls1]
    refine wpAnyH_done (by kernel_rfl) ?_ _
    refine NoPanic.normal ?_
    obtain ⟨q0,q1,q2⟩:=hS5
    go_wp2_with (go_at_call 49;refine (do_any _ mb (mb+1) l _ ov ins 0 s sv pv ⟨xo,xa,xb⟩ H5.out.mm hform htk hstl (by omega) (by have:=H5.out.ps;omega) H5.out.mi.low).mono ?_;rintro r w6 ⟨rfl,sv6,pv6,hm6,hr6⟩;have H6:Hid (MM w6 mb (mb+1) l _ ov ins 0 (mdo ins ⟨xo,xa,xb⟩ s) sv6 pv6∧MR mb w5 w6 sv pv sv6 pv6):=⟨hm6,hr6⟩;clear hm6 hr6)
    go_roundw
    case rel =>
     have hst:=H5.out.step HG.out hmb' hlt (by omega) (by rw [HX.out];exact H6.out.1) H6.out.2
     rw [HX.out,HO.out,HC.out] at hst
     have hwr:IntKind.i64.wrap (tk+cz)=tk+cz:=by rw [IntKind.wrap_i64];omega
     exact ⟨d+1,_,_,sv6,pv6,by omega,congrArg (Value.int .i64) hwr,by go_num,hst⟩
    case measure=>simp [intOf];omega
end Go.Proofs.YtnkgbkkakokciacDoor
