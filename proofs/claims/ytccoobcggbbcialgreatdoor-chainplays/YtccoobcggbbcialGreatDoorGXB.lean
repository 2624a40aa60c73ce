import Derived.Test.YtccoobcggbbcialGreatDoorGHB0
import Derived.Test.YtccoobcggbbcialGreatDoorGXR
namespace Go.Proofs.YtccoobcggbbcialGreatDoor
open Go.ChangeShapes Go.WideShapes Go.ChangeAt Go.RowKit
theorem CheckC_ends{w:World}{g:Nat}{c k:Value}{a:Act}(h:w.heap[g]?=some (.cells #[c,k] 33 (0,0)))(h3:a.tmps[2]?.getD undef = .pointer (some ⟨g,0,none⟩)) :
  (results Tryz.f86 a.tmps).run Tryz.prog w = .ok (.agg #[c,k]) w:=by
 obtain⟨c1,f1,l1⟩:=cells_of (l:=[_,_]) h
 have c10:=c1 0 _ rfl
 have c11:=c1 1 _ rfl
 simp[results,Tryz.results86,go_sem,h3,c10,c11]
theorem FB.res2{w W:World}{g:Nat}(h:FB w W g):W.cell? ⟨g,0,none⟩=some (.int .i64 0)∧W.cell? ⟨g,1,none⟩=some (.int .i64 0)∧W.frozen? ⟨g,0,none⟩=false∧W.frozen? ⟨g,1,none⟩=false∧g<W.heap.size:=by
 obtain⟨c,f,l⟩:=cells_of (l:=[_,_]) h.res
 exact⟨c 0 _ rfl,c 1 _ rfl,f 0,f 1,l⟩
theorem rowP_take{W:World}{l:List Pa}{ad:Option Addr}{c j:Nat}(h:RowSl Pa.vals W l (.slice ad l.length c))(hj:j≤l.length)(hl:0<l.length):RowSl Pa.vals W (l.take j) (.slice ad j c):=by
 obtain⟨ad',c',he,hn,hcap,hrow⟩:=h
 cases he
 rcases hrow with h|⟨b,o,rfl,hrow⟩
 ·rw[h]at hl;simp at hl
 ·have hlt:(l.take j).length=j:=by rw[List.length_take];omega
  refine⟨_,c,by rw[hlt],(fun e=>by cases e),by omega,.inr ⟨b,o,rfl,fun q u hq=>hrow q u ?_⟩⟩
  have e1:l.flatMap Pa.vals=(l.take j).flatMap Pa.vals++(l.drop j).flatMap Pa.vals:=by rw[← List.flatMap_append,List.take_append_drop]
  rw[e1,List.getElem?_append_left (List.getElem?_eq_some_iff.1 hq).1]
  exact hq
set_option maxRecDepth 20000 in
set_option maxHeartbeats 8000000 in
theorem CheckC_any(w:World)(l:List Pa)(v:Value)(hv:RowSl Pa.vals w l v):Calls Tryz.prog 86 #[v] w fun r w'=>r = .returned (.agg #[.int .i64 (chkP l).1,.int .i64 (chkP l).2])∧Below w.heap.size w w':=by
 obtain⟨ad,c,rfl⟩:=hv.len
 have HV:Hid (RowSl Pa.vals w l (.slice ad l.length c)):=hv
 have H0:Hid (FB w (w.alloc (.cells #[.int .i64 0,.int .i64 0] 33)) w.heap.size):=FB.start w
 clear hv
 obtain⟨z1,hz1⟩:∃z1,(chkP l).1=z1:=⟨_,rfl⟩
 obtain⟨z2,hz2⟩:∃z2,(chkP l).2=z2:=⟨_,rfl⟩
 have HZ:Hid (chkP l=(z1,z2)):=Prod.ext hz1 hz2
 rw[hz1,hz2]
 clear hz1 hz2
 rcases hw:within (l.length:Int) 1 8 with _|_
 ·have h9:((2:Int),(0:Int))=(z1,z2):=by rw[← HZ.out];unfold chkP;rw[if_pos hw]
  obtain⟨rfl,rfl⟩:=Prod.mk.inj h9
  go_enter Tryz.func86,Tryz.ntmps86
  go_wp2_with (go_at_call 91;refine(withinC_any _ _ _ _).mono ?_;rintro r w1 ⟨rfl,rfl⟩;rw[hw])
  refine bodyPost_ret (CheckC_ends (heap_alloc_new _ _) rfl) rfl ?_
  exact⟨rfl,below_new _ _⟩
 have hl8:1≤l.length∧l.length≤8:=by
  unfold within at hw
  simp at hw
  omega
 have HC:Hid (chkGo [] l=(z1,z2)):=by
  have h9:chkGo [] l=(z1,z2):=by rw[← HZ.out];unfold chkP;rw[if_neg (by rw[hw];simp)]
  exact h9
 go_enter Tryz.func86,Tryz.ntmps86
 go_wp2_with (go_at_call 91;refine(withinC_any _ _ _ _).mono ?_;rintro r w1 ⟨rfl,hw1⟩;have hw2:=hw1.symm;clear hw1;rw[hw])
 have H1:Hid (FB w w1 w.heap.size):=by rw[← hw2];exact H0
 clear hw2 H0
 go_loopw [13] (fun iv wr=>∃j:Nat,j≤l.length∧iv = .int .i64 (j:Int)∧FB w wr w.heap.size∧chkGo (l.take j) (l.drop j)=chkGo [] l) (fun iv _=>l.length-(intOf iv).toNat)
 case atStart=>exact⟨0,Nat.zero_le _,rfl,H1.out,rfl⟩
 case round =>
  obtain⟨j,hj,rfl,hfb,hgo⟩:=hrel
  have HP:Hid (FB w wr w.heap.size∧chkGo (l.take j) (l.drop j)=chkGo [] l):=⟨hfb,hgo⟩
  clear hfb hgo H1
  by_cases hjl:j<l.length
  ·obtain⟨x,hx,hdr⟩:=drop_at hjl
   have htk:l.take (j+1)=l.take j++[x]:=by rw[List.take_add_one,hx];rfl
   have hvt:=rowP_take HV.out hj (by omega)
   obtain⟨ad',c',he,-,hcap,hrow⟩:=HV.out
   cases he
   rcases hrow with h|⟨b,o,rfl,hrow⟩
   ·rw[h]at hjl;simp at hjl
   obtain⟨y0,y1,y2,y3,y4,y5,y6⟩:=pa7_at (fun q u hq=>below_cell HP.out.1.bel (hrow q u hq)) hx
   have HX:Hid (l.drop j=x::l.drop (j+1)∧l.take (j+1)=l.take j++[x]):=⟨hdr,htk⟩
   have lb:b<wr.heap.size:=World.block_lt_of_cell? _ _ y0
   have hji:(j:Int)<(l.length:Int):=by omega
   have hcj:j≤c:=by omega
   have hjc:(j:Int)≤(c:Int):=by omega
   have HF0:Hid (∀W W',Below w.heap.size w W→Below W.heap.size W W'→Calls Tryz.prog 144 #[x.val,.slice (some ⟨b,o,none⟩) j c] W' fun r w'=>r = .returned (.int .i64 (wrongP x (l.take j)))∧Below W'.heap.size W' w'):=fun W W' h1 h2=>wrongC_any W' x (l.take j) _ (by rw[List.length_take];omega) ((hvt.below h1).below h2)
   clear hrow hx htk hvt hdr
   obtain⟨fc,hfc⟩:∃fc,wrongP x (l.take j)=fc:=⟨_,rfl⟩
   have HFC:Hid (wrongP x (l.take j)=fc):=hfc
   rw[hfc]at HF0
   clear hfc
   obtain⟨co,fr,se,c',t,d,p⟩:=x
   unfold Pa.val at HF0
   dsimp only at y0 y1 y2 y3 y4 y5 y6 HF0
   go_upto_region 6 with fail
   have H3:Hid (FB w (wr.alloc (.cells #[.int .i64 co,.int .i64 fr,.int .i64 se,.int .i64 c',.int .i64 t,.int .i64 d,.int .i64 p] 66)) w.heap.size∧(wr.alloc (.cells #[.int .i64 co,.int .i64 fr,.int .i64 se,.int .i64 c',.int .i64 t,.int .i64 d,.int .i64 p] 66)).heap[wr.heap.size]?=some (.cells #[.int .i64 co,.int .i64 fr,.int .i64 se,.int .i64 c',.int .i64 t,.int .i64 d,.int .i64 p] 66 (0,0))):=⟨HP.out.1.grow (below_new _ _),heap_alloc_new _ _⟩
   clear y0 y1 y2 y3 y4 y5 y6 lb
   generalize wr.alloc (.cells #[.int .i64 co,.int .i64 fr,.int .i64 se,.int .i64 c',.int .i64 t,.int .i64 d,.int .i64 p] 66)=w3 at *
   generalize wr.heap.size=gt at *
   obtain⟨xs,-,xl⟩:=cells_of (l:=[_,_,_,_,_,_,_]) H3.out.2
   have x0:=xs 0 _ rfl
   have x1:=xs 1 _ rfl
   have x2:=xs 2 _ rfl
   have x3:=xs 3 _ rfl
   have x4:=xs 4 _ rfl
   have x5:=xs 5 _ rfl
   have x6:=xs 6 _ rfl
   clear xs
   have HF:Hid (∀W,Below w3.heap.size w3 W→Calls Tryz.prog 144 #[.agg #[.int .i64 co,.int .i64 fr,.int .i64 se,.int .i64 c',.int .i64 t,.int .i64 d,.int .i64 p],.slice (some ⟨b,o,none⟩) j c] W fun r w'=>r = .returned (.int .i64 fc)∧Below W.heap.size W w'):=fun W h=>HF0.out w3 W H3.out.1.bel h
   refine wp_region_noPanic ?_
   refine wp_region_held_drew (S:=fun w'=>w'.cell? ⟨gt,0,none⟩=some (.int .i64 co)∧w'.cell? ⟨gt,1,none⟩=some (.int .i64 fr)∧w'.cell? ⟨gt,2,none⟩=some (.int .i64 se)∧w'.cell? ⟨gt,3,none⟩=some (.int .i64 c')∧w'.cell? ⟨gt,4,none⟩=some (.int .i64 t)∧w'.cell? ⟨gt,5,none⟩=some (.int .i64 d)∧w'.cell? ⟨gt,6,none⟩=some (.int .i64 p)) (by kernel_rfl) ⟨by go_simp,by go_simp,by go_simp,by go_simp,by go_simp,by go_simp,by go_simp⟩ (fun hHeld=>?_)
   refine tk (i:=0) (n:=18) (v:=?_) ?_ ?_
   rotate_left 1
   ·intro wz hSw
    obtain⟨s0,s1,s2,s3,s4,s5,s6⟩:=hSw
    first|(go_simp;done)|(go_simp;with_reducible rfl)
   simp only[ls0,ls1]
   refine tk (i:=1) (n:=19) (v:=?_) ?_ ?_
   rotate_left 1
   ·intro wz hSw
    obtain⟨s0,s1,s2,s3,s4,s5,s6⟩:=hSw
    first|(go_simp;done)|(go_simp;with_reducible rfl)
   simp only[ls0,ls1]
   refine tk (i:=2) (n:=20) (v:=?_) ?_ ?_
   rotate_left 1
   ·intro wz hSw
    obtain⟨s0,s1,s2,s3,s4,s5,s6⟩:=hSw
    first|(go_simp;done)|(go_simp;with_reducible rfl)
   simp only[ls0,ls1]
   refine tk (i:=3) (n:=21) (v:=?_) ?_ ?_
   rotate_left 1
   ·intro wz hSw
    obtain⟨s0,s1,s2,s3,s4,s5,s6⟩:=hSw
    first|(go_simp;done)|(go_simp;with_reducible rfl)
   simp only[ls0,ls1]
   refine wpAnyH_ready (rs:=[4]) (by kernel_rfl) (by simp) ?_
   refine AllReadyH.cons rfl (fun K hK=>?_) AllReadyH.nil
   go_simp
   go_wp2_with (go_at_call 144;refine(HF.out _ (Below.refl _ _).drew).mono ?_;rintro r w4 ⟨rfl,hb4⟩)
   have H4:Hid (Below w3.heap.size w3 w4):=below_seq (Below.refl _ _).drew hb4
   refine hK.out _ _ ⟨below_cell H4.out x0,below_cell H4.out x1,below_cell H4.out x2,below_cell H4.out x3,below_cell H4.out x4,below_cell H4.out x5,below_cell H4.out x6⟩ (fun hHeld=>?_)
   clear hb4
   clear hK K
   try simp only[ls0,ls1]
   refine tk (i:=5) (n:=5) (v:=?_) ?_ ?_
   rotate_left 1
   ·intro wz hSw
    obtain⟨s0,s1,s2,s3,s4,s5,s6⟩:=hSw
    first|(go_simp;done)|(go_simp;with_reducible rfl)
   simp only[ls0,ls1]
   refine wpAnyH_done (by kernel_rfl) ?_ _
   refine NoPanic.normal ?_
   clear hHeld
   have H5:Hid (FB w w4 w.heap.size):=H3.out.1.grow H4.out
   by_cases hz:fc=0
   ·subst hz
    go_wp2_with fail
    refine⟨⟨j+1,by omega,by simp,H5.out,?_⟩,by simp[intOf];omega⟩
    have h9:=HP.out.2
    rw[HX.out.1,chkGo,if_neg (by rw[HFC.out];simp)]at h9
    rw[HX.out.2]
    exact h9
   ·have hzb:(fc != 0)=true:=by simpa using hz
    have h9:(fc,(j:Int))=(z1,z2):=by
     have h8:=HP.out.2
     rw[HX.out.1,chkGo,if_pos (by rw[HFC.out];exact hz),HFC.out,HC.out,List.length_take,Nat.min_eq_left hj]at h8
     exact h8
    obtain⟨rfl,rfl⟩:=Prod.mk.inj h9
    obtain⟨r10,r11,q10,q11,rl⟩:=H5.out.res2
    go_wp2_with fail
    refine bodyPost_ret (CheckC_ends (set_two H5.out.res) rfl) rfl ?_
    exact⟨rfl,H5.out.set _ _⟩
  ·have hje:j=l.length:=by omega
   subst hje
   have h9:((0:Int),(0:Int))=(z1,z2):=by
    have h8:=HP.out.2
    rw[List.drop_length,HC.out]at h8
    exact h8
   obtain⟨rfl,rfl⟩:=Prod.mk.inj h9
   obtain⟨r10,r11,q10,q11,rl⟩:=HP.out.1.res2
   go_wp2_with fail
   refine bodyPost_ret (CheckC_ends (set_two HP.out.1.res) rfl) rfl ?_
   exact⟨rfl,HP.out.1.set _ _⟩
set_option maxRecDepth 20000 in
theorem aheadP_any(w:World)(l:List Ta)(v:Value)(gs gi i k:Nat)(hi:i<l.length)(hk:k<l.length)(hv:RowSl Ta.vals w l v)(h1:w.cell? ⟨gs,0,none⟩=some v)(h2:w.cell? ⟨gi,0,none⟩=some (.int .i64 (i:Int))):Calls Tryz.prog 134 #[.int .i64 (k:Int),.pointer (some ⟨gs,0,none⟩),.pointer (some ⟨gi,0,none⟩)] w fun r w'=>r = .returned (.bool (aheadP l i k))∧Below w.heap.size w w':=by
 obtain⟨ad,c,rfl,-,hcap,hrow⟩:=hv
 rcases hrow with h|⟨b,o,rfl,hrow⟩
 ·rw[h]at hi;simp at hi
 obtain⟨-,-,-,-,-,-,ci⟩:=ta_at hrow (Tk_get hi)
 obtain⟨-,-,-,-,-,-,ck⟩:=ta_at hrow (Tk_get hk)
 have hi':(i:Int)<(l.length:Int):=by omega
 have hk':(k:Int)<(l.length:Int):=by omega
 clear hrow
 go_enter Tryz.func134,Tryz.ntmps134
 go_wp2_with fail
 refine wp_region_noPanic ?_
 refine wp_region_held_drew (S:=fun w'=>w'.cell? ⟨gs,0,none⟩=some (.slice (some ⟨b,o,none⟩) l.length c)∧w'.cell? ⟨gi,0,none⟩=some (.int .i64 (i:Int))∧w'.cell? ⟨b,o+i*7+6,none⟩=some (.int .i64 (Tk l i).p)∧w'.cell? ⟨b,o+k*7+6,none⟩=some (.int .i64 (Tk l k).p)) (by kernel_rfl) ⟨h1,h2,ci,ck⟩ (fun hHeld=>?_)
 refine tk (i:=0) (n:=5) (v:=?_) ?_ ?_
 rotate_left 1
 ·intro wz hSw
  obtain⟨k0,k1,k2,k3⟩:=hSw
  first|(go_simp;done)|(go_simp;with_reducible rfl)
 simp only[ls0,ls1]
 refine tk (i:=1) (n:=6) (v:=?_) ?_ ?_
 rotate_left 1
 ·intro wz hSw
  obtain⟨k0,k1,k2,k3⟩:=hSw
  first|(go_simp;done)|(go_simp;with_reducible rfl)
 simp only[ls0,ls1]
 refine tk (i:=2) (n:=7) (v:=?_) ?_ ?_
 rotate_left 1
 ·intro wz hSw
  obtain⟨k0,k1,k2,k3⟩:=hSw
  first|(go_simp;done)|(go_simp;with_reducible rfl)
 simp only[ls0,ls1]
 refine tk (i:=3) (n:=8) (v:=?_) ?_ ?_
 rotate_left 1
 ·intro wz hSw
  obtain⟨k0,k1,k2,k3⟩:=hSw
  first|(go_simp;done)|(go_simp;with_reducible rfl)
 simp only[ls0,ls1]
 refine tk (i:=4) (n:=9) (v:=?_) ?_ ?_
 rotate_left 1
 ·intro wz hSw
  obtain⟨k0,k1,k2,k3⟩:=hSw
  first|(go_simp;done)|(go_simp;with_reducible rfl)
 simp only[ls0,ls1]
 refine tk (i:=5) (n:=10) (v:=?_) ?_ ?_
 rotate_left 1
 ·intro wz hSw
  obtain⟨k0,k1,k2,k3⟩:=hSw
  first|(go_simp;done)|(go_simp;with_reducible rfl)
 simp only[ls0,ls1]
 refine tk (i:=6) (n:=11) (v:=?_) ?_ ?_
 rotate_left 1
 ·intro wz hSw
  obtain⟨k0,k1,k2,k3⟩:=hSw
  first|(go_simp;done)|(go_simp;with_reducible rfl)
 simp only[ls0,ls1]
 refine tk (i:=7) (n:=12) (v:=?_) ?_ ?_
 rotate_left 1
 ·intro wz hSw
  obtain⟨k0,k1,k2,k3⟩:=hSw
  first|(go_simp;done)|(go_simp;with_reducible rfl)
 simp only[ls0,ls1]
 refine tk (i:=8) (n:=13) (v:=?_) ?_ ?_
 rotate_left 1
 ·intro wz hSw
  obtain⟨k0,k1,k2,k3⟩:=hSw
  first|(go_simp;done)|(go_simp;with_reducible rfl)
 simp only[ls0,ls1]
 refine tk (i:=9) (n:=14) (v:=?_) ?_ ?_
 rotate_left 1
 ·intro wz hSw
  obtain⟨k0,k1,k2,k3⟩:=hSw
  first|(go_simp;done)|(go_simp;with_reducible rfl)
 simp only[ls0,ls1]
 refine tk (i:=10) (n:=15) (v:=?_) ?_ ?_
 rotate_left 1
 ·intro wz hSw
  obtain⟨k0,k1,k2,k3⟩:=hSw
  first|(go_simp;done)|(go_simp;with_reducible rfl)
 simp only[ls0,ls1]
 refine tk (i:=11) (n:=4) (v:=?_) ?_ ?_
 rotate_left 1
 ·intro wz hSw
  obtain⟨k0,k1,k2,k3⟩:=hSw
  first|(go_simp;done)|(go_simp;with_reducible rfl)
 simp only[ls0,ls1]
 refine wpAnyH_done (by kernel_rfl) ?_ _
 refine NoPanic.normal ?_
 go_wp2_with fail
 go_ret
 exact⟨rfl,(Below.refl _ _).drew⟩
end Go.Proofs.YtccoobcggbbcialGreatDoor
