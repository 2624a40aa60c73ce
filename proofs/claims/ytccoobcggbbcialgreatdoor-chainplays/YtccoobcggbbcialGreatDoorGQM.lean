import Derived.Test.YtccoobcggbbcialGreatDoorGQD9
import Derived.Deep.QuietTactic
namespace Go.Proofs.YtccoobcggbbcialGreatDoor
open Go.ChangeShapes Go.WideShapes Go.ChangeAt Go.RowKit
open Keep
theorem co_at'{w:World}{l:List Co}{b o j:Nat}{x:Co}(h:∀q u,(l.flatMap Co.vals)[q]?=some u→w.cell? ⟨b,o+q,none⟩=some u)(hj:l[j]?=some x):w.cell? ⟨b,o+j*2,none⟩=some (.int .i64 x.k)∧w.cell? ⟨b,o+j*2+1,none⟩=some (.int .i64 x.a):=by
 have key:∀k u,k<2→x.vals[k]?=some u→w.cell? ⟨b,o+j*2+k,none⟩=some u:=fun k u hk hu=>by
  rw[Nat.add_assoc]
  exact h _ _ ((flat_at Co.vals 2 Co.len l j k x hj hk).trans hu)
 exact⟨key 0 _ (by decide) rfl,key 1 _ (by decide) rfl⟩
set_option maxRecDepth 20000 in
set_option maxHeartbeats 16000000 in
def QMp:(P0:Prop) ×' (RIB P0→∀(w:World) (l:List Pa) (cs:List Co) (tk:List Int) (n:Int) (pv cv tv:Value),RowSl Pa.vals w l pv→RowSl Co.vals w cs cv→RowSl nuV w tk tv→cs.length≤1000000→tk.length≤1000000→Calls Tryz.prog 23 #[pv,cv,tv,.int .i64 n] w (PlayDPost w l cs tk n)):=by
 apply PSigma.mk
 ·intro hp_tick
  intro w l cs tk n pv cv tv hp hc ht hcl htl
  obtain⟨z1,z2,hz⟩:∃z1 z2,chkP l=(z1,z2):=⟨_,_,rfl⟩
  have HZ:Hid (chkP l=(z1,z2)):=hz
  have H0:Hid (PB w (((w.alloc (.cells #[pv] 61)).alloc (.cells #[tv] 25)).alloc (.cells #[.int .i64 0,.int .i64 0] 33)) pv tv):=PB.start w pv tv
  have HC:=CheckParts_any (((w.alloc (.cells #[pv] 61)).alloc (.cells #[tv] 25)).alloc (.cells #[.int .i64 0,.int .i64 0] 33)) l pv (hp.below H0.out.bel)
  rw[hz]at HC
  dsimp only at HC
  obtain⟨a,ha⟩:∃a,chkPl l cs tk n=a:=⟨_,rfl⟩
  have HA:Hid (chkPl l cs tk n=a):=ha
  have HV:Hid (RowSl Pa.vals w l pv∧RowSl Co.vals w cs cv∧RowSl nuV w tk tv∧cs.length≤1000000∧tk.length≤1000000):=⟨hp,hc,ht,hcl,htl⟩
  obtain⟨pad,pc,rfl⟩:=hp.len
  obtain⟨cad,cc,rfl⟩:=hc.len
  obtain⟨tad,tc,rfl⟩:=ht.len
  unfold PlayDPost
  rw[ha]
  clear hp hc ht hz ha
  have hmm:=@run_makeMap Tryz.prog
  go_enter Tryz.func23,Tryz.ntmps23
  go_upto_region 2 with (go_at_call 59;refine HC.mono ?_;rintro r w1 ⟨rfl,hb1⟩;have H1:Hid (PB w (w1.alloc (.cells #[.int .i64 z1,.int .i64 z2] 33)) (.slice pad l.length pc) (.slice tad tk.length tc)∧(w1.alloc (.cells #[.int .i64 z1,.int .i64 z2] 33)).heap[w1.heap.size]?=some (.cells #[.int .i64 z1,.int .i64 z2] 33 (0,0))):=⟨(H0.out.grow hb1).grow (below_new _ _),heap_alloc_new _ _⟩;clear hb1 HC)
  generalize w1.alloc (.cells #[.int .i64 z1,.int .i64 z2] 33)=w2 at *
  generalize w1.heap.size=gc at *
  obtain⟨g0,g1,g2⟩:w2.cell? ⟨gc,0,none⟩=some (.int .i64 z1)∧w2.cell? ⟨gc,1,none⟩=some (.int .i64 z2)∧gc<w2.heap.size:=by
   obtain⟨c1,-,c3⟩:=cells_of (l:=[_,_]) H1.out.2
   exact⟨c1 0 _ rfl,c1 1 _ rfl,c3⟩
  obtain⟨q0,q1,qf0,qf1,ql⟩:=H1.out.1.fb.res2
  obtain⟨b0,b1,b2,b3⟩:=H1.out.1.cells
  by_cases h0:z1=0
  rotate_left 1
  ·have hz1:(z1 != 0)=true:=by simpa using h0
   have HN:Hid (a=(z1,z2)):=(by rw[← HA.out];unfold chkPl;rw[if_pos (by rw[HZ.out];exact h0),HZ.out]:a=(z1,z2))
   have H00:Hid (z1≠0):=h0
   clear h0
   go_upto_region 3 with fail
   have H1d:Hid (PB w w2.drew (.slice pad l.length pc) (.slice tad tk.length tc)):=H1.out.1.grow (Below.refl _ _).drew
   refine wp_region_noPanic ?_
   refine wp_region_last (S:=fun w'=>w'.cell? ⟨gc,0,none⟩=some (.int .i64 z1)∧w'.cell? ⟨gc,1,none⟩=some (.int .i64 z2)) (L:=2) (by kernel_rfl) ?_
   have hHeld:=(⟨g0,g1⟩:_∧_)
   refine tkL (i:=0) (n:=38) (v:=?_) ?_ ?_
   rotate_left 1
   ·intro wz hSw
    obtain⟨s0,s1⟩:=hSw
    first|(go_simp;done)|(go_simp;with_reducible rfl)
   simp only[ls0,ls1]
   refine tkL (i:=1) (n:=8) (v:=?_) ?_ ?_
   rotate_left 1
   ·intro wz hSw
    obtain⟨s0,s1⟩:=hSw
    first|(go_simp;done)|(go_simp;with_reducible rfl)
   simp only[ls0,ls1]
   refine wpAnyL_one (i:=2) (by kernel_rfl) rfl (fun K hK=>?_)
   go_simp
   refine hK.out _ _ (fun h=>absurd rfl h) ?_
   clear hK K
   refine wpAnyL_done (by kernel_rfl) ?_ _
   refine NoPanic.normal ?_
   go_wp2_with fail
   refine bodyPost_ret (PlayD_ends (g:=w.heap.size+2) (c:=.int .i64 z1) (k:=.int .i64 z2) (set_two H1d.out.fb.res) rfl rfl) rfl ?_
   rw[HN.out]
   exact .inl ⟨H00.out,rfl,H1d.out.fb.set _ _⟩
  subst h0
  have HZ0:Hid (¬ (chkP l).1≠0):=(by rw[HZ.out];simp:¬ (chkP l).1≠0)
  by_cases h4:4000<cs.length
  ·have HN:Hid (a=(2,0)):=(by rw[← HA.out];unfold chkPl;rw[if_neg HZ0.out,if_pos h4]:a=(2,0))
   have h4i:(4000:Int)<(cs.length:Int):=by omega
   go_wp2_with (go_at_call 60;refine(F_any _ _ _).mono ?_;rintro r w3 ⟨rfl,hb3⟩;have H3:Hid (PB w w3 (.slice pad l.length pc) (.slice tad tk.length tc)):=H1.out.1.grow hb3;obtain⟨r0,r1,rf0,rf1,rl⟩:=H3.out.fb.res2;clear hb3)
   refine bodyPost_ret (PlayD_ends (g:=w.heap.size+2) (c:=.int .i64 2) (k:=.int .i64 0) (set_two H3.out.fb.res) rfl rfl) rfl ?_
   rw[HN.out]
   exact .inl ⟨by decide,rfl,H3.out.fb.set _ _⟩
  have h4i:¬ (4000:Int)<(cs.length:Int):=by omega
  have hok:=chkP_ok (l:=l) (by rw[HZ.out])
  have h1:=hok.one
  have h8:=hok.most
  have HOK:Hid (PsOk l):=hok
  clear hok
  go_upto_region 6 with fail
  have H2:Hid (PB w w2 (.slice pad l.length pc) (.slice tad tk.length tc)):=H1.out.1
  clear g0 g1 g2 q0 q1 qf0 qf1 ql H1
  go_wp2_with fail
  go_loopw [45] (fun iv wr=>∃k:Nat,k≤tk.length∧iv = .int .i64 (k:Int)∧wr=w2∧Hid (firstNeg (tk.drop k) k=firstNeg tk 0)) (fun iv _=>tk.length-(intOf iv).toNat)
  case atStart=>exact⟨0,Nat.zero_le _,rfl,rfl,rfl⟩
  case round =>
   obtain⟨k,hk,rfl,rfl,HK⟩:=hrel
   by_cases hkl:k<tk.length
   ·obtain⟨x,hx,hd⟩:=drop_at hkl
    obtain⟨ad9,c9,e9,-,-,hrow⟩:=HV.out.2.2.1.below H2.out.bel
    cases e9
    rcases hrow with h9|⟨bt,ot,rfl,hrow⟩
    ·rw[h9]at hkl;simp at hkl
    have c0:=nu_at hrow hx
    have lbt:=World.block_lt_of_cell? _ _ c0
    have hki:(k:Int)<(tk.length:Int):=by omega
    have hkz:(if x<0 then ((k:Nat):Int) else firstNeg (tk.drop (k+1)) (k+1))=firstNeg tk 0:=by
     have h9:=HK.out
     rw[hd]at h9
     exact h9
    clear hrow
    by_cases hx0:x<0
    ·rw[if_pos hx0]at hkz
     have HN:Hid (a=(3,0)):=(by rw[← HA.out];unfold chkPl;rw[if_neg HZ0.out,if_neg h4,if_pos (.inr (by omega))]:a=(3,0))
     clear hkz HK hx hd
     go_wp2_with (go_at_call 60;refine(F_any _ _ _).mono ?_;rintro r w3 ⟨rfl,hb3⟩;have H3:Hid (PB w w3 (.slice pad l.length pc) (.slice (some ⟨bt,ot,none⟩) tk.length tc)):=H2.out.grow hb3;obtain⟨r0,r1,rf0,rf1,rl⟩:=H3.out.fb.res2;clear hb3)
     refine bodyPost_ret (PlayD_ends (g:=w.heap.size+2) (c:=.int .i64 3) (k:=.int .i64 0) (set_two H3.out.fb.res) rfl rfl) rfl ?_
     rw[HN.out]
     exact .inl ⟨by decide,rfl,H3.out.fb.set _ _⟩
    ·have HN:Hid (firstNeg (tk.drop (k+1)) (k+1)=firstNeg tk 0):=by
      rw[if_neg hx0]at hkz
      exact hkz
     clear hkz HK hx hd
     go_wp2_with fail
     exact⟨⟨k+1,by omega,by simp,trivial,HN.out⟩,by simp[intOf];omega⟩
   ·have hke:k=tk.length:=by omega
    subst hke
    have HNg:Hid (firstNeg tk 0=-1):=by
     have h9:=HK.out
     rw[List.drop_of_length_le (Nat.le_refl _)]at h9
     exact h9.symm
    clear HK
    rcases hw:within n 0 20000 with _|_
    ·have HN:Hid (a=(3,0)):=(by rw[← HA.out];unfold chkPl;rw[if_neg HZ0.out,if_neg h4,if_pos (.inl hw)]:a=(3,0))
     by_cases hn0:n<0
     ·clear hw
      go_wp2_with (go_at_call 60;refine(F_any _ _ _).mono ?_;rintro r w3 ⟨rfl,hb3⟩;have H3:Hid (PB w w3 (.slice pad l.length pc) (.slice tad tk.length tc)):=H2.out.grow hb3;obtain⟨r0,r1,rf0,rf1,rl⟩:=H3.out.fb.res2;clear hb3)
      refine bodyPost_ret (PlayD_ends (g:=w.heap.size+2) (c:=.int .i64 3) (k:=.int .i64 0) (set_two H3.out.fb.res) rfl rfl) rfl ?_
      rw[HN.out]
      exact .inl ⟨by decide,rfl,H3.out.fb.set _ _⟩
     ·have hn1:20000<n:=by
       unfold within at hw
       simp at hw
       omega
      clear hw
      go_wp2_with (go_at_call 60;refine(F_any _ _ _).mono ?_;rintro r w3 ⟨rfl,hb3⟩;have H3:Hid (PB w w3 (.slice pad l.length pc) (.slice tad tk.length tc)):=H2.out.grow hb3;obtain⟨r0,r1,rf0,rf1,rl⟩:=H3.out.fb.res2;clear hb3)
      refine bodyPost_ret (PlayD_ends (g:=w.heap.size+2) (c:=.int .i64 3) (k:=.int .i64 0) (set_two H3.out.fb.res) rfl rfl) rfl ?_
      rw[HN.out]
      exact .inl ⟨by decide,rfl,H3.out.fb.set _ _⟩
    have hn0:¬ n<0:=by unfold within at hw;simp at hw;omega
    have hn1:¬ 20000<n:=by unfold within at hw;simp at hw;omega
    have HA2:Hid (chkC l cs 0=a):=by
     have h9:=HA.out
     unfold chkPl at h9
     rw[if_neg HZ0.out,if_neg h4,if_neg (by rw[hw,HNg.out];simp)]at h9
     exact h9
    clear HNg hw
    go_upto_region 15 with fail
    have HB0:Hid (OB w wr (.slice pad l.length pc) (.slice tad tk.length tc) (.slice none 0 0) [] l.length∧chkC l (cs.drop 0) 0=a):=⟨OB.start H2.out _,HA2.out⟩
    clear b0 b1 b2 b3 HA2
    go_wp2_with fail
    go_loopw [13,62] (fun ov iv wl=>∃(i:Nat) (os:List Value) (o:Value),o=ov∧i≤cs.length∧iv = .int .i64 (i:Int)∧Hid (OB w wl (.slice pad l.length pc) (.slice tad tk.length tc) o os l.length∧os.length=i∧chkC l (cs.drop i) i=a)) (fun _ iv _=>cs.length-(intOf iv).toNat)
    case atStart=>exact⟨0,[],_,rfl,Nat.zero_le _,rfl,HB0.out.1,rfl,HB0.out.2⟩
    case round =>
     obtain⟨i,os,ov,rfl,hi,rfl,HX⟩:=hrel
     obtain⟨oad,oc,rfl⟩:=owns_value HX.out.1.row
     clear HB0
     by_cases hil:i<cs.length
     ·obtain⟨x,hx,hdr⟩:=drop_at hil
      have HCK:Hid ((if within x.k 0 ((l.length:Int)-1)=false∨(l.getD x.k.toNat paZ).fr≠-1 then (((4:Int),(i:Int)):Int × Int) else if within x.a 0 20000=false then (3,i) else chkC l (cs.drop (i+1)) (i+1))=a):=by
       have h9:=HX.out.2.2
       rw[hdr]at h9
       exact h9
      obtain⟨ad9,cc9,e9,-,hcap,hrow⟩:=HV.out.2.1.below HX.out.1.pb.bel
      cases e9
      rcases hrow with h|⟨b2,o2,rfl,hrow⟩
      ·rw[h]at hil;simp at hil
      obtain⟨x0,x1⟩:=co_at' hrow hx
      have lb2:b2<wr.heap.size:=World.block_lt_of_cell? _ _ x0
      have hii:(i:Int)<(cs.length:Int):=by omega
      obtain⟨b0,b1,lb0,lb1⟩:=HX.out.1.pb.cells
      clear hrow hx hdr
      obtain⟨xk,xa⟩:=x
      dsimp only at x0 x1
      by_cases h1:xk<0
      ·have w1:within xk 0 ((l.length:Int)-1)=false:=by unfold within;simp;omega
       have HN:Hid (a=(4,(i:Int))):=(by have h9:=HCK.out;rw[if_pos (.inl w1)]at h9;exact h9.symm:a=(4,(i:Int)))
       clear HCK
       go_wp2_with (go_at_call 60;refine(F_any _ _ _).mono ?_;rintro r w3 ⟨rfl,hb3⟩;have H3:Hid (PB w w3 (.slice pad l.length pc) (.slice tad tk.length tc)):=(HX.out.1.pb.grow (below_new _ _)).grow hb3;obtain⟨r0,r1,rf0,rf1,rl⟩:=H3.out.fb.res2;clear hb3)
       refine bodyPost_ret (PlayD_ends (g:=w.heap.size+2) (c:=.int .i64 4) (k:=.int .i64 (i:Int)) (set_two H3.out.fb.res) rfl rfl) rfl ?_
       rw[HN.out]
       exact .inl ⟨by simp,rfl,H3.out.fb.set _ _⟩
      by_cases h2:(l.length:Int)≤xk
      ·have w1:within xk 0 ((l.length:Int)-1)=false:=by unfold within;simp;omega
       have HN:Hid (a=(4,(i:Int))):=(by have h9:=HCK.out;rw[if_pos (.inl w1)]at h9;exact h9.symm:a=(4,(i:Int)))
       clear HCK
       go_wp2_with (go_at_call 60;refine(F_any _ _ _).mono ?_;rintro r w3 ⟨rfl,hb3⟩;have H3:Hid (PB w w3 (.slice pad l.length pc) (.slice tad tk.length tc)):=(HX.out.1.pb.grow (below_new _ _)).grow hb3;obtain⟨r0,r1,rf0,rf1,rl⟩:=H3.out.fb.res2;clear hb3)
       refine bodyPost_ret (PlayD_ends (g:=w.heap.size+2) (c:=.int .i64 4) (k:=.int .i64 (i:Int)) (set_two H3.out.fb.res) rfl rfl) rfl ?_
       rw[HN.out]
       exact .inl ⟨by simp,rfl,H3.out.fb.set _ _⟩
      obtain⟨k0,rfl⟩:∃k0:Nat,xk=(k0:Int):=⟨xk.toNat,by omega⟩
      have hk0:k0<l.length:=by omega
      have hk0i:(k0:Int)<(l.length:Int):=by omega
      obtain⟨y,hy,-⟩:=drop_at hk0
      obtain⟨ad9,cc9,e9,-,-,hrowp⟩:=HV.out.1
      cases e9
      rcases hrowp with h|⟨b5,o5,rfl,hrowp⟩
      ·rw[h]at hk0;simp at hk0
      obtain⟨y0,y1,y2,y3,y4,y5,y6⟩:=pa7_at (fun q u hq=>below_cell HX.out.1.pb.bel (hrowp q u hq)) hy
      have HY:Hid (l.getD k0 paZ=y):=getD_some hy
      have lb5:b5<wr.heap.size:=World.block_lt_of_cell? _ _ y0
      clear hrowp hy y0 y2 y3 y4 y5 y6
      obtain⟨yco,yfr,yse,yc,yt,yd,yp⟩:=y
      dsimp only at y1
      have w0:within (k0:Int) 0 ((l.length:Int)-1)=true:=by unfold within;simp;omega
      by_cases h3:yfr=-1
      rotate_left 1
      ·have h3b:(yfr != -1)=true:=by simpa using h3
       have H3n:Hid ((l.getD (k0:Int).toNat paZ).fr≠-1):=(by rw[Int.toNat_natCast,HY.out];exact h3:(l.getD (k0:Int).toNat paZ).fr≠-1)
       clear h3
       have HN:Hid (a=(4,(i:Int))):=(by have h9:=HCK.out;rw[if_pos (.inr H3n.out)]at h9;exact h9.symm:a=(4,(i:Int)))
       clear HCK
       go_wp2_with (go_at_call 60;refine(F_any _ _ _).mono ?_;rintro r w3 ⟨rfl,hb3⟩;have H3:Hid (PB w w3 (.slice (some ⟨b5,o5,none⟩) l.length pc) (.slice tad tk.length tc)):=(HX.out.1.pb.grow (below_new _ _)).grow hb3;obtain⟨r0,r1,rf0,rf1,rl⟩:=H3.out.fb.res2;clear hb3)
       refine bodyPost_ret (PlayD_ends (g:=w.heap.size+2) (c:=.int .i64 4) (k:=.int .i64 (i:Int)) (set_two H3.out.fb.res) rfl rfl) rfl ?_
       rw[HN.out]
       exact .inl ⟨by simp,rfl,H3.out.fb.set _ _⟩
      subst h3
      have HK0:Hid (¬ (within (k0:Int) 0 ((l.length:Int)-1)=false∨(l.getD (k0:Int).toNat paZ).fr≠-1)):=(by rw[not_or,w0,Int.toNat_natCast,HY.out];exact⟨by simp,fun g=>g rfl⟩:¬ (within (k0:Int) 0 ((l.length:Int)-1)=false∨(l.getD (k0:Int).toNat paZ).fr≠-1))
      by_cases h4x:xa<0
      ·have w1:within xa 0 20000=false:=by unfold within;simp;omega
       have HN:Hid (a=(3,(i:Int))):=(by have h9:=HCK.out;rw[if_neg HK0.out,if_pos w1]at h9;exact h9.symm:a=(3,(i:Int)))
       clear HCK
       go_wp2_with (go_at_call 60;refine(F_any _ _ _).mono ?_;rintro r w3 ⟨rfl,hb3⟩;have H3:Hid (PB w w3 (.slice (some ⟨b5,o5,none⟩) l.length pc) (.slice tad tk.length tc)):=(HX.out.1.pb.grow (below_new _ _)).grow hb3;obtain⟨r0,r1,rf0,rf1,rl⟩:=H3.out.fb.res2;clear hb3)
       refine bodyPost_ret (PlayD_ends (g:=w.heap.size+2) (c:=.int .i64 3) (k:=.int .i64 (i:Int)) (set_two H3.out.fb.res) rfl rfl) rfl ?_
       rw[HN.out]
       exact .inl ⟨by simp,rfl,H3.out.fb.set _ _⟩
      by_cases h5x:20000<xa
      ·have w1:within xa 0 20000=false:=by unfold within;simp;omega
       have HN:Hid (a=(3,(i:Int))):=(by have h9:=HCK.out;rw[if_neg HK0.out,if_pos w1]at h9;exact h9.symm:a=(3,(i:Int)))
       clear HCK
       go_wp2_with (go_at_call 60;refine(F_any _ _ _).mono ?_;rintro r w3 ⟨rfl,hb3⟩;have H3:Hid (PB w w3 (.slice (some ⟨b5,o5,none⟩) l.length pc) (.slice tad tk.length tc)):=(HX.out.1.pb.grow (below_new _ _)).grow hb3;obtain⟨r0,r1,rf0,rf1,rl⟩:=H3.out.fb.res2;clear hb3)
       refine bodyPost_ret (PlayD_ends (g:=w.heap.size+2) (c:=.int .i64 3) (k:=.int .i64 (i:Int)) (set_two H3.out.fb.res) rfl rfl) rfl ?_
       rw[HN.out]
       exact .inl ⟨by simp,rfl,H3.out.fb.set _ _⟩
      have HN1:Hid (chkC l (cs.drop (i+1)) (i+1)=a):=by
       have h9:=HCK.out
       rw[if_neg HK0.out,if_neg (by unfold within;simp;omega)]at h9
       exact h9
      go_upto_region 22 with fail
      have HW:Hid (OB w (wr.alloc (.cells #[.int .i64 (k0:Int),.int .i64 xa] 49)) (.slice (some ⟨b5,o5,none⟩) l.length pc) (.slice tad tk.length tc) (.slice oad os.length oc) os l.length):=HX.out.1.grow (below_new _ _)
      have HIL:Hid (os.length=i):=HX.out.2.1
      clear x0 x1 y1 lb2 lb5 b0 b1 lb0 lb1 HX HCK HK0 w0 HY
      generalize wr.alloc (.cells #[.int .i64 (k0:Int),.int .i64 xa] 49)=Wc at *
      obtain⟨b0,b1,lb0,lb1⟩:=HW.out.pb.cells
      have hmk:=make_row Wc l.length Wc.heap.size (by omega) rfl
      have HG:Hid (OB w (Wc.alloc (.cells (List.replicate l.length (Value.int .i64 0)).toArray 3)) (.slice (some ⟨b5,o5,none⟩) l.length pc) (.slice tad tk.length tc) (.slice oad os.length oc) os l.length∧(Wc.alloc (.cells (List.replicate l.length (Value.int .i64 0)).toArray 3)).heap[Wc.heap.size]?=some (.cells (List.replicate l.length (Value.int .i64 0)).toArray 3 (0,0))∧w.heap.size+3≤Wc.heap.size∧(∀u∈os,u.ownBlock≠some Wc.heap.size)):=⟨HW.out.grow (below_new _ _),heap_alloc_new _ _,HW.out.pb.sz,fun u hu e=>by
       obtain⟨c,hc⟩:=(HW.out.en u hu).ty2 e
       exact Nat.lt_irrefl _ (heap_lt hc)⟩
      generalize Wc.alloc (.cells (List.replicate l.length (Value.int .i64 0)).toArray 3)=W3 at *
      generalize Wc.heap.size=g at *
      go_upto_region 23 with fail
      clear hmk b0 b1 lb0 lb1 HW
      go_wp2_with fail
      go_loopw [103] (fun iv wl=>∃k:Nat,k≤l.length∧iv = .int .i64 (k:Int)∧Hid (W3.grownBy wl (some g)∧wl.heap[g]?=some (.cells (List.replicate k (Value.int .i64 (-1))++List.replicate (l.length-k) (Value.int .i64 0)).toArray 3 (0,0)))) (fun iv _=>l.length-(intOf iv).toNat)
      case atStart=>exact⟨0,Nat.zero_le _,rfl,World.grownBy.refl _ _,HG.out.2.1⟩
      case round =>
       obtain⟨k,hk,rfl,HK⟩:=hrel
       by_cases hkl:k<l.length
       ·have hki:(k:Int)<(l.length:Int):=by omega
        obtain⟨fc,ff,fl⟩:=cells_of HK.out.2
        have f0:=fc k (.int .i64 0) (by rw[List.getElem?_append_right (by simp),List.length_replicate,Nat.sub_self,List.getElem?_replicate,if_pos (by omega)])
        have f1:=ff k
        clear fc ff
        go_wp2_with fail
        refine⟨⟨k+1,by omega,by simp,HK.out.1.trans (set_grown _ _ _ _),?_⟩,by simp[intOf];omega⟩
        rw[setCell_list HK.out.2,fill_set hkl]
       ·have hke:k=l.length:=by omega
        subst hke
        have hfil:=HK.out.2
        rw[Nat.sub_self,List.replicate_zero,List.append_nil]at hfil
        have HO:Hid (OB w wr (.slice (some ⟨b5,o5,none⟩) l.length pc) (.slice tad tk.length tc) (.slice oad os.length oc) os l.length):=HG.out.1.only HK.out.1 HG.out.2.2.1 ⟨_,HG.out.2.1⟩ HG.out.2.2.2
        obtain⟨ad4,c4,w4,hrun,ho4⟩:=HO.out.push hfil HG.out.2.2.1 HG.out.2.2.2 (by have:=HIL.out;have:=HV.out.2.2.2.1;omega)
        have HO4:Hid (OB w w4 (.slice (some ⟨b5,o5,none⟩) l.length pc) (.slice tad tk.length tc) (.slice ad4 (os.length+1) c4) (os++[.slice (some ⟨g,0,none⟩) l.length l.length]) l.length):=ho4
        clear ho4 hfil HO HK
        go_wp2_with (at_builtin;refine append_known rfl (.tmp 110) (.tmp 112) 69 rfl rfl rfl hrun ?_)
        exact⟨⟨i+1,os++[.slice (some ⟨g,0,none⟩) l.length l.length],_,rfl,by omega,by simp,HO4.out,by rw[List.length_append,HIL.out];rfl,HN1.out⟩,by simp[intOf];omega⟩
     ·have hie:i=cs.length:=by omega
      subst hie
      have HN:Hid (a=(0,0)):=(by have h9:=HX.out.2.2;rw[List.drop_of_length_le (Nat.le_refl _)]at h9;exact h9.symm:a=(0,0))
      have HOB:Hid (OB w wr (.slice pad l.length pc) (.slice tad tk.length tc) (.slice oad os.length oc) os l.length∧os.length=cs.length):=⟨HX.out.1,HX.out.2.1⟩
      clear HX
      have hcp:=HA.out
      rw[HN.out]at hcp
      obtain⟨-,-,hn2,hn3,htk0,hcs0,-⟩:=chkPl_ok (l:=l) (cs:=cs) (tk:=tk) (n:=n) (by rw[hcp])
      have HLg:Hid (Lg l cs (ordF cs)):=lg_of2 HOK.out hcs0
      have HI:Hid (Ip w l tk cs (.slice pad l.length pc) (.slice tad tk.length tc)):=⟨HV.out.1,HV.out.2.2.1,HOK.out,htk0,HV.out.2.2.2.2,HLg.out,by omega,hcs0⟩
      obtain⟨nn,rfl⟩:∃nn:Nat,n=(nn:Int):=⟨n.toNat,by omega⟩
      obtain⟨FO,f1,f2,f3,f4⟩:=own_out HOB.out.1.row
      have HFO:Hid ((∀w':World,(∀p∈FO,w'.heap[p.1]?=some p.2)→w'.ownsRow (w.heap.size+3) 25 1 (.slice oad os.length oc) os.length os)∧((os=[])∨∃g c cur,Value.slice oad os.length oc = .slice (some ⟨g,0,none⟩) os.length c∧FO=[(g,.cells cur 25)]∧∀(i:Nat) (u:Value),os[i]?=some u→cur[i]?=some u)):=⟨f3,f4⟩
      have HT0:Hid (TK w ((wr.alloc (.cells #[.slice none 0 0] 130)).alloc (.cells #[.slice none 0 0] 130)) l tk cs (.slice pad l.length pc) (.slice tad tk.length tc) wr.heap.size (wr.heap.size+1) os FO 0 (.slice none 0 0) (.slice none 0 0) [] [] none (fun _=>⟨0,0,0,0⟩) [] (List.replicate cs.length (List.replicate l.length (-1)))):=TK.start tk HOB.out.1 HOB.out.2 f1 f2 _
      clear hcp htk0 hcs0 f1 f2 f3 f4
      go_upto_region 32 with fail
      generalize (wr.alloc (.cells #[.slice none 0 0] 130)).alloc (.cells #[.slice none 0 0] 130)=W1 at *
      generalize wr.heap.size+1=gM at *
      generalize wr.heap.size=gJ at *
      have HOL:Hid (os.length=cs.length):=HOB.out.2
      clear HOB HA
      go_wp2_with fail
      go_loopw [21,22] (fun sv iv wl=>∃(t:Nat) (jv mv:Value) (jb mb:List Nat) (sb:Option Nat) (T:Nat→Th) (B:List Nat) (out:List (List Int)),t≤nn∧sv=sbV sb∧iv = .int .i64 (t:Int)∧Hid (TK w wl l tk cs (.slice pad l.length pc) (.slice tad tk.length tc) gJ gM os FO t jv mv jb mb sb T B out)) (fun _ iv _=>nn-(intOf iv).toNat)
      case atStart=>exact⟨0,_,_,_,_,none,_,_,_,Nat.zero_le _,rfl,rfl,HT0.out⟩
      case round =>
       obtain⟨t,jv,mv,jb,mb,sb,T,B,out,ht,rfl,rfl,HT⟩:=hrel
       clear HT0
       by_cases htn:t<nn
       rotate_left 1
       ·have hte:t=nn:=by omega
        subst hte
        have hfl:=HT.out.dw.fr _ (mem5 FO 2 rfl)
        obtain⟨c1,f1,l1⟩:=cells_of (l:=[_,_]) hfl
        have e0:=c1 0 _ rfl
        have e1:=c1 1 _ rfl
        have e2:=f1 0
        have e3:=f1 1
        have HFL:Hid (wr.heap[w.heap.size+2]?=some (.cells #[.int .i64 0,.int .i64 0] 33 (0,0))):=hfl
        clear c1 f1 hfl
        go_wp2_with fail
        have hsz:=set_zero HFL.out
        refine bodyPost_ret (PlayD_ends (g:=w.heap.size+2) (c:=.int .i64 0) (k:=.int .i64 0) (set_two HFL.out) rfl rfl) rfl ?_
        refine .inr ⟨by rw[HN.out],os,_,rfl,HFO.out.1 _ (fun p hp=>(hsz p.1).trans (HT.out.dw.fr p (List.mem_append_right _ hp))),HOL.out,fun i u hu=>?_,(⟨HT.out.dw.bel,HFL.out,by omega⟩:FB w wr (w.heap.size+2)).set _ _⟩
        have h9:=(HT.out.dw.outs i u hu).keep (fun g _=>hsz g)
        rw[HT.out.doc.ends HLg.out,List.getD_eq_getElem?_getD]at h9
        exact h9
       rename_i zq1 zq2 zq3 zq4 zq5 zq6 zq7 zq8 zq9 zq10 zq11 zq12 zq13 zq14
       revert w l cs tk hcl htl z2 a pad pc cad cc tad tc H0 HV hmm w1 gc HZ HZ0 h4 h1 h8 HOK zq1 h4i zq2 zq3 u12 u46 u47 u48 u49 u50 u51 u52 H2 hk hkl zq4 zq5 zq6 u8 u14 u15 u16 u17 u63 u64 u65 u66 u67 u68 u69 u70 u71 u72 u73 u74 u75 u76 u77 u78 u79 u80 u81 u82 u83 u84 u85 u86 u87 u88 u89 u90 u91 u92 u93 u94 u95 u96 u97 u98 u99 u100 u101 u102 u103 u104 u105 u106 u107 u108 u109 u110 u111 u112 u113 u114 os oad oc hi hil HN HLg HI nn zq7 zq8 zq9 hn0 hn1 hn2 hn3 FO HFO zq10 zq11 zq12 W1 gM gJ HOL zq13 zq14 wr u23 u24 u25 u26 u27 u29 u30 u31 u32 u116 u117 u118 u119 u120 u121 u122 u123 u124 u125 u126 u127 u128 u129 u130 u131 u132 u133 u134 u135 u136 u137 u138 u139 u140 u141 u142 u143 u144 u145 u146 u147 u148 u149 u150 u151 u152 u153 u154 u155 u156 u157 u158 u159 u160 u161 u162 u163 u164 u165 u166 u167 u168 u169 u170 u171 u172 u173 u174 u175 u176 u177 u178 u179 u180 u181 u182 u183 u184 u185 u186 u187 u188 u189 u190 u191 u192 u193 u194 u195 u196 u197 u198 u199 u200 u201 u202 u203 u204 u205 u206 u207 u208 u209 u210 u211 u212 u213 u214 u215 u216 u217 u218 u219 u220 u221 u222 u223 u224 u225 u226 u227 u228 u229 u230 u231 u232 u233 u234 u235 u236 u237 u238 u239 u240 u241 u242 u243 u244 u245 u246 u247 u248 u249 u250 u251 u252 u253 u254 u255 u256 u257 u258 u259 u260 u261 u262 u263 u264 u265 u266 u267 u268 u269 u270 u271 u272 u273 u274 u275 u276 u277 u278 u279 u280 u281 u282 u283 u284 u285 u286 u287 u288 u289 u290 u291 u292 u293 u294 u295 u296 u297 u298 u299 u300 u301 u302 u303 u304 u305 u306 u307 u308 u309 u310 u311 u312 u313 u314 u315 u316 u317 u318 u319 u320 u321 u322 u323 u324 u325 t jv mv jb mb sb T B out ht HT htn
       exact hp_tick.out
end Go.Proofs.YtccoobcggbbcialGreatDoor
