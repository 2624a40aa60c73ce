import Derived.Test.YtccoobcggbbcialGreatDoorGST2
namespace Go.Proofs.YtccoobcggbbcialGreatDoor.Stab
open Go.ChangeShapes Go.WideShapes Go.ChangeAt Go.RowKit Go.Shelf
open Go.Sort (swp swp_get swp_size SWO SWO.asymmA PermIn permIn_refl permIn_trans permIn_mono permIn_all swp_permIn)
variable {α:Type} [Inhabited α]
set_option maxRecDepth 20000 in
set_option maxHeartbeats 8000000 in
theorem symAF_any{H:World→Array α→Prop}{lt:α→α→Bool}{ix:α→Nat}{N blk g sf:Nat}{lb sb:Array Value}(hS:SWO lt)(hL:LSw H lt N blk g lb sf sb){W:World}{d:Array α}(h:H W d)(a m b:Nat)(hm1:m=a+1)(hmb:m<b)(hb:b≤N)(hs:N≤4194304)(hA:Asc lt ix m b d)(hX:Cross ix a m b d) :
  Calls Tryz.prog 166 #[.agg #[.func (.func g) #[] lb,.func (.func sf) #[] sb],.int .i64 (a:Int),.int .i64 (m:Int),.int .i64 (b:Int)] W fun r W'=>r = .returned (.tuple #[])∧∃d',H W' d'∧W.grownBy W' (some blk)∧Asc lt ix a b d'∧PermIn a b d d':=by
 have eg:=hL.eg
 have H0:Hid (H W d∧BX H blk g lb sf sb W (W.alloc (.cells #[.func (.func g) #[] lb,.func (.func sf) #[] sb] 202)) d):=⟨h,BX.start hL h⟩
 have HA:Hid (Asc lt ix m b d∧Cross ix a m b d∧m=a+1∧m<b∧b≤N∧d.size=N):=⟨hA,hX,hm1,hmb,hb,hL.size _ _ h⟩
 have x0:(m:Int)-(a:Int)=1:=by omega
 clear h hA hX hm1 hmb hb
 go_enter Tryz.func166,Tryz.ntmps166
 go_wp2_with fail
 clear x0
 go_loopw [8,9] (fun iv jv wr=>∃i j:Nat,m≤i∧i≤j∧j≤b∧iv = .int .i64 (i:Int)∧jv = .int .i64 (j:Int)∧BX H blk g lb sf sb W wr d∧(i=m∨lt d[i-1]! d[a]! =true)∧(j=b∨lt d[j]! d[a]! =false)) (fun iv jv _=>(intOf jv).toNat-(intOf iv).toNat)
 case atStart=>exact⟨m,b,Nat.le_refl _,by have:=HA.out.2.2.2.1;omega,Nat.le_refl _,rfl,rfl,H0.out.2,.inl rfl,.inl rfl⟩
 case round =>
  obtain⟨i,j,hmi,hij,hjb,rfl,rfl,hd,hl1,hl2⟩:=hrel
  generalize wr=wR at *
  have HD:Hid (BX H blk g lb sf sb W wR d∧(i=m∨lt d[i-1]! d[a]! =true)∧(j=b∨lt d[j]! d[a]! =false)):=⟨hd,hl1,hl2⟩
  clear hl1 hl2
  by_cases hlt:i<j
  ·obtain⟨-,-,hm1,hmb,hb,hz⟩:=HA.out
   obtain⟨s,hse⟩:∃s,s=i+j:=⟨_,rfl⟩
   obtain⟨h,hhe⟩:∃h,h=(i+j) / 2:=⟨_,rfl⟩
   have y0:(i:Int)+(j:Int)=(s:Int):=by omega
   have y1:IntKind.i64.wrap (s:Int)=(s:Int):=wrapN (by omega)
   have y2:(s:Int) / 2=(h:Int):=by omega
   have y3:IntKind.u64.wrap (s:Int)=(s:Int):=by rw[IntKind.wrap_u64];omega
   have y4:IntKind.i64.wrap (h:Int)=(h:Int):=wrapN (by omega)
   have hji:(i:Int)<(j:Int):=by omega
   have hhb:h<4194304:=by omega
   have HCm:=hL.less wR d hd.h h a (by omega) (by omega)
   have HH:Hid (i≤h∧h<j∧m≤i∧j≤b∧m=a+1):=⟨by omega,by omega,hmi,hjb,hm1⟩
   have c0:=hd.c0
   have lg:=hd.lt
   clear hd hse hhe hmi hjb hij hlt hm1 hmb hb hz
   cases hzb:lt d[h]! d[a]! with
   | true =>
    rw[hzb]at HCm
    have HZB:Hid (lt d[h]! d[a]! =true):=hzb
    clear hzb
    go_wp2_with (go_at_fn g;refine HCm.mono ?_;rintro r w5 ⟨rfl,h5,hg5⟩;have H5:Hid (BX H blk g lb sf sb W w5 d):=HD.out.1.step hL H0.out.1 h5 hg5;clear h5 hg5 HCm)
    obtain⟨q1,q2,q3,q4,q5⟩:=HH.out
    refine⟨⟨h+1,j,by omega,by omega,q4,by simp,rfl,H5.out,.inr ?_,HD.out.2.2⟩,by simp[intOf];omega⟩
    rw[Nat.add_sub_cancel]
    exact HZB.out
   | false =>
    rw[hzb]at HCm
    have HZB:Hid (lt d[h]! d[a]! =false):=hzb
    clear hzb
    go_wp2_with (go_at_fn g;refine HCm.mono ?_;rintro r w5 ⟨rfl,h5,hg5⟩;have H5:Hid (BX H blk g lb sf sb W w5 d):=HD.out.1.step hL H0.out.1 h5 hg5;clear h5 hg5 HCm)
    obtain⟨q1,q2,q3,q4,q5⟩:=HH.out
    exact⟨⟨i,h,q3,q1,by omega,rfl,rfl,H5.out,HD.out.2.1,.inr HZB.out⟩,by simp[intOf];omega⟩
  ·have hije:i=j:=by omega
   subst hije
   obtain⟨-,-,hm1,hmb,hb,-⟩:=HA.out
   obtain⟨e,hee⟩:∃e,e=i-1:=⟨_,rfl⟩
   have y0:(i:Int)-1=(e:Int):=by omega
   have y1:IntKind.i64.wrap (e:Int)=(e:Int):=wrapN (by omega)
   have HE:Hid (e=i-1∧m≤i∧i≤b∧m=a+1):=⟨hee,hmi,hjb,hm1⟩
   clear hee hd hlt hm1 hmb hb hmi hjb hij
   go_wp2_with fail
   go_loopw [11] (fun kv wr=>∃(k:Nat) (d':Array α),a≤k∧k≤e∧kv = .int .i64 (k:Int)∧BX H blk g lb sf sb W wr d'∧Up a k d d'∧PermIn a b d d') (fun kv _=>e-(intOf kv).toNat)
   case atStart=>exact⟨a,d,Nat.le_refl _,by have:=HE.out;omega,rfl,HD.out.1,Up.refl _ _,permIn_refl _ _ _⟩
   case round =>
    obtain⟨p,d',hap,hpe,rfl,hd,hu,hp⟩:=hrel
    have hzz:=hu.1
    by_cases hlt:p<e
    ·obtain⟨-,-,hm1,hmb,hb,hz⟩:=HA.out
     obtain⟨q,hqe⟩:∃q,q=p+1:=⟨_,rfl⟩
     have hx:=HE.out
     obtain⟨W2,hrun,hH2,hg2⟩:=hL.swap wr d' hd.h p q (by omega) (by omega)
     have HN:Hid (BX H blk g lb sf sb W W2 (swp d' p q)∧Up a (p+1) d (swp d' p q)∧PermIn a b d (swp d' p q)):=⟨hd.step hL H0.out.1 hH2 hg2,by rw[hqe];exact hu.step hap (by omega),permIn_trans _ _ _ _ _ hp (swp_permIn _ _ _ _ _ (by omega) (by omega) (by omega) (by omega) (by omega))⟩
     have HP:Hid (q=p+1∧a≤p∧p<e):=⟨hqe,hap,hlt⟩
     have c1:=hd.c1
     have lg:=hd.lt
     have hji:(p:Int)<(e:Int):=by omega
     have e0:(p:Int)+1=(q:Int):=by omega
     have e8:IntKind.i64.wrap (q:Int)=(q:Int):=wrapN (by omega)
     have HR:Hid (_=_):=hrun
     clear hd hu hp hqe hx hm1 hmb hb hap hpe hlt hzz hz hrun hH2 hg2
     go_wp2_with fail
     rw[HR.out,Oper.upon_value]
     go_wp2_with fail
     obtain⟨q2,q3,q4⟩:=HP.out
     exact⟨⟨q,_,by omega,by omega,rfl,HN.out.1,by have h9:=HN.out.2.1;rw[← q2]at h9;exact h9,HN.out.2.2⟩,by simp[intOf];omega⟩
    ·have hpe':p=e:=by omega
     subst hpe'
     have HF:Hid (BX H blk g lb sf sb W wr d'∧Up a p d d'∧PermIn a b d d'):=⟨hd,hu,hp⟩
     clear hd hu hp
     go_wp2_with fail
     try simp only[Exit.inBlock,Exit.then]
     refine bodyPost_ret (results_none rfl _ _ _) rfl ?_
     obtain⟨-,-,hm1,hmb,hb,-⟩:=HA.out
     obtain⟨q1,q2,q3,q4⟩:=HE.out
     refine⟨rfl,d',HF.out.1.h,HF.out.1.gr,?_,HF.out.2.2⟩
     have hA:=HA.out.1
     have hu:=HF.out.2.1
     rw[q1]at hu
     refine asc_up hS hu (by rw[← q4];exact hA) (by omega) q3 ?_ ?_
     ·rcases HD.out.2.1 with h|h
      ·exact .inl (by omega)
      ·exact .inr (.inl h)
     ·rcases HD.out.2.2 with h|h
      ·exact .inl h
      ·by_cases hib:i=b
       ·exact .inl hib
       ·exact .inr (.inr ⟨h,HA.out.2.1 a i (Nat.le_refl _) (by omega) q2 (by omega)⟩)
set_option maxRecDepth 20000 in
set_option maxHeartbeats 8000000 in
theorem symBF_any{H:World→Array α→Prop}{lt:α→α→Bool}{ix:α→Nat}{N blk g sf:Nat}{lb sb:Array Value}(hS:SWO lt)(hL:LSw H lt N blk g lb sf sb){W:World}{d:Array α}(h:H W d)(a m b:Nat)(ham:a+1<m)(hm1:b=m+1)(hb:b≤N)(hs:N≤4194304)(hA:Asc lt ix a m d)(hX:Cross ix a m b d) :
  Calls Tryz.prog 166 #[.agg #[.func (.func g) #[] lb,.func (.func sf) #[] sb],.int .i64 (a:Int),.int .i64 (m:Int),.int .i64 (b:Int)] W fun r W'=>r = .returned (.tuple #[])∧∃d',H W' d'∧W.grownBy W' (some blk)∧Asc lt ix a b d'∧PermIn a b d d':=by
 have eg:=hL.eg
 have H0:Hid (H W d∧BX H blk g lb sf sb W (W.alloc (.cells #[.func (.func g) #[] lb,.func (.func sf) #[] sb] 202)) d):=⟨h,BX.start hL h⟩
 have HA:Hid (Asc lt ix a m d∧Cross ix a m b d∧b=m+1∧a+1<m∧b≤N∧d.size=N):=⟨hA,hX,hm1,ham,hb,hL.size _ _ h⟩
 obtain⟨k0,hk0⟩:∃k0,k0=m-a:=⟨_,rfl⟩
 have x0:(m:Int)-(a:Int)=(k0:Int):=by omega
 have x1:IntKind.i64.wrap (k0:Int)=(k0:Int):=wrapN (by omega)
 have x2:((k0:Int) == 1)=false:=by simp;omega
 have x3:(b:Int)-(m:Int)=1:=by omega
 clear h hA hX hm1 ham hb hk0
 go_enter Tryz.func166,Tryz.ntmps166
 go_wp2_with fail
 clear x0 x1 x2 x3
 go_loopw [12,13] (fun iv jv wr=>∃i j:Nat,a≤i∧i≤j∧j≤m∧iv = .int .i64 (i:Int)∧jv = .int .i64 (j:Int)∧BX H blk g lb sf sb W wr d∧(i=a∨lt d[m]! d[i-1]! =false)∧(j=m∨lt d[m]! d[j]! =true)) (fun iv jv _=>(intOf jv).toNat-(intOf iv).toNat)
 case atStart=>exact⟨a,m,Nat.le_refl _,by have:=HA.out.2.2.2.1;omega,Nat.le_refl _,rfl,rfl,H0.out.2,.inl rfl,.inl rfl⟩
 case round =>
  obtain⟨i,j,hmi,hij,hjb,rfl,rfl,hd,hl1,hl2⟩:=hrel
  generalize wr=wR at *
  have HD:Hid (BX H blk g lb sf sb W wR d∧(i=a∨lt d[m]! d[i-1]! =false)∧(j=m∨lt d[m]! d[j]! =true)):=⟨hd,hl1,hl2⟩
  clear hl1 hl2
  by_cases hlt:i<j
  ·obtain⟨-,-,hm1,ham,hb,hz⟩:=HA.out
   obtain⟨s,hse⟩:∃s,s=i+j:=⟨_,rfl⟩
   obtain⟨h,hhe⟩:∃h,h=(i+j) / 2:=⟨_,rfl⟩
   have y0:(i:Int)+(j:Int)=(s:Int):=by omega
   have y1:IntKind.i64.wrap (s:Int)=(s:Int):=wrapN (by omega)
   have y2:(s:Int) / 2=(h:Int):=by omega
   have y3:IntKind.u64.wrap (s:Int)=(s:Int):=by rw[IntKind.wrap_u64];omega
   have y4:IntKind.i64.wrap (h:Int)=(h:Int):=wrapN (by omega)
   have hji:(i:Int)<(j:Int):=by omega
   have hhb:h<4194304:=by omega
   have HCm:=hL.less wR d hd.h m h (by omega) (by omega)
   have HH:Hid (i≤h∧h<j∧a≤i∧j≤m):=⟨by omega,by omega,hmi,hjb⟩
   have c0:=hd.c0
   have lg:=hd.lt
   clear hd hse hhe hmi hjb hij hlt hm1 ham hb hz
   cases hzb:lt d[m]! d[h]! with
   | true =>
    rw[hzb]at HCm
    have HZB:Hid (lt d[m]! d[h]! =true):=hzb
    clear hzb
    go_wp2_with (go_at_fn g;refine HCm.mono ?_;rintro r w5 ⟨rfl,h5,hg5⟩;have H5:Hid (BX H blk g lb sf sb W w5 d):=HD.out.1.step hL H0.out.1 h5 hg5;clear h5 hg5 HCm)
    obtain⟨q1,q2,q3,q4⟩:=HH.out
    exact⟨⟨i,h,q3,q1,by omega,rfl,rfl,H5.out,HD.out.2.1,.inr HZB.out⟩,by simp[intOf];omega⟩
   | false =>
    rw[hzb]at HCm
    have HZB:Hid (lt d[m]! d[h]! =false):=hzb
    clear hzb
    go_wp2_with (go_at_fn g;refine HCm.mono ?_;rintro r w5 ⟨rfl,h5,hg5⟩;have H5:Hid (BX H blk g lb sf sb W w5 d):=HD.out.1.step hL H0.out.1 h5 hg5;clear h5 hg5 HCm)
    obtain⟨q1,q2,q3,q4⟩:=HH.out
    refine⟨⟨h+1,j,by omega,by omega,q4,by simp,rfl,H5.out,.inr ?_,HD.out.2.2⟩,by simp[intOf];omega⟩
    rw[Nat.add_sub_cancel]
    exact HZB.out
  ·have hije:i=j:=by omega
   subst hije
   have HE:Hid (a≤i∧i≤m):=⟨hmi,hjb⟩
   clear hd hlt hmi hjb hij
   go_wp2_with fail
   go_loopw [15] (fun kv wr=>∃(k:Nat) (d':Array α),i≤k∧k≤m∧kv = .int .i64 (k:Int)∧BX H blk g lb sf sb W wr d'∧Dn m k d d'∧PermIn a b d d') (fun kv _=>(intOf kv).toNat-i)
   case atStart=>exact⟨m,d,HE.out.2,Nat.le_refl _,rfl,HD.out.1,Dn.refl _ _,permIn_refl _ _ _⟩
   case round =>
    obtain⟨p,d',hap,hpe,rfl,hd,hu,hp⟩:=hrel
    have hzz:=hu.1
    by_cases hlt:i<p
    ·obtain⟨-,-,hm1,ham,hb,hz⟩:=HA.out
     obtain⟨q,hqe⟩:∃q,q=p-1:=⟨_,rfl⟩
     have hpq:p=q+1:=by omega
     have hx:=HE.out
     obtain⟨W2,hrun,hH2,hg2⟩:=hL.swap wr d' hd.h p q (by omega) (by omega)
     have HN:Hid (BX H blk g lb sf sb W W2 (swp d' p q)∧Dn m q d (swp d' p q)∧PermIn a b d (swp d' p q)):=⟨hd.step hL H0.out.1 hH2 hg2,by rw[hpq];rw[hpq]at hu;exact hu.step (by omega) (by omega),permIn_trans _ _ _ _ _ hp (swp_permIn _ _ _ _ _ (by omega) (by omega) (by omega) (by omega) (by omega))⟩
     have HP:Hid (p=q+1∧i<p∧p≤m):=⟨hpq,hlt,hpe⟩
     have c1:=hd.c1
     have lg:=hd.lt
     have hji:(i:Int)<(p:Int):=by omega
     have e0:(p:Int)-1=(q:Int):=by omega
     have e8:IntKind.i64.wrap (q:Int)=(q:Int):=wrapN (by omega)
     have HR:Hid (_=_):=hrun
     clear hd hu hp hqe hpq hx hm1 ham hb hap hpe hlt hzz hz hrun hH2 hg2
     go_wp2_with fail
     rw[HR.out,Oper.upon_value]
     go_wp2_with fail
     obtain⟨q2,q3,q4⟩:=HP.out
     exact⟨⟨q,_,by omega,by omega,rfl,HN.out⟩,by simp[intOf];omega⟩
    ·have hpe':p=i:=by omega
     subst hpe'
     have HF:Hid (BX H blk g lb sf sb W wr d'∧Dn m p d d'∧PermIn a b d d'):=⟨hd,hu,hp⟩
     clear hd hu hp
     go_wp2_with fail
     try simp only[Exit.inBlock,Exit.then]
     refine bodyPost_ret (results_none rfl _ _ _) rfl ?_
     obtain⟨-,-,hm1,ham,hb,-⟩:=HA.out
     obtain⟨q1,q2⟩:=HE.out
     refine⟨rfl,d',HF.out.1.h,HF.out.1.gr,?_,HF.out.2.2⟩
     rw[hm1]
     refine asc_dn hS HF.out.2.1 HA.out.1 q1 q2 ?_ ?_
     ·rcases HD.out.2.1 with h|h
      ·exact .inl h
      ·by_cases hib:p=a
       ·exact .inl hib
       ·exact .inr (.inr ⟨h,HA.out.2.1 (p-1) m (by omega) (by omega) (Nat.le_refl _) (by omega)⟩)
     ·rcases HD.out.2.2 with h|h
      ·exact .inl h
      ·exact .inr (.inl h)
end Go.Proofs.YtccoobcggbbcialGreatDoor.Stab
