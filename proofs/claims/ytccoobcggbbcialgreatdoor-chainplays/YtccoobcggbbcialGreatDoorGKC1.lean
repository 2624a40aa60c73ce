import Derived.Test.YtccoobcggbbcialGreatDoorGST3
import Derived.Deep.CutRange
import Derived.Deep.CutBlock
import Derived.Test.YtccoobcggbbcialGreatDoorGST2
import Derived.Test.YtccoobcggbbcialGreatDoorProg
import Derived.Shelf.GgSortMore.Stable
import Derived.Ground.GgtProg
import Derived.Test.YtccoobcggbbcialGreatDoorGHX2
namespace Go.Proofs.YtccoobcggbbcialGreatDoor.Stab
open Go.ChangeShapes Go.WideShapes Go.ChangeAt Go.RowKit Go.Shelf
open Go.Sort (swp swp_get swp_size SWO SWO.asymmA PermIn permIn_refl permIn_trans permIn_mono permIn_all swp_permIn)
variable {α:Type} [Inhabited α]
omit [Inhabited α] in
theorem from_KF{P:Program}{c:Code}{q:Exit→Act→World→Prop}{K:Act→World→Prop}(h:∀a w,Code.wp P c q a w→K a w)(a:Act)(w:World)(g:Code.wp P c q a w):K a w:=h a w g
set_option maxRecDepth 20000 in
set_option maxHeartbeats 8000000 in
theorem symCF_any{H:World→Array α→Prop}{lt:α→α→Bool}{ix:α→Nat}{N blk g sf:Nat}{lb sb:Array Value}(hS:SWO lt)(hL:LSw H lt N blk g lb sf sb){W:World}{d:Array α}(h:H W d)(a m b:Nat)(ham:a+1<m)(hmb:m+1<b)(hb:b≤N)(hs:N≤4194304)(hA:Asc lt ix a m d)(hA2:Asc lt ix m b d)(hX:Cross ix a m b d)
  (hrec:∀(W':World) (d':Array α) (a' m' b':Nat),b'-a'<b-a→H W' d'→a'<m'→m'<b'→b'≤N→Asc lt ix a' m' d'→Asc lt ix m' b' d'→Cross ix a' m' b' d'→Calls Tryz.prog 166 #[.agg #[.func (.func g) #[] lb,.func (.func sf) #[] sb],.int .i64 (a':Int),.int .i64 (m':Int),.int .i64 (b':Int)] W' fun r W2=>r = .returned (.tuple #[])∧∃d2,H W2 d2∧W'.grownBy W2 (some blk)∧Asc lt ix a' b' d2∧PermIn a' b' d' d2) :
  Calls Tryz.prog 166 #[.agg #[.func (.func g) #[] lb,.func (.func sf) #[] sb],.int .i64 (a:Int),.int .i64 (m:Int),.int .i64 (b:Int)] W fun r W'=>r = .returned (.tuple #[])∧∃d',H W' d'∧W.grownBy W' (some blk)∧Asc lt ix a b d'∧PermIn a b d d':=by
 have eg:=hL.eg
 have H0:Hid (H W d∧BX H blk g lb sf sb W (W.alloc (.cells #[.func (.func g) #[] lb,.func (.func sf) #[] sb] 202)) d):=⟨h,BX.start hL h⟩
 have HZ:Hid (d.size=N):=hL.size _ _ h
 have HA:Hid (Asc lt ix a m d∧Asc lt ix m b d∧Cross ix a m b d):=⟨hA,hA2,hX⟩
 obtain⟨k0,hk0⟩:∃k0,k0=m-a:=⟨_,rfl⟩
 obtain⟨k1,hk1⟩:∃k1,k1=b-m:=⟨_,rfl⟩
 obtain⟨sab,hsab⟩:∃sab,sab=a+b:=⟨_,rfl⟩
 obtain⟨mid,hmid⟩:∃mid,mid=(a+b) / 2:=⟨_,rfl⟩
 obtain⟨n,hn⟩:∃n,n=mid+m:=⟨_,rfl⟩
 obtain⟨p,hp⟩:∃p,p=n-1:=⟨_,rfl⟩
 obtain⟨s0,r0,hsp⟩:∃s0 r0:Nat,if mid<m then s0+b=n∧r0=mid else s0=a∧r0=m:=by
  by_cases q:mid<m
  ·exact⟨n-b,mid,by rw[if_pos q];exact⟨by omega,rfl⟩⟩
  ·exact⟨a,m,by rw[if_neg q];exact⟨rfl,rfl⟩⟩
 have HB:Hid (a+1<m∧m+1<b∧b≤N∧mid=(a+b) / 2∧n=mid+m∧p=n-1∧if mid<m then s0+b=n∧r0=mid else s0=a∧r0=m):=⟨ham,hmb,hb,hmid,hn,hp,hsp⟩
 have HG:Hid (a≤s0∧s0≤r0∧r0≤mid∧r0≤m∧n≤s0+b∧m+2≤n):=by
  have:a≤s0∧s0≤r0∧r0≤mid∧r0≤m∧n≤s0+b∧m+2≤n:=by split at hsp<;>omega
  exact this
 have x0:(m:Int)-(a:Int)=(k0:Int):=by omega
 have x1:IntKind.i64.wrap (k0:Int)=(k0:Int):=wrapN (by omega)
 have x2:((k0:Int) == 1)=false:=by simp;omega
 have x3:(b:Int)-(m:Int)=(k1:Int):=by omega
 have x4:IntKind.i64.wrap (k1:Int)=(k1:Int):=wrapN (by omega)
 have x5:((k1:Int) == 1)=false:=by simp;omega
 have x6:(a:Int)+(b:Int)=(sab:Int):=by omega
 have x7:(sab:Int) / 2=(mid:Int):=by omega
 have x8:IntKind.u64.wrap (sab:Int)=(sab:Int):=by rw[IntKind.wrap_u64];omega
 have x9:IntKind.i64.wrap (sab:Int)=(sab:Int):=wrapN (by omega)
 have x10:IntKind.i64.wrap (mid:Int)=(mid:Int):=wrapN (by omega)
 have x11:(mid:Int)+(m:Int)=(n:Int):=by omega
 have x12:IntKind.i64.wrap (n:Int)=(n:Int):=wrapN (by omega)
 have x13:(n:Int)-1=(p:Int):=by omega
 have x14:IntKind.i64.wrap (p:Int)=(p:Int):=wrapN (by omega)
 clear h hA hA2 hX ham hmb hb hk0 hk1 hsab hmid hn hp hsp
 go_enter Tryz.func166,Tryz.ntmps166
 go_upto_if 106 with fail
 clear x0 x1 x2 x3 x4 x5 x6 x7 x8 x9 x10 x11
 go_cut [18,19] from 104 to 112 (fun sv rv W1=>sv = .int .i64 (s0:Int)∧rv = .int .i64 (r0:Int)∧W1=(W.alloc (.cells #[.func (.func g) #[] lb,.func (.func sf) #[] sb] 202)))
 case first =>
  have hsp:=HB.out.2.2.2.2.2.2
  by_cases q:mid<m
  ·rw[if_pos q]at hsp
   obtain⟨h1,h2⟩:=hsp
   subst h2
   have y0:(r0:Int)<(m:Int):=by omega
   have y1:(n:Int)-(b:Int)=(s0:Int):=by omega
   have y2:IntKind.i64.wrap (s0:Int)=(s0:Int):=wrapN (by have:=HB.out;omega)
   clear q h1
   go_wp2_with fail
   go_meet
   case rel=>exact⟨rfl,rfl,rfl⟩
  ·rw[if_neg q]at hsp
   obtain⟨h1,h2⟩:=hsp
   subst h1 h2
   have y0:¬ (mid:Int)<(r0:Int):=by omega
   clear q
   go_wp2_with fail
   go_meet
   case rel=>exact⟨rfl,rfl,rfl⟩
 case rest =>
  obtain⟨rfl,rfl,hwc⟩:=hcut
  have H1:Hid (BX H blk g lb sf sb W wc d):=by rw[hwc];exact H0.out.2
  clear hwc
  go_wp2_with fail
  clear x13 x14
  go_loopw [18,19] (fun sv rv wr=>∃s r:Nat,s0≤s∧s≤r∧r≤r0∧sv = .int .i64 (s:Int)∧rv = .int .i64 (r:Int)∧BX H blk g lb sf sb W wr d∧(s=s0∨lt d[n-s]! d[s-1]! =false)∧(r=r0∨lt d[n-1-r]! d[r]! =true)) (fun sv rv _=>(intOf rv).toNat-(intOf sv).toNat)
  case atStart=>exact⟨s0,r0,Nat.le_refl _,HG.out.2.1,Nat.le_refl _,rfl,rfl,H1.out,.inl rfl,.inl rfl⟩
  case round =>
   obtain⟨s,r,hmi,hij,hjb,rfl,rfl,hd,hl1,hl2⟩:=hrel
   generalize wr=wR at *
   have HD:Hid (BX H blk g lb sf sb W wR d∧(s=s0∨lt d[n-s]! d[s-1]! =false)∧(r=r0∨lt d[n-1-r]! d[r]! =true)):=⟨hd,hl1,hl2⟩
   clear H1 hl1 hl2
   by_cases hlt:s<r
   ·have hg:=HG.out
    have hq:=HB.out
    obtain⟨sr,hse⟩:∃sr,sr=s+r:=⟨_,rfl⟩
    obtain⟨c,hhe⟩:∃c,c=(s+r) / 2:=⟨_,rfl⟩
    obtain⟨pc,hpc⟩:∃pc,pc=p-c:=⟨_,rfl⟩
    have y0:(s:Int)+(r:Int)=(sr:Int):=by omega
    have y1:IntKind.i64.wrap (sr:Int)=(sr:Int):=wrapN (by omega)
    have y2:(sr:Int) / 2=(c:Int):=by omega
    have y3:IntKind.u64.wrap (sr:Int)=(sr:Int):=by rw[IntKind.wrap_u64];omega
    have y4:IntKind.i64.wrap (c:Int)=(c:Int):=wrapN (by omega)
    have y5:(p:Int)-(c:Int)=(pc:Int):=by omega
    have y6:IntKind.i64.wrap (pc:Int)=(pc:Int):=wrapN (by omega)
    have hji:(s:Int)<(r:Int):=by omega
    have hcb:c<4194304:=by omega
    have HCm:=hL.less wR d hd.h pc c (by omega) (by omega)
    have HH:Hid (s≤c∧c<r∧s0≤s∧r≤r0∧pc=n-1-c∧c<n):=⟨by omega,by omega,hmi,hjb,by omega,by omega⟩
    have c0:=hd.c0
    have lg:=hd.lt
    clear hd hse hhe hpc hmi hjb hij hlt hg hq
    cases hzb:lt d[pc]! d[c]! with
    | true =>
     rw[hzb]at HCm
     have HZB:Hid (lt d[pc]! d[c]! =true):=hzb
     clear hzb
     go_wp2_with (go_at_fn g;refine HCm.mono ?_;rintro r w5 ⟨rfl,h5,hg5⟩;have H5:Hid (BX H blk g lb sf sb W w5 d):=HD.out.1.step hL H0.out.1 h5 hg5;clear h5 hg5 HCm)
     obtain⟨q1,q2,q3,q4,q5,q6⟩:=HH.out
     refine⟨⟨s,c,q3,q1,by omega,rfl,rfl,H5.out,HD.out.2.1,.inr ?_⟩,by simp[intOf];omega⟩
     rw[← q5]
     exact HZB.out
    | false =>
     rw[hzb]at HCm
     have HZB:Hid (lt d[pc]! d[c]! =false):=hzb
     clear hzb
     go_wp2_with (go_at_fn g;refine HCm.mono ?_;rintro r w5 ⟨rfl,h5,hg5⟩;have H5:Hid (BX H blk g lb sf sb W w5 d):=HD.out.1.step hL H0.out.1 h5 hg5;clear h5 hg5 HCm)
     obtain⟨q1,q2,q3,q4,q5,q6⟩:=HH.out
     refine⟨⟨c+1,r,by omega,by omega,q4,by simp,rfl,H5.out,.inr ?_,HD.out.2.2⟩,by simp[intOf];omega⟩
     rw[Nat.add_sub_cancel,show n-(c+1)=pc by omega]
     exact HZB.out
   ·have hije:s=r:=by omega
    subst hije
    have hg:=HG.out
    have hq:=HB.out
    obtain⟨e,hee⟩:∃e,e=n-s:=⟨_,rfl⟩
    have y0:(n:Int)-(s:Int)=(e:Int):=by omega
    have y1:IntKind.i64.wrap (e:Int)=(e:Int):=wrapN (by omega)
    have HE:Hid (e=n-s∧s0≤s∧s≤r0∧e+s=n∧s≤m∧m≤e∧e≤b∧b≤N):=⟨hee,hmi,hjb,by omega,by omega,by omega,by omega,hq.2.2.1⟩
    clear hee hd hlt hmi hjb hij hg hq
    obtain⟨rb,hrb⟩:∃rb,decide (s<m∧m<e)=rb:=⟨_,rfl⟩
    have Hrb:Hid (decide (s<m∧m<e)=rb):=hrb
    clear hrb
    go_upto_region 40 with fail
    go_cut [145] from 138 to 145 (fun v W=>v = .bool rb∧W=wR)
    case first =>
     by_cases c1:s<m
     ·have d1:(s:Int)<(m:Int):=by omega
      by_cases c2:m<e
      ·have d2:(m:Int)<(e:Int):=by omega
       obtain rfl:rb=true:=by rw[← Hrb.out];simp[c1,c2]
       clear c1 c2
       go_wp2_with fail
       go_meet
       case rel=>exact⟨rfl,rfl⟩
      ·have d2:¬ (m:Int)<(e:Int):=by omega
       obtain rfl:rb=false:=by rw[← Hrb.out];simp[c2]
       clear c1 c2
       go_wp2_with fail
       go_meet
       case rel=>first|exact⟨rfl,rfl⟩|exact⟨by simp;omega,rfl⟩
     ·have d1:¬ (s:Int)<(m:Int):=by omega
      obtain rfl:rb=false:=by rw[← Hrb.out];simp[c1]
      clear c1
      go_wp2_with fail
      go_meet
      case rel=>first|exact⟨rfl,rfl⟩|exact⟨by simp;omega,rfl⟩
    case rest =>
     obtain⟨rfl,hwc⟩:=hcut
     have hwc':=hwc.symm
     subst hwc'
     clear hwc
     refine from_KF (by assumption) _ _ ?_
     go_cut [] from 146 to 150 (fun W1=>Hid (∃d1,BX H blk g lb sf sb W W1 d1∧Rot s m e d d1∧PermIn s e d d1))
     case first =>
      cases rb with
      | true =>
       have HR:=rotF_any hL HD.out.1.h s m e (by have:=Hrb.out;simp at this;omega) (by have:=Hrb.out;simp at this;omega) (by have:=HE.out;omega) hs
       have c0:=HD.out.1.c0
       have c1:=HD.out.1.c1
       have lg:=HD.out.1.lt
       go_wp2_with (go_at_call 219;refine HR.mono ?_;rintro r w5 ⟨rfl,d1,h5,hg5,h6,h7⟩;have H5:Hid (∃d1,BX H blk g lb sf sb W w5 d1∧Rot s m e d d1∧PermIn s e d d1):=⟨d1,HD.out.1.step hL H0.out.1 h5 hg5,h6,h7⟩;clear h5 hg5 h6 h7 HR)
       go_meet
       case rel=>exact H5
      | false =>
       have H5:Hid (∃d1,BX H blk g lb sf sb W wR d1∧Rot s m e d d1∧PermIn s e d d1):=⟨d,HD.out.1,Rot.none (by have:=Hrb.out;simp at this;have:=HE.out;omega) (by have:=HE.out;omega) (by have:=HE.out;omega),permIn_refl _ _ _⟩
       go_wp2_with fail
       go_meet
       case rel=>exact H5
     case rest =>
      obtain⟨w_a,hw_a⟩:∃w_a,w_a=wc:=⟨_,rfl⟩
      subst hw_a
      obtain⟨d1,hd1,hr1,hp1⟩:=hcut.out
      have hz1:=hp1.1
      have h9:=HB.out.2.2.2.2.2.2
      have h8:=HE.out
      have h7:=HB.out.2.2.2.2.1
      have hdz:=HZ.out
      have hS0:if mid<m then mid+m≤s+b∧s≤mid else a≤s∧s≤m:=by
       by_cases q:mid<m
       ·rw[if_pos q]at h9 ⊢;omega
       ·rw[if_neg q]at h9 ⊢;omega
      have hLow:(if mid<m then s+b=mid+m else s=a)∨lt d[e]! d[s-1]! =false:=by
       rcases HD.out.2.1 with h|h
       ·left
        by_cases q:mid<m
        ·rw[if_pos q]at h9 ⊢;omega
        ·rw[if_neg q]at h9 ⊢;omega
       ·right
        rw[h8.1]
        exact h
      have hHigh:(if mid<m then s=mid else s=m)∨lt d[e-1]! d[s]! =true:=by
       rcases HD.out.2.2 with h|h
       ·left
        by_cases q:mid<m
        ·rw[if_pos q]at h9 ⊢;omega
        ·rw[if_neg q]at h9 ⊢;omega
       ·right
        rw[show e-1=n-1-s by omega]
        exact h
      obtain⟨hsy,g1,g2,g3,g4,g5,g6⟩:=sym_of hS (d:=d) (d':=d1) (a:=a) (m:=m) (b:=b) (mid:=mid) (s:=s) (e:=e) (by have:=HB.out;omega) HB.out.2.2.2.1 (by omega) HA.out.1 HA.out.2.1 HA.out.2.2 hS0 hLow hHigh hr1
      have HP1:Hid (BX H blk g lb sf sb W w_a d1∧Sym lt ix a m b mid s e d d1∧PermIn a b d d1∧d1.size=d.size∧a≤s∧s≤mid∧mid≤e∧e≤b):=⟨hd1,hsy,permIn_mono _ _ _ _ _ _ g1 g6 (by have:=HB.out;omega) hp1,hz1,g1,g2,g4,g6⟩
      clear hcut hd1 hr1 hp1 hz1 hsy g1 g2 g3 g4 g5 g6 h9 h8 h7 hS0 hLow hHigh hdz
      obtain⟨lb2,hlb2⟩:∃lb2,decide (a<s∧s<mid)=lb2:=⟨_,rfl⟩
      have Hlb2:Hid (decide (a<s∧s<mid)=lb2):=hlb2
      clear hlb2
      go_upto_region 42 with fail
      go_cut [158] from 151 to 158 (fun v W=>v = .bool lb2∧W=w_a)
      case first =>
       by_cases c1:a<s
       ·have d1:(a:Int)<(s:Int):=by omega
        by_cases c2:s<mid
        ·have d2:(s:Int)<(mid:Int):=by omega
         obtain rfl:lb2=true:=by rw[← Hlb2.out];simp[c1,c2]
         clear c1 c2
         go_wp2_with fail
         go_meet
         case rel=>exact⟨rfl,rfl⟩
        ·have d2:¬ (s:Int)<(mid:Int):=by omega
         obtain rfl:lb2=false:=by rw[← Hlb2.out];simp[c2]
         clear c1 c2
         go_wp2_with fail
         go_meet
         case rel=>first|exact⟨rfl,rfl⟩|exact⟨by simp;omega,rfl⟩
       ·have d1:¬ (a:Int)<(s:Int):=by omega
        obtain rfl:lb2=false:=by rw[← Hlb2.out];simp[c1]
        clear c1
        go_wp2_with fail
        go_meet
        case rel=>first|exact⟨rfl,rfl⟩|exact⟨by simp;omega,rfl⟩
      case rest =>
       obtain⟨rfl,hwc⟩:=hcut
       have hwc':=hwc.symm
       subst hwc'
       clear hwc
       refine from_KF (by assumption) _ _ ?_
       go_cut [] from 159 to 163 (fun W1=>Hid (∃d2,BX H blk g lb sf sb W W1 d2∧PermIn a mid d1 d2∧Asc lt ix a mid d2))
       case first =>
        cases lb2 with
        | true =>
         have HR:=hrec w_a d1 a s mid (by have:=HP1.out;have:=HB.out;have:=Hlb2.out;simp at this;omega) HP1.out.1.h (by have:=Hlb2.out;simp at this;omega) (by have:=Hlb2.out;simp at this;omega) (by have:=HP1.out;have:=HB.out;omega) HP1.out.2.1.lo1 HP1.out.2.1.lo2 HP1.out.2.1.loc
         have c0:=HP1.out.1.c0
         have c1:=HP1.out.1.c1
         have lg:=HP1.out.1.lt
         go_wp2_with (go_at_call 166;refine HR.mono ?_;rintro r w5 ⟨rfl,d2,h5,hg5,h6,h7⟩;have H5:Hid (∃d2,BX H blk g lb sf sb W w5 d2∧PermIn a mid d1 d2∧Asc lt ix a mid d2):=⟨d2,HP1.out.1.step hL H0.out.1 h5 hg5,h7,h6⟩;clear h5 hg5 h6 h7 HR)
         go_meet
         case rel=>exact H5
        | false =>
         have H5:Hid (∃d2,BX H blk g lb sf sb W w_a d2∧PermIn a mid d1 d2∧Asc lt ix a mid d2):=⟨d1,HP1.out.1,permIn_refl _ _ _,by
          have h9:=Hlb2.out
          simp at h9
          have:=HP1.out.2.2.2.2
          by_cases q:a<s
          ·rw[show mid=s by omega];exact HP1.out.2.1.lo1
          ·have q2:s=a:=by omega
           have:=HP1.out.2.1.lo2
           rw[q2]at this
           exact this⟩
         go_wp2_with fail
         go_meet
         case rel=>exact H5
       case rest =>
        obtain⟨w_b,hw_b⟩:∃w_b,w_b=wc:=⟨_,rfl⟩
        subst hw_b
        obtain⟨d2,hd2,hp2,ha2⟩:=hcut.out
        have HP2:Hid (BX H blk g lb sf sb W w_b d2∧PermIn a mid d1 d2∧Asc lt ix a mid d2∧d2.size=d.size):=⟨hd2,hp2,ha2,hp2.1.trans HP1.out.2.2.2.1⟩
        have hup:∀p,mid≤p→d2[p]! =d1[p]!:=fun p hp=>hp2.2.1 p (.inr hp)
        have HU:Hid (Asc lt ix mid e d2∧Asc lt ix e b d2∧Cross ix mid e b d2):=⟨fun p q h1 h2 h3=>by rw[hup p h1,hup q (by omega)];exact HP1.out.2.1.hi1 p q h1 h2 h3,fun p q h1 h2 h3=>by rw[hup p (by have:=HP1.out;omega),hup q (by have:=HP1.out;omega)];exact HP1.out.2.1.hi2 p q h1 h2 h3,fun p q h1 h2 h3 h4=>by rw[hup p h1,hup q (by have:=HP1.out;omega)];exact HP1.out.2.1.hic p q h1 h2 h3 h4⟩
        clear hcut hd2 hp2 ha2 hup
        obtain⟨ub2,hub2⟩:∃ub2,decide (mid<e∧e<b)=ub2:=⟨_,rfl⟩
        have Hub2:Hid (decide (mid<e∧e<b)=ub2):=hub2
        clear hub2
        go_upto_region 44 with fail
        go_cut [171] from 164 to 171 (fun v W=>v = .bool ub2∧W=w_b)
        case first =>
         by_cases c1:mid<e
         ·have d1:(mid:Int)<(e:Int):=by omega
          by_cases c2:e<b
          ·have d2:(e:Int)<(b:Int):=by omega
           obtain rfl:ub2=true:=by rw[← Hub2.out];simp[c1,c2]
           clear c1 c2
           go_wp2_with fail
           go_meet
           case rel=>exact⟨rfl,rfl⟩
          ·have d2:¬ (e:Int)<(b:Int):=by omega
           obtain rfl:ub2=false:=by rw[← Hub2.out];simp[c2]
           clear c1 c2
           go_wp2_with fail
           go_meet
           case rel=>first|exact⟨rfl,rfl⟩|exact⟨by simp;omega,rfl⟩
         ·have d1:¬ (mid:Int)<(e:Int):=by omega
          obtain rfl:ub2=false:=by rw[← Hub2.out];simp[c1]
          clear c1
          go_wp2_with fail
          go_meet
          case rel=>first|exact⟨rfl,rfl⟩|exact⟨by simp;omega,rfl⟩
        case rest =>
         obtain⟨rfl,hwc⟩:=hcut
         have hwc':=hwc.symm
         subst hwc'
         clear hwc
         refine from_KF (by assumption) _ _ ?_
         have HF:Hid (∀W3 d3,BX H blk g lb sf sb W W3 d3→PermIn mid b d2 d3→Asc lt ix mid b d3→∃d',H W3 d'∧W.grownBy W3 (some blk)∧Asc lt ix a b d'∧PermIn a b d d'):=fun W3 d3 h1 h2 h3=>by
          have:=HP1.out
          have:=HB.out
          have:=HZ.out
          have hbs:b≤d1.size:=by omega
          have hj:=asc_join HP2.out.2.1 h2 hbs (by omega) HP2.out.2.2.1 h3 HP1.out.2.1.mix
          refine⟨d3,h1.h,h1.gr,hj,permIn_trans _ _ _ _ _ HP1.out.2.2.1 (permIn_trans _ _ _ _ _ (permIn_mono _ _ _ _ _ _ (Nat.le_refl _) (by omega) (by omega) HP2.out.2.1) (permIn_mono _ _ _ _ _ _ (by omega) (Nat.le_refl _) (by have:=HP2.out.2.2.2;omega) h2))⟩
         cases ub2 with
         | true =>
          have HR:=hrec w_b d2 mid e b (by have:=HP1.out;have:=HB.out;have:=Hub2.out;simp at this;omega) HP2.out.1.h (by have:=Hub2.out;simp at this;omega) (by have:=Hub2.out;simp at this;omega) (by have:=HP2.out;have:=HB.out;omega) HU.out.1 HU.out.2.1 HU.out.2.2
          have c0:=HP2.out.1.c0
          have c1:=HP2.out.1.c1
          have lg:=HP2.out.1.lt
          go_wp2_with (go_at_call 166;refine HR.mono ?_;rintro r w5 ⟨rfl,d3,h5,hg5,h6,h7⟩;have H5:Hid (∃d',H w5 d'∧W.grownBy w5 (some blk)∧Asc lt ix a b d'∧PermIn a b d d'):=HF.out _ d3 (HP2.out.1.step hL H0.out.1 h5 hg5) h7 h6;clear h5 hg5 h6 h7 HR)
          go_end0
          exact⟨rfl,H5.out⟩
         | false =>
          have H5:Hid (∃d',H w_b d'∧W.grownBy w_b (some blk)∧Asc lt ix a b d'∧PermIn a b d d'):=HF.out _ d2 HP2.out.1 (permIn_refl _ _ _) (by
           have h9:=Hub2.out
           simp at h9
           have:=HP1.out.2.2.2.2
           by_cases q:mid<e
           ·have q2:e=b:=by omega
            have:=HU.out.1
            rw[q2]at this
            exact this
           ·have q2:e=mid:=by omega
            have:=HU.out.2.1
            rw[q2]at this
            exact this)
          go_wp2_with fail
          go_end0
          exact⟨rfl,H5.out⟩
theorem symF_any{H:World→Array α→Prop}{lt:α→α→Bool}{ix:α→Nat}{N blk g sf:Nat}{lb sb:Array Value}(hS:SWO lt)(hL:LSw H lt N blk g lb sf sb)(hs:N≤4194304):∀(k:Nat) (W:World) (d:Array α) (a m b:Nat),b-a≤k→H W d→a<m→m<b→b≤N→Asc lt ix a m d→Asc lt ix m b d→Cross ix a m b d →
  Calls Tryz.prog 166 #[.agg #[.func (.func g) #[] lb,.func (.func sf) #[] sb],.int .i64 (a:Int),.int .i64 (m:Int),.int .i64 (b:Int)] W fun r W'=>r = .returned (.tuple #[])∧∃d',H W' d'∧W.grownBy W' (some blk)∧Asc lt ix a b d'∧PermIn a b d d'
 | 0,W,d,a,m,b,hk,_,h1,h2,_,_,_,_=>by omega
 | k+1,W,d,a,m,b,hk,hd,h1,h2,hb,hA,hA2,hX=>by
  by_cases c1:m=a+1
  ·exact symAF_any hS hL hd a m b c1 h2 hb hs hA2 hX
  by_cases c2:b=m+1
  ·exact symBF_any hS hL hd a m b (by omega) c2 hb hs hA hX
  exact symCF_any hS hL hd a m b (by omega) (by omega) hb hs hA hA2 hX (fun W' d' a' m' b' q1 q2 q4 q5 q6 q7 q8 q9=>symF_any hS hL hs k W' d' a' m' b' (by omega) q2 q4 q5 q6 q7 q8 q9)
end Go.Proofs.YtccoobcggbbcialGreatDoor.Stab
namespace Go.Proofs.YtccoobcggbbcialGreatDoor.Stab
open Go.Sort (swp swp_get swp_size SWO SWO.asymmA PermIn permIn_refl permIn_trans permIn_mono permIn_all swp_permIn)
theorem blk_mul{bs a:Nat}(ha:a % bs=0):a / bs*bs=a:=by
 have:=Nat.div_add_mod a bs
 rw[ha,Nat.add_zero,Nat.mul_comm]at this
 exact this
theorem blk_lt{bs a p:Nat}(h0:0<bs)(ha:a % bs=0)(hp:p<a):p / bs<a / bs:=by
 rw[Nat.div_lt_iff_lt_mul h0,blk_mul ha]
 exact hp
theorem blk_eq{bs a p:Nat}(h0:0<bs)(ha:a % bs=0)(h1:a≤p)(h2:p<a+bs):p / bs=a / bs:=by
 have h3:a / bs≤p / bs:=Nat.div_le_div_right h1
 have h4:p / bs<a / bs+1:=by
  rw[Nat.div_lt_iff_lt_mul h0,Nat.add_mul,blk_mul ha,Nat.one_mul]
  exact h2
 omega
theorem blk_next{bs a:Nat}(ha:a % bs=0):(a+bs) % bs=0:=by rw[Nat.add_mod_right];exact ha
theorem blk_half{bs a:Nat}(ha:a % (2*bs)=0):a % bs=0:=Nat.mod_eq_zero_of_dvd (Nat.dvd_trans (Nat.dvd_mul_left bs 2) (Nat.dvd_of_mod_eq_zero ha))
def SBk(lt:Nat→Nat→Bool)(bs n:Nat)(d:Array Nat):Prop:=∀p q,p<q→q<n→p / bs=q / bs→Bef lt id d[p]! d[q]!
def Bk(bs n:Nat)(d:Array Nat):Prop:=∀p,p<n→d[p]! / bs=p / bs
theorem grow_sorted{lt:Nat→Nat→Bool}{bs a b:Nat}{d1 d2:Array Nat}(h0:0<bs)(ha:a % bs=0)(h1:SBk lt bs a d1)(hP:PermIn a b d1 d2)(hA:Asc lt id a b d2):SBk lt bs b d2:=by
 intro p q h2 h3 h4
 by_cases c:q<a
 ·rw[hP.2.1 p (.inl (by omega)),hP.2.1 q (.inl c)]
  exact h1 p q h2 c h4
 ·by_cases c2:p<a
  ·have h5:=blk_lt h0 ha c2
   have h6:a / bs≤q / bs:=Nat.div_le_div_right (by omega)
   omega
  ·exact hA p q (by omega) h2 h3
theorem bk_perm{bs a b n:Nat}{d1 d2:Array Nat}(h:Bk bs n d1)(hP:PermIn a b d1 d2)(hb:b≤n)(hn:n≤d1.size)(hblk:∀p,a≤p→p<b→p / bs=a / bs):Bk bs n d2:=by
 intro p hp
 by_cases c:a≤p∧p<b
 ·rw[hblk p c.1 c.2]
  exact permIn_all d1 d2 a b (fun x=>x / bs=a / bs) (by omega) hP (fun i h1 h2=>by rw[h i (by omega)];exact hblk i h1 h2) p c.1 c.2
 ·rw[hP.2.1 p (by omega)]
  exact h p hp
theorem bk_cross{bs a m b n:Nat}{d:Array Nat}(h0:0<bs)(h:Bk bs n d)(hm:m % bs=0)(hb:b≤n):Cross id a m b d:=by
 intro p q h1 h2 h3 h4
 have h5:=h p (by omega)
 have h6:=h q (by omega)
 have h7:=blk_lt h0 hm h2
 have h8:m / bs≤q / bs:=Nat.div_le_div_right h3
 show d[p]!<d[q]!
 by_cases c:d[p]!<d[q]!
 ·exact c
 ·have h9:d[q]! / bs≤d[p]! / bs:=Nat.div_le_div_right (by omega)
  omega
theorem bk_double{bs n:Nat}{d:Array Nat}(h:Bk bs n d):Bk (2*bs) n d:=by
 intro p hp
 rw[Nat.mul_comm 2 bs,← Nat.div_div_eq_div_mul,← Nat.div_div_eq_div_mul,h p hp]
theorem sbk_asc{lt:Nat→Nat→Bool}{bs n a b:Nat}{d:Array Nat}(h0:0<bs)(h:SBk lt bs n d)(ha:a % bs=0)(h1:b≤a+bs)(h2:b≤n):Asc lt id a b d:=fun p q h3 h4 h5=>h p q h4 (by omega) ((blk_eq h0 ha h3 (by omega)).trans (blk_eq h0 ha (by omega) (by omega)).symm)
end Go.Proofs.YtccoobcggbbcialGreatDoor.Stab
namespace Go.Proofs.YtccoobcggbbcialGreatDoor.Stab
open Go.ChangeShapes Go.WideShapes Go.ChangeAt Go.RowKit Go.Shelf
open Go.Sort (swp swp_get swp_size SWO SWO.asymmA PermIn permIn_refl permIn_trans permIn_mono permIn_all swp_permIn)
set_option maxRecDepth 20000 in
set_option maxHeartbeats 8000000 in
theorem insF_any{α:Type}[Inhabited α]{H:World→Array α→Prop}{lt:α→α→Bool}{ix:α→Nat}{N blk g sf:Nat}{lb sb:Array Value}(hS:SWO lt)(hL:LSw H lt N blk g lb sf sb){W:World}{d:Array α}(h:H W d)(a b:Nat)(hab:a≤b)(hb:b≤N)(hs:N≤4194304)(hX:∀p q,a≤p→p<q→q<b→ix d[p]!<ix d[q]!) :
  Calls Tryz.prog 165 #[.agg #[.func (.func g) #[] lb,.func (.func sf) #[] sb],.int .i64 (a:Int),.int .i64 (b:Int)] W fun r W'=>r = .returned (.tuple #[])∧∃d',H W' d'∧W.grownBy W' (some blk)∧Asc lt ix a b d'∧PermIn a b d d':=by
 have eg:=hL.eg
 have H0:Hid (H W d∧BX H blk g lb sf sb W (W.alloc (.cells #[.func (.func g) #[] lb,.func (.func sf) #[] sb] 202)) d):=⟨h,BX.start hL h⟩
 have HX0:Hid ((∀p q,a≤p→p<q→q<b→ix d[p]!<ix d[q]!)∧a≤b∧b≤N∧d.size=N):=⟨hX,hab,hb,hL.size _ _ h⟩
 obtain⟨i0,hi0⟩:∃i0,i0=a+1:=⟨_,rfl⟩
 have x0:(a:Int)+1=(i0:Int):=by omega
 have x1:IntKind.i64.wrap (i0:Int)=(i0:Int):=wrapN (by omega)
 have HI:Hid (i0=a+1):=hi0
 clear h hX hab hb hi0
 go_enter Tryz.func165,Tryz.ntmps165
 go_wp2_with fail
 clear x0 x1
 go_loopw [6] (fun iv wr=>∃(i:Nat) (d1:Array α),a+1≤i∧(i≤b∨(i=a+1∧d1=d))∧iv = .int .i64 (i:Int)∧BX H blk g lb sf sb W wr d1∧Asc lt ix a i d1∧PermIn a i d d1) (fun iv _=>b-(intOf iv).toNat)
 case atStart=>exact⟨i0,d,by have:=HI.out;omega,.inr ⟨HI.out,rfl⟩,rfl,H0.out.2,fun p q h1 h2 h3=>by have:=HI.out;omega,permIn_refl _ _ _⟩
 case round =>
  obtain⟨i,d1,hai,hib,rfl,hd,hA,hp⟩:=hrel
  generalize wr=wR at *
  have HD:Hid (BX H blk g lb sf sb W wR d1∧Asc lt ix a i d1∧PermIn a i d d1∧a+1≤i∧(i≤b∨(i=a+1∧d1=d))):=⟨hd,hA,hp,hai,hib⟩
  clear hA hai hib
  have hz:=hp.1
  by_cases hlt:i<b
  rotate_left 1
  ·have hji:¬ (i:Int)<(b:Int):=by omega
   clear hd hp hlt
   go_wp2_with fail
   go_end0
   obtain⟨q1,q2,q3,q4,q5⟩:=HD.out
   have:=HX0.out.2
   refine⟨rfl,d1,q1.h,q1.gr,fun p q h1 h2 h3=>?_,?_⟩
   ·rcases q5 with h|⟨h,-⟩
    ·exact q2 p q h1 h2 (by omega)
    ·omega
   ·by_cases c:i=b
    ·rw[← c];exact q3
    ·rcases q5 with h|⟨-,h⟩
     ·omega
     ·rw[h];exact permIn_refl _ _ _
  ·have hji:(i:Int)<(b:Int):=by omega
   have hbs:=HX0.out
   have HIN:Hid (InsB lt ix a i i d1∧PermIn a (i+1) d d1):=⟨InsB.start HD.out.2.1 (fun p h1 h2=>by
    have e1:d1[i]! =d[i]!:=hp.2.1 i (.inr (Nat.le_refl _))
    rw[e1]
    exact permIn_all d d1 a i (fun x=>ix x<ix d[i]!) (by omega) hp (fun q h3 h4=>hbs.1 q i h3 h4 hlt) p h1 h2),permIn_mono _ _ _ _ _ _ (Nat.le_refl _) (by omega) (by omega) hp⟩
   have HL:Hid (i<b∧a<i∧b≤N∧d.size=N):=⟨hlt,HD.out.2.2.2.1,hbs.2.2⟩
   obtain⟨i1,hi1⟩:∃i1,i1=i+1:=⟨_,rfl⟩
   have z0:(i:Int)+1=(i1:Int):=by omega
   have z1:IntKind.i64.wrap (i1:Int)=(i1:Int):=wrapN (by omega)
   have HI1:Hid (i1=i+1):=hi1
   clear hd hp hlt hbs hz hi1
   go_wp2_with fail
   go_loopw [7] (fun jv wr=>∃(j:Nat) (d2:Array α),a≤j∧j≤i∧jv = .int .i64 (j:Int)∧BX H blk g lb sf sb W wr d2∧InsB lt ix a j i d2∧PermIn a (i+1) d d2) (fun jv _=>(intOf jv).toNat)
   case atStart=>exact⟨i,d1,by have:=HL.out;omega,Nat.le_refl _,rfl,HD.out.1,HIN.out⟩
   case round =>
    obtain⟨p,d2,hap,hpi,rfl,hd,hin,hp⟩:=hrel
    have hz:=hp.1
    have HR:Hid (BX H blk g lb sf sb W wr d2∧InsB lt ix a p i d2∧PermIn a (i+1) d d2∧a≤p∧p≤i):=⟨hd,hin,hp,hap,hpi⟩
    have hl:=HL.out
    have c0:=hd.c0
    have lg:=hd.lt
    by_cases hlt:a<p
    ·obtain⟨q,hqe⟩:∃q,q=p-1:=⟨_,rfl⟩
     have hpq:p=q+1:=by omega
     have HCm:=hL.less wr d2 hd.h p q (by omega) (by omega)
     have HP:Hid (p=q+1∧a<p):=⟨hpq,hlt⟩
     have e0:(p:Int)-1=(q:Int):=by omega
     have e1:(a:Int)<(p:Int):=by omega
     have e8:IntKind.i64.wrap (q:Int)=(q:Int):=wrapN (by omega)
     clear hd hin hp hap hpi hz hl hlt hqe hpq
     cases hzb:lt d2[p]! d2[q]! with
     | true =>
      rw[hzb]at HCm
      have HZB:Hid (lt d2[p]! d2[q]! =true):=hzb
      clear hzb
      go_wp2_with (go_at_fn g;refine HCm.mono ?_;rintro r w5 ⟨rfl,h5,hg5⟩;have H5:Hid (BX H blk g lb sf sb W w5 d2):=HR.out.1.step hL H0.out.1 h5 hg5;have c51:=H5.out.c1;have lg5:=H5.out.lt;clear h5 hg5 HCm)
      obtain⟨W2,hrun,hH2,hg2⟩:=hL.swap w5 d2 H5.out.h p q (by have:=HL.out;have:=HR.out.2.2.2;omega) (by have:=HL.out;have:=HR.out.2.2.2;have:=HP.out;omega)
      have HN:Hid (BX H blk g lb sf sb W W2 (swp d2 p q)∧InsB lt ix a q i (swp d2 p q)∧PermIn a (i+1) d (swp d2 p q)):=by
       have h2:=HR.out.2.1
       have hsz:=HR.out.2.2.1.1
       have h3:=HL.out
       have h4:=HP.out
       have h5:=HR.out.2.2.2
       refine⟨H5.out.step hL H0.out.1 hH2 hg2,?_,permIn_trans _ _ _ _ _ HR.out.2.2.1 (swp_permIn _ _ _ _ _ (by omega) (by omega) (by omega) (by omega) (by omega))⟩
       rw[h4.1]
       rw[h4.1]at h2
       refine h2.step ?_ (by omega) (by omega) (by omega)
       have h6:=HZB.out
       rw[h4.1]at h6
       exact h6
      have HRN:Hid (_=_):=hrun
      clear hrun hH2 hg2
      rw[HRN.out,Oper.upon_value]
      go_wp2_with fail
      have h4:=HP.out
      exact⟨⟨q,_,by omega,by have:=HR.out;omega,rfl,HN.out⟩,by simp[intOf];omega⟩
     | false =>
      rw[hzb]at HCm
      have HZB:Hid (lt d2[p]! d2[q]! =false):=hzb
      clear hzb
      go_wp2_with (go_at_fn g;refine HCm.mono ?_;rintro r w5 ⟨rfl,h5,hg5⟩;have H5:Hid (BX H blk g lb sf sb W w5 d2):=HR.out.1.step hL H0.out.1 h5 hg5;clear h5 hg5 HCm)
      obtain⟨q1,q2,q3,q4,q5⟩:=HR.out
      have h4:=HP.out
      have h5:=HL.out
      have h6:=HI1.out
      refine⟨⟨i1,d2,by omega,.inl (by omega),by simp,H5.out,?_,by rw[h6];exact q3⟩,by simp[intOf];omega⟩
      rw[h6]
      refine q2.stop hS (.inr ?_) q5
      rw[show p-1=q by omega]
      exact HZB.out
    ·have hpa:p=a:=by omega
     subst hpa
     have e1:¬ (p:Int)<(p:Int):=by omega
     clear hd hin hp hap hpi hz hl hlt
     go_wp2_with fail
     obtain⟨q1,q2,q3,q4,q5⟩:=HR.out
     have h5:=HL.out
     have h6:=HI1.out
     refine⟨⟨i1,d2,by omega,.inl (by omega),by simp,q1,?_,by rw[h6];exact q3⟩,by simp[intOf];omega⟩
     rw[h6]
     exact q2.stop hS (.inl (Nat.le_refl _)) q5
structure LAF (lt:Nat→Nat→Bool) (P:World→Array Nat→Prop) (W:World) (bs n a:Nat) (d0 d d1:Array Nat):Prop where
  sd:P W d1
  mod:a % bs=0
  le:a≤n
  srt:SBk lt bs a d1
  same:∀p,a≤p→d1[p]! =d[p]!
  bk:Bk bs n d1
  prm:PermIn 0 n d0 d1
theorem LAF.size{lt:Nat→Nat→Bool}{P:World→Array Nat→Prop}{W:World}{bs n a:Nat}{d0 d d1:Array Nat}(h:LAF lt P W bs n a d0 d d1):d1.size=d0.size:=h.prm.1
theorem LAF.step{lt:Nat→Nat→Bool}{P:World→Array Nat→Prop}{W W':World}{bs n a b:Nat}{d0 d d1 d2:Array Nat}(h:LAF lt P W bs n a d0 d d1)(h0:0<bs)(hb:b=a+bs)(hbn:b≤n)(hn:n≤d0.size)(hd:P W' d2)(hA:Asc lt id a b d2)(hP:PermIn a b d1 d2):LAF lt P W' bs n b d0 d d2:=by
  subst hb
  exact⟨hd,blk_next h.mod,hbn,grow_sorted h0 h.mod h.srt hP hA,fun p hp=>(hP.2.1 p (.inr hp)).trans (h.same p (by omega)),bk_perm h.bk hP hbn (by rw[h.size];exact hn) (fun p h1 h2=>blk_eq h0 h.mod h1 h2),permIn_trans _ _ _ _ _ h.prm (permIn_mono _ _ _ _ _ _ (Nat.zero_le _) hbn (by rw[h.size];exact hn) hP)⟩
structure LBF (lt:Nat→Nat→Bool) (P:World→Array Nat→Prop) (W:World) (bs n:Nat) (d0 d1:Array Nat):Prop where
  sd:P W d1
  srt:SBk lt bs n d1
  bk:Bk bs n d1
  prm:PermIn 0 n d0 d1
theorem LAF.last{lt:Nat→Nat→Bool}{P:World→Array Nat→Prop}{W W':World}{bs n a:Nat}{d0 d d1 d2:Array Nat}(h:LAF lt P W bs n a d0 d d1)(h0:0<bs)(hbn:n<a+bs)(hn:n≤d0.size)(hd:P W' d2)(hA:Asc lt id a n d2)(hP:PermIn a n d1 d2):LBF lt P W' bs n d0 d2 :=
  ⟨hd,grow_sorted h0 h.mod h.srt hP hA,bk_perm h.bk hP (Nat.le_refl _) (by rw[h.size];exact hn) (fun p h1 h2=>blk_eq h0 h.mod h1 (by omega)),permIn_trans _ _ _ _ _ h.prm (permIn_mono _ _ _ _ _ _ (Nat.zero_le _) (Nat.le_refl _) (by rw[h.size];exact hn) hP)⟩
theorem LBF.start{lt:Nat→Nat→Bool}{P:World→Array Nat→Prop}{W:World}{bs n:Nat}{d0 d1:Array Nat}(h:LBF lt P W bs n d0 d1):LAF lt P W (2*bs) n 0 d0 d1 d1 :=
  ⟨h.sd,Nat.zero_mod _,Nat.zero_le _,fun p q _ h2=>by omega,fun p _=>rfl,bk_double h.bk,h.prm⟩
theorem LAF.two{lt:Nat→Nat→Bool}{P:World→Array Nat→Prop}{W1 W:World}{bs n a m b:Nat}{d0 d1 d2:Array Nat}(h:LAF lt P W (2*bs) n a d0 d1 d2)(hB:LBF lt P W1 bs n d0 d1)(h0:0<bs)(hm:m=a+bs)(hmb:m≤b)(hbm:b≤m+bs)(hb:b≤n):Asc lt id a m d2∧Asc lt id m b d2∧Cross id a m b d2:=by
  subst hm
  have hs:=h.same
  have ha:=blk_half h.mod
  refine⟨fun p q h1 h2 h3=>?_,fun p q h1 h2 h3=>?_,fun p q h1 h2 h3 h4=>?_⟩
  · rw[hs p h1,hs q (by omega)]
    exact sbk_asc h0 hB.srt ha (Nat.le_refl _) (by omega) p q h1 h2 h3
  · rw[hs p (by omega),hs q (by omega)]
    exact sbk_asc h0 hB.srt (blk_next ha) hbm hb p q h1 h2 h3
  · rw[hs p h1,hs q (by omega)]
    exact bk_cross (a:=a) h0 hB.bk (blk_next ha) hb p q h1 h2 h3 h4
set_option maxRecDepth 20000 in
set_option maxHeartbeats 8000000 in
theorem stableF_full{H:World→Array Nat→Prop}{lt:Nat→Nat→Bool}{blk g sf:Nat}{lb sb:Array Value}(n:Nat)(hS:SWO lt)(hL:LSw H lt n blk g lb sf sb){W:World}{d:Array Nat}(h:H W d)(hs:n≤4000000)(hid:∀p,p<n→d[p]! =p) :
    Calls Tryz.prog 106 #[.agg #[.func (.func g) #[] lb,.func (.func sf) #[] sb],.int .i64 (n:Int)] W fun r W'=>r = .returned (.tuple #[])∧∃d',H W' d'∧W.grownBy W' (some blk)∧Asc lt id 0 n d'∧PermIn 0 n d d':=by
  have hn:n=d.size:=(hL.size _ _ h).symm
  have HN:Hid (n=d.size∧n≤4000000∧(∀p,p<n→d[p]! =p)∧H W d):=⟨hn,hs,hid,h⟩
  have H0:Hid (LAF lt (BX H blk g lb sf sb W) (W.alloc (.cells #[.func (.func g) #[] lb,.func (.func sf) #[] sb] 202)) 20 n 0 d d d):=⟨BX.start hL h,rfl,Nat.zero_le _,fun p q _ h2=>by omega,fun p _=>rfl,fun p hp=>by rw[hid p hp],permIn_refl _ _ _⟩
  clear h hn hid
  go_enter Tryz.func106,Tryz.ntmps106
  go_wp2_with fail
  go_loopw [5,6] (fun av bv wr=>∃(a b:Nat) (d1:Array Nat),b=a+20∧av = .int .i64 (a:Int)∧bv = .int .i64 (b:Int)∧Hid (LAF lt (BX H blk g lb sf sb W) wr 20 n a d d d1)) (fun av _ _=>n+20-(intOf av).toNat)
  case atStart=>exact⟨0,20,d,rfl,rfl,rfl,H0⟩
  case round =>
    obtain⟨a,b,d1,hab,rfl,rfl,HL⟩:=hrel
    clear H0
    have hln:=HL.out.le
    have hz:d1.size=n:=by rw[HL.out.size];exact HN.out.1.symm
    by_cases hlt:b≤n
    · have HI:=insF_any (ix:=id) hS hL HL.out.sd.h a b (by omega) (by omega) (by omega) (fun p q h1 h2 h3=>by
        rw[HL.out.same p h1,HL.out.same q (by omega),HN.out.2.2.1 p (by omega),HN.out.2.2.1 q (by omega)]
        exact h2)
      obtain⟨c,hc⟩:∃c,c=b+20:=⟨_,rfl⟩
      have e0:(b:Int)+20=(c:Int):=by omega
      have e1:IntKind.i64.wrap (c:Int)=(c:Int):=wrapN (by omega)
      have e2:(b:Int)≤(n:Int):=by omega
      have HP:Hid (b=a+20∧c=b+20∧b≤n):=⟨hab,hc,hlt⟩
      clear hab hc hlt hln hz
      have c0:=HL.out.sd.c0
      have c1:=HL.out.sd.c1
      have lgb:=HL.out.sd.lt
      go_wp2_with (go_at_call 165;refine HI.mono ?_;rintro r w5 ⟨rfl,d2,h5,hg5,h6,h7⟩;have H5:Hid (LAF lt (BX H blk g lb sf sb W) w5 20 n b d d d2):=HL.out.step (by omega) HP.out.1 HP.out.2.2 (by have:=HN.out;omega) (HL.out.sd.step hL HN.out.2.2.2 h5 hg5) h6 h7;clear h5 hg5 h6 h7 HI)
      exact⟨⟨b,c,d2,HP.out.2.1,by simp,by simp,H5⟩,by have:=HP.out;simp[intOf];omega⟩
    · have HI:=insF_any (ix:=id) hS hL HL.out.sd.h a n (by omega) (by omega) (by omega) (fun p q h1 h2 h3=>by
        rw[HL.out.same p h1,HL.out.same q (by omega),HN.out.2.2.1 p (by omega),HN.out.2.2.1 q (by omega)]
        exact h2)
      have e2:¬ (b:Int)≤(n:Int):=by omega
      have HP:Hid (n<a+20):=by(have:n<a+20:=(by omega);exact this)
      clear hab hlt hln hz
      have c0:=HL.out.sd.c0
      have c1:=HL.out.sd.c1
      have lgb:=HL.out.sd.lt
      go_wp2_with (go_at_call 165;refine HI.mono ?_;rintro r w5 ⟨rfl,d2,h5,hg5,h6,h7⟩;have H5:Hid (LBF lt (BX H blk g lb sf sb W) w5 20 n d d2):=HL.out.last (by omega) HP.out (by have:=HN.out;omega) (HL.out.sd.step hL HN.out.2.2.2 h5 hg5) h6 h7;clear h5 hg5 h6 h7 HI)
      go_loopw [4] (fun sv wr=>∃(bs:Nat) (d3:Array Nat),20≤bs∧bs≤8000000∧sv = .int .i64 (bs:Int)∧Hid (LBF lt (BX H blk g lb sf sb W) wr bs n d d3)) (fun sv _=>n-(intOf sv).toNat)
      case atStart=>exact⟨20,d2,Nat.le_refl _,by omega,rfl,H5⟩
      case round =>
        obtain⟨bs,d3,h20,hbs,rfl,HM⟩:=hrel
        generalize wr=wR at *
        clear H5 HL
        by_cases hlt:bs<n
        rotate_left 1
        · have e2:¬ (bs:Int)<(n:Int):=by omega
          have HQ:Hid (Asc lt id 0 n d3):=sbk_asc (by omega) HM.out.srt (Nat.zero_mod _) (by omega) (Nat.le_refl _)
          clear hlt
          go_wp2_with fail
          go_end0
          exact⟨rfl,d3,HM.out.sd.h,HM.out.sd.gr,HQ.out,HM.out.prm⟩
        · obtain⟨b2,hb2⟩:∃b2,b2=2*bs:=⟨_,rfl⟩
          have e0:2*(bs:Int)=(b2:Int):=by omega
          have e1:IntKind.i64.wrap (b2:Int)=(b2:Int):=wrapN (by omega)
          have e2:(bs:Int)<(n:Int):=by omega
          have e3:(bs:Int)*2=(b2:Int):=by omega
          have HS:Hid (b2=2*bs∧20≤bs∧bs<n):=⟨hb2,h20,hlt⟩
          have HA0:Hid (LAF lt (BX H blk g lb sf sb W) wR b2 n 0 d d3 d3):=by rw[hb2];exact HM.out.start
          clear hb2 h20 hbs hlt
          go_wp2_with fail
          go_loopw [5,6] (fun av bv wr=>∃(a b:Nat) (d4:Array Nat),b=a+b2∧av = .int .i64 (a:Int)∧bv = .int .i64 (b:Int)∧Hid (LAF lt (BX H blk g lb sf sb W) wr b2 n a d d3 d4)) (fun av _ _=>n+b2-(intOf av).toNat)
          case atStart=>exact⟨0,b2,d3,by omega,rfl,rfl,HA0⟩
          case round =>
            obtain⟨a,b,d4,hab,rfl,rfl,HL⟩:=hrel
            generalize wr=wS at *
            clear HA0
            have hln:=HL.out.le
            have hnn:=HN.out
            have hss:=HS.out
            have hz:d4.size=n:=by rw[HL.out.size];exact hnn.1.symm
            obtain⟨m,hm⟩:∃m,m=a+bs:=⟨_,rfl⟩
            have y0:(a:Int)+(bs:Int)=(m:Int):=by omega
            have y1:IntKind.i64.wrap (m:Int)=(m:Int):=wrapN (by omega)
            by_cases hlt:b≤n
            · have HT:=HL.out
              rw[hss.1]at HT
              obtain⟨t1,t2,t3⟩:=HT.two HM.out (m:=m) (b:=b) (by omega) hm (by omega) (by omega) hlt
              have HI:=symF_any hS hL (by omega) (b-a) wS d4 a m b (Nat.le_refl _) HT.sd.h (by omega) (by omega) (by omega) t1 t2 t3
              obtain⟨c,hc⟩:∃c,c=b+b2:=⟨_,rfl⟩
              have y2:(b:Int)+(b2:Int)=(c:Int):=by omega
              have y3:IntKind.i64.wrap (c:Int)=(c:Int):=wrapN (by omega)
              have y4:(b:Int)≤(n:Int):=by omega
              have HP:Hid (b=a+b2∧c=b+b2∧b≤n):=⟨hab,hc,hlt⟩
              clear hab hc hlt hln hz hnn hss hm HT t1 t2 t3
              have c0:=HL.out.sd.c0
              have c1:=HL.out.sd.c1
              have lgb:=HL.out.sd.lt
              go_wp2_with (go_at_call 166;refine HI.mono ?_;rintro r w5 ⟨rfl,d5,h5,hg5,h6,h7⟩;have H5:Hid (LAF lt (BX H blk g lb sf sb W) w5 b2 n b d d3 d5):=HL.out.step (by have:=HS.out;omega) HP.out.1 HP.out.2.2 (by have:=HN.out;omega) (HL.out.sd.step hL HN.out.2.2.2 h5 hg5) h6 h7;clear h5 hg5 h6 h7 HI)
              exact⟨⟨b,c,d5,HP.out.2.1,by simp,by simp,H5⟩,by have:=HP.out;have:=HS.out;simp[intOf];omega⟩
            · have y4:¬ (b:Int)≤(n:Int):=by omega
              have HP:Hid (n<a+b2∧20≤b2∧b2≤8000000∧n-b2<n-bs):=⟨by omega,by omega,by omega,by omega⟩
              by_cases hmn:m<n
              · have HT:=HL.out
                rw[hss.1]at HT
                obtain⟨t1,t2,t3⟩:=HT.two HM.out (m:=m) (b:=n) (by omega) hm (by omega) (by omega) (Nat.le_refl _)
                have HI:=symF_any hS hL (by omega) (n-a) wS d4 a m n (Nat.le_refl _) HT.sd.h (by omega) (by omega) (by omega) t1 t2 t3
                have y5:(m:Int)<(n:Int):=by omega
                clear hab hlt hln hz hnn hss hm HT t1 t2 t3 hmn
                have c0:=HL.out.sd.c0
                have c1:=HL.out.sd.c1
                have lgb:=HL.out.sd.lt
                go_wp2_with (go_at_call 166;refine HI.mono ?_;rintro r w5 ⟨rfl,d5,h5,hg5,h6,h7⟩;have H5:Hid (LBF lt (BX H blk g lb sf sb W) w5 b2 n d d5):=HL.out.last (by have:=HS.out;omega) HP.out.1 (by have:=HN.out;omega) (HL.out.sd.step hL HN.out.2.2.2 h5 hg5) h6 h7;clear h5 hg5 h6 h7 HI)
                exact⟨⟨b2,d5,HP.out.2.1,HP.out.2.2.1,by simp,H5⟩,by have:=HP.out;simp[intOf];omega⟩
              · have y5:¬ (m:Int)<(n:Int):=by omega
                have H5:Hid (LBF lt (BX H blk g lb sf sb W) wS b2 n d d4):=by
                  have HT:=HL.out
                  rw[hss.1]at HT
                  refine HL.out.last (by omega) HP.out.1 (by omega) HL.out.sd (fun p q h1 h2 h3=>?_) (permIn_refl _ _ _)
                  rw[HL.out.same p h1,HL.out.same q (by omega)]
                  exact sbk_asc (by omega) HM.out.srt (blk_half HT.mod) (by omega) (Nat.le_refl _) p q h1 h2 h3
                clear hab hlt hln hz hnn hss hm hmn
                go_wp2_with fail
                exact⟨⟨b2,d4,HP.out.2.1,HP.out.2.2.1,by simp,H5⟩,by have:=HP.out;simp[intOf];omega⟩
end Go.Proofs.YtccoobcggbbcialGreatDoor.Stab
namespace Go.Proofs
open Go.Shelf
def Tryz.sl8_ren:Go.Shelf.Ren:=⟨fun|8=>62|13=>104|14=>105|16=>107|15=>106|29=>165|30=>166|42=>219|49=>244|n=>n,fun|20=>20|26=>63|36=>197|0=>0|38=>178|42=>202|3=>3|4=>4|47=>245|17=>17|33=>194|34=>195|89=>336|12=>12|56=>296|82=>329|5=>5|83=>330|84=>331|85=>332|86=>333|87=>334|n=>n,fun|n=>n⟩
theorem Tryz.sl8:Go.Proofs.LaysGt.n8 Tryz.prog Tryz.sl8_ren:={
 mixed:=by kernel_rfl
 f8:=Tryz.func62.trans (congrArg some (by kernel_rfl))
 f13:=Tryz.func104.trans (congrArg some (by kernel_rfl))
 f14:=Tryz.func105.trans (congrArg some (by kernel_rfl))
 f15:=Tryz.func106.trans (congrArg some (by kernel_rfl))
 f16:=Tryz.func107.trans (congrArg some (by kernel_rfl))
 f29:=Tryz.func165.trans (congrArg some (by kernel_rfl))
 f30:=Tryz.func166.trans (congrArg some (by kernel_rfl))
 f42:=Tryz.func219.trans (congrArg some (by kernel_rfl))
 f49:=Tryz.func244.trans (congrArg some (by kernel_rfl))
 t0:=Tryz.underlying0
 a0:=Tryz.isAgg0
 z0:=Tryz.sizeOf0
 v0:=Tryz.zeroValue0
 i0:=by kernel_rfl
 t3:=Tryz.underlying3
 a3:=Tryz.isAgg3
 z3:=Tryz.sizeOf3
 v3:=Tryz.zeroValue3
 i3:=by kernel_rfl
 t4:=Tryz.underlying4
 a4:=Tryz.isAgg4
 z4:=Tryz.sizeOf4
 v4:=Tryz.zeroValue4
 i4:=by kernel_rfl
 t5:=Tryz.underlying5
 a5:=Tryz.isAgg5
 z5:=Tryz.sizeOf5
 v5:=Tryz.zeroValue5
 i5:=by kernel_rfl
 t12:=Tryz.underlying12
 a12:=Tryz.isAgg12
 z12:=Tryz.sizeOf12
 v12:=Tryz.zeroValue12
 i12:=by kernel_rfl
 t17:=Tryz.underlying17
 a17:=Tryz.isAgg17
 z17:=Tryz.sizeOf17
 v17:=Tryz.zeroValue17
 i17:=by kernel_rfl
 t20:=Tryz.underlying20
 a20:=Tryz.isAgg20
 z20:=Tryz.sizeOf20
 v20:=Tryz.zeroValue20
 i20:=by kernel_rfl
 t26:=Tryz.underlying63
 a26:=Tryz.isAgg63
 z26:=Tryz.sizeOf63
 v26:=Tryz.zeroValue63
 i26:=by kernel_rfl
 t33:=Tryz.underlying194
 a33:=Tryz.isAgg194
 z33:=Tryz.sizeOf194
 v33:=Tryz.zeroValue194
 i33:=by kernel_rfl
 t34:=Tryz.underlying195
 a34:=Tryz.isAgg195
 z34:=Tryz.sizeOf195
 v34:=Tryz.zeroValue195
 i34:=by kernel_rfl
 t36:=Tryz.underlying197
 a36:=Tryz.isAgg197
 z36:=Tryz.sizeOf197
 v36:=Tryz.zeroValue197
 i36:=by kernel_rfl
 t38:=Tryz.underlying178
 a38:=Tryz.isAgg178
 z38:=Tryz.sizeOf178
 v38:=Tryz.zeroValue178
 i38:=by kernel_rfl
 t42:=Tryz.underlying202
 a42:=Tryz.isAgg202
 z42:=Tryz.sizeOf202
 v42:=Tryz.zeroValue202
 i42:=by kernel_rfl
 t47:=Tryz.underlying245
 a47:=Tryz.isAgg245
 z47:=Tryz.sizeOf245
 v47:=Tryz.zeroValue245
 i47:=by kernel_rfl
 t56:=Tryz.underlying296
 a56:=Tryz.isAgg296
 z56:=Tryz.sizeOf296
 v56:=Tryz.zeroValue296
 i56:=by kernel_rfl
 t82:=Tryz.underlying329
 a82:=Tryz.isAgg329
 z82:=Tryz.sizeOf329
 v82:=Tryz.zeroValue329
 i82:=by kernel_rfl
 t83:=Tryz.underlying330
 a83:=Tryz.isAgg330
 z83:=Tryz.sizeOf330
 v83:=Tryz.zeroValue330
 i83:=by kernel_rfl
 t84:=Tryz.underlying331
 a84:=Tryz.isAgg331
 z84:=Tryz.sizeOf331
 v84:=Tryz.zeroValue331
 i84:=by kernel_rfl
 t85:=Tryz.underlying332
 a85:=Tryz.isAgg332
 z85:=Tryz.sizeOf332
 v85:=Tryz.zeroValue332
 i85:=by kernel_rfl
 t86:=Tryz.underlying333
 a86:=Tryz.isAgg333
 z86:=Tryz.sizeOf333
 v86:=Tryz.zeroValue333
 i86:=by kernel_rfl
 t87:=Tryz.underlying334
 a87:=Tryz.isAgg334
 z87:=Tryz.sizeOf334
 v87:=Tryz.zeroValue334
 i87:=by kernel_rfl
 t89:=Tryz.underlying336
 a89:=Tryz.isAgg336
 z89:=Tryz.sizeOf336
 v89:=Tryz.zeroValue336
 i89:=by kernel_rfl }
end Go.Proofs
namespace Go.Proofs.YtccoobcggbbcialGreatDoor
open Go.ChangeShapes Go.WideShapes Go.ChangeAt Go.RowKit
namespace Keep
def J(s:Sc)(k:Nat):List Pc:=s.jobs.getD k []
def M(s:Sc)(k:Nat):List Pc:=s.mail.getD k []
def En(s:Sc)(n k:Nat):Int:=(s.ends.getD n []).getD k (-1)
def fr(l:List Pa)(k:Nat):Int:=(l.getD k paZ).fr
def se(l:List Pa)(k:Nat):Int:=(l.getD k paZ).se
def co(l:List Pa)(k:Nat):Nat:=(l.getD k paZ).co.toNat
theorem getD_ge{α:Type}{a:List α}{i:Nat}{d:α}(h:a.length≤i):a.getD i d=d:=by
 rw[List.getD_eq_getElem?_getD,List.getElem?_eq_none h];rfl
theorem doneTo_form{l:List Pa}{tk:List Int}{part cm:Nat}{now:Int}{s:Sc}(hj:s.jobs.length=l.length)(hm:s.mail.length=l.length):∀K,K≤l.length →
  (doneTo l tk part cm now s K).un=s.un∧(doneTo l tk part cm now s K).ends=s.ends.set cm ((s.ends.getD cm []).set part now)∧(doneTo l tk part cm now s K).jobs.length=l.length∧(doneTo l tk part cm now s K).mail.length=l.length ∧
  ∀k,k<l.length→J (doneTo l tk part cm now s K) k=J s k++(if k<K∧fr l k=part∧se l k=0 then [⟨cm,now,wkF l tk k cm⟩] else [])∧M (doneTo l tk part cm now s K) k=M s k++(if k<K∧fr l k=part∧se l k≠0 then [⟨cm,now,se l k⟩] else [])
 | 0,_=>⟨rfl,rfl,hj,hm,fun k _=>by
   rw[if_neg (by omega),if_neg (by omega),List.append_nil,List.append_nil]
   exact⟨rfl,rfl⟩⟩
 | K+1,hK=>by
  obtain⟨h1,h2,h3,h4,h5⟩:=doneTo_form (tk:=tk) (part:=part) (cm:=cm) (now:=now) hj hm K (by omega)
  have e:doneTo l tk part cm now s (K+1)=doneStep l tk part cm now (doneTo l tk part cm now s K) K:=rfl
  rw[e]
  generalize doneTo l tk part cm now s K=s1 at *
  unfold doneStep
  by_cases hf:fr l K=part
  ·rw[if_neg (by unfold fr at hf;exact fun h=>h hf)]
   by_cases hs:se l K=0
   ·rw[if_pos (by unfold se at hs;exact hs)]
    refine⟨h1,h2,by simp only[addJ,List.length_set];exact h3,h4,fun k hk=>?_⟩
    obtain⟨g1,g2⟩:=h5 k hk
    constructor
    ·by_cases e:k=K
     ·subst e
      have:J (addJ l tk s1 k cm now) k=J s1 k++[⟨cm,now,wkF l tk k cm⟩]:=by
       unfold J addJ
       exact getD_set_self (by omega)
      rw[this,g1,if_neg (by omega),List.append_nil,if_pos ⟨by omega,hf,hs⟩]
     ·have:J (addJ l tk s1 K cm now) k=J s1 k:=by
       unfold J addJ
       exact getD_set_other (fun h=>e h.symm)
      rw[this,g1]
      congr 1
      by_cases h:k<K∧fr l k=part∧se l k=0
      ·rw[if_pos h,if_pos ⟨by omega,h.2⟩]
      ·rw[if_neg h,if_neg (fun h'=>h ⟨by omega,h'.2⟩)]
    ·have:M (addJ l tk s1 K cm now) k=M s1 k:=rfl
     rw[this,g2]
     congr 1
     by_cases h:k<K∧fr l k=part∧se l k≠0
     ·rw[if_pos h,if_pos ⟨by omega,h.2⟩]
     ·rw[if_neg h,if_neg (fun h'=>h ⟨by
       rcases Nat.lt_or_ge k K with g|g
       ·exact g
       ·exact absurd (show se l k=0 by rw[show k=K by omega];exact hs) h'.2.2,h'.2⟩)]
   ·rw[if_neg (by unfold se at hs;exact hs)]
    refine⟨h1,h2,h3,by simp only[addM,List.length_set];exact h4,fun k hk=>?_⟩
    obtain⟨g1,g2⟩:=h5 k hk
    constructor
    ·have:J (addM l s1 K cm now) k=J s1 k:=rfl
     rw[this,g1]
     congr 1
     by_cases h:k<K∧fr l k=part∧se l k=0
     ·rw[if_pos h,if_pos ⟨by omega,h.2⟩]
     ·rw[if_neg h,if_neg (fun h'=>h ⟨by
       rcases Nat.lt_or_ge k K with g|g
       ·exact g
       ·exact absurd (show se l K=0 by rw[← show k=K by omega];exact h'.2.2) hs,h'.2⟩)]
    ·by_cases e:k=K
     ·subst e
      have:M (addM l s1 k cm now) k=M s1 k++[⟨cm,now,se l k⟩]:=by
       unfold M addM
       exact getD_set_self (by omega)
      rw[this,g2,if_neg (by omega),List.append_nil,if_pos ⟨by omega,hf,hs⟩]
     ·have:M (addM l s1 K cm now) k=M s1 k:=by
       unfold M addM
       exact getD_set_other (fun h=>e h.symm)
      rw[this,g2]
      congr 1
      by_cases h:k<K∧fr l k=part∧se l k≠0
      ·rw[if_pos h,if_pos ⟨by omega,h.2⟩]
      ·rw[if_neg h,if_neg (fun h'=>h ⟨by omega,h'.2⟩)]
  ·rw[if_pos (by unfold fr at hf;exact hf)]
   refine⟨h1,h2,h3,h4,fun k hk=>?_⟩
   obtain⟨g1,g2⟩:=h5 k hk
   have hkK:k<K+1→fr l k=part→k<K:=fun h1 h2=>by
    rcases Nat.lt_or_ge k K with g|g
    ·exact g
    ·exact absurd (show fr l K=part by rw[← show k=K by omega];exact h2) hf
   constructor
   ·rw[g1]
    congr 1
    by_cases h:k<K∧fr l k=part∧se l k=0
    ·rw[if_pos h,if_pos ⟨by omega,h.2⟩]
    ·rw[if_neg h,if_neg (fun h'=>h ⟨hkK h'.1 h'.2.1,h'.2⟩)]
   ·rw[g2]
    congr 1
    by_cases h:k<K∧fr l k=part∧se l k≠0
    ·rw[if_pos h,if_pos ⟨by omega,h.2⟩]
    ·rw[if_neg h,if_neg (fun h'=>h ⟨hkK h'.1 h'.2.1,h'.2⟩)]
def rD(s:Sc)(F:Nat→Bool)(u:Nat):Bool:=F u && runD (J s u)
structure CoR (l:List Pa) (tk:List Int) (now:Int) (F:Nat→Bool) (s s':Sc):Prop where
 lj:s'.jobs.length=l.length
 lm:s'.mail.length=l.length
 le:s'.ends.length=s.ends.length
 er:∀n:Nat,(s'.ends.getD n []).length=(s.ends.getD n []).length
 un:s'.un=s.un
 j:∀k,k<l.length→J s' k=(if F k=true then runQ (J s k) else J s k)++(if fr l k≠-1∧se l k=0∧rD s F (fr l k).toNat=true then [⟨runC (J s (fr l k).toNat),now+1,wkF l tk k (runC (J s (fr l k).toNat))⟩] else [])
 m:∀k,k<l.length→M s' k=M s k++(if fr l k≠-1∧se l k≠0∧rD s F (fr l k).toNat=true then [⟨runC (J s (fr l k).toNat),now+1,se l k⟩] else [])
 e:∀n k,k<l.length→En s' n k=if rD s F k=true∧n=runC (J s k) then now+1 else En s n k
theorem runQ_app{q r:List Pc}(h:q≠[]):runQ (q++r)=runQ q++r:=by
 cases q with
 | nil=>exact absurd rfl h
 | cons p t =>
  by_cases hl:0<p.lf-1
  ·rw[List.cons_append,show runQ (p::(t++r))={ p with lf:=p.lf-1 }::(t++r) from if_pos hl,show runQ (p::t)={ p with lf:=p.lf-1 }::t from if_pos hl];rfl
  ·rw[List.cons_append,show runQ (p::(t++r))=t++r from if_neg hl,show runQ (p::t)=t from if_neg hl]
theorem runC_app{q r:List Pc}(h:q≠[]):runC (q++r)=runC q:=by
 cases q with
 | nil=>exact absurd rfl h
 | cons p t=>rfl
theorem runD_app{q r:List Pc}(h:q≠[]):runD (q++r)=runD q:=by
 cases q with
 | nil=>exact absurd rfl h
 | cons p t=>rfl
def Fc(l:List Pa)(fs:List Int)(c:Nat)(k:Nat):Bool:=decide (k<l.length) && decide (co l k<c) && decide (fs.getD (co l k) 0=(k:Int))
theorem coresTo_form{l:List Pa}{tk:List Int}{now:Int}{fs:List Int}{s:Sc}(hok:PsOk l)(hj:s.jobs.length=l.length)(hm:s.mail.length=l.length)
  (hro:∀k,J s k≠[]→runC (J s k)<s.ends.length∧(s.ends.getD (runC (J s k)) []).length=l.length)
  (hfs:∀c,c<4→fs.getD c 0=-1∨∃u:Nat,fs.getD c 0=u∧u<l.length∧J s u≠[]∧co l u=c):∀c,c≤4→CoR l tk now (Fc l fs c) s (coresTo l tk now fs s c)
 | 0,_=>by
  have hF:∀k,Fc l fs 0 k=false:=fun k=>by unfold Fc;simp
  have hD:∀k,rD s (Fc l fs 0) k=false:=fun k=>by unfold rD;rw[hF];rfl
  refine⟨hj,hm,rfl,fun n=>rfl,rfl,fun k hk=>?_,fun k hk=>?_,fun n k hk=>?_⟩
  ·rw[hF,hD,if_neg (by simp),if_neg (by simp),List.append_nil];rfl
  ·rw[hD,if_neg (by simp),List.append_nil];rfl
  ·rw[hD,if_neg (by simp)];rfl
 | c+1,hc=>by
  have ih:=coresTo_form (tk:=tk) (now:=now) hok hj hm hro hfs c (by omega)
  have e0:coresTo l tk now fs s (c+1)=coreStep l tk now (coresTo l tk now fs s c) (fs.getD c 0):=rfl
  rw[e0]
  generalize coresTo l tk now fs s c=s1 at *
  rcases hfs c (by omega) with hz|⟨u,hz,hu,hne,hcu⟩
  ·have hF:Fc l fs (c+1)=Fc l fs c:=by
    funext k
    unfold Fc
    by_cases h:co l k=c
    ·have h1:decide (fs.getD (co l k) 0=(k:Int))=false:=by rw[h,hz];exact decide_eq_false (by omega)
     rw[h1,Bool.and_false,Bool.and_false]
    ·have:decide (co l k<c+1)=decide (co l k<c):=by
      by_cases g:co l k<c
      ·rw[decide_eq_true g,decide_eq_true (by omega)]
      ·rw[decide_eq_false g,decide_eq_false (by omega)]
     rw[this]
   rw[hF,hz]
   unfold coreStep
   rw[if_pos rfl]
   exact ih
  ·have hFu:Fc l fs c u=false:=by unfold Fc;simp[hcu]
   have hF:∀k,Fc l fs (c+1) k=(Fc l fs c k || decide (k=u)):=fun k=>by
    unfold Fc
    by_cases e:k=u
    ·subst e
     rw[decide_eq_true hu,decide_eq_true (show co l k<c+1 by omega),hcu,hz]
     simp
    ·rw[decide_eq_false e,Bool.or_false]
     by_cases h:co l k=c
     ·have h1:decide (fs.getD (co l k) 0=(k:Int))=false:=by rw[h,hz];exact decide_eq_false (by omega)
      rw[h1,Bool.and_false,Bool.and_false]
     ·have:decide (co l k<c+1)=decide (co l k<c):=by
       by_cases g:co l k<c
       ·rw[decide_eq_true g,decide_eq_true (by omega)]
       ·rw[decide_eq_false g,decide_eq_false (by omega)]
      rw[this]
   have hrD:∀k,rD s (Fc l fs (c+1)) k=(rD s (Fc l fs c) k || (decide (k=u) && runD (J s u))):=fun k=>by
    unfold rD
    rw[hF]
    by_cases e:k=u
    ·subst e
     rw[hFu,decide_eq_true rfl];simp
    ·rw[decide_eq_false e];simp
   have hrDu:rD s (Fc l fs c) u=false:=by unfold rD;rw[hFu];rfl
   have hfru:fr l u≠(u:Int):=by
    rcases(hok.at_ u _ (some_getD (d:=paZ) hu)).fr with h|⟨h1,h2,-⟩
    ·unfold fr;omega
    ·unfold fr;omega
   have hfr0:∀k,k<l.length→fr l k≠-1→0≤fr l k:=fun k hk hf1=>by
    rcases(hok.at_ k _ (some_getD (d:=paZ) hk)).fr with h|⟨h1,-⟩
    ·exact absurd h.1 hf1
    ·exact h1
   have hJu:=ih.j u hu
   rw[hFu,if_neg (by simp)]at hJu
   generalize hex:(if fr l u≠-1∧se l u=0∧rD s (Fc l fs c) (fr l u).toNat=true then [(⟨runC (J s (fr l u).toNat),now+1,wkF l tk u (runC (J s (fr l u).toNat))⟩:Pc)] else [])=ex at hJu
   have hq1:runQ (J s1 u)=runQ (J s u)++ex:=by rw[hJu];exact runQ_app hne
   have hq2:runC (J s1 u)=runC (J s u):=by rw[hJu];exact runC_app hne
   have hq3:runD (J s1 u)=runD (J s u):=by rw[hJu];exact runD_app hne
   unfold coreStep
   rw[hz,if_neg (by omega),Int.toNat_natCast]
   rw[show s1.jobs.getD u []=J s1 u from rfl,hq1,hq2,hq3]
   by_cases hd:runD (J s u)=true
   ·rw[if_pos hd]
    obtain⟨g1,g2,g3,g4,g5⟩:=doneTo_form (l:=l) (tk:=tk) (part:=u) (cm:=runC (J s u)) (now:=now+1) (s:={ s1 with jobs:=s1.jobs.set u (runQ (J s u)++ex) }) (by simp only[List.length_set];exact ih.lj) ih.lm l.length (Nat.le_refl _)
    generalize doneTo l tk u (runC (J s u)) (now+1) { s1 with jobs:=s1.jobs.set u (runQ (J s u)++ex) } l.length=s2 at *
    have hends:s2.ends=s1.ends.set (runC (J s u)) ((s1.ends.getD (runC (J s u)) []).set u (now+1)):=g2
    obtain⟨ho1,ho2⟩:=hro u hne
    have hn1:runC (J s u)<s1.ends.length:=by rw[ih.le];exact ho1
    refine⟨g3,g4,by rw[hends,List.length_set];exact ih.le,fun n=>?_,g1.trans ih.un,fun k hk=>?_,fun k hk=>?_,fun n k hk=>?_⟩
    ·rw[hends]
     by_cases e:runC (J s u)=n
     ·subst e
      rw[getD_set_self hn1,List.length_set]
      exact ih.er _
     ·rw[getD_set_other e]
      exact ih.er n
    ·have hJk:J { s1 with jobs:=s1.jobs.set u (runQ (J s u)++ex) } k=if k=u then runQ (J s u)++ex else J s1 k:=by
      unfold J
      by_cases e:k=u
      ·subst e
       rw[if_pos rfl]
       exact getD_set_self (by rw[ih.lj];exact hu)
      ·rw[if_neg e]
       exact getD_set_other (fun h=>e h.symm)
     rw[(g5 k hk).1,hJk]
     by_cases e:k=u
     ·subst e
      rw[if_pos rfl,if_neg (fun h=>hfru h.2.1),List.append_nil,hF,decide_eq_true rfl,Bool.or_true,if_pos rfl]
      congr 1
      rw[← hex]
      by_cases h:fr l k≠-1∧se l k=0∧rD s (Fc l fs c) (fr l k).toNat=true
      ·rw[if_pos h,if_pos ⟨h.1,h.2.1,by rw[hrD,h.2.2];rfl⟩]
      ·rw[if_neg h,if_neg (fun h'=>h ⟨h'.1,h'.2.1,by
        have h9:=h'.2.2
        have:=hfr0 k hk h'.1
        rw[hrD,decide_eq_false (by omega)]at h9
        simpa using h9⟩)]
     ·rw[if_neg e,ih.j k hk,hF,decide_eq_false e,Bool.or_false,List.append_assoc]
      congr 1
      by_cases hf:fr l k=(u:Int)
      ·have ht:(fr l k).toNat=u:=by omega
       rw[ht,hrD,hrDu,decide_eq_true rfl,hd]
       rw[if_neg (by simp)]
       by_cases hs:se l k=0
       ·rw[if_pos ⟨hk,hf,hs⟩,if_pos ⟨by omega,hs,rfl⟩];rfl
       ·rw[if_neg (fun h=>hs h.2.2),if_neg (fun h=>hs h.2.1)];rfl
      ·rw[if_neg (c:=k<l.length∧fr l k=(u:Int)∧se l k=0) (fun h=>hf h.2.1),List.append_nil]
       by_cases hf1:fr l k=-1
       ·rw[if_neg (fun h=>h.1 hf1),if_neg (fun h=>h.1 hf1)]
       ·have hf0:0≤fr l k:=by
         rcases(hok.at_ k _ (some_getD (d:=paZ) hk)).fr with h|⟨h1,-⟩
         ·exact absurd h.1 hf1
         ·exact h1
        rw[hrD,decide_eq_false (show ¬ (fr l k).toNat=u by omega)]
        simp
    ·rw[(g5 k hk).2]
     have hMk:M { s1 with jobs:=s1.jobs.set u (runQ (J s u)++ex) } k=M s1 k:=rfl
     rw[hMk,ih.m k hk,List.append_assoc]
     congr 1
     by_cases hf:fr l k=(u:Int)
     ·have ht:(fr l k).toNat=u:=by omega
      rw[ht,hrD,hrDu,decide_eq_true rfl,hd]
      rw[if_neg (by simp)]
      by_cases hs:se l k=0
      ·rw[if_neg (fun h=>h.2.2 hs),if_neg (fun h=>h.2.1 hs)];rfl
      ·rw[if_pos ⟨hk,hf,hs⟩,if_pos ⟨by omega,hs,rfl⟩];rfl
     ·rw[if_neg (c:=k<l.length∧fr l k=(u:Int)∧se l k≠0) (fun h=>hf h.2.1),List.append_nil]
      by_cases hf1:fr l k=-1
      ·rw[if_neg (fun h=>h.1 hf1),if_neg (fun h=>h.1 hf1)]
      ·have hf0:0≤fr l k:=by
        rcases(hok.at_ k _ (some_getD (d:=paZ) hk)).fr with h|⟨h1,-⟩
        ·exact absurd h.1 hf1
        ·exact h1
       rw[hrD,decide_eq_false (show ¬ (fr l k).toNat=u by omega)]
       simp
    ·have he1:=ih.e n k hk
     rw[hrD]
     unfold En at he1 ⊢
     rw[hends]
     by_cases e:n=runC (J s u)
     ·subst e
      rw[getD_set_self hn1]
      by_cases ek:k=u
      ·subst ek
       rw[getD_set_self (by rw[ih.er,ho2];exact hk),decide_eq_true rfl,hd,if_pos ⟨by simp,rfl⟩]
      ·rw[getD_set_other (fun h=>ek h.symm),he1,decide_eq_false ek]
       simp
     ·rw[getD_set_other (fun h=>e h.symm),he1]
      by_cases ek:k=u
      ·subst ek
       rw[if_neg (fun h=>e h.2),if_neg (fun h=>e h.2)]
      ·rw[decide_eq_false ek]
       simp
   ·rw[if_neg hd]
    have hd':runD (J s u)=false:=by simpa using hd
    have hrD2:∀k,rD s (Fc l fs (c+1)) k=rD s (Fc l fs c) k:=fun k=>by rw[hrD,hd'];simp
    refine⟨by simp only[List.length_set];exact ih.lj,ih.lm,ih.le,ih.er,ih.un,fun k hk=>?_,fun k hk=>?_,fun n k hk=>?_⟩
    ·have hJk:J { s1 with jobs:=s1.jobs.set u (runQ (J s u)++ex) } k=if k=u then runQ (J s u)++ex else J s1 k:=by
      unfold J
      by_cases e:k=u
      ·subst e
       rw[if_pos rfl]
       exact getD_set_self (by rw[ih.lj];exact hu)
      ·rw[if_neg e]
       exact getD_set_other (fun h=>e h.symm)
     rw[hJk,hrD2]
     by_cases e:k=u
     ·subst e
      rw[if_pos rfl,hF,decide_eq_true rfl,Bool.or_true,if_pos rfl,hex]
     ·rw[if_neg e,ih.j k hk,hF,decide_eq_false e,Bool.or_false]
    ·rw[hrD2]
     exact ih.m k hk
    ·rw[hrD2]
     exact ih.e n k hk
end Keep
namespace Keep
theorem firstsTo_best{l:List Pa}{jobs:List (List Pc)}(hco:∀k,k<l.length→co l k<4):∀K,K≤l.length→∀k,k<K→jobs.getD k []≠[]→∃u:Nat,(firstsTo l jobs K).getD (co l k) 0=u∧(l.getD k paZ).p≤(l.getD u paZ).p
 | 0,_,k,hk,_=>by omega
 | K+1,hK,k,hk,hne=>by
  have hl:=firstsTo_len l jobs K
  have e0:firstsTo l jobs (K+1)=stepFirst l jobs (firstsTo l jobs K) K:=rfl
  have hat:(firstsTo l jobs K)[co l K]?=some ((firstsTo l jobs K).getD (co l K) 0):=some_getD (by rw[hl];exact hco K (by omega))
  have hat':=firstsTo_at K (co l K) _ hat
  have ih:=fun h=>firstsTo_best hco K (by omega) k h hne
  have hcK:=hco K (by omega)
  rw[e0]
  generalize firstsTo l jobs K=fs at *
  unfold stepFirst
  by_cases hc:jobs.getD K []≠[]∧(fs.getD (l.getD K paZ).co.toNat 0=-1∨aheadQ l jobs K (fs.getD (l.getD K paZ).co.toNat 0).toNat=true)
  ·rw[if_pos hc]
   by_cases e:co l k=co l K
   ·refine⟨K,by rw[e];exact getD_set_self (by rw[hl];exact hcK),?_⟩
    by_cases ek:k=K
    ·subst ek;exact Int.le_refl _
    ·obtain⟨u,h1,h2⟩:=ih (by omega)
     rcases hc.2 with h|h
     ·rw[e]at h1
      rw[show(l.getD K paZ).co.toNat=co l K from rfl,h1]at h
      omega
     ·rw[e]at h1
      rw[show(l.getD K paZ).co.toNat=co l K from rfl,h1,Int.toNat_natCast]at h
      unfold aheadQ at h
      by_cases hp:(l.getD K paZ).p≠(l.getD u paZ).p
      ·rw[if_pos hp]at h
       have:=of_decide_eq_true h
       omega
      ·omega
   ·obtain⟨u,h1,h2⟩:=ih (by
     rcases Nat.lt_or_ge k K with g|g
     ·exact g
     ·exact absurd (show co l k=co l K by rw[show k=K by omega]) e)
    exact⟨u,by rw[show(l.getD K paZ).co.toNat=co l K from rfl,getD_set_other (fun h=>e h.symm)];exact h1,h2⟩
  ·rw[if_neg hc]
   by_cases ek:k=K
   ·subst ek
    have h1:¬ (fs.getD (l.getD k paZ).co.toNat 0=-1∨aheadQ l jobs k (fs.getD (l.getD k paZ).co.toNat 0).toNat=true):=fun h=>hc ⟨hne,h⟩
    rcases hat' with h|⟨u,h,hu,-⟩
    ·exact absurd (.inl h) h1
    ·refine⟨u,h,?_⟩
     have h2:aheadQ l jobs k u≠true:=fun g=>h1 (.inr (by rw[show(l.getD k paZ).co.toNat=co l k from rfl,h,Int.toNat_natCast];exact g))
     unfold aheadQ at h2
     by_cases hp:(l.getD k paZ).p≠(l.getD u paZ).p
     ·rw[if_pos hp]at h2
      have:¬ (l.getD u paZ).p<(l.getD k paZ).p:=fun g=>h2 (decide_eq_true g)
      omega
     ·omega
   ·exact ih (by omega)
structure TkR (l:List Pa) (tk:List Int) (now:Int) (F:Nat→Bool) (z:Int) (s s':Sc):Prop where
 lj:s'.jobs.length=l.length
 lm:s'.mail.length=l.length
 le:s'.ends.length=s.ends.length
 er:∀n:Nat,(s'.ends.getD n []).length=(s.ends.getD n []).length
 un:s'.un=if z=-1 then -1 else if runD (M s z.toNat)=true then -1 else z
 j:∀k,k<l.length→J s' k=((if F k=true then runQ (J s k) else J s k)++(if fr l k≠-1∧se l k=0∧rD s F (fr l k).toNat=true then [⟨runC (J s (fr l k).toNat),now+1,wkF l tk k (runC (J s (fr l k).toNat))⟩] else []))++(if z=(k:Int)∧runD (M s k)=true then [⟨runC (M s k),now+1,wkF l tk k (runC (M s k))⟩] else [])
 m:∀k,k<l.length→M s' k=(if z=(k:Int) then runQ (M s k) else M s k)++(if fr l k≠-1∧se l k≠0∧rD s F (fr l k).toNat=true then [⟨runC (J s (fr l k).toNat),now+1,se l k⟩] else [])
 e:∀n k,k<l.length→En s' n k=if rD s F k=true∧n=runC (J s k) then now+1 else En s n k
theorem tick_form{l:List Pa}{tk:List Int}{now:Int}{s:Sc}(hok:PsOk l)(hj:s.jobs.length=l.length)(hm:s.mail.length=l.length)
  (hro:∀k,J s k≠[]→runC (J s k)<s.ends.length∧(s.ends.getD (runC (J s k)) []).length=l.length)
  (hz:sentF s=-1∨∃u:Nat,sentF s=u∧u<l.length∧M s u≠[]) :
  ∃F:Nat→Bool,TkR l tk now F (sentF s) s (tickF l tk s now)∧(∀k,F k=true→k<l.length∧J s k≠[])∧(∀j k,F j=true→F k=true→co l j=co l k→j=k)∧(∀k,k<l.length→J s k≠[]→∃u,F u=true∧co l u=co l k∧(l.getD k paZ).p≤(l.getD u paZ).p):=by
 have hco:∀k,k<l.length→co l k<4:=fun k hk=>by
  have:=(hok.at_ k _ (some_getD (d:=paZ) hk)).co
  unfold co
  omega
 have hfl:=firstsTo_len l s.jobs l.length
 have hfs:∀c,c<4→(firstsTo l s.jobs l.length).getD c 0=-1∨∃u:Nat,(firstsTo l s.jobs l.length).getD c 0=u∧u<l.length∧J s u≠[]∧co l u=c:=fun c hc=>firstsTo_at (l:=l) (jobs:=s.jobs) l.length c _ (some_getD (by rw[hfl];exact hc))
 have hbest:=firstsTo_best (l:=l) (jobs:=s.jobs) hco l.length (Nat.le_refl _)
 have hC:=coresTo_form (l:=l) (tk:=tk) (now:=now) (s:={ s with un:=sentF s }) hok hj hm hro hfs 4 (Nat.le_refl _)
 unfold tickF
 generalize firstsTo l s.jobs l.length=fs at *
 generalize sentF s=z at *
 generalize coresTo l tk now fs { s with un:=z } 4=s4 at *
 have hF1:∀k,Fc l fs 4 k=true→k<l.length∧fs.getD (co l k) 0=(k:Int):=fun k h=>by
  unfold Fc at h
  simp only[Bool.and_eq_true,decide_eq_true_eq]at h
  exact⟨h.1.1,h.2⟩
 refine⟨Fc l fs 4,?_,fun k h=>?_,fun j k h1 h2 he=>?_,fun k hk hne=>?_⟩
 ·have hrd:∀u,rD { s with un:=z } (Fc l fs 4) u=rD s (Fc l fs 4) u:=fun _=>rfl
  unfold mailStep
  rcases hz with rfl|⟨u,rfl,hu,hne⟩
  ·rw[if_pos rfl]
   refine⟨hC.lj,hC.lm,hC.le,hC.er,by rw[if_pos rfl];exact hC.un,fun k hk=>?_,fun k hk=>?_,fun n k hk=>hC.e n k hk⟩
   ·rw[if_neg (c:=(-1:Int)=(k:Int)∧runD (M s k)=true) (fun h=>by omega),List.append_nil]
    exact hC.j k hk
   ·rw[if_neg (c:=(-1:Int)=(k:Int)) (by omega)]
    exact hC.m k hk
  ·have hMu:=hC.m u hu
   generalize hex:(if fr l u≠-1∧se l u≠0∧rD { s with un:=(u:Int) } (Fc l fs 4) (fr l u).toNat=true then [(⟨runC (J { s with un:=(u:Int) } (fr l u).toNat),now+1,se l u⟩:Pc)] else [])=ex at hMu
   have hM0:M { s with un:=(u:Int) } u=M s u:=rfl
   rw[hM0]at hMu
   have hq1:runQ (M s4 u)=runQ (M s u)++ex:=by rw[hMu];exact runQ_app hne
   have hq2:runC (M s4 u)=runC (M s u):=by rw[hMu];exact runC_app hne
   have hq3:runD (M s4 u)=runD (M s u):=by rw[hMu];exact runD_app hne
   rw[if_neg (by omega),Int.toNat_natCast,show s4.mail.getD u []=M s4 u from rfl,hq1,hq2,hq3]
   have hMk:∀k,k<l.length→(s4.mail.set u (runQ (M s u)++ex)).getD k []=(if (u:Int)=(k:Int) then runQ (M s k) else M s k)++(if fr l k≠-1∧se l k≠0∧rD s (Fc l fs 4) (fr l k).toNat=true then [⟨runC (J s (fr l k).toNat),now+1,se l k⟩] else []):=fun k hk=>by
    by_cases e:u=k
    ·subst e
     rw[getD_set_self (by rw[hC.lm];exact hu),if_pos rfl,← hex]
     rfl
    ·rw[getD_set_other e,if_neg (by omega)]
     exact hC.m k hk
   by_cases hd:runD (M s u)=true
   ·rw[if_pos hd]
    refine⟨by simp only[addJ,List.length_set];exact hC.lj,by simp only[addJ,List.length_set];exact hC.lm,hC.le,hC.er,?_,fun k hk=>?_,hMk,fun n k hk=>hC.e n k hk⟩
    ·rw[if_neg (by omega),Int.toNat_natCast,if_pos hd];rfl
    ·unfold J addJ
     dsimp only
     by_cases e:u=k
     ·subst e
      rw[getD_set_self (by rw[hC.lj];exact hu),if_pos (c:=(u:Int)=(u:Int)∧runD (M s u)=true) ⟨rfl,hd⟩]
      congr 1
      exact hC.j u hk
     ·rw[getD_set_other e,if_neg (c:=(u:Int)=(k:Int)∧runD (M s k)=true) (fun h=>by omega),List.append_nil]
      exact hC.j k hk
   ·rw[if_neg hd]
    refine⟨hC.lj,by simp only[List.length_set];exact hC.lm,hC.le,hC.er,?_,fun k hk=>?_,hMk,fun n k hk=>hC.e n k hk⟩
    ·rw[if_neg (by omega),Int.toNat_natCast,if_neg hd];exact hC.un
    ·rw[if_neg (c:=(u:Int)=(k:Int)∧runD (M s k)=true) (fun h=>by
      have:u=k:=by omega
      subst this
      exact hd h.2),List.append_nil]
     exact hC.j k hk
 ·obtain⟨h1,h2⟩:=hF1 k h
  refine⟨h1,?_⟩
  rcases hfs (co l k) (hco k h1) with g|⟨u,g1,g2,g3,g4⟩
  ·omega
  ·have:u=k:=by omega
   subst this
   exact g3
 ·obtain⟨a1,a2⟩:=hF1 j h1
  obtain⟨b1,b2⟩:=hF1 k h2
  rw[he,b2]at a2
  omega
 ·obtain⟨u,h1,h2⟩:=hbest k hk hne
  rcases hfs (co l k) (hco k hk) with g|⟨v,g1,g2,g3,g4⟩
  ·omega
  ·have:v=u:=by omega
   subst this
   refine⟨v,?_,g4,h2⟩
   unfold Fc
   rw[decide_eq_true g2,g4,decide_eq_true (hco k hk),g1]
   simp
end Keep
end Go.Proofs.YtccoobcggbbcialGreatDoor
