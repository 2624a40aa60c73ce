import Derived.Test.YtccoobcggbbcialGreatDoorGSS3
import Derived.Deep.CutRange
import Derived.Deep.CutBlock
namespace Go.Proofs.YtccoobcggbbcialGreatDoor
open Go.ChangeShapes Go.WideShapes Go.ChangeAt Go.RowKit
theorem tqGSS5{P:Program}{md:Region.Mode}{ops:Array Oper}{Q:Exit→Act→World→Prop}{S:World→Prop}{i n:Nat}{oi:Oper}{v:Value}{fuel:Nat}{listed:Array Bool}{l:List Value}{ds:List Deferred}{w:World}
  (hy:∀w,S w→(execOp (Act.eval ⟨l.toArray,ds⟩) oi).run P w = .ok (.value v) w) (h:wpAnyH P md ops Q S fuel (listed.setIfInBounds i true) ⟨(l.set n v).toArray,ds⟩ w)
  (hi:ops[i]?=some oi:=by rfl) (hd:oi.dst=some n:=by rfl) (hs:(Region.noSelect ops && Region.free md ops listed i && (Region.ready md ops listed).contains i)=true:=by kernel_rfl)
  (hQ:∀c a w,Q (.panic c) (a.put oi.dst v) w→Q (.panic c) a w:=by exact fun _ _ _ h=>h) (hg:Region.wanted oi (yielded ops l.toArray)=true:=by rfl) (hS:S w:=by assumption):wpAnyH P md ops Q S (fuel+1) listed ⟨l.toArray,ds⟩ w:=by
 simp only[Bool.and_eq_true]at hs
 exact take_at hi hd hs.1.1 hs.1.2 hs.2 hQ (.inl ⟨hg,hy⟩) hS h
end Go.Proofs.YtccoobcggbbcialGreatDoor
namespace Go.Proofs.YtccoobcggbbcialGreatDoor.Stab
open Go.ChangeShapes Go.WideShapes Go.ChangeAt Go.RowKit
open Go.Sort (swp swp_get swp_size SWO SWO.asymmA PermIn permIn_refl permIn_trans permIn_mono permIn_all swp_permIn)
theorem from_K{P:Program}{c:Code}{q:Exit→Act→World→Prop}{K:Act→World→Prop}(h:∀a w,Code.wp P c q a w→K a w)(a:Act)(w:World)(g:Code.wp P c q a w):K a w:=h a w g
set_option maxRecDepth 20000 in
set_option maxHeartbeats 8000000 in
theorem symC_any{l:List Co}{v:Value}{bS g:Nat}{W0 W:World}{d:Array Nat}(hC:SC l v bS g W0)(h:SD l g W0 W d)(a m b:Nat)(ham:a+1<m)(hmb:m+1<b)(hb:b≤d.size)(hs:d.size≤4194304)(hA:Asc (ltC l) id a m d)(hA2:Asc (ltC l) id m b d)(hX:Cross id a m b d)
  (hrec:∀(W':World) (d':Array Nat) (a' m' b':Nat),b'-a'<b-a→SD l g W0 W' d'→d'.size=d.size→a'<m'→m'<b'→b'≤d'.size→Asc (ltC l) id a' m' d'→Asc (ltC l) id m' b' d'→Cross id a' m' b' d'→Calls Tryz.prog 218 #[.slice (some ⟨g,0,none⟩) d.size d.size,.int .i64 (a':Int),.int .i64 (m':Int),.int .i64 (b':Int),(.func (Fn.func 98) #[] #[.pointer (some ⟨bS,0,none⟩)])] W' fun r W2=>r = .returned (.tuple #[])∧∃d2,SD l g W0 W2 d2∧Asc (ltC l) id a' b' d2∧PermIn a' b' d' d2) :
  Calls Tryz.prog 218 #[.slice (some ⟨g,0,none⟩) d.size d.size,.int .i64 (a:Int),.int .i64 (m:Int),.int .i64 (b:Int),(.func (Fn.func 98) #[] #[.pointer (some ⟨bS,0,none⟩)])] W fun r W'=>r = .returned (.tuple #[])∧∃d',SD l g W0 W' d'∧Asc (ltC l) id a b d'∧PermIn a b d d':=by
 have H0:Hid (SD l g W0 W d):=h
 have HA:Hid (Asc (ltC l) id a m d∧Asc (ltC l) id m b d∧Cross id a m b d):=⟨hA,hA2,hX⟩
 obtain⟨k0,hk0⟩:∃k0,k0=m-a:=⟨_,rfl⟩
 obtain⟨k1,hk1⟩:∃k1,k1=b-m:=⟨_,rfl⟩
 obtain⟨sab,hsab⟩:∃sab,sab=a+b:=⟨_,rfl⟩
 obtain⟨mid,hmid⟩:∃mid,mid=(a+b) / 2:=⟨_,rfl⟩
 obtain⟨n,hn⟩:∃n,n=mid+m:=⟨_,rfl⟩
 obtain⟨p,hp⟩:∃p,p=n-1:=⟨_,rfl⟩
 obtain⟨s0,r0,hsp⟩:∃s0 r0:Nat,if mid<m then s0+b=n∧r0=mid else s0=a∧r0=m:=by
  by_cases q:mid<m
  ·exact⟨n-b,mid,by rw[if_pos q];exact⟨by omega,rfl⟩⟩
  ·exact⟨a,m,by rw[if_neg q];exact⟨rfl,rfl⟩⟩
 have HB:Hid (a+1<m∧m+1<b∧b≤d.size∧mid=(a+b) / 2∧n=mid+m∧p=n-1∧if mid<m then s0+b=n∧r0=mid else s0=a∧r0=m):=⟨ham,hmb,hb,hmid,hn,hp,hsp⟩
 have HG:Hid (a≤s0∧s0≤r0∧r0≤mid∧r0≤m∧n≤s0+b∧m+2≤n):=by
  have:a≤s0∧s0≤r0∧r0≤mid∧r0≤m∧n≤s0+b∧m+2≤n:=by split at hsp<;>omega
  exact this
 have x0:(m:Int)-(a:Int)=(k0:Int):=by omega
 have x1:IntKind.i64.wrap (k0:Int)=(k0:Int):=wrap_nat (by omega)
 have x2:((k0:Int) == 1)=false:=by simp;omega
 have x3:(b:Int)-(m:Int)=(k1:Int):=by omega
 have x4:IntKind.i64.wrap (k1:Int)=(k1:Int):=wrap_nat (by omega)
 have x5:((k1:Int) == 1)=false:=by simp;omega
 have x6:(a:Int)+(b:Int)=(sab:Int):=by omega
 have x7:(sab:Int) / 2=(mid:Int):=by omega
 have x8:IntKind.u64.wrap (sab:Int)=(sab:Int):=by rw[IntKind.wrap_u64];omega
 have x9:IntKind.i64.wrap (sab:Int)=(sab:Int):=wrap_nat (by omega)
 have x10:IntKind.i64.wrap (mid:Int)=(mid:Int):=wrap_nat (by omega)
 have x11:(mid:Int)+(m:Int)=(n:Int):=by omega
 have x12:IntKind.i64.wrap (n:Int)=(n:Int):=wrap_nat (by omega)
 have x13:(n:Int)-1=(p:Int):=by omega
 have x14:IntKind.i64.wrap (p:Int)=(p:Int):=wrap_nat (by omega)
 clear h hA hA2 hX ham hmb hb hk0 hk1 hsab hmid hn hp hsp
 go_enter Tryz.func218,Tryz.ntmps218
 go_upto_if 140 with fail
 clear x0 x1 x2 x3 x4 x5 x6 x7 x8 x9 x10 x11
 go_cut [20,21] from 138 to 146 (fun sv rv W1=>sv = .int .i64 (s0:Int)∧rv = .int .i64 (r0:Int)∧W1=W)
 case first =>
  have hsp:=HB.out.2.2.2.2.2.2
  by_cases q:mid<m
  ·rw[if_pos q]at hsp
   obtain⟨h1,h2⟩:=hsp
   subst h2
   have y0:(r0:Int)<(m:Int):=by omega
   have y1:(n:Int)-(b:Int)=(s0:Int):=by omega
   have y2:IntKind.i64.wrap (s0:Int)=(s0:Int):=wrap_nat (by have:=HB.out;omega)
   clear q h1
   go_wp2_with fail
   go_meet
   case rel=>exact⟨rfl,rfl,rfl⟩
  ·rw[if_neg q]at hsp
   obtain⟨h1,h2⟩:=hsp
   subst h1 h2
   have y0:¬ (mid:Int)<(r0:Int):=by omega
   clear q
   go_wp2_with fail
   go_meet
   case rel=>exact⟨rfl,rfl,rfl⟩
 case rest =>
  obtain⟨rfl,rfl,hwc⟩:=hcut
  have hwc':=hwc.symm
  subst hwc'
  clear hwc
  go_wp2_with fail
  clear x13 x14
  go_loopw [20,21] (fun sv rv wr=>∃s r:Nat,s0≤s∧s≤r∧r≤r0∧sv = .int .i64 (s:Int)∧rv = .int .i64 (r:Int)∧SD l g W0 wr d∧(s=s0∨ltC l d[n-s]! d[s-1]! =false)∧(r=r0∨ltC l d[n-1-r]! d[r]! =true)) (fun sv rv _=>(intOf rv).toNat-(intOf sv).toNat)
  case atStart=>exact⟨s0,r0,Nat.le_refl _,HG.out.2.1,Nat.le_refl _,rfl,rfl,H0.out,.inl rfl,.inl rfl⟩
  case round =>
   obtain⟨s,r,hmi,hij,hjb,rfl,rfl,hd,hl1,hl2⟩:=hrel
   generalize wr=wR at *
   have HD:Hid (SD l g W0 wR d∧(s=s0∨ltC l d[n-s]! d[s-1]! =false)∧(r=r0∨ltC l d[n-1-r]! d[r]! =true)):=⟨hd,hl1,hl2⟩
   clear H0 hl1 hl2
   by_cases hlt:s<r
   ·have hg:=HG.out
    have hq:=HB.out
    obtain⟨sr,hse⟩:∃sr,sr=s+r:=⟨_,rfl⟩
    obtain⟨c,hhe⟩:∃c,c=(s+r) / 2:=⟨_,rfl⟩
    obtain⟨pc,hpc⟩:∃pc,pc=p-c:=⟨_,rfl⟩
    have y0:(s:Int)+(r:Int)=(sr:Int):=by omega
    have y1:IntKind.i64.wrap (sr:Int)=(sr:Int):=wrap_nat (by omega)
    have y2:(sr:Int) / 2=(c:Int):=by omega
    have y3:IntKind.u64.wrap (sr:Int)=(sr:Int):=by rw[IntKind.wrap_u64];omega
    have y4:IntKind.i64.wrap (c:Int)=(c:Int):=wrap_nat (by omega)
    have y5:(p:Int)-(c:Int)=(pc:Int):=by omega
    have y6:IntKind.i64.wrap (pc:Int)=(pc:Int):=wrap_nat (by omega)
    have hji:(s:Int)<(r:Int):=by omega
    have hhs:(c:Int)<(d.size:Int):=by omega
    have has:(pc:Int)<(d.size:Int):=by omega
    have his:pc<d.size:=by omega
    have hjs:c<d.size:=by omega
    obtain⟨c0,-⟩:=hd.cell his
    obtain⟨c1,-⟩:=hd.cell hjs
    have HCm:=SD.cmp hC hd.drew his hjs
    have hlt:=cmp_lt l d[pc]! d[c]!
    generalize cmpI (Ck l d[pc]!).a (Ck l d[c]!).a=cz at HCm hlt
    obtain⟨x,hx⟩:∃x,d[pc]! =x:=⟨_,rfl⟩
    obtain⟨y,hy⟩:∃y,d[c]! =y:=⟨_,rfl⟩
    rw[hx]at c0 HCm
    rw[hy]at c1 HCm
    have HX:Hid (d[pc]! =x∧d[c]! =y∧pc<d.size∧c<d.size):=⟨hx,hy,his,hjs⟩
    have HLT:Hid (decide (cz<0)=ltC l d[pc]! d[c]!):=hlt
    clear hx hy his hjs hlt
    have HH:Hid (s≤c∧c<r∧s0≤s∧r≤r0∧pc=n-1-c∧c<n):=⟨by omega,by omega,hmi,hjb,by omega,by omega⟩
    have lg:=hd.lt
    clear hd hse hhe hpc hmi hjb hij hlt hg hq
    go_wp2_with fail
    refine wp_region_noPanic ?_
    refine wp_region_held_drew (S:=fun w'=>w'.cell? ⟨g,pc,none⟩=some (.int .i64 (x:Nat))∧w'.cell? ⟨g,c,none⟩=some (.int .i64 (y:Nat))) (by kernel_rfl) ⟨c0,c1⟩ (fun hHeld=>?_)
    refine tqGSS5 (i:=0) (n:=158) (v:=?_) ?_ ?_
    rotate_left 1
    ·intro wz hSw
     obtain⟨s0,s1⟩:=hSw
     first|(go_simp;done)|(go_simp;with_reducible rfl)
    simp only[ls0,ls1]
    refine tqGSS5 (i:=1) (n:=159) (v:=?_) ?_ ?_
    rotate_left 1
    ·intro wz hSw
     obtain⟨s0,s1⟩:=hSw
     first|(go_simp;done)|(go_simp;with_reducible rfl)
    simp only[ls0,ls1]
    refine tqGSS5 (i:=2) (n:=160) (v:=?_) ?_ ?_
    rotate_left 1
    ·intro wz hSw
     obtain⟨s0,s1⟩:=hSw
     first|(go_simp;done)|(go_simp;with_reducible rfl)
    simp only[ls0,ls1]
    refine tqGSS5 (i:=3) (n:=161) (v:=?_) ?_ ?_
    rotate_left 1
    ·intro wz hSw
     obtain⟨s0,s1⟩:=hSw
     first|(go_simp;done)|(go_simp;with_reducible rfl)
    simp only[ls0,ls1]
    refine tqGSS5 (i:=4) (n:=162) (v:=?_) ?_ ?_
    rotate_left 1
    ·intro wz hSw
     obtain⟨s0,s1⟩:=hSw
     first|(go_simp;done)|(go_simp;with_reducible rfl)
    simp only[ls0,ls1]
    refine tqGSS5 (i:=5) (n:=163) (v:=?_) ?_ ?_
    rotate_left 1
    ·intro wz hSw
     obtain⟨s0,s1⟩:=hSw
     first|(go_simp;done)|(go_simp;with_reducible rfl)
    simp only[ls0,ls1]
    refine tqGSS5 (i:=6) (n:=164) (v:=?_) ?_ ?_
    rotate_left 1
    ·intro wz hSw
     obtain⟨s0,s1⟩:=hSw
     first|(go_simp;done)|(go_simp;with_reducible rfl)
    simp only[ls0,ls1]
    refine tqGSS5 (i:=7) (n:=165) (v:=?_) ?_ ?_
    rotate_left 1
    ·intro wz hSw
     obtain⟨s0,s1⟩:=hSw
     first|(go_simp;done)|(go_simp;with_reducible rfl)
    simp only[ls0,ls1]
    refine tqGSS5 (i:=8) (n:=166) (v:=?_) ?_ ?_
    rotate_left 1
    ·intro wz hSw
     obtain⟨s0,s1⟩:=hSw
     first|(go_simp;done)|(go_simp;with_reducible rfl)
    simp only[ls0,ls1]
    refine tqGSS5 (i:=9) (n:=167) (v:=?_) ?_ ?_
    rotate_left 1
    ·intro wz hSw
     obtain⟨s0,s1⟩:=hSw
     first|(go_simp;done)|(go_simp;with_reducible rfl)
    simp only[ls0,ls1]
    refine tqGSS5 (i:=10) (n:=168) (v:=?_) ?_ ?_
    rotate_left 1
    ·intro wz hSw
     obtain⟨s0,s1⟩:=hSw
     first|(go_simp;done)|(go_simp;with_reducible rfl)
    simp only[ls0,ls1]
    refine wpAnyH_ready (rs:=[11]) (by kernel_rfl) (by simp) ?_
    refine AllReadyH.cons rfl (fun K hK=>?_) AllReadyH.nil
    go_simp
    go_wp2_with (go_at_call 98;refine HCm.mono ?_;rintro r w5 ⟨rfl,h5⟩;have H5:Hid (SD l g W0 w5 d):=h5;clear h5 HCm)
    have c50:w5.cell? ⟨g,pc,none⟩=some (.int .i64 (x:Nat)):=by have h9:=(H5.out.cell HX.out.2.2.1).1;rw[HX.out.1]at h9;exact h9
    have c51:w5.cell? ⟨g,c,none⟩=some (.int .i64 (y:Nat)):=by have h9:=(H5.out.cell HX.out.2.2.2).1;rw[HX.out.2.1]at h9;exact h9
    refine hK.out _ _ ⟨c50,c51⟩ (fun hHeld=>?_)
    clear hK K
    try simp only[ls0,ls1]
    refine tqGSS5 (i:=12) (n:=170) (v:=?_) ?_ ?_
    rotate_left 1
    ·intro wz hSw
     obtain⟨s0,s1⟩:=hSw
     first|(go_simp;done)|(go_simp;with_reducible rfl)
    simp only[ls0,ls1]
    refine tqGSS5 (i:=13) (n:=171) (v:=?_) ?_ ?_
    rotate_left 1
    ·intro wz hSw
     obtain⟨s0,s1⟩:=hSw
     first|(go_simp;done)|(go_simp;with_reducible rfl)
    simp only[ls0,ls1]
    refine wpAnyH_done (by kernel_rfl) ?_ _
    refine NoPanic.normal ?_
    clear hHeld
    cases hzb:decide (cz<0) with
    | true =>
     go_wp2_with fail
     obtain⟨q1,q2,q3,q4,q5,q6⟩:=HH.out
     refine⟨⟨s,c,q3,q1,by omega,rfl,rfl,H5.out,HD.out.2.1,.inr ?_⟩,by simp[intOf];omega⟩
     rw[← q5,← HLT.out]
     exact hzb
    | false =>
     go_wp2_with fail
     obtain⟨q1,q2,q3,q4,q5,q6⟩:=HH.out
     refine⟨⟨c+1,r,by omega,by omega,q4,by simp,rfl,H5.out,.inr ?_,HD.out.2.2⟩,by simp[intOf];omega⟩
     rw[Nat.add_sub_cancel,show n-(c+1)=pc by omega,← HLT.out]
     exact hzb
   ·have hije:s=r:=by omega
    subst hije
    have hg:=HG.out
    have hq:=HB.out
    obtain⟨e,hee⟩:∃e,e=n-s:=⟨_,rfl⟩
    have y0:(n:Int)-(s:Int)=(e:Int):=by omega
    have y1:IntKind.i64.wrap (e:Int)=(e:Int):=wrap_nat (by omega)
    have HE:Hid (e=n-s∧s0≤s∧s≤r0∧e+s=n∧s≤m∧m≤e∧e≤b∧b≤d.size):=⟨hee,hmi,hjb,by omega,by omega,by omega,by omega,hq.2.2.1⟩
    clear hee hd hlt hmi hjb hij hg hq
    obtain⟨rb,hrb⟩:∃rb,decide (s<m∧m<e)=rb:=⟨_,rfl⟩
    have Hrb:Hid (decide (s<m∧m<e)=rb):=hrb
    clear hrb
    go_upto_region 39 with fail
    go_cut [185] from 178 to 185 (fun v W=>v = .bool rb∧W=wR)
    case first =>
     by_cases c1:s<m
     ·have d1:(s:Int)<(m:Int):=by omega
      by_cases c2:m<e
      ·have d2:(m:Int)<(e:Int):=by omega
       obtain rfl:rb=true:=by rw[← Hrb.out];simp[c1,c2]
       clear c1 c2
       go_wp2_with fail
       go_meet
       case rel=>exact⟨rfl,rfl⟩
      ·have d2:¬ (m:Int)<(e:Int):=by omega
       obtain rfl:rb=false:=by rw[← Hrb.out];simp[c2]
       clear c1 c2
       go_wp2_with fail
       go_meet
       case rel=>first|exact⟨rfl,rfl⟩|exact⟨by simp;omega,rfl⟩
     ·have d1:¬ (s:Int)<(m:Int):=by omega
      obtain rfl:rb=false:=by rw[← Hrb.out];simp[c1]
      clear c1
      go_wp2_with fail
      go_meet
      case rel=>first|exact⟨rfl,rfl⟩|exact⟨by simp;omega,rfl⟩
    case rest =>
     obtain⟨rfl,hwc⟩:=hcut
     have hwc':=hwc.symm
     subst hwc'
     clear hwc
     refine from_K (by assumption) _ _ ?_
     go_cut [] from 186 to 191 (fun W=>Hid (∃d1,SD l g W0 W d1∧Rot s m e d d1∧PermIn s e d d1))
     case first =>
      cases rb with
      | true =>
       have HR:=rot_any HD.out.1 bS s m e (by have:=Hrb.out;simp at this;omega) (by have:=Hrb.out;simp at this;omega) (by have:=HE.out;omega) hs
       go_wp2_with (go_at_call 243;refine HR.mono ?_;rintro r w5 ⟨rfl,h5⟩;have H5:Hid (∃d1,SD l g W0 w5 d1∧Rot s m e d d1∧PermIn s e d d1):=h5;clear h5 HR)
       go_meet
       case rel=>exact H5
      | false =>
       have H5:Hid (∃d1,SD l g W0 wR d1∧Rot s m e d d1∧PermIn s e d d1):=⟨d,HD.out.1,Rot.none (by have:=Hrb.out;simp at this;have:=HE.out;omega) (by have:=HE.out;omega) (by have:=HE.out;omega),permIn_refl _ _ _⟩
       go_wp2_with fail
       go_meet
       case rel=>exact H5
     case rest =>
      obtain⟨w_a,hw_a⟩:∃w_a,w_a=wc:=⟨_,rfl⟩
      subst hw_a
      obtain⟨d1,hd1,hr1,hp1⟩:=hcut.out
      have hz1:=hp1.1
      have h9:=HB.out.2.2.2.2.2.2
      have h8:=HE.out
      have h7:=HB.out.2.2.2.2.1
      have hS0:if mid<m then mid+m≤s+b∧s≤mid else a≤s∧s≤m:=by
       by_cases q:mid<m
       ·rw[if_pos q]at h9 ⊢;omega
       ·rw[if_neg q]at h9 ⊢;omega
      have hLow:(if mid<m then s+b=mid+m else s=a)∨ltC l d[e]! d[s-1]! =false:=by
       rcases HD.out.2.1 with h|h
       ·left
        by_cases q:mid<m
        ·rw[if_pos q]at h9 ⊢;omega
        ·rw[if_neg q]at h9 ⊢;omega
       ·right
        rw[h8.1]
        exact h
      have hHigh:(if mid<m then s=mid else s=m)∨ltC l d[e-1]! d[s]! =true:=by
       rcases HD.out.2.2 with h|h
       ·left
        by_cases q:mid<m
        ·rw[if_pos q]at h9 ⊢;omega
        ·rw[if_neg q]at h9 ⊢;omega
       ·right
        rw[show e-1=n-1-s by omega]
        exact h
      obtain⟨hsy,g1,g2,g3,g4,g5,g6⟩:=sym_of (ltC_swo l) (d:=d) (d':=d1) (a:=a) (m:=m) (b:=b) (mid:=mid) (s:=s) (e:=e) (by have:=HB.out;omega) HB.out.2.2.2.1 (by omega) HA.out.1 HA.out.2.1 HA.out.2.2 hS0 hLow hHigh hr1
      have HP1:Hid (SD l g W0 w_a d1∧Sym (ltC l) id a m b mid s e d d1∧PermIn a b d d1∧d1.size=d.size∧a≤s∧s≤mid∧mid≤e∧e≤b):=⟨hd1,hsy,permIn_mono _ _ _ _ _ _ g1 g6 (by have:=HB.out;omega) hp1,hz1,g1,g2,g4,g6⟩
      clear hcut hd1 hr1 hp1 hz1 hsy g1 g2 g3 g4 g5 g6 h9 h8 h7 hS0 hLow hHigh
      obtain⟨lb,hlb⟩:∃lb,decide (a<s∧s<mid)=lb:=⟨_,rfl⟩
      have Hlb:Hid (decide (a<s∧s<mid)=lb):=hlb
      clear hlb
      go_upto_region 41 with fail
      go_cut [199] from 192 to 199 (fun v W=>v = .bool lb∧W=w_a)
      case first =>
       by_cases c1:a<s
       ·have d1:(a:Int)<(s:Int):=by omega
        by_cases c2:s<mid
        ·have d2:(s:Int)<(mid:Int):=by omega
         obtain rfl:lb=true:=by rw[← Hlb.out];simp[c1,c2]
         clear c1 c2
         go_wp2_with fail
         go_meet
         case rel=>exact⟨rfl,rfl⟩
        ·have d2:¬ (s:Int)<(mid:Int):=by omega
         obtain rfl:lb=false:=by rw[← Hlb.out];simp[c2]
         clear c1 c2
         go_wp2_with fail
         go_meet
         case rel=>first|exact⟨rfl,rfl⟩|exact⟨by simp;omega,rfl⟩
       ·have d1:¬ (a:Int)<(s:Int):=by omega
        obtain rfl:lb=false:=by rw[← Hlb.out];simp[c1]
        clear c1
        go_wp2_with fail
        go_meet
        case rel=>first|exact⟨rfl,rfl⟩|exact⟨by simp;omega,rfl⟩
      case rest =>
       obtain⟨rfl,hwc⟩:=hcut
       have hwc':=hwc.symm
       subst hwc'
       clear hwc
       refine from_K (by assumption) _ _ ?_
       go_cut [] from 200 to 205 (fun W=>Hid (∃d2,SD l g W0 W d2∧PermIn a mid d1 d2∧Asc (ltC l) id a mid d2))
       case first =>
        cases lb with
        | true =>
         have HR:=hrec w_a d1 a s mid (by have:=HP1.out;have:=HB.out;have:=Hlb.out;simp at this;omega) HP1.out.1 HP1.out.2.2.2.1 (by have:=Hlb.out;simp at this;omega) (by have:=Hlb.out;simp at this;omega) (by have:=HP1.out;have:=HB.out;omega) HP1.out.2.1.lo1 HP1.out.2.1.lo2 HP1.out.2.1.loc
         go_wp2_with (go_at_call 218;refine HR.mono ?_;rintro r w5 ⟨rfl,d2,h5,h6,h7⟩;have H5:Hid (∃d2,SD l g W0 w5 d2∧PermIn a mid d1 d2∧Asc (ltC l) id a mid d2):=⟨d2,h5,h7,h6⟩;clear h5 h6 h7 HR)
         go_meet
         case rel=>exact H5
        | false =>
         have H5:Hid (∃d2,SD l g W0 w_a d2∧PermIn a mid d1 d2∧Asc (ltC l) id a mid d2):=⟨d1,HP1.out.1,permIn_refl _ _ _,by
          have h9:=Hlb.out
          simp at h9
          have:=HP1.out.2.2.2.2
          by_cases q:a<s
          ·rw[show mid=s by omega];exact HP1.out.2.1.lo1
          ·have q2:s=a:=by omega
           have:=HP1.out.2.1.lo2
           rw[q2]at this
           exact this⟩
         go_wp2_with fail
         go_meet
         case rel=>exact H5
       case rest =>
        obtain⟨w_b,hw_b⟩:∃w_b,w_b=wc:=⟨_,rfl⟩
        subst hw_b
        obtain⟨d2,hd2,hp2,ha2⟩:=hcut.out
        have HP2:Hid (SD l g W0 w_b d2∧PermIn a mid d1 d2∧Asc (ltC l) id a mid d2∧d2.size=d.size):=⟨hd2,hp2,ha2,hp2.1.trans HP1.out.2.2.2.1⟩
        have hup:∀p,mid≤p→d2[p]! =d1[p]!:=fun p hp=>hp2.2.1 p (.inr hp)
        have HU:Hid (Asc (ltC l) id mid e d2∧Asc (ltC l) id e b d2∧Cross id mid e b d2):=⟨fun p q h1 h2 h3=>by rw[hup p h1,hup q (by omega)];exact HP1.out.2.1.hi1 p q h1 h2 h3,fun p q h1 h2 h3=>by rw[hup p (by have:=HP1.out;omega),hup q (by have:=HP1.out;omega)];exact HP1.out.2.1.hi2 p q h1 h2 h3,fun p q h1 h2 h3 h4=>by rw[hup p h1,hup q (by have:=HP1.out;omega)];exact HP1.out.2.1.hic p q h1 h2 h3 h4⟩
        clear hcut hd2 hp2 ha2 hup
        obtain⟨ub,hub⟩:∃ub,decide (mid<e∧e<b)=ub:=⟨_,rfl⟩
        have Hub:Hid (decide (mid<e∧e<b)=ub):=hub
        clear hub
        go_upto_region 43 with fail
        go_cut [213] from 206 to 213 (fun v W=>v = .bool ub∧W=w_b)
        case first =>
         by_cases c1:mid<e
         ·have d1:(mid:Int)<(e:Int):=by omega
          by_cases c2:e<b
          ·have d2:(e:Int)<(b:Int):=by omega
           obtain rfl:ub=true:=by rw[← Hub.out];simp[c1,c2]
           clear c1 c2
           go_wp2_with fail
           go_meet
           case rel=>exact⟨rfl,rfl⟩
          ·have d2:¬ (e:Int)<(b:Int):=by omega
           obtain rfl:ub=false:=by rw[← Hub.out];simp[c2]
           clear c1 c2
           go_wp2_with fail
           go_meet
           case rel=>first|exact⟨rfl,rfl⟩|exact⟨by simp;omega,rfl⟩
         ·have d1:¬ (mid:Int)<(e:Int):=by omega
          obtain rfl:ub=false:=by rw[← Hub.out];simp[c1]
          clear c1
          go_wp2_with fail
          go_meet
          case rel=>first|exact⟨rfl,rfl⟩|exact⟨by simp;omega,rfl⟩
        case rest =>
         obtain⟨rfl,hwc⟩:=hcut
         have hwc':=hwc.symm
         subst hwc'
         clear hwc
         refine from_K (by assumption) _ _ ?_
         have HF:Hid (∀W3 d3,SD l g W0 W3 d3→PermIn mid b d2 d3→Asc (ltC l) id mid b d3→∃d',SD l g W0 W3 d'∧Asc (ltC l) id a b d'∧PermIn a b d d'):=fun W3 d3 h1 h2 h3=>by
          have:=HP1.out
          have:=HB.out
          have hbs:b≤d1.size:=by omega
          have hj:=asc_join HP2.out.2.1 h2 hbs (by omega) HP2.out.2.2.1 h3 HP1.out.2.1.mix
          refine⟨d3,h1,hj,permIn_trans _ _ _ _ _ HP1.out.2.2.1 (permIn_trans _ _ _ _ _ (permIn_mono _ _ _ _ _ _ (Nat.le_refl _) (by omega) (by omega) HP2.out.2.1) (permIn_mono _ _ _ _ _ _ (by omega) (Nat.le_refl _) (by have:=HP2.out.2.2.2;omega) h2))⟩
         cases ub with
         | true =>
          have HR:=hrec w_b d2 mid e b (by have:=HP1.out;have:=HB.out;have:=Hub.out;simp at this;omega) HP2.out.1 HP2.out.2.2.2 (by have:=Hub.out;simp at this;omega) (by have:=Hub.out;simp at this;omega) (by have:=HP2.out;have:=HB.out;omega) HU.out.1 HU.out.2.1 HU.out.2.2
          go_wp2_with (go_at_call 218;refine HR.mono ?_;rintro r w5 ⟨rfl,d3,h5,h6,h7⟩;have H5:Hid (∃d',SD l g W0 w5 d'∧Asc (ltC l) id a b d'∧PermIn a b d d'):=HF.out _ d3 h5 h7 h6;clear h5 h6 h7 HR)
          go_end0
          exact⟨rfl,H5.out⟩
         | false =>
          have H5:Hid (∃d',SD l g W0 w_b d'∧Asc (ltC l) id a b d'∧PermIn a b d d'):=HF.out _ d2 HP2.out.1 (permIn_refl _ _ _) (by
           have h9:=Hub.out
           simp at h9
           have:=HP1.out.2.2.2.2
           by_cases q:mid<e
           ·have q2:e=b:=by omega
            have:=HU.out.1
            rw[q2]at this
            exact this
           ·have q2:e=mid:=by omega
            have:=HU.out.2.1
            rw[q2]at this
            exact this)
          go_wp2_with fail
          go_end0
          exact⟨rfl,H5.out⟩
theorem sym_any{l:List Co}{v:Value}{bS g:Nat}{W0:World}(hC:SC l v bS g W0):∀(k:Nat) (W:World) (d:Array Nat) (a m b:Nat),b-a≤k→SD l g W0 W d→a<m→m<b→b≤d.size→d.size≤4194304→Asc (ltC l) id a m d→Asc (ltC l) id m b d→Cross id a m b d →
  Calls Tryz.prog 218 #[.slice (some ⟨g,0,none⟩) d.size d.size,.int .i64 (a:Int),.int .i64 (m:Int),.int .i64 (b:Int),(.func (Fn.func 98) #[] #[.pointer (some ⟨bS,0,none⟩)])] W fun r W'=>r = .returned (.tuple #[])∧∃d',SD l g W0 W' d'∧Asc (ltC l) id a b d'∧PermIn a b d d'
 | 0,W,d,a,m,b,hk,_,h1,h2,_,_,_,_,_=>by omega
 | k+1,W,d,a,m,b,hk,hd,h1,h2,hb,hs,hA,hA2,hX=>by
  by_cases c1:m=a+1
  ·exact symA_any hC hd a m b c1 h2 hb hs hA2 hX
  by_cases c2:b=m+1
  ·exact symB_any hC hd a m b (by omega) c2 hb hs hA hX
  refine symC_any hC hd a m b (by omega) (by omega) hb hs hA hA2 hX (fun W' d' a' m' b' q1 q2 q3 q4 q5 q6 q7 q8 q9=>?_)
  have h9:=sym_any hC k W' d' a' m' b' (by omega) q2 q4 q5 q6 (by omega) q7 q8 q9
  rw[q3]at h9
  exact h9
set_option maxRecDepth 20000 in
set_option maxHeartbeats 4000000 in
theorem ins_any{l:List Co}{v:Value}{bS g:Nat}{W0 W:World}{d:Array Nat}(hC:SC l v bS g W0)(h:SD l g W0 W d)(a b:Nat)(hab:a≤b)(hb:b≤d.size)(hs:d.size≤4194304)(hX:∀p q,a≤p→p<q→q<b→d[p]!<d[q]!) :
  Calls Tryz.prog 217 #[.slice (some ⟨g,0,none⟩) d.size d.size,.int .i64 (a:Int),.int .i64 (b:Int),(.func (Fn.func 98) #[] #[.pointer (some ⟨bS,0,none⟩)])] W fun r W'=>r = .returned (.tuple #[])∧∃d',SD l g W0 W' d'∧Asc (ltC l) id a b d'∧PermIn a b d d':=by
 have H0:Hid (SD l g W0 W d):=h
 have HX0:Hid ((∀p q,a≤p→p<q→q<b→d[p]!<d[q]!)∧a≤b∧b≤d.size):=⟨hX,hab,hb⟩
 obtain⟨i0,hi0⟩:∃i0,i0=a+1:=⟨_,rfl⟩
 have x0:(a:Int)+1=(i0:Int):=by omega
 have x1:IntKind.i64.wrap (i0:Int)=(i0:Int):=wrap_nat (by omega)
 have HI:Hid (i0=a+1):=hi0
 clear h hX hab hb hi0
 go_enter Tryz.func217,Tryz.ntmps217
 go_wp2_with fail
 clear x0 x1
 go_loopw [8] (fun iv wr=>∃(i:Nat) (d1:Array Nat),a+1≤i∧(i≤b∨(i=a+1∧d1=d))∧iv = .int .i64 (i:Int)∧SD l g W0 wr d1∧Asc (ltC l) id a i d1∧PermIn a i d d1) (fun iv _=>b-(intOf iv).toNat)
 case atStart=>exact⟨i0,d,by have:=HI.out;omega,.inr ⟨HI.out,rfl⟩,rfl,H0.out,fun p q h1 h2 h3=>by have:=HI.out;omega,permIn_refl _ _ _⟩
 case round =>
  obtain⟨i,d1,hai,hib,rfl,hd,hA,hp⟩:=hrel
  generalize wr=wR at *
  have HD:Hid (SD l g W0 wR d1∧Asc (ltC l) id a i d1∧PermIn a i d d1∧a+1≤i∧(i≤b∨(i=a+1∧d1=d))):=⟨hd,hA,hp,hai,hib⟩
  clear H0 hA hai hib
  have hz:=hp.1
  by_cases hlt:i<b
  rotate_left 1
  ·have hji:¬ (i:Int)<(b:Int):=by omega
   clear hd hp hlt
   go_wp2_with fail
   go_end0
   obtain⟨q1,q2,q3,q4,q5⟩:=HD.out
   have:=HX0.out.2
   refine⟨rfl,d1,q1,fun p q h1 h2 h3=>?_,?_⟩
   ·rcases q5 with h|⟨h,-⟩
    ·exact q2 p q h1 h2 (by omega)
    ·omega
   ·by_cases c:i=b
    ·rw[← c];exact q3
    ·rcases q5 with h|⟨-,h⟩
     ·omega
     ·rw[h];exact permIn_refl _ _ _
  ·have hji:(i:Int)<(b:Int):=by omega
   have hbs:=HX0.out
   have HIN:Hid (InsB (ltC l) id a i i d1∧PermIn a (i+1) d d1):=⟨InsB.start HD.out.2.1 (fun p h1 h2=>by
    have e1:d1[i]! =d[i]!:=hp.2.1 i (.inr (Nat.le_refl _))
    rw[e1]
    exact permIn_all d d1 a i (fun x=>id x<id d[i]!) (by omega) hp (fun q h3 h4=>hbs.1 q i h3 h4 hlt) p h1 h2),permIn_mono _ _ _ _ _ _ (Nat.le_refl _) (by omega) (by omega) hp⟩
   have HL:Hid (i<b∧a<i∧b≤d.size):=⟨hlt,HD.out.2.2.2.1,hbs.2.2⟩
   obtain⟨i1,hi1⟩:∃i1,i1=i+1:=⟨_,rfl⟩
   have z0:(i:Int)+1=(i1:Int):=by omega
   have z1:IntKind.i64.wrap (i1:Int)=(i1:Int):=wrap_nat (by omega)
   have HI1:Hid (i1=i+1):=hi1
   clear hd hp hlt hbs hz hi1
   go_wp2_with fail
   go_loopw [9] (fun jv wr=>∃(j:Nat) (d2:Array Nat),a≤j∧j≤i∧jv = .int .i64 (j:Int)∧SD l g W0 wr d2∧InsB (ltC l) id a j i d2∧PermIn a (i+1) d d2) (fun jv _=>(intOf jv).toNat)
   case atStart=>exact⟨i,d1,by have:=HL.out;omega,Nat.le_refl _,rfl,HD.out.1,HIN.out⟩
   case round =>
    obtain⟨p,d2,hap,hpi,rfl,hd,hin,hp⟩:=hrel
    have hz:=hp.1
    have HR:Hid (SD l g W0 wr d2∧InsB (ltC l) id a p i d2∧PermIn a (i+1) d d2∧a≤p∧p≤i):=⟨hd,hin,hp,hap,hpi⟩
    have hl:=HL.out
    by_cases hlt:a<p
    ·obtain⟨q,hqe⟩:∃q,q=p-1:=⟨_,rfl⟩
     have hpq:p=q+1:=by omega
     have his:p<d2.size:=by omega
     have hjs:q<d2.size:=by omega
     obtain⟨c0,f0⟩:=hd.cell his
     obtain⟨c1,f1⟩:=hd.cell hjs
     have HCm:=SD.cmp hC hd.drew his hjs
     have hltc:=cmp_lt l d2[p]! d2[q]!
     generalize cmpI (Ck l d2[p]!).a (Ck l d2[q]!).a=cz at HCm hltc
     obtain⟨x,hx⟩:∃x,d2[p]! =x:=⟨_,rfl⟩
     obtain⟨y,hy⟩:∃y,d2[q]! =y:=⟨_,rfl⟩
     rw[hx]at c0 HCm
     rw[hy]at c1 HCm
     have HX:Hid (d2[p]! =x∧d2[q]! =y∧p<d2.size∧q<d2.size):=⟨hx,hy,his,hjs⟩
     have HLT:Hid (decide (cz<0)=ltC l d2[p]! d2[q]!):=hltc
     have HP:Hid (p=q+1∧a<p):=⟨hpq,hlt⟩
     have lg:=hd.lt
     have e0:(p:Int)-1=(q:Int):=by omega
     have e1:(a:Int)<(p:Int):=by omega
     have e2:(p:Int)<(d.size:Int):=by omega
     have e3:(q:Int)<(d.size:Int):=by omega
     have e7:IntKind.i64.wrap (p:Int)=(p:Int):=wrap_nat (by omega)
     have e8:IntKind.i64.wrap (q:Int)=(q:Int):=wrap_nat (by omega)
     clear hd hin hp hap hpi hz hl hlt hqe hpq his hjs hltc hx hy
     go_wp2_with fail
     refine wp_region_noPanic ?_
     refine wp_region_held_drew (S:=fun w'=>w'.cell? ⟨g,p,none⟩=some (.int .i64 (x:Nat))∧w'.cell? ⟨g,q,none⟩=some (.int .i64 (y:Nat))) (by kernel_rfl) ⟨c0,c1⟩ (fun hHeld=>?_)
     refine tqGSS5 (i:=0) (n:=18) (v:=?_) ?_ ?_
     rotate_left 1
     ·intro wz hSw
      obtain⟨s0,s1⟩:=hSw
      first|(go_simp;done)|(go_simp;with_reducible rfl)
     simp only[ls0,ls1]
     refine tqGSS5 (i:=1) (n:=19) (v:=?_) ?_ ?_
     rotate_left 1
     ·intro wz hSw
      obtain⟨s0,s1⟩:=hSw
      first|(go_simp;done)|(go_simp;with_reducible rfl)
     simp only[ls0,ls1]
     refine tqGSS5 (i:=2) (n:=20) (v:=?_) ?_ ?_
     rotate_left 1
     ·intro wz hSw
      obtain⟨s0,s1⟩:=hSw
      first|(go_simp;done)|(go_simp;with_reducible rfl)
     simp only[ls0,ls1]
     refine tqGSS5 (i:=3) (n:=21) (v:=?_) ?_ ?_
     rotate_left 1
     ·intro wz hSw
      obtain⟨s0,s1⟩:=hSw
      first|(go_simp;done)|(go_simp;with_reducible rfl)
     simp only[ls0,ls1]
     refine tqGSS5 (i:=4) (n:=22) (v:=?_) ?_ ?_
     rotate_left 1
     ·intro wz hSw
      obtain⟨s0,s1⟩:=hSw
      first|(go_simp;done)|(go_simp;with_reducible rfl)
     simp only[ls0,ls1]
     refine tqGSS5 (i:=5) (n:=23) (v:=?_) ?_ ?_
     rotate_left 1
     ·intro wz hSw
      obtain⟨s0,s1⟩:=hSw
      first|(go_simp;done)|(go_simp;with_reducible rfl)
     simp only[ls0,ls1]
     refine tqGSS5 (i:=6) (n:=24) (v:=?_) ?_ ?_
     rotate_left 1
     ·intro wz hSw
      obtain⟨s0,s1⟩:=hSw
      first|(go_simp;done)|(go_simp;with_reducible rfl)
     simp only[ls0,ls1]
     refine tqGSS5 (i:=7) (n:=25) (v:=?_) ?_ ?_
     rotate_left 1
     ·intro wz hSw
      obtain⟨s0,s1⟩:=hSw
      first|(go_simp;done)|(go_simp;with_reducible rfl)
     simp only[ls0,ls1]
     refine tqGSS5 (i:=8) (n:=26) (v:=?_) ?_ ?_
     rotate_left 1
     ·intro wz hSw
      obtain⟨s0,s1⟩:=hSw
      first|(go_simp;done)|(go_simp;with_reducible rfl)
     simp only[ls0,ls1]
     refine tqGSS5 (i:=9) (n:=27) (v:=?_) ?_ ?_
     rotate_left 1
     ·intro wz hSw
      obtain⟨s0,s1⟩:=hSw
      first|(go_simp;done)|(go_simp;with_reducible rfl)
     simp only[ls0,ls1]
     refine tqGSS5 (i:=10) (n:=28) (v:=?_) ?_ ?_
     rotate_left 1
     ·intro wz hSw
      obtain⟨s0,s1⟩:=hSw
      first|(go_simp;done)|(go_simp;with_reducible rfl)
     simp only[ls0,ls1]
     refine tqGSS5 (i:=11) (n:=29) (v:=?_) ?_ ?_
     rotate_left 1
     ·intro wz hSw
      obtain⟨s0,s1⟩:=hSw
      first|(go_simp;done)|(go_simp;with_reducible rfl)
     simp only[ls0,ls1]
     refine tqGSS5 (i:=12) (n:=30) (v:=?_) ?_ ?_
     rotate_left 1
     ·intro wz hSw
      obtain⟨s0,s1⟩:=hSw
      first|(go_simp;done)|(go_simp;with_reducible rfl)
     simp only[ls0,ls1]
     refine tqGSS5 (i:=13) (n:=31) (v:=?_) ?_ ?_
     rotate_left 1
     ·intro wz hSw
      obtain⟨s0,s1⟩:=hSw
      first|(go_simp;done)|(go_simp;with_reducible rfl)
     simp only[ls0,ls1]
     refine wpAnyH_ready (rs:=[14]) (by kernel_rfl) (by simp) ?_
     refine AllReadyH.cons rfl (fun K hK=>?_) AllReadyH.nil
     go_simp
     go_wp2_with (go_at_call 98;refine HCm.mono ?_;rintro r w5 ⟨rfl,h5⟩;have H5:Hid (SD l g W0 w5 d2):=h5;clear h5 HCm)
     have c50:w5.cell? ⟨g,p,none⟩=some (.int .i64 (x:Nat)):=by have h9:=(H5.out.cell HX.out.2.2.1).1;rw[HX.out.1]at h9;exact h9
     have c51:w5.cell? ⟨g,q,none⟩=some (.int .i64 (y:Nat)):=by have h9:=(H5.out.cell HX.out.2.2.2).1;rw[HX.out.2.1]at h9;exact h9
     refine hK.out _ _ ⟨c50,c51⟩ (fun hHeld=>?_)
     clear hK K
     try simp only[ls0,ls1]
     refine tqGSS5 (i:=15) (n:=33) (v:=?_) ?_ ?_
     rotate_left 1
     ·intro wz hSw
      obtain⟨s0,s1⟩:=hSw
      first|(go_simp;done)|(go_simp;with_reducible rfl)
     simp only[ls0,ls1]
     refine tqGSS5 (i:=16) (n:=34) (v:=?_) ?_ ?_
     rotate_left 1
     ·intro wz hSw
      obtain⟨s0,s1⟩:=hSw
      first|(go_simp;done)|(go_simp;with_reducible rfl)
     simp only[ls0,ls1]
     refine wpAnyH_done (by kernel_rfl) ?_ _
     refine NoPanic.normal ?_
     clear hHeld
     cases hzb:decide (cz<0) with
     | true =>
      obtain⟨p5,hp5⟩:∃p5:Unit,p5=():=⟨_,rfl⟩
      have f50:=(H5.out.cell HX.out.2.2.1).2
      have f51:=(H5.out.cell HX.out.2.2.2).2
      have lg5:=H5.out.lt
      have HN:Hid (SD l g W0 ((w5.setCell ⟨g,p,none⟩ (.int .i64 (y:Nat))).setCell ⟨g,q,none⟩ (.int .i64 (x:Nat))).drew (swp d2 p q)∧InsB (ltC l) id a q i (swp d2 p q)∧PermIn a (i+1) d (swp d2 p q)):=by
       have h1:=(H5.out.swap HX.out.2.2.1 HX.out.2.2.2).drew
       have h2:=HR.out.2.1
       have hsz:=HR.out.2.2.1.1
       have h3:=HL.out
       have h4:=HP.out
       have h5:=HR.out.2.2.2
       rw[HX.out.1,HX.out.2.1]at h1
       refine⟨h1,?_,permIn_trans _ _ _ _ _ HR.out.2.2.1 (swp_permIn _ _ _ _ _ (by omega) (by omega) (by omega) (by omega) (by omega))⟩
       rw[h4.1]
       rw[h4.1]at h2
       refine h2.step ?_ (by omega) (by omega) (by omega)
       have h6:=HLT.out
       rw[hzb,h4.1]at h6
       exact h6.symm
      clear c0 c1 f0 f1 lg
      clear hHeld
      go_wp2_with fail
      refine wp_region_noPanic ?_
      refine wp_region_held_drew (S:=fun w'=>(∃u,w'.cell? ⟨g,p,none⟩=some u)∧(∃u,w'.cell? ⟨g,q,none⟩=some u)∧w'.frozen? ⟨g,p,none⟩=false∧w'.frozen? ⟨g,q,none⟩=false) (by kernel_rfl) ⟨⟨_,c50⟩,⟨_,c51⟩,f50,f51⟩ (fun hHeld=>?_)
      refine tqGSS5 (i:=0) (n:=37) (v:=?_) ?_ ?_
      rotate_left 1
      ·intro wz hSw
       obtain⟨-,-,-,-⟩:=hSw
       first|(go_simp;done)|(go_simp;with_reducible rfl)
      simp only[ls0,ls1]
      refine tqGSS5 (i:=1) (n:=38) (v:=?_) ?_ ?_
      rotate_left 1
      ·intro wz hSw
       obtain⟨-,-,-,-⟩:=hSw
       first|(go_simp;done)|(go_simp;with_reducible rfl)
      simp only[ls0,ls1]
      refine tqGSS5 (i:=2) (n:=39) (v:=?_) ?_ ?_
      rotate_left 1
      ·intro wz hSw
       obtain⟨-,-,-,-⟩:=hSw
       first|(go_simp;done)|(go_simp;with_reducible rfl)
      simp only[ls0,ls1]
      refine tqGSS5 (i:=3) (n:=40) (v:=?_) ?_ ?_
      rotate_left 1
      ·intro wz hSw
       obtain⟨-,-,-,-⟩:=hSw
       first|(go_simp;done)|(go_simp;with_reducible rfl)
      simp only[ls0,ls1]
      refine tqGSS5 (i:=4) (n:=41) (v:=?_) ?_ ?_
      rotate_left 1
      ·intro wz hSw
       obtain⟨-,-,-,-⟩:=hSw
       first|(go_simp;done)|(go_simp;with_reducible rfl)
      simp only[ls0,ls1]
      refine tqGSS5 (i:=5) (n:=42) (v:=?_) ?_ ?_
      rotate_left 1
      ·intro wz hSw
       obtain⟨-,-,-,-⟩:=hSw
       first|(go_simp;done)|(go_simp;with_reducible rfl)
      simp only[ls0,ls1]
      refine tqGSS5 (i:=6) (n:=43) (v:=?_) ?_ ?_
      rotate_left 1
      ·intro wz hSw
       obtain⟨-,-,-,-⟩:=hSw
       first|(go_simp;done)|(go_simp;with_reducible rfl)
      simp only[ls0,ls1]
      refine tqGSS5 (i:=7) (n:=44) (v:=?_) ?_ ?_
      rotate_left 1
      ·intro wz hSw
       obtain⟨-,-,-,-⟩:=hSw
       first|(go_simp;done)|(go_simp;with_reducible rfl)
      simp only[ls0,ls1]
      refine tqGSS5 (i:=8) (n:=45) (v:=?_) ?_ ?_
      rotate_left 1
      ·intro wz hSw
       obtain⟨-,-,-,-⟩:=hSw
       first|(go_simp;done)|(go_simp;with_reducible rfl)
      simp only[ls0,ls1]
      refine tqGSS5 (i:=10) (n:=47) (v:=?_) ?_ ?_
      rotate_left 1
      ·intro wz hSw
       obtain⟨-,-,-,-⟩:=hSw
       first|(go_simp;done)|(go_simp;with_reducible rfl)
      simp only[ls0,ls1]
      refine tqGSS5 (i:=11) (n:=48) (v:=?_) ?_ ?_
      rotate_left 1
      ·intro wz hSw
       obtain⟨-,-,-,-⟩:=hSw
       first|(go_simp;done)|(go_simp;with_reducible rfl)
      simp only[ls0,ls1]
      refine tqGSS5 (i:=12) (n:=49) (v:=?_) ?_ ?_
      rotate_left 1
      ·intro wz hSw
       obtain⟨-,-,-,-⟩:=hSw
       first|(go_simp;done)|(go_simp;with_reducible rfl)
      simp only[ls0,ls1]
      refine wpAnyH_ready (rs:=[9,13]) (by kernel_rfl) (by simp) ?_
      refine AllReadyH.cons rfl (fun K hK=>?_) (AllReadyH.cons rfl (fun K hK=>?_) AllReadyH.nil)
      ·go_simp
       refine hK.out _ _ ⟨⟨_,c50⟩,⟨_,c51⟩,f50,f51⟩ (fun hHeld=>?_)
       clear hK K
       try simp only[ls0,ls1]
       refine wpAnyH_ready (rs:=[13]) (by kernel_rfl) (by simp) ?_
       refine AllReadyH.cons rfl (fun K hK=>?_) AllReadyH.nil
       go_simp
       refine hK.out _ _ ⟨⟨_,c50⟩,⟨_,c51⟩,f50,f51⟩ (fun hHeld=>?_)
       clear hK K
       try simp only[ls0,ls1]
       refine tqGSS5 (i:=14) (n:=51) (v:=?_) ?_ ?_
       rotate_left 1
       ·intro wz hSw
        obtain⟨-,-,-,-⟩:=hSw
        first|(go_simp;done)|(go_simp;with_reducible rfl)
       simp only[ls0,ls1]
       refine wpAnyH_ready (rs:=[15]) (by kernel_rfl) (by simp) ?_
       refine AllReadyH.cons rfl (fun K hK=>?_) AllReadyH.nil
       go_simp
       refine hK.out _ _ ⟨by go_simp,by go_simp,by go_simp,by go_simp⟩ (fun hHeld=>?_)
       clear hK K
       try simp only[ls0,ls1]
       refine tqGSS5 (i:=16) (n:=52) (v:=?_) ?_ ?_
       rotate_left 1
       ·intro wz hSw
        obtain⟨-,-,-,-⟩:=hSw
        first|(go_simp;done)|(go_simp;with_reducible rfl)
       simp only[ls0,ls1]
       refine wpAnyH_ready (rs:=[17]) (by kernel_rfl) (by simp) ?_
       refine AllReadyH.cons rfl (fun K hK=>?_) AllReadyH.nil
       go_simp
       refine hK.out _ _ ⟨by go_simp,by go_simp,by go_simp,by go_simp⟩ (fun hHeld=>?_)
       clear hK K
       try simp only[ls0,ls1]
       refine wpAnyH_done (by kernel_rfl) ?_ _
       refine NoPanic.normal ?_
       clear hHeld
       go_wp2_with fail
       have h4:=HP.out
       exact⟨⟨q,_,by omega,by have:=HR.out;omega,rfl,HN.out⟩,by simp[intOf];omega⟩
      ·go_simp
       refine hK.out _ _ ⟨⟨_,c50⟩,⟨_,c51⟩,f50,f51⟩ (fun hHeld=>?_)
       clear hK K
       try simp only[ls0,ls1]
       refine wpAnyH_ready (rs:=[9]) (by kernel_rfl) (by simp) ?_
       refine AllReadyH.cons rfl (fun K hK=>?_) AllReadyH.nil
       go_simp
       refine hK.out _ _ ⟨⟨_,c50⟩,⟨_,c51⟩,f50,f51⟩ (fun hHeld=>?_)
       clear hK K
       try simp only[ls0,ls1]
       refine tqGSS5 (i:=14) (n:=51) (v:=?_) ?_ ?_
       rotate_left 1
       ·intro wz hSw
        obtain⟨-,-,-,-⟩:=hSw
        first|(go_simp;done)|(go_simp;with_reducible rfl)
       simp only[ls0,ls1]
       refine wpAnyH_ready (rs:=[15]) (by kernel_rfl) (by simp) ?_
       refine AllReadyH.cons rfl (fun K hK=>?_) AllReadyH.nil
       go_simp
       refine hK.out _ _ ⟨by go_simp,by go_simp,by go_simp,by go_simp⟩ (fun hHeld=>?_)
       clear hK K
       try simp only[ls0,ls1]
       refine tqGSS5 (i:=16) (n:=52) (v:=?_) ?_ ?_
       rotate_left 1
       ·intro wz hSw
        obtain⟨-,-,-,-⟩:=hSw
        first|(go_simp;done)|(go_simp;with_reducible rfl)
       simp only[ls0,ls1]
       refine wpAnyH_ready (rs:=[17]) (by kernel_rfl) (by simp) ?_
       refine AllReadyH.cons rfl (fun K hK=>?_) AllReadyH.nil
       go_simp
       refine hK.out _ _ ⟨by go_simp,by go_simp,by go_simp,by go_simp⟩ (fun hHeld=>?_)
       clear hK K
       try simp only[ls0,ls1]
       refine wpAnyH_done (by kernel_rfl) ?_ _
       refine NoPanic.normal ?_
       clear hHeld
       go_wp2_with fail
       have h4:=HP.out
       exact⟨⟨q,_,by omega,by have:=HR.out;omega,rfl,HN.out⟩,by simp[intOf];omega⟩
     | false =>
      go_wp2_with fail
      obtain⟨q1,q2,q3,q4,q5⟩:=HR.out
      have h4:=HP.out
      have h5:=HL.out
      have h6:=HI1.out
      refine⟨⟨i1,d2,by omega,.inl (by omega),by simp,H5.out,?_,by rw[h6];exact q3⟩,by simp[intOf];omega⟩
      rw[h6]
      refine q2.stop (ltC_swo l) (.inr ?_) q5
      rw[show p-1=q by omega,← HLT.out]
      exact hzb
    ·have hpa:p=a:=by omega
     subst hpa
     have e1:¬ (p:Int)<(p:Int):=by omega
     clear hd hin hp hap hpi hz hl hlt
     go_wp2_with fail
     refine wp_region_noPanic ?_
     refine wp_region_held_drew (S:=fun w'=>True) (by kernel_rfl) trivial (fun hHeld=>?_)
     refine tqGSS5 (i:=0) (n:=18) (v:=?_) ?_ ?_
     rotate_left 1
     ·intro wz hSw
      clear hSw
      first|(go_simp;done)|(go_simp;with_reducible rfl)
     simp only[ls0,ls1]
     refine tqGSS5 (i:=1) (n:=19) (v:=?_) ?_ ?_
     rotate_left 1
     ·intro wz hSw
      clear hSw
      first|(go_simp;done)|(go_simp;with_reducible rfl)
     simp only[ls0,ls1]
     refine tqGSS5 (i:=2) (n:=20) (v:=?_) ?_ ?_
     rotate_left 1
     ·intro wz hSw
      clear hSw
      first|(go_simp;done)|(go_simp;with_reducible rfl)
     simp only[ls0,ls1]
     refine tqGSS5 (i:=3) (n:=21) (v:=?_) ?_ ?_
     rotate_left 1
     ·intro wz hSw
      clear hSw
      first|(go_simp;done)|(go_simp;with_reducible rfl)
     simp only[ls0,ls1]
     refine take_at (i:=4) (n:=22) (v:=undef) rfl rfl (by kernel_rfl) (by kernel_rfl) (by kernel_rfl) (fun _ _ _ h=>h) (Or.inr ⟨by rfl,rfl⟩) (by assumption) ?_
     simp only[ls0,ls1]
     refine take_at (i:=5) (n:=23) (v:=undef) rfl rfl (by kernel_rfl) (by kernel_rfl) (by kernel_rfl) (fun _ _ _ h=>h) (Or.inr ⟨by rfl,rfl⟩) (by assumption) ?_
     simp only[ls0,ls1]
     refine take_at (i:=6) (n:=24) (v:=undef) rfl rfl (by kernel_rfl) (by kernel_rfl) (by kernel_rfl) (fun _ _ _ h=>h) (Or.inr ⟨by rfl,rfl⟩) (by assumption) ?_
     simp only[ls0,ls1]
     refine take_at (i:=7) (n:=25) (v:=undef) rfl rfl (by kernel_rfl) (by kernel_rfl) (by kernel_rfl) (fun _ _ _ h=>h) (Or.inr ⟨by rfl,rfl⟩) (by assumption) ?_
     simp only[ls0,ls1]
     refine take_at (i:=8) (n:=26) (v:=undef) rfl rfl (by kernel_rfl) (by kernel_rfl) (by kernel_rfl) (fun _ _ _ h=>h) (Or.inr ⟨by rfl,rfl⟩) (by assumption) ?_
     simp only[ls0,ls1]
     refine take_at (i:=9) (n:=27) (v:=undef) rfl rfl (by kernel_rfl) (by kernel_rfl) (by kernel_rfl) (fun _ _ _ h=>h) (Or.inr ⟨by rfl,rfl⟩) (by assumption) ?_
     simp only[ls0,ls1]
     refine take_at (i:=10) (n:=28) (v:=undef) rfl rfl (by kernel_rfl) (by kernel_rfl) (by kernel_rfl) (fun _ _ _ h=>h) (Or.inr ⟨by rfl,rfl⟩) (by assumption) ?_
     simp only[ls0,ls1]
     refine take_at (i:=11) (n:=29) (v:=undef) rfl rfl (by kernel_rfl) (by kernel_rfl) (by kernel_rfl) (fun _ _ _ h=>h) (Or.inr ⟨by rfl,rfl⟩) (by assumption) ?_
     simp only[ls0,ls1]
     refine take_at (i:=12) (n:=30) (v:=undef) rfl rfl (by kernel_rfl) (by kernel_rfl) (by kernel_rfl) (fun _ _ _ h=>h) (Or.inr ⟨by rfl,rfl⟩) (by assumption) ?_
     simp only[ls0,ls1]
     refine take_at (i:=13) (n:=31) (v:=undef) rfl rfl (by kernel_rfl) (by kernel_rfl) (by kernel_rfl) (fun _ _ _ h=>h) (Or.inr ⟨by rfl,rfl⟩) (by assumption) ?_
     simp only[ls0,ls1]
     refine take_at (i:=14) (n:=32) (v:=undef) rfl rfl (by kernel_rfl) (by kernel_rfl) (by kernel_rfl) (fun _ _ _ h=>h) (Or.inr ⟨by rfl,rfl⟩) (by assumption) ?_
     simp only[ls0,ls1]
     refine take_at (i:=15) (n:=33) (v:=undef) rfl rfl (by kernel_rfl) (by kernel_rfl) (by kernel_rfl) (fun _ _ _ h=>h) (Or.inr ⟨by rfl,rfl⟩) (by assumption) ?_
     simp only[ls0,ls1]
     refine tqGSS5 (i:=16) (n:=34) (v:=?_) ?_ ?_
     rotate_left 1
     ·intro wz hSw
      clear hSw
      first|(go_simp;done)|(go_simp;with_reducible rfl)
     simp only[ls0,ls1]
     refine wpAnyH_done (by kernel_rfl) ?_ _
     refine NoPanic.normal ?_
     clear hHeld
     go_wp2_with fail
     obtain⟨q1,q2,q3,q4,q5⟩:=HR.out
     have h5:=HL.out
     have h6:=HI1.out
     refine⟨⟨i1,d2,by omega,.inl (by omega),by simp,q1.drew,?_,by rw[h6];exact q3⟩,by simp[intOf];omega⟩
     rw[h6]
     exact q2.stop (ltC_swo l) (.inl (Nat.le_refl _)) q5
end Go.Proofs.YtccoobcggbbcialGreatDoor.Stab
