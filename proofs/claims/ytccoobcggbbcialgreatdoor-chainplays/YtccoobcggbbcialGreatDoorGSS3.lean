import Derived.Test.YtccoobcggbbcialGreatDoorGSS2
namespace Go.Proofs.YtccoobcggbbcialGreatDoor
open Go.ChangeShapes Go.WideShapes Go.ChangeAt Go.RowKit
theorem tqGSS3{P:Program}{md:Region.Mode}{ops:Array Oper}{Q:Exit→Act→World→Prop}{S:World→Prop}{i n:Nat}{oi:Oper}{v:Value}{fuel:Nat}{listed:Array Bool}{l:List Value}{ds:List Deferred}{w:World}
  (hy:∀w,S w→(execOp (Act.eval ⟨l.toArray,ds⟩) oi).run P w = .ok (.value v) w) (h:wpAnyH P md ops Q S fuel (listed.setIfInBounds i true) ⟨(l.set n v).toArray,ds⟩ w)
  (hi:ops[i]?=some oi:=by rfl) (hd:oi.dst=some n:=by rfl) (hs:(Region.noSelect ops && Region.free md ops listed i && (Region.ready md ops listed).contains i)=true:=by kernel_rfl)
  (hQ:∀c a w,Q (.panic c) (a.put oi.dst v) w→Q (.panic c) a w:=by exact fun _ _ _ h=>h) (hg:Region.wanted oi (yielded ops l.toArray)=true:=by rfl) (hS:S w:=by assumption):wpAnyH P md ops Q S (fuel+1) listed ⟨l.toArray,ds⟩ w:=by
 simp only[Bool.and_eq_true]at hs
 exact take_at hi hd hs.1.1 hs.1.2 hs.2 hQ (.inl ⟨hg,hy⟩) hS h
end Go.Proofs.YtccoobcggbbcialGreatDoor
namespace Go.Proofs.YtccoobcggbbcialGreatDoor.Stab
open Go.ChangeShapes Go.WideShapes Go.ChangeAt Go.RowKit
open Go.Sort (swp swp_get swp_size SWO SWO.asymmA PermIn permIn_refl permIn_trans permIn_mono permIn_all swp_permIn)
set_option maxRecDepth 20000 in
set_option maxHeartbeats 4000000 in
theorem symA_any{l:List Co}{v:Value}{bS g:Nat}{W0 W:World}{d:Array Nat}(hC:SC l v bS g W0)(h:SD l g W0 W d)(a m b:Nat)(hm1:m=a+1)(hmb:m<b)(hb:b≤d.size)(hs:d.size≤4194304)(hA:Asc (ltC l) id m b d)(hX:Cross id a m b d) :
  Calls Tryz.prog 218 #[.slice (some ⟨g,0,none⟩) d.size d.size,.int .i64 (a:Int),.int .i64 (m:Int),.int .i64 (b:Int),(.func (Fn.func 98) #[] #[.pointer (some ⟨bS,0,none⟩)])] W fun r W'=>r = .returned (.tuple #[])∧∃d',SD l g W0 W' d'∧Asc (ltC l) id a b d'∧PermIn a b d d':=by
 have H0:Hid (SD l g W0 W d):=h
 have HA:Hid (Asc (ltC l) id m b d∧Cross id a m b d∧m=a+1∧m<b∧b≤d.size∧d.size≤4194304):=⟨hA,hX,hm1,hmb,hb,hs⟩
 have x0:(m:Int)-(a:Int)=1:=by omega
 clear h hA hX hm1 hmb hb
 go_enter Tryz.func218,Tryz.ntmps218
 go_wp2_with fail
 clear x0
 go_loopw [10,11] (fun iv jv wr=>∃i j:Nat,m≤i∧i≤j∧j≤b∧iv = .int .i64 (i:Int)∧jv = .int .i64 (j:Int)∧SD l g W0 wr d∧(i=m∨ltC l d[i-1]! d[a]! =true)∧(j=b∨ltC l d[j]! d[a]! =false)) (fun iv jv _=>(intOf jv).toNat-(intOf iv).toNat)
 case atStart=>exact⟨m,b,Nat.le_refl _,by have:=HA.out.2.2.2.1;omega,Nat.le_refl _,rfl,rfl,H0.out,.inl rfl,.inl rfl⟩
 case round =>
  obtain⟨i,j,hmi,hij,hjb,rfl,rfl,hd,hl1,hl2⟩:=hrel
  generalize wr=wR at *
  have HD:Hid (SD l g W0 wR d∧(i=m∨ltC l d[i-1]! d[a]! =true)∧(j=b∨ltC l d[j]! d[a]! =false)):=⟨hd,hl1,hl2⟩
  clear H0 hl1 hl2
  by_cases hlt:i<j
  ·obtain⟨-,-,hm1,hmb,hb,-⟩:=HA.out
   obtain⟨s,hse⟩:∃s,s=i+j:=⟨_,rfl⟩
   obtain⟨h,hhe⟩:∃h,h=(i+j) / 2:=⟨_,rfl⟩
   have y0:(i:Int)+(j:Int)=(s:Int):=by omega
   have y1:IntKind.i64.wrap (s:Int)=(s:Int):=wrap_nat (by omega)
   have y2:(s:Int) / 2=(h:Int):=by omega
   have y3:IntKind.u64.wrap (s:Int)=(s:Int):=by rw[IntKind.wrap_u64];omega
   have y4:IntKind.i64.wrap (h:Int)=(h:Int):=wrap_nat (by omega)
   have hji:(i:Int)<(j:Int):=by omega
   have hhs:(h:Int)<(d.size:Int):=by omega
   have has:(a:Int)<(d.size:Int):=by omega
   have his:h<d.size:=by omega
   have hjs:a<d.size:=by omega
   obtain⟨c0,-⟩:=hd.cell his
   obtain⟨c1,-⟩:=hd.cell hjs
   have HCm:=SD.cmp hC hd.drew his hjs
   have hlt:=cmp_lt l d[h]! d[a]!
   generalize cmpI (Ck l d[h]!).a (Ck l d[a]!).a=cz at HCm hlt
   obtain⟨x,hx⟩:∃x,d[h]! =x:=⟨_,rfl⟩
   obtain⟨y,hy⟩:∃y,d[a]! =y:=⟨_,rfl⟩
   rw[hx]at c0 HCm
   rw[hy]at c1 HCm
   have HX:Hid (d[h]! =x∧d[a]! =y∧h<d.size∧a<d.size):=⟨hx,hy,his,hjs⟩
   have HLT:Hid (decide (cz<0)=ltC l d[h]! d[a]!):=hlt
   clear hx hy his hjs hlt
   have HH:Hid (i≤h∧h<j∧m≤i∧j≤b∧m=a+1):=⟨by omega,by omega,hmi,hjb,hm1⟩
   have lg:=hd.lt
   clear hd hse hhe hmi hjb hij hlt hm1 hmb hb
   go_wp2_with fail
   refine wp_region_noPanic ?_
   refine wp_region_held_drew (S:=fun w'=>w'.cell? ⟨g,h,none⟩=some (.int .i64 (x:Nat))∧w'.cell? ⟨g,a,none⟩=some (.int .i64 (y:Nat))) (by kernel_rfl) ⟨c0,c1⟩ (fun hHeld=>?_)
   refine tqGSS3 (i:=0) (n:=40) (v:=?_) ?_ ?_
   rotate_left 1
   ·intro wz hSw
    obtain⟨s0,s1⟩:=hSw
    first|(go_simp;done)|(go_simp;with_reducible rfl)
   simp only[ls0,ls1]
   refine tqGSS3 (i:=1) (n:=41) (v:=?_) ?_ ?_
   rotate_left 1
   ·intro wz hSw
    obtain⟨s0,s1⟩:=hSw
    first|(go_simp;done)|(go_simp;with_reducible rfl)
   simp only[ls0,ls1]
   refine tqGSS3 (i:=2) (n:=42) (v:=?_) ?_ ?_
   rotate_left 1
   ·intro wz hSw
    obtain⟨s0,s1⟩:=hSw
    first|(go_simp;done)|(go_simp;with_reducible rfl)
   simp only[ls0,ls1]
   refine tqGSS3 (i:=3) (n:=43) (v:=?_) ?_ ?_
   rotate_left 1
   ·intro wz hSw
    obtain⟨s0,s1⟩:=hSw
    first|(go_simp;done)|(go_simp;with_reducible rfl)
   simp only[ls0,ls1]
   refine tqGSS3 (i:=4) (n:=44) (v:=?_) ?_ ?_
   rotate_left 1
   ·intro wz hSw
    obtain⟨s0,s1⟩:=hSw
    first|(go_simp;done)|(go_simp;with_reducible rfl)
   simp only[ls0,ls1]
   refine tqGSS3 (i:=5) (n:=45) (v:=?_) ?_ ?_
   rotate_left 1
   ·intro wz hSw
    obtain⟨s0,s1⟩:=hSw
    first|(go_simp;done)|(go_simp;with_reducible rfl)
   simp only[ls0,ls1]
   refine tqGSS3 (i:=6) (n:=46) (v:=?_) ?_ ?_
   rotate_left 1
   ·intro wz hSw
    obtain⟨s0,s1⟩:=hSw
    first|(go_simp;done)|(go_simp;with_reducible rfl)
   simp only[ls0,ls1]
   refine tqGSS3 (i:=7) (n:=47) (v:=?_) ?_ ?_
   rotate_left 1
   ·intro wz hSw
    obtain⟨s0,s1⟩:=hSw
    first|(go_simp;done)|(go_simp;with_reducible rfl)
   simp only[ls0,ls1]
   refine tqGSS3 (i:=8) (n:=48) (v:=?_) ?_ ?_
   rotate_left 1
   ·intro wz hSw
    obtain⟨s0,s1⟩:=hSw
    first|(go_simp;done)|(go_simp;with_reducible rfl)
   simp only[ls0,ls1]
   refine wpAnyH_ready (rs:=[9]) (by kernel_rfl) (by simp) ?_
   refine AllReadyH.cons rfl (fun K hK=>?_) AllReadyH.nil
   go_simp
   go_wp2_with (go_at_call 98;refine HCm.mono ?_;rintro r w5 ⟨rfl,h5⟩;have H5:Hid (SD l g W0 w5 d):=h5;clear h5 HCm)
   have c50:w5.cell? ⟨g,h,none⟩=some (.int .i64 (x:Nat)):=by have h9:=(H5.out.cell HX.out.2.2.1).1;rw[HX.out.1]at h9;exact h9
   have c51:w5.cell? ⟨g,a,none⟩=some (.int .i64 (y:Nat)):=by have h9:=(H5.out.cell HX.out.2.2.2).1;rw[HX.out.2.1]at h9;exact h9
   refine hK.out _ _ ⟨c50,c51⟩ (fun hHeld=>?_)
   clear hK K
   try simp only[ls0,ls1]
   refine tqGSS3 (i:=10) (n:=50) (v:=?_) ?_ ?_
   rotate_left 1
   ·intro wz hSw
    obtain⟨s0,s1⟩:=hSw
    first|(go_simp;done)|(go_simp;with_reducible rfl)
   simp only[ls0,ls1]
   refine wpAnyH_done (by kernel_rfl) ?_ _
   refine NoPanic.normal ?_
   clear hHeld
   by_cases hz:cz<0
   ·go_wp2_with fail
    obtain⟨q1,q2,q3,q4,q5⟩:=HH.out
    refine⟨⟨h+1,j,by omega,by omega,q4,by simp,rfl,H5.out,.inr ?_,HD.out.2.2⟩,by simp[intOf];omega⟩
    rw[Nat.add_sub_cancel,← HLT.out]
    simpa using hz
   ·go_wp2_with fail
    obtain⟨q1,q2,q3,q4,q5⟩:=HH.out
    refine⟨⟨i,h,q3,q1,by omega,rfl,rfl,H5.out,HD.out.2.1,.inr ?_⟩,by simp[intOf];omega⟩
    rw[← HLT.out]
    simpa using hz
  ·have hije:i=j:=by omega
   subst hije
   obtain⟨-,-,hm1,hmb,hb,-⟩:=HA.out
   obtain⟨e,hee⟩:∃e,e=i-1:=⟨_,rfl⟩
   have y0:(i:Int)-1=(e:Int):=by omega
   have y1:IntKind.i64.wrap (e:Int)=(e:Int):=wrap_nat (by omega)
   have HE:Hid (e=i-1∧m≤i∧i≤b∧m=a+1):=⟨hee,hmi,hjb,hm1⟩
   clear hee hd hlt hm1 hmb hb hmi hjb hij
   go_wp2_with fail
   go_loopw [13] (fun kv wr=>∃(k:Nat) (d':Array Nat),a≤k∧k≤e∧kv = .int .i64 (k:Int)∧SD l g W0 wr d'∧Up a k d d'∧PermIn a b d d') (fun kv _=>e-(intOf kv).toNat)
   case atStart=>exact⟨a,d,Nat.le_refl _,by have:=HE.out;omega,rfl,HD.out.1,Up.refl _ _,permIn_refl _ _ _⟩
   case round =>
    obtain⟨p,d',hap,hpe,rfl,hd,hu,hp⟩:=hrel
    have hzz:=hu.1
    by_cases hlt:p<e
    ·obtain⟨-,-,hm1,hmb,hb,-⟩:=HA.out
     obtain⟨q,hqe⟩:∃q,q=p+1:=⟨_,rfl⟩
     have hx:=HE.out
     have hps:p<d'.size:=by omega
     have hqs:q<d'.size:=by omega
     obtain⟨c0,f0⟩:=hd.cell hps
     obtain⟨c1,f1⟩:=hd.cell hqs
     have lg:=hd.lt
     have HN:Hid (SD l g W0 ((wr.setCell ⟨g,p,none⟩ (.int .i64 (d'[q]! : Nat))).setCell ⟨g,q,none⟩ (.int .i64 (d'[p]! : Nat))).drew (swp d' p q)∧Up a (p+1) d (swp d' p q)∧PermIn a b d (swp d' p q)):=⟨(hd.swap hps hqs).drew,by rw[hqe];exact hu.step hap (by omega),permIn_trans _ _ _ _ _ hp (swp_permIn _ _ _ _ _ (by omega) (by omega) (by omega) (by omega) (by omega))⟩
     have HP:Hid (p≠q∧q=p+1∧a≤p∧p<e):=⟨by omega,hqe,hap,hlt⟩
     have hji:(p:Int)<(e:Int):=by omega
     have e0:(p:Int)+1=(q:Int):=by omega
     have e2:(p:Int)<(d.size:Int):=by omega
     have e3:(q:Int)<(d.size:Int):=by omega
     have e7:IntKind.i64.wrap (p:Int)=(p:Int):=wrap_nat (by omega)
     have e8:IntKind.i64.wrap (q:Int)=(q:Int):=wrap_nat (by omega)
     clear hd hu hp hqe hps hqs hx hm1 hmb hb hap hpe hlt hzz
     generalize d'[p]! =x at *
     generalize d'[q]! =y at *
     go_wp2_with fail
     refine wp_region_noPanic ?_
     refine wp_region_held_drew (S:=fun w'=>(∃u,w'.cell? ⟨g,p,none⟩=some u)∧(∃u,w'.cell? ⟨g,q,none⟩=some u)∧w'.frozen? ⟨g,p,none⟩=false∧w'.frozen? ⟨g,q,none⟩=false) (by kernel_rfl) ⟨⟨_,c0⟩,⟨_,c1⟩,f0,f1⟩ (fun hHeld=>?_)
     refine tqGSS3 (i:=0) (n:=61) (v:=?_) ?_ ?_
     rotate_left 1
     ·intro wz hSw
      obtain⟨-,-,-,-⟩:=hSw
      first|(go_simp;done)|(go_simp;with_reducible rfl)
     simp only[ls0,ls1]
     refine tqGSS3 (i:=1) (n:=62) (v:=?_) ?_ ?_
     rotate_left 1
     ·intro wz hSw
      obtain⟨-,-,-,-⟩:=hSw
      first|(go_simp;done)|(go_simp;with_reducible rfl)
     simp only[ls0,ls1]
     refine tqGSS3 (i:=2) (n:=63) (v:=?_) ?_ ?_
     rotate_left 1
     ·intro wz hSw
      obtain⟨-,-,-,-⟩:=hSw
      first|(go_simp;done)|(go_simp;with_reducible rfl)
     simp only[ls0,ls1]
     refine tqGSS3 (i:=3) (n:=64) (v:=?_) ?_ ?_
     rotate_left 1
     ·intro wz hSw
      obtain⟨-,-,-,-⟩:=hSw
      first|(go_simp;done)|(go_simp;with_reducible rfl)
     simp only[ls0,ls1]
     refine tqGSS3 (i:=4) (n:=65) (v:=?_) ?_ ?_
     rotate_left 1
     ·intro wz hSw
      obtain⟨-,-,-,-⟩:=hSw
      first|(go_simp;done)|(go_simp;with_reducible rfl)
     simp only[ls0,ls1]
     refine tqGSS3 (i:=5) (n:=66) (v:=?_) ?_ ?_
     rotate_left 1
     ·intro wz hSw
      obtain⟨-,-,-,-⟩:=hSw
      first|(go_simp;done)|(go_simp;with_reducible rfl)
     simp only[ls0,ls1]
     refine tqGSS3 (i:=6) (n:=67) (v:=?_) ?_ ?_
     rotate_left 1
     ·intro wz hSw
      obtain⟨-,-,-,-⟩:=hSw
      first|(go_simp;done)|(go_simp;with_reducible rfl)
     simp only[ls0,ls1]
     refine tqGSS3 (i:=7) (n:=68) (v:=?_) ?_ ?_
     rotate_left 1
     ·intro wz hSw
      obtain⟨-,-,-,-⟩:=hSw
      first|(go_simp;done)|(go_simp;with_reducible rfl)
     simp only[ls0,ls1]
     refine tqGSS3 (i:=8) (n:=69) (v:=?_) ?_ ?_
     rotate_left 1
     ·intro wz hSw
      obtain⟨-,-,-,-⟩:=hSw
      first|(go_simp;done)|(go_simp;with_reducible rfl)
     simp only[ls0,ls1]
     refine tqGSS3 (i:=10) (n:=71) (v:=?_) ?_ ?_
     rotate_left 1
     ·intro wz hSw
      obtain⟨-,-,-,-⟩:=hSw
      first|(go_simp;done)|(go_simp;with_reducible rfl)
     simp only[ls0,ls1]
     refine tqGSS3 (i:=11) (n:=72) (v:=?_) ?_ ?_
     rotate_left 1
     ·intro wz hSw
      obtain⟨-,-,-,-⟩:=hSw
      first|(go_simp;done)|(go_simp;with_reducible rfl)
     simp only[ls0,ls1]
     refine tqGSS3 (i:=12) (n:=73) (v:=?_) ?_ ?_
     rotate_left 1
     ·intro wz hSw
      obtain⟨-,-,-,-⟩:=hSw
      first|(go_simp;done)|(go_simp;with_reducible rfl)
     simp only[ls0,ls1]
     refine wpAnyH_ready (rs:=[9,13]) (by kernel_rfl) (by simp) ?_
     refine AllReadyH.cons rfl (fun K hK=>?_) (AllReadyH.cons rfl (fun K hK=>?_) AllReadyH.nil)
     ·go_simp
      refine hK.out _ _ ⟨⟨_,c0⟩,⟨_,c1⟩,f0,f1⟩ (fun hHeld=>?_)
      clear hK K
      try simp only[ls0,ls1]
      refine wpAnyH_ready (rs:=[13]) (by kernel_rfl) (by simp) ?_
      refine AllReadyH.cons rfl (fun K hK=>?_) AllReadyH.nil
      go_simp
      refine hK.out _ _ ⟨⟨_,c0⟩,⟨_,c1⟩,f0,f1⟩ (fun hHeld=>?_)
      clear hK K
      try simp only[ls0,ls1]
      refine tqGSS3 (i:=14) (n:=75) (v:=?_) ?_ ?_
      rotate_left 1
      ·intro wz hSw
       obtain⟨-,-,-,-⟩:=hSw
       first|(go_simp;done)|(go_simp;with_reducible rfl)
      simp only[ls0,ls1]
      refine wpAnyH_ready (rs:=[15]) (by kernel_rfl) (by simp) ?_
      refine AllReadyH.cons rfl (fun K hK=>?_) AllReadyH.nil
      go_simp
      refine hK.out _ _ ⟨by go_simp,by go_simp,by go_simp,by go_simp⟩ (fun hHeld=>?_)
      clear hK K
      try simp only[ls0,ls1]
      refine tqGSS3 (i:=16) (n:=76) (v:=?_) ?_ ?_
      rotate_left 1
      ·intro wz hSw
       obtain⟨-,-,-,-⟩:=hSw
       first|(go_simp;done)|(go_simp;with_reducible rfl)
      simp only[ls0,ls1]
      refine wpAnyH_ready (rs:=[17]) (by kernel_rfl) (by simp) ?_
      refine AllReadyH.cons rfl (fun K hK=>?_) AllReadyH.nil
      go_simp
      refine hK.out _ _ ⟨by go_simp,by go_simp,by go_simp,by go_simp⟩ (fun hHeld=>?_)
      clear hK K
      try simp only[ls0,ls1]
      refine wpAnyH_done (by kernel_rfl) ?_ _
      refine NoPanic.normal ?_
      clear hHeld
      go_wp2_with fail
      obtain⟨q1,q2,q3,q4⟩:=HP.out
      exact⟨⟨q,_,by omega,by omega,rfl,HN.out.1,by have h9:=HN.out.2.1;rw[← q2]at h9;exact h9,HN.out.2.2⟩,by simp[intOf];omega⟩
     ·go_simp
      refine hK.out _ _ ⟨⟨_,c0⟩,⟨_,c1⟩,f0,f1⟩ (fun hHeld=>?_)
      clear hK K
      try simp only[ls0,ls1]
      refine wpAnyH_ready (rs:=[9]) (by kernel_rfl) (by simp) ?_
      refine AllReadyH.cons rfl (fun K hK=>?_) AllReadyH.nil
      go_simp
      refine hK.out _ _ ⟨⟨_,c0⟩,⟨_,c1⟩,f0,f1⟩ (fun hHeld=>?_)
      clear hK K
      try simp only[ls0,ls1]
      refine tqGSS3 (i:=14) (n:=75) (v:=?_) ?_ ?_
      rotate_left 1
      ·intro wz hSw
       obtain⟨-,-,-,-⟩:=hSw
       first|(go_simp;done)|(go_simp;with_reducible rfl)
      simp only[ls0,ls1]
      refine wpAnyH_ready (rs:=[15]) (by kernel_rfl) (by simp) ?_
      refine AllReadyH.cons rfl (fun K hK=>?_) AllReadyH.nil
      go_simp
      refine hK.out _ _ ⟨by go_simp,by go_simp,by go_simp,by go_simp⟩ (fun hHeld=>?_)
      clear hK K
      try simp only[ls0,ls1]
      refine tqGSS3 (i:=16) (n:=76) (v:=?_) ?_ ?_
      rotate_left 1
      ·intro wz hSw
       obtain⟨-,-,-,-⟩:=hSw
       first|(go_simp;done)|(go_simp;with_reducible rfl)
      simp only[ls0,ls1]
      refine wpAnyH_ready (rs:=[17]) (by kernel_rfl) (by simp) ?_
      refine AllReadyH.cons rfl (fun K hK=>?_) AllReadyH.nil
      go_simp
      refine hK.out _ _ ⟨by go_simp,by go_simp,by go_simp,by go_simp⟩ (fun hHeld=>?_)
      clear hK K
      try simp only[ls0,ls1]
      refine wpAnyH_done (by kernel_rfl) ?_ _
      refine NoPanic.normal ?_
      clear hHeld
      go_wp2_with fail
      obtain⟨q1,q2,q3,q4⟩:=HP.out
      exact⟨⟨q,_,by omega,by omega,rfl,HN.out.1,by have h9:=HN.out.2.1;rw[← q2]at h9;exact h9,HN.out.2.2⟩,by simp[intOf];omega⟩
    ·have hpe':p=e:=by omega
     subst hpe'
     have HF:Hid (SD l g W0 wr d'∧Up a p d d'∧PermIn a b d d'):=⟨hd,hu,hp⟩
     clear hd hu hp
     go_wp2_with fail
     try simp only[Exit.inBlock,Exit.then]
     refine bodyPost_ret (results_none rfl _ _ _) rfl ?_
     obtain⟨-,-,hm1,hmb,hb,-⟩:=HA.out
     obtain⟨q1,q2,q3,q4⟩:=HE.out
     refine⟨rfl,d',HF.out.1,?_,HF.out.2.2⟩
     have hA:=HA.out.1
     have hu:=HF.out.2.1
     rw[q1]at hu
     refine asc_up (ltC_swo l) hu (by rw[← q4];exact hA) (by omega) q3 ?_ ?_
     ·rcases HD.out.2.1 with h|h
      ·exact .inl (by omega)
      ·exact .inr (.inl h)
     ·rcases HD.out.2.2 with h|h
      ·exact .inl h
      ·by_cases hib:i=b
       ·exact .inl hib
       ·exact .inr (.inr ⟨h,HA.out.2.1 a i (Nat.le_refl _) (by omega) q2 (by omega)⟩)
set_option maxRecDepth 20000 in
set_option maxHeartbeats 4000000 in
theorem symB_any{l:List Co}{v:Value}{bS g:Nat}{W0 W:World}{d:Array Nat}(hC:SC l v bS g W0)(h:SD l g W0 W d)(a m b:Nat)(ham:a+1<m)(hm1:b=m+1)(hb:b≤d.size)(hs:d.size≤4194304)(hA:Asc (ltC l) id a m d)(hX:Cross id a m b d) :
  Calls Tryz.prog 218 #[.slice (some ⟨g,0,none⟩) d.size d.size,.int .i64 (a:Int),.int .i64 (m:Int),.int .i64 (b:Int),(.func (Fn.func 98) #[] #[.pointer (some ⟨bS,0,none⟩)])] W fun r W'=>r = .returned (.tuple #[])∧∃d',SD l g W0 W' d'∧Asc (ltC l) id a b d'∧PermIn a b d d':=by
 have H0:Hid (SD l g W0 W d):=h
 have HA:Hid (Asc (ltC l) id a m d∧Cross id a m b d∧b=m+1∧a+1<m∧b≤d.size∧d.size≤4194304):=⟨hA,hX,hm1,ham,hb,hs⟩
 obtain⟨k0,hk0⟩:∃k0,k0=m-a:=⟨_,rfl⟩
 have x0:(m:Int)-(a:Int)=(k0:Int):=by omega
 have x1:IntKind.i64.wrap (k0:Int)=(k0:Int):=wrap_nat (by omega)
 have x2:((k0:Int) == 1)=false:=by simp;omega
 have x3:(b:Int)-(m:Int)=1:=by omega
 clear h hA hX hm1 ham hb hk0
 go_enter Tryz.func218,Tryz.ntmps218
 go_wp2_with fail
 clear x0 x1 x2 x3
 go_loopw [14,15] (fun iv jv wr=>∃i j:Nat,a≤i∧i≤j∧j≤m∧iv = .int .i64 (i:Int)∧jv = .int .i64 (j:Int)∧SD l g W0 wr d∧(i=a∨ltC l d[m]! d[i-1]! =false)∧(j=m∨ltC l d[m]! d[j]! =true)) (fun iv jv _=>(intOf jv).toNat-(intOf iv).toNat)
 case atStart=>exact⟨a,m,Nat.le_refl _,by have:=HA.out.2.2.2.1;omega,Nat.le_refl _,rfl,rfl,H0.out,.inl rfl,.inl rfl⟩
 case round =>
  obtain⟨i,j,hmi,hij,hjb,rfl,rfl,hd,hl1,hl2⟩:=hrel
  generalize wr=wR at *
  have HD:Hid (SD l g W0 wR d∧(i=a∨ltC l d[m]! d[i-1]! =false)∧(j=m∨ltC l d[m]! d[j]! =true)):=⟨hd,hl1,hl2⟩
  clear H0 hl1 hl2
  by_cases hlt:i<j
  ·obtain⟨-,-,hm1,ham,hb,-⟩:=HA.out
   obtain⟨s,hse⟩:∃s,s=i+j:=⟨_,rfl⟩
   obtain⟨h,hhe⟩:∃h,h=(i+j) / 2:=⟨_,rfl⟩
   have y0:(i:Int)+(j:Int)=(s:Int):=by omega
   have y1:IntKind.i64.wrap (s:Int)=(s:Int):=wrap_nat (by omega)
   have y2:(s:Int) / 2=(h:Int):=by omega
   have y3:IntKind.u64.wrap (s:Int)=(s:Int):=by rw[IntKind.wrap_u64];omega
   have y4:IntKind.i64.wrap (h:Int)=(h:Int):=wrap_nat (by omega)
   have hji:(i:Int)<(j:Int):=by omega
   have hhs:(h:Int)<(d.size:Int):=by omega
   have has:(m:Int)<(d.size:Int):=by omega
   have his:m<d.size:=by omega
   have hjs:h<d.size:=by omega
   obtain⟨c0,-⟩:=hd.cell his
   obtain⟨c1,-⟩:=hd.cell hjs
   have HCm:=SD.cmp hC hd.drew his hjs
   have hlt:=cmp_lt l d[m]! d[h]!
   generalize cmpI (Ck l d[m]!).a (Ck l d[h]!).a=cz at HCm hlt
   obtain⟨x,hx⟩:∃x,d[m]! =x:=⟨_,rfl⟩
   obtain⟨y,hy⟩:∃y,d[h]! =y:=⟨_,rfl⟩
   rw[hx]at c0 HCm
   rw[hy]at c1 HCm
   have HX:Hid (d[m]! =x∧d[h]! =y∧m<d.size∧h<d.size):=⟨hx,hy,his,hjs⟩
   have HLT:Hid (decide (cz<0)=ltC l d[m]! d[h]!):=hlt
   clear hx hy his hjs hlt
   have HH:Hid (i≤h∧h<j∧a≤i∧j≤m):=⟨by omega,by omega,hmi,hjb⟩
   have lg:=hd.lt
   clear hd hse hhe hmi hjb hij hlt hm1 ham hb
   go_wp2_with fail
   refine wp_region_noPanic ?_
   refine wp_region_held_drew (S:=fun w'=>w'.cell? ⟨g,m,none⟩=some (.int .i64 (x:Nat))∧w'.cell? ⟨g,h,none⟩=some (.int .i64 (y:Nat))) (by kernel_rfl) ⟨c0,c1⟩ (fun hHeld=>?_)
   refine tqGSS3 (i:=0) (n:=92) (v:=?_) ?_ ?_
   rotate_left 1
   ·intro wz hSw
    obtain⟨s0,s1⟩:=hSw
    first|(go_simp;done)|(go_simp;with_reducible rfl)
   simp only[ls0,ls1]
   refine tqGSS3 (i:=1) (n:=93) (v:=?_) ?_ ?_
   rotate_left 1
   ·intro wz hSw
    obtain⟨s0,s1⟩:=hSw
    first|(go_simp;done)|(go_simp;with_reducible rfl)
   simp only[ls0,ls1]
   refine tqGSS3 (i:=2) (n:=94) (v:=?_) ?_ ?_
   rotate_left 1
   ·intro wz hSw
    obtain⟨s0,s1⟩:=hSw
    first|(go_simp;done)|(go_simp;with_reducible rfl)
   simp only[ls0,ls1]
   refine tqGSS3 (i:=3) (n:=95) (v:=?_) ?_ ?_
   rotate_left 1
   ·intro wz hSw
    obtain⟨s0,s1⟩:=hSw
    first|(go_simp;done)|(go_simp;with_reducible rfl)
   simp only[ls0,ls1]
   refine tqGSS3 (i:=4) (n:=96) (v:=?_) ?_ ?_
   rotate_left 1
   ·intro wz hSw
    obtain⟨s0,s1⟩:=hSw
    first|(go_simp;done)|(go_simp;with_reducible rfl)
   simp only[ls0,ls1]
   refine tqGSS3 (i:=5) (n:=97) (v:=?_) ?_ ?_
   rotate_left 1
   ·intro wz hSw
    obtain⟨s0,s1⟩:=hSw
    first|(go_simp;done)|(go_simp;with_reducible rfl)
   simp only[ls0,ls1]
   refine tqGSS3 (i:=6) (n:=98) (v:=?_) ?_ ?_
   rotate_left 1
   ·intro wz hSw
    obtain⟨s0,s1⟩:=hSw
    first|(go_simp;done)|(go_simp;with_reducible rfl)
   simp only[ls0,ls1]
   refine tqGSS3 (i:=7) (n:=99) (v:=?_) ?_ ?_
   rotate_left 1
   ·intro wz hSw
    obtain⟨s0,s1⟩:=hSw
    first|(go_simp;done)|(go_simp;with_reducible rfl)
   simp only[ls0,ls1]
   refine tqGSS3 (i:=8) (n:=100) (v:=?_) ?_ ?_
   rotate_left 1
   ·intro wz hSw
    obtain⟨s0,s1⟩:=hSw
    first|(go_simp;done)|(go_simp;with_reducible rfl)
   simp only[ls0,ls1]
   refine wpAnyH_ready (rs:=[9]) (by kernel_rfl) (by simp) ?_
   refine AllReadyH.cons rfl (fun K hK=>?_) AllReadyH.nil
   go_simp
   go_wp2_with (go_at_call 98;refine HCm.mono ?_;rintro r w5 ⟨rfl,h5⟩;have H5:Hid (SD l g W0 w5 d):=h5;clear h5 HCm)
   have c50:w5.cell? ⟨g,m,none⟩=some (.int .i64 (x:Nat)):=by have h9:=(H5.out.cell HX.out.2.2.1).1;rw[HX.out.1]at h9;exact h9
   have c51:w5.cell? ⟨g,h,none⟩=some (.int .i64 (y:Nat)):=by have h9:=(H5.out.cell HX.out.2.2.2).1;rw[HX.out.2.1]at h9;exact h9
   refine hK.out _ _ ⟨c50,c51⟩ (fun hHeld=>?_)
   clear hK K
   try simp only[ls0,ls1]
   refine tqGSS3 (i:=10) (n:=102) (v:=?_) ?_ ?_
   rotate_left 1
   ·intro wz hSw
    obtain⟨s0,s1⟩:=hSw
    first|(go_simp;done)|(go_simp;with_reducible rfl)
   simp only[ls0,ls1]
   refine tqGSS3 (i:=11) (n:=103) (v:=?_) ?_ ?_
   rotate_left 1
   ·intro wz hSw
    obtain⟨s0,s1⟩:=hSw
    first|(go_simp;done)|(go_simp;with_reducible rfl)
   simp only[ls0,ls1]
   refine wpAnyH_done (by kernel_rfl) ?_ _
   refine NoPanic.normal ?_
   clear hHeld
   cases hzb:decide (cz<0)
   rotate_left 1
   ·go_wp2_with fail
    obtain⟨q1,q2,q3,q4⟩:=HH.out
    refine⟨⟨i,h,q3,q1,by omega,rfl,rfl,H5.out,HD.out.2.1,.inr ?_⟩,by simp[intOf];omega⟩
    rw[← HLT.out]
    exact hzb
   ·go_wp2_with fail
    obtain⟨q1,q2,q3,q4⟩:=HH.out
    refine⟨⟨h+1,j,by omega,by omega,q4,by simp,rfl,H5.out,.inr ?_,HD.out.2.2⟩,by simp[intOf];omega⟩
    rw[Nat.add_sub_cancel,← HLT.out]
    exact hzb
  ·have hije:i=j:=by omega
   subst hije
   have HE:Hid (a≤i∧i≤m):=⟨hmi,hjb⟩
   clear hd hlt hmi hjb hij
   go_wp2_with fail
   go_loopw [17] (fun kv wr=>∃(k:Nat) (d':Array Nat),i≤k∧k≤m∧kv = .int .i64 (k:Int)∧SD l g W0 wr d'∧Dn m k d d'∧PermIn a b d d') (fun kv _=>(intOf kv).toNat-i)
   case atStart=>exact⟨m,d,HE.out.2,Nat.le_refl _,rfl,HD.out.1,Dn.refl _ _,permIn_refl _ _ _⟩
   case round =>
    obtain⟨p,d',hap,hpe,rfl,hd,hu,hp⟩:=hrel
    have hzz:=hu.1
    by_cases hlt:i<p
    ·obtain⟨-,-,hm1,ham,hb,-⟩:=HA.out
     obtain⟨q,hqe⟩:∃q,q=p-1:=⟨_,rfl⟩
     have hpq:p=q+1:=by omega
     have hx:=HE.out
     have hps:p<d'.size:=by omega
     have hqs:q<d'.size:=by omega
     obtain⟨c0,f0⟩:=hd.cell hps
     obtain⟨c1,f1⟩:=hd.cell hqs
     have lg:=hd.lt
     have HN:Hid (SD l g W0 ((wr.setCell ⟨g,p,none⟩ (.int .i64 (d'[q]! : Nat))).setCell ⟨g,q,none⟩ (.int .i64 (d'[p]! : Nat))).drew (swp d' p q)∧Dn m q d (swp d' p q)∧PermIn a b d (swp d' p q)):=⟨(hd.swap hps hqs).drew,by rw[hpq];rw[hpq]at hu;exact hu.step (by omega) (by omega),permIn_trans _ _ _ _ _ hp (swp_permIn _ _ _ _ _ (by omega) (by omega) (by omega) (by omega) (by omega))⟩
     have HP:Hid (p≠q∧p=q+1∧i<p∧p≤m):=⟨by omega,hpq,hlt,hpe⟩
     have hji:(i:Int)<(p:Int):=by omega
     have e0:(p:Int)-1=(q:Int):=by omega
     have e2:(p:Int)<(d.size:Int):=by omega
     have e3:(q:Int)<(d.size:Int):=by omega
     have e7:IntKind.i64.wrap (p:Int)=(p:Int):=wrap_nat (by omega)
     have e8:IntKind.i64.wrap (q:Int)=(q:Int):=wrap_nat (by omega)
     clear hd hu hp hqe hpq hps hqs hx hm1 ham hb hap hpe hlt hzz
     generalize d'[p]! =x at *
     generalize d'[q]! =y at *
     go_wp2_with fail
     refine wp_region_noPanic ?_
     refine wp_region_held_drew (S:=fun w'=>(∃u,w'.cell? ⟨g,p,none⟩=some u)∧(∃u,w'.cell? ⟨g,q,none⟩=some u)∧w'.frozen? ⟨g,p,none⟩=false∧w'.frozen? ⟨g,q,none⟩=false) (by kernel_rfl) ⟨⟨_,c0⟩,⟨_,c1⟩,f0,f1⟩ (fun hHeld=>?_)
     refine tqGSS3 (i:=0) (n:=113) (v:=?_) ?_ ?_
     rotate_left 1
     ·intro wz hSw
      obtain⟨-,-,-,-⟩:=hSw
      first|(go_simp;done)|(go_simp;with_reducible rfl)
     simp only[ls0,ls1]
     refine tqGSS3 (i:=1) (n:=114) (v:=?_) ?_ ?_
     rotate_left 1
     ·intro wz hSw
      obtain⟨-,-,-,-⟩:=hSw
      first|(go_simp;done)|(go_simp;with_reducible rfl)
     simp only[ls0,ls1]
     refine tqGSS3 (i:=2) (n:=115) (v:=?_) ?_ ?_
     rotate_left 1
     ·intro wz hSw
      obtain⟨-,-,-,-⟩:=hSw
      first|(go_simp;done)|(go_simp;with_reducible rfl)
     simp only[ls0,ls1]
     refine tqGSS3 (i:=3) (n:=116) (v:=?_) ?_ ?_
     rotate_left 1
     ·intro wz hSw
      obtain⟨-,-,-,-⟩:=hSw
      first|(go_simp;done)|(go_simp;with_reducible rfl)
     simp only[ls0,ls1]
     refine tqGSS3 (i:=4) (n:=117) (v:=?_) ?_ ?_
     rotate_left 1
     ·intro wz hSw
      obtain⟨-,-,-,-⟩:=hSw
      first|(go_simp;done)|(go_simp;with_reducible rfl)
     simp only[ls0,ls1]
     refine tqGSS3 (i:=5) (n:=118) (v:=?_) ?_ ?_
     rotate_left 1
     ·intro wz hSw
      obtain⟨-,-,-,-⟩:=hSw
      first|(go_simp;done)|(go_simp;with_reducible rfl)
     simp only[ls0,ls1]
     refine tqGSS3 (i:=6) (n:=119) (v:=?_) ?_ ?_
     rotate_left 1
     ·intro wz hSw
      obtain⟨-,-,-,-⟩:=hSw
      first|(go_simp;done)|(go_simp;with_reducible rfl)
     simp only[ls0,ls1]
     refine tqGSS3 (i:=7) (n:=120) (v:=?_) ?_ ?_
     rotate_left 1
     ·intro wz hSw
      obtain⟨-,-,-,-⟩:=hSw
      first|(go_simp;done)|(go_simp;with_reducible rfl)
     simp only[ls0,ls1]
     refine tqGSS3 (i:=8) (n:=121) (v:=?_) ?_ ?_
     rotate_left 1
     ·intro wz hSw
      obtain⟨-,-,-,-⟩:=hSw
      first|(go_simp;done)|(go_simp;with_reducible rfl)
     simp only[ls0,ls1]
     refine tqGSS3 (i:=10) (n:=123) (v:=?_) ?_ ?_
     rotate_left 1
     ·intro wz hSw
      obtain⟨-,-,-,-⟩:=hSw
      first|(go_simp;done)|(go_simp;with_reducible rfl)
     simp only[ls0,ls1]
     refine tqGSS3 (i:=11) (n:=124) (v:=?_) ?_ ?_
     rotate_left 1
     ·intro wz hSw
      obtain⟨-,-,-,-⟩:=hSw
      first|(go_simp;done)|(go_simp;with_reducible rfl)
     simp only[ls0,ls1]
     refine tqGSS3 (i:=12) (n:=125) (v:=?_) ?_ ?_
     rotate_left 1
     ·intro wz hSw
      obtain⟨-,-,-,-⟩:=hSw
      first|(go_simp;done)|(go_simp;with_reducible rfl)
     simp only[ls0,ls1]
     refine wpAnyH_ready (rs:=[9,13]) (by kernel_rfl) (by simp) ?_
     refine AllReadyH.cons rfl (fun K hK=>?_) (AllReadyH.cons rfl (fun K hK=>?_) AllReadyH.nil)
     ·go_simp
      refine hK.out _ _ ⟨⟨_,c0⟩,⟨_,c1⟩,f0,f1⟩ (fun hHeld=>?_)
      clear hK K
      try simp only[ls0,ls1]
      refine wpAnyH_ready (rs:=[13]) (by kernel_rfl) (by simp) ?_
      refine AllReadyH.cons rfl (fun K hK=>?_) AllReadyH.nil
      go_simp
      refine hK.out _ _ ⟨⟨_,c0⟩,⟨_,c1⟩,f0,f1⟩ (fun hHeld=>?_)
      clear hK K
      try simp only[ls0,ls1]
      refine tqGSS3 (i:=14) (n:=127) (v:=?_) ?_ ?_
      rotate_left 1
      ·intro wz hSw
       obtain⟨-,-,-,-⟩:=hSw
       first|(go_simp;done)|(go_simp;with_reducible rfl)
      simp only[ls0,ls1]
      refine wpAnyH_ready (rs:=[15]) (by kernel_rfl) (by simp) ?_
      refine AllReadyH.cons rfl (fun K hK=>?_) AllReadyH.nil
      go_simp
      refine hK.out _ _ ⟨by go_simp,by go_simp,by go_simp,by go_simp⟩ (fun hHeld=>?_)
      clear hK K
      try simp only[ls0,ls1]
      refine tqGSS3 (i:=16) (n:=128) (v:=?_) ?_ ?_
      rotate_left 1
      ·intro wz hSw
       obtain⟨-,-,-,-⟩:=hSw
       first|(go_simp;done)|(go_simp;with_reducible rfl)
      simp only[ls0,ls1]
      refine wpAnyH_ready (rs:=[17]) (by kernel_rfl) (by simp) ?_
      refine AllReadyH.cons rfl (fun K hK=>?_) AllReadyH.nil
      go_simp
      refine hK.out _ _ ⟨by go_simp,by go_simp,by go_simp,by go_simp⟩ (fun hHeld=>?_)
      clear hK K
      try simp only[ls0,ls1]
      refine wpAnyH_done (by kernel_rfl) ?_ _
      refine NoPanic.normal ?_
      clear hHeld
      go_wp2_with fail
      obtain⟨q1,q2,q3,q4⟩:=HP.out
      exact⟨⟨q,_,by omega,by omega,rfl,HN.out⟩,by simp[intOf];omega⟩
     ·go_simp
      refine hK.out _ _ ⟨⟨_,c0⟩,⟨_,c1⟩,f0,f1⟩ (fun hHeld=>?_)
      clear hK K
      try simp only[ls0,ls1]
      refine wpAnyH_ready (rs:=[9]) (by kernel_rfl) (by simp) ?_
      refine AllReadyH.cons rfl (fun K hK=>?_) AllReadyH.nil
      go_simp
      refine hK.out _ _ ⟨⟨_,c0⟩,⟨_,c1⟩,f0,f1⟩ (fun hHeld=>?_)
      clear hK K
      try simp only[ls0,ls1]
      refine tqGSS3 (i:=14) (n:=127) (v:=?_) ?_ ?_
      rotate_left 1
      ·intro wz hSw
       obtain⟨-,-,-,-⟩:=hSw
       first|(go_simp;done)|(go_simp;with_reducible rfl)
      simp only[ls0,ls1]
      refine wpAnyH_ready (rs:=[15]) (by kernel_rfl) (by simp) ?_
      refine AllReadyH.cons rfl (fun K hK=>?_) AllReadyH.nil
      go_simp
      refine hK.out _ _ ⟨by go_simp,by go_simp,by go_simp,by go_simp⟩ (fun hHeld=>?_)
      clear hK K
      try simp only[ls0,ls1]
      refine tqGSS3 (i:=16) (n:=128) (v:=?_) ?_ ?_
      rotate_left 1
      ·intro wz hSw
       obtain⟨-,-,-,-⟩:=hSw
       first|(go_simp;done)|(go_simp;with_reducible rfl)
      simp only[ls0,ls1]
      refine wpAnyH_ready (rs:=[17]) (by kernel_rfl) (by simp) ?_
      refine AllReadyH.cons rfl (fun K hK=>?_) AllReadyH.nil
      go_simp
      refine hK.out _ _ ⟨by go_simp,by go_simp,by go_simp,by go_simp⟩ (fun hHeld=>?_)
      clear hK K
      try simp only[ls0,ls1]
      refine wpAnyH_done (by kernel_rfl) ?_ _
      refine NoPanic.normal ?_
      clear hHeld
      go_wp2_with fail
      obtain⟨q1,q2,q3,q4⟩:=HP.out
      exact⟨⟨q,_,by omega,by omega,rfl,HN.out⟩,by simp[intOf];omega⟩
    ·have hpe':p=i:=by omega
     subst hpe'
     have HF:Hid (SD l g W0 wr d'∧Dn m p d d'∧PermIn a b d d'):=⟨hd,hu,hp⟩
     clear hd hu hp
     go_wp2_with fail
     try simp only[Exit.inBlock,Exit.then]
     refine bodyPost_ret (results_none rfl _ _ _) rfl ?_
     obtain⟨-,-,hm1,ham,hb,-⟩:=HA.out
     obtain⟨q1,q2⟩:=HE.out
     refine⟨rfl,d',HF.out.1,?_,HF.out.2.2⟩
     rw[hm1]
     refine asc_dn (ltC_swo l) HF.out.2.1 HA.out.1 q1 q2 ?_ ?_
     ·rcases HD.out.2.1 with h|h
      ·exact .inl h
      ·by_cases hib:p=a
       ·exact .inl hib
       ·exact .inr (.inr ⟨h,HA.out.2.1 (p-1) m (by omega) (by omega) (Nat.le_refl _) (by omega)⟩)
     ·rcases HD.out.2.2 with h|h
      ·exact .inl h
      ·exact .inr (.inl h)
end Go.Proofs.YtccoobcggbbcialGreatDoor.Stab
