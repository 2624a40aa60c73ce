import Derived.Test.YtccoobcggbbcialGreatDoorGXB
namespace Go.Proofs.YtccoobcggbbcialGreatDoor
open Go.ChangeShapes Go.WideShapes Go.ChangeAt Go.RowKit
theorem CheckD_ends{w:World}{g:Nat}{c k:Value}{a:Act}(h:w.heap[g]?=some (.cells #[c,k] 33 (0,0)))(h3:a.tmps[2]?.getD undef = .pointer (some ⟨g,0,none⟩)) :
  (results Tryz.f59 a.tmps).run Tryz.prog w = .ok (.agg #[c,k]) w:=by
 obtain⟨c1,f1,l1⟩:=cells_of (l:=[_,_]) h
 have c10:=c1 0 _ rfl
 have c11:=c1 1 _ rfl
 simp[results,Tryz.results59,go_sem,h3,c10,c11]
set_option maxRecDepth 20000 in
set_option maxHeartbeats 8000000 in
theorem CheckParts_any(w:World)(l:List Pa)(v:Value)(hv:RowSl Pa.vals w l v):Calls Tryz.prog 59 #[v] w fun r w'=>r = .returned (.agg #[.int .i64 (chkP l).1,.int .i64 (chkP l).2])∧Below w.heap.size w w':=by
 obtain⟨ad,c,rfl⟩:=hv.len
 have HV:Hid (RowSl Pa.vals w l (.slice ad l.length c)):=hv
 have H0:Hid (FB w (w.alloc (.cells #[.int .i64 0,.int .i64 0] 33)) w.heap.size):=FB.start w
 clear hv
 obtain⟨z1,hz1⟩:∃z1,(chkP l).1=z1:=⟨_,rfl⟩
 obtain⟨z2,hz2⟩:∃z2,(chkP l).2=z2:=⟨_,rfl⟩
 have HZ:Hid (chkP l=(z1,z2)):=Prod.ext hz1 hz2
 rw[hz1,hz2]
 clear hz1 hz2
 by_cases hw:1≤l.length∧l.length≤8
 rotate_left 1
 ·have h9:((2:Int),(0:Int))=(z1,z2):=by rw[← HZ.out];unfold chkP;rw[if_pos (by unfold within;simp;omega)]
  obtain⟨rfl,rfl⟩:=Prod.mk.inj h9
  by_cases h0:l.length=0
  ·have h0i:(l.length:Int)=0:=by omega
   have h0b:((l.length:Int) == 0)=true:=by simpa using h0i
   go_enter Tryz.func59,Tryz.ntmps59
   go_wp2_with (go_at_call 60;refine(F_any _ _ _).mono ?_;rintro r w6 ⟨rfl,hb6⟩;have H6:Hid (FB w w6 w.heap.size):=H0.out.grow hb6;clear hb6;obtain⟨r10,r11,q10,q11,rl⟩:=H6.out.res2)
   refine bodyPost_ret (CheckD_ends (set_two H6.out.res) rfl) rfl ?_
   exact⟨rfl,H6.out.set _ _⟩
  ·have h0i:¬ (l.length:Int)=0:=by omega
   have h0b:((l.length:Int) == 0)=false:=by simpa using h0i
   have h8i:(8:Int)<(l.length:Int):=by omega
   go_enter Tryz.func59,Tryz.ntmps59
   go_wp2_with (go_at_call 60;refine(F_any _ _ _).mono ?_;rintro r w6 ⟨rfl,hb6⟩;have H6:Hid (FB w w6 w.heap.size):=H0.out.grow hb6;clear hb6;obtain⟨r10,r11,q10,q11,rl⟩:=H6.out.res2)
   refine bodyPost_ret (CheckD_ends (set_two H6.out.res) rfl) rfl ?_
   exact⟨rfl,H6.out.set _ _⟩
 have HC:Hid (chkGo [] l=(z1,z2)):=by
  have h9:chkGo [] l=(z1,z2):=by rw[← HZ.out];unfold chkP;rw[if_neg (by unfold within;simp;omega)]
  exact h9
 have h0i:¬ (l.length:Int)=0:=by omega
 have h0b:((l.length:Int) == 0)=false:=by simpa using h0i
 have h8i:¬ (8:Int)<(l.length:Int):=by omega
 go_enter Tryz.func59,Tryz.ntmps59
 go_wp2_with fail
 go_loopw [16] (fun iv wr=>∃j:Nat,j≤l.length∧iv = .int .i64 (j:Int)∧FB w wr w.heap.size∧chkGo (l.take j) (l.drop j)=chkGo [] l) (fun iv _=>l.length-(intOf iv).toNat)
 case atStart=>exact⟨0,Nat.zero_le _,rfl,H0.out,rfl⟩
 case round =>
  obtain⟨j,hj,rfl,hfb,hgo⟩:=hrel
  have HP:Hid (FB w wr w.heap.size∧chkGo (l.take j) (l.drop j)=chkGo [] l):=⟨hfb,hgo⟩
  clear hfb hgo H0
  by_cases hjl:j<l.length
  ·obtain⟨x,hx,hdr⟩:=drop_at hjl
   have htk:l.take (j+1)=l.take j++[x]:=by rw[List.take_add_one,hx];rfl
   obtain⟨ad',c',he,-,hcap,hrow⟩:=HV.out
   cases he
   rcases hrow with h|⟨b,o,rfl,hrow⟩
   ·rw[h]at hjl;simp at hjl
   obtain⟨y0,y1,y2,y3,y4,y5,y6⟩:=pa7_at (fun q u hq=>below_cell HP.out.1.bel (hrow q u hq)) hx
   have HX:Hid (l.drop j=x::l.drop (j+1)∧l.take (j+1)=l.take j++[x]):=⟨hdr,htk⟩
   have HRow:Hid (∀(q:Nat) (u:Value),(l.flatMap Pa.vals)[q]?=some u→w.cell? ⟨b,o+q,none⟩=some u):=hrow
   have lb:b<wr.heap.size:=World.block_lt_of_cell? _ _ y0
   have hji:(j:Int)<(l.length:Int):=by omega
   clear hrow hx htk hdr
   obtain⟨mb,hmb⟩:∃mb,mayP x=mb:=⟨_,rfl⟩
   have HMB:Hid (mayP x=mb):=hmb
   clear hmb
   obtain⟨co,fr,se,c,t,d,p⟩:=x
   dsimp only at y0 y1 y2 y3 y4 y5 y6
   go_upto_region 6 with fail
   have H3:Hid (FB w (wr.alloc (.cells #[.int .i64 co,.int .i64 fr,.int .i64 se,.int .i64 c,.int .i64 t,.int .i64 d,.int .i64 p] 66)) w.heap.size∧(wr.alloc (.cells #[.int .i64 co,.int .i64 fr,.int .i64 se,.int .i64 c,.int .i64 t,.int .i64 d,.int .i64 p] 66)).heap[wr.heap.size]?=some (.cells #[.int .i64 co,.int .i64 fr,.int .i64 se,.int .i64 c,.int .i64 t,.int .i64 d,.int .i64 p] 66 (0,0))):=⟨HP.out.1.grow (below_new _ _),heap_alloc_new _ _⟩
   clear y0 y1 y2 y3 y4 y5 y6 lb
   generalize wr.alloc (.cells #[.int .i64 co,.int .i64 fr,.int .i64 se,.int .i64 c,.int .i64 t,.int .i64 d,.int .i64 p] 66)=w3 at *
   generalize wr.heap.size=gt at *
   obtain⟨xs,-,xl⟩:=cells_of (l:=[_,_,_,_,_,_,_]) H3.out.2
   have x0:=xs 0 _ rfl
   have x1:=xs 1 _ rfl
   have x2:=xs 2 _ rfl
   have x3:=xs 3 _ rfl
   have x4:=xs 4 _ rfl
   have x5:=xs 5 _ rfl
   have x6:=xs 6 _ rfl
   clear xs
   have H5:Hid (FB w w3 w.heap.size):=H3.out.1
   go_cut [68] from 21 to 67 (fun v W=>v = .bool (!mb)∧W=w3)
   case first =>
    by_cases q0:co<0
    ·obtain rfl:mb=false:=by rw[← HMB.out];unfold mayP within;simp;omega
     go_wp2_with fail
     go_meet
     case rel=>exact⟨rfl,rfl⟩
    by_cases q1:3<co
    ·obtain rfl:mb=false:=by rw[← HMB.out];unfold mayP within;simp;omega
     go_wp2_with fail
     go_meet
     case rel=>exact⟨rfl,rfl⟩
    by_cases q2:se<0
    ·obtain rfl:mb=false:=by rw[← HMB.out];unfold mayP within;simp;omega
     go_wp2_with fail
     go_meet
     case rel=>exact⟨rfl,rfl⟩
    by_cases q3:1000<se
    ·obtain rfl:mb=false:=by rw[← HMB.out];unfold mayP within;simp;omega
     go_wp2_with fail
     go_meet
     case rel=>exact⟨rfl,rfl⟩
    by_cases q4:c<1
    ·obtain rfl:mb=false:=by rw[← HMB.out];unfold mayP within;simp;omega
     go_wp2_with fail
     go_meet
     case rel=>exact⟨rfl,rfl⟩
    by_cases q5:10000<c
    ·obtain rfl:mb=false:=by rw[← HMB.out];unfold mayP within;simp;omega
     go_wp2_with fail
     go_meet
     case rel=>exact⟨rfl,rfl⟩
    by_cases q6:t<1
    ·obtain rfl:mb=false:=by rw[← HMB.out];unfold mayP within;simp;omega
     go_wp2_with fail
     go_meet
     case rel=>exact⟨rfl,rfl⟩
    by_cases q7:10000<t
    ·obtain rfl:mb=false:=by rw[← HMB.out];unfold mayP within;simp;omega
     go_wp2_with fail
     go_meet
     case rel=>exact⟨rfl,rfl⟩
    by_cases q8:p<0
    ·obtain rfl:mb=false:=by rw[← HMB.out];unfold mayP within;simp;omega
     go_wp2_with fail
     go_meet
     case rel=>exact⟨rfl,rfl⟩
    by_cases q9:1000<p
    ·obtain rfl:mb=false:=by rw[← HMB.out];unfold mayP within;simp;omega
     go_wp2_with fail
     go_meet
     case rel=>exact⟨rfl,rfl⟩
    obtain rfl:mb=true:=by rw[← HMB.out];unfold mayP within;simp;omega
    go_wp2_with fail
    go_meet
    case rel=>first|exact⟨rfl,rfl⟩|exact⟨by rw[decide_eq_false q9];rfl,rfl⟩|exact⟨by simp;omega,rfl⟩
   case rest =>
    obtain⟨rfl,hwc⟩:=hcut
    have hwc':=hwc.symm
    subst hwc'
    clear hwc
    have hwx:∀z:Int,wrongP ⟨co,fr,se,c,t,d,p⟩ (l.take j)=z→z≠0→(z,(j:Int))=(z1,z2):=fun z hz h0=>by
     have h8:=HP.out.2
     rw[HX.out.1,chkGo,if_pos (by rw[hz];exact h0),hz,HC.out,List.length_take,Nat.min_eq_left hj]at h8
     exact h8
    cases mb with
    | false =>
     have h9:=hwx 3 (by unfold wrongP;rw[if_pos HMB.out]) (by decide)
     obtain⟨rfl,rfl⟩:=Prod.mk.inj h9
     go_wp2_with (go_at_call 60;refine(F_any _ _ _).mono ?_;rintro r w6 ⟨rfl,hb6⟩;have H6:Hid (FB w w6 w.heap.size):=H5.out.grow hb6;clear hb6;obtain⟨r10,r11,q10,q11,rl⟩:=H6.out.res2)
     refine bodyPost_ret (CheckD_ends (set_two H6.out.res) rfl) rfl ?_
     exact⟨rfl,H6.out.set _ _⟩
    | true =>
     have hd0:¬ mayP ⟨co,fr,se,c,t,d,p⟩=false:=by rw[HMB.out];simp
     have hmy:0≤se:=by
      have:=HMB.out
      unfold mayP within at this
      simp at this
      omega
     obtain⟨nb,hnb⟩:∃nb,decide (within fr (-1) (((l.take j).length:Int)-1)=false∨(fr=-1∧se≠0))=nb:=⟨_,rfl⟩
     have hlt:(l.take j).length=j:=by rw[List.length_take];omega
     have HNB:Hid (nb=true↔(fr < -1∨(j:Int)≤fr∨(fr=-1∧0<se))):=by
      have h9:nb=true↔(fr < -1∨(j:Int)≤fr∨(fr=-1∧0<se)):=by
       rw[← hnb,decide_eq_true_iff,hlt]
       unfold within
       simp
       omega
      exact h9
     simp only[Bool.not_true]
     go_upto_region 8 with fail
     go_cut [89] from 71 to 88 (fun v W=>v = .bool nb∧W=w3)
     case first =>
      by_cases q0:fr < -1
      ·obtain rfl:nb=true:=HNB.out.2 (.inl q0)
       go_wp2_with fail
       go_meet
       case rel=>exact⟨rfl,rfl⟩
      by_cases q1:(j:Int)≤fr
      ·obtain rfl:nb=true:=HNB.out.2 (.inr (.inl q1))
       go_wp2_with fail
       go_meet
       case rel=>exact⟨rfl,rfl⟩
      by_cases q2:fr=-1
      ·subst q2
       by_cases q3:0<se
       ·obtain rfl:nb=true:=HNB.out.2 (.inr (.inr ⟨rfl,q3⟩))
        go_wp2_with fail
        go_meet
        case rel=>exact⟨rfl,rfl⟩
       ·have q4:se≤0:=by omega
        obtain rfl:nb=false:=Bool.eq_false_iff.2 (fun h=>by have:=HNB.out.1 h;omega)
        go_wp2_with fail
        go_meet
        case rel=>first|exact⟨rfl,rfl⟩|exact⟨by simp;omega,rfl⟩
      ·have q2b:(fr == -1)=false:=by simpa using q2
       obtain rfl:nb=false:=Bool.eq_false_iff.2 (fun h=>by have:=HNB.out.1 h;omega)
       go_wp2_with fail
       go_meet
       case rel=>exact⟨rfl,rfl⟩
     case rest =>
      obtain⟨rfl,hwc⟩:=hcut
      have hwc':=hwc.symm
      subst hwc'
      clear hwc
      cases nb with
      | true =>
       have h9:=hwx 4 (by unfold wrongP;rw[if_neg hd0,if_pos (of_decide_eq_true hnb)]) (by decide)
       obtain⟨rfl,rfl⟩:=Prod.mk.inj h9
       go_wp2_with (go_at_call 60;refine(F_any _ _ _).mono ?_;rintro r w6 ⟨rfl,hb6⟩;have H6:Hid (FB w w6 w.heap.size):=H5.out.grow hb6;clear hb6;obtain⟨r10,r11,q10,q11,rl⟩:=H6.out.res2)
       refine bodyPost_ret (CheckD_ends (set_two H6.out.res) rfl) rfl ?_
       exact⟨rfl,H6.out.set _ _⟩
      | false =>
       have hd1:=of_decide_eq_false hnb
       have hfr : -1≤fr∧fr<(j:Int):=by
        have h9:¬ (fr < -1∨(j:Int)≤fr∨(fr=-1∧0<se)):=fun h=>by have:=HNB.out.2 h;cases this
        omega
       clear hnb
       obtain⟨ob,hob⟩:∃ob,decide (within d c t=false∨(fr≠-1∧t≠((l.take j).getD fr.toNat paZ).t))=ob:=⟨_,rfl⟩
       have HW9:Hid (wrongP ⟨co,fr,se,c,t,d,p⟩ (l.take j)=if ob=true then 12 else 0):=by
        have h9:wrongP ⟨co,fr,se,c,t,d,p⟩ (l.take j)=if ob=true then 12 else 0:=by
         unfold wrongP
         rw[if_neg hd0,if_neg hd1,← hob]
         simp only[decide_eq_true_iff]
        exact h9
       go_upto_region 10 with fail
       go_cut [119] from 92 to 118 (fun v W=>v = .bool ob∧Hid (Below w3.heap.size w3 W))
       case first =>
        by_cases q0:d<c
        ·obtain rfl:ob=true:=by rw[← hob];exact decide_eq_true (.inl (by unfold within;simp;omega))
         refine wp_region_noPanic ?_
         refine wp_region_held_drew (S:=fun w'=>w'.cell? ⟨gt,0,none⟩=some (.int .i64 co)∧w'.cell? ⟨gt,1,none⟩=some (.int .i64 fr)∧w'.cell? ⟨gt,2,none⟩=some (.int .i64 se)∧w'.cell? ⟨gt,3,none⟩=some (.int .i64 c)∧w'.cell? ⟨gt,4,none⟩=some (.int .i64 t)∧w'.cell? ⟨gt,5,none⟩=some (.int .i64 d)∧w'.cell? ⟨gt,6,none⟩=some (.int .i64 p)) (by kernel_rfl) ⟨by go_simp,by go_simp,by go_simp,by go_simp,by go_simp,by go_simp,by go_simp⟩ (fun hHeld=>?_)
         refine tk (i:=0) (n:=92) (v:=?_) ?_ ?_
         rotate_left 1
         ·intro wz hSw
          obtain⟨s0,s1,s2,s3,s4,s5,s6⟩:=hSw
          first|(go_simp;done)|(go_simp;with_reducible rfl)
         simp only[ls0,ls1]
         refine tk (i:=1) (n:=93) (v:=?_) ?_ ?_
         rotate_left 1
         ·intro wz hSw
          obtain⟨s0,s1,s2,s3,s4,s5,s6⟩:=hSw
          first|(go_simp;done)|(go_simp;with_reducible rfl)
         simp only[ls0,ls1]
         refine tk (i:=2) (n:=94) (v:=?_) ?_ ?_
         rotate_left 1
         ·intro wz hSw
          obtain⟨s0,s1,s2,s3,s4,s5,s6⟩:=hSw
          first|(go_simp;done)|(go_simp;with_reducible rfl)
         simp only[ls0,ls1]
         refine tk (i:=3) (n:=95) (v:=?_) ?_ ?_
         rotate_left 1
         ·intro wz hSw
          obtain⟨s0,s1,s2,s3,s4,s5,s6⟩:=hSw
          first|(go_simp;done)|(go_simp;with_reducible rfl)
         simp only[ls0,ls1]
         refine tk (i:=4) (n:=96) (v:=?_) ?_ ?_
         rotate_left 1
         ·intro wz hSw
          obtain⟨s0,s1,s2,s3,s4,s5,s6⟩:=hSw
          first|(go_simp;done)|(go_simp;with_reducible rfl)
         simp only[ls0,ls1]
         refine tk (i:=5) (n:=97) (v:=?_) ?_ ?_
         rotate_left 1
         ·intro wz hSw
          obtain⟨s0,s1,s2,s3,s4,s5,s6⟩:=hSw
          first|(go_simp;done)|(go_simp;with_reducible rfl)
         simp only[ls0,ls1]
         refine take_at (i:=6) (n:=98) (v:=undef) rfl rfl (by kernel_rfl) (by kernel_rfl) (by kernel_rfl) (fun _ _ _ h=>h) (Or.inr ⟨by rfl,rfl⟩) (by assumption) ?_
         simp only[ls0,ls1]
         refine take_at (i:=7) (n:=99) (v:=undef) rfl rfl (by kernel_rfl) (by kernel_rfl) (by kernel_rfl) (fun _ _ _ h=>h) (Or.inr ⟨by rfl,rfl⟩) (by assumption) ?_
         simp only[ls0,ls1]
         refine take_at (i:=8) (n:=100) (v:=undef) rfl rfl (by kernel_rfl) (by kernel_rfl) (by kernel_rfl) (fun _ _ _ h=>h) (Or.inr ⟨by rfl,rfl⟩) (by assumption) ?_
         simp only[ls0,ls1]
         refine take_at (i:=9) (n:=101) (v:=undef) rfl rfl (by kernel_rfl) (by kernel_rfl) (by kernel_rfl) (fun _ _ _ h=>h) (Or.inr ⟨by rfl,rfl⟩) (by assumption) ?_
         simp only[ls0,ls1]
         refine take_at (i:=10) (n:=102) (v:=undef) rfl rfl (by kernel_rfl) (by kernel_rfl) (by kernel_rfl) (fun _ _ _ h=>h) (Or.inr ⟨by rfl,rfl⟩) (by assumption) ?_
         simp only[ls0,ls1]
         refine tk (i:=11) (n:=103) (v:=?_) ?_ ?_
         rotate_left 1
         ·intro wz hSw
          obtain⟨s0,s1,s2,s3,s4,s5,s6⟩:=hSw
          first|(go_simp;done)|(go_simp;with_reducible rfl)
         simp only[ls0,ls1]
         refine tk (i:=12) (n:=104) (v:=?_) ?_ ?_
         rotate_left 1
         ·intro wz hSw
          obtain⟨s0,s1,s2,s3,s4,s5,s6⟩:=hSw
          first|(go_simp;done)|(go_simp;with_reducible rfl)
         simp only[ls0,ls1]
         refine take_at (i:=13) (n:=105) (v:=undef) rfl rfl (by kernel_rfl) (by kernel_rfl) (by kernel_rfl) (fun _ _ _ h=>h) (Or.inr ⟨by rfl,rfl⟩) (by assumption) ?_
         simp only[ls0,ls1]
         refine take_at (i:=14) (n:=106) (v:=undef) rfl rfl (by kernel_rfl) (by kernel_rfl) (by kernel_rfl) (fun _ _ _ h=>h) (Or.inr ⟨by rfl,rfl⟩) (by assumption) ?_
         simp only[ls0,ls1]
         refine take_at (i:=15) (n:=107) (v:=undef) rfl rfl (by kernel_rfl) (by kernel_rfl) (by kernel_rfl) (fun _ _ _ h=>h) (Or.inr ⟨by rfl,rfl⟩) (by assumption) ?_
         simp only[ls0,ls1]
         refine take_at (i:=16) (n:=108) (v:=undef) rfl rfl (by kernel_rfl) (by kernel_rfl) (by kernel_rfl) (fun _ _ _ h=>h) (Or.inr ⟨by rfl,rfl⟩) (by assumption) ?_
         simp only[ls0,ls1]
         refine take_at (i:=17) (n:=109) (v:=undef) rfl rfl (by kernel_rfl) (by kernel_rfl) (by kernel_rfl) (fun _ _ _ h=>h) (Or.inr ⟨by rfl,rfl⟩) (by assumption) ?_
         simp only[ls0,ls1]
         refine take_at (i:=18) (n:=110) (v:=undef) rfl rfl (by kernel_rfl) (by kernel_rfl) (by kernel_rfl) (fun _ _ _ h=>h) (Or.inr ⟨by rfl,rfl⟩) (by assumption) ?_
         simp only[ls0,ls1]
         refine take_at (i:=19) (n:=111) (v:=undef) rfl rfl (by kernel_rfl) (by kernel_rfl) (by kernel_rfl) (fun _ _ _ h=>h) (Or.inr ⟨by rfl,rfl⟩) (by assumption) ?_
         simp only[ls0,ls1]
         refine take_at (i:=20) (n:=112) (v:=undef) rfl rfl (by kernel_rfl) (by kernel_rfl) (by kernel_rfl) (fun _ _ _ h=>h) (Or.inr ⟨by rfl,rfl⟩) (by assumption) ?_
         simp only[ls0,ls1]
         refine take_at (i:=21) (n:=113) (v:=undef) rfl rfl (by kernel_rfl) (by kernel_rfl) (by kernel_rfl) (fun _ _ _ h=>h) (Or.inr ⟨by rfl,rfl⟩) (by assumption) ?_
         simp only[ls0,ls1]
         refine take_at (i:=22) (n:=114) (v:=undef) rfl rfl (by kernel_rfl) (by kernel_rfl) (by kernel_rfl) (fun _ _ _ h=>h) (Or.inr ⟨by rfl,rfl⟩) (by assumption) ?_
         simp only[ls0,ls1]
         refine take_at (i:=23) (n:=115) (v:=undef) rfl rfl (by kernel_rfl) (by kernel_rfl) (by kernel_rfl) (fun _ _ _ h=>h) (Or.inr ⟨by rfl,rfl⟩) (by assumption) ?_
         simp only[ls0,ls1]
         refine take_at (i:=24) (n:=116) (v:=undef) rfl rfl (by kernel_rfl) (by kernel_rfl) (by kernel_rfl) (fun _ _ _ h=>h) (Or.inr ⟨by rfl,rfl⟩) (by assumption) ?_
         simp only[ls0,ls1]
         refine take_at (i:=25) (n:=117) (v:=undef) rfl rfl (by kernel_rfl) (by kernel_rfl) (by kernel_rfl) (fun _ _ _ h=>h) (Or.inr ⟨by rfl,rfl⟩) (by assumption) ?_
         simp only[ls0,ls1]
         refine take_at (i:=26) (n:=118) (v:=undef) rfl rfl (by kernel_rfl) (by kernel_rfl) (by kernel_rfl) (fun _ _ _ h=>h) (Or.inr ⟨by rfl,rfl⟩) (by assumption) ?_
         simp only[ls0,ls1]
         refine tk (i:=27) (n:=119) (v:=?_) ?_ ?_
         rotate_left 1
         ·intro wz hSw
          obtain⟨s0,s1,s2,s3,s4,s5,s6⟩:=hSw
          first|(go_simp;done)|(go_simp;with_reducible rfl)
         simp only[ls0,ls1]
         refine wpAnyH_done (by kernel_rfl) ?_ _
         refine NoPanic.normal ?_
         clear hHeld
         go_wp2_with fail
         go_meet
         case rel=>exact⟨rfl,(Below.refl _ _).drew⟩
        by_cases q1:t<d
        ·obtain rfl:ob=true:=by rw[← hob];exact decide_eq_true (.inl (by unfold within;simp;omega))
         refine wp_region_noPanic ?_
         refine wp_region_held_drew (S:=fun w'=>w'.cell? ⟨gt,0,none⟩=some (.int .i64 co)∧w'.cell? ⟨gt,1,none⟩=some (.int .i64 fr)∧w'.cell? ⟨gt,2,none⟩=some (.int .i64 se)∧w'.cell? ⟨gt,3,none⟩=some (.int .i64 c)∧w'.cell? ⟨gt,4,none⟩=some (.int .i64 t)∧w'.cell? ⟨gt,5,none⟩=some (.int .i64 d)∧w'.cell? ⟨gt,6,none⟩=some (.int .i64 p)) (by kernel_rfl) ⟨by go_simp,by go_simp,by go_simp,by go_simp,by go_simp,by go_simp,by go_simp⟩ (fun hHeld=>?_)
         refine tk (i:=0) (n:=92) (v:=?_) ?_ ?_
         rotate_left 1
         ·intro wz hSw
          obtain⟨s0,s1,s2,s3,s4,s5,s6⟩:=hSw
          first|(go_simp;done)|(go_simp;with_reducible rfl)
         simp only[ls0,ls1]
         refine tk (i:=1) (n:=93) (v:=?_) ?_ ?_
         rotate_left 1
         ·intro wz hSw
          obtain⟨s0,s1,s2,s3,s4,s5,s6⟩:=hSw
          first|(go_simp;done)|(go_simp;with_reducible rfl)
         simp only[ls0,ls1]
         refine tk (i:=2) (n:=94) (v:=?_) ?_ ?_
         rotate_left 1
         ·intro wz hSw
          obtain⟨s0,s1,s2,s3,s4,s5,s6⟩:=hSw
          first|(go_simp;done)|(go_simp;with_reducible rfl)
         simp only[ls0,ls1]
         refine tk (i:=3) (n:=95) (v:=?_) ?_ ?_
         rotate_left 1
         ·intro wz hSw
          obtain⟨s0,s1,s2,s3,s4,s5,s6⟩:=hSw
          first|(go_simp;done)|(go_simp;with_reducible rfl)
         simp only[ls0,ls1]
         refine tk (i:=4) (n:=96) (v:=?_) ?_ ?_
         rotate_left 1
         ·intro wz hSw
          obtain⟨s0,s1,s2,s3,s4,s5,s6⟩:=hSw
          first|(go_simp;done)|(go_simp;with_reducible rfl)
         simp only[ls0,ls1]
         refine tk (i:=5) (n:=97) (v:=?_) ?_ ?_
         rotate_left 1
         ·intro wz hSw
          obtain⟨s0,s1,s2,s3,s4,s5,s6⟩:=hSw
          first|(go_simp;done)|(go_simp;with_reducible rfl)
         simp only[ls0,ls1]
         refine tk (i:=6) (n:=98) (v:=?_) ?_ ?_
         rotate_left 1
         ·intro wz hSw
          obtain⟨s0,s1,s2,s3,s4,s5,s6⟩:=hSw
          first|(go_simp;done)|(go_simp;with_reducible rfl)
         simp only[ls0,ls1]
         refine tk (i:=7) (n:=99) (v:=?_) ?_ ?_
         rotate_left 1
         ·intro wz hSw
          obtain⟨s0,s1,s2,s3,s4,s5,s6⟩:=hSw
          first|(go_simp;done)|(go_simp;with_reducible rfl)
         simp only[ls0,ls1]
         refine tk (i:=8) (n:=100) (v:=?_) ?_ ?_
         rotate_left 1
         ·intro wz hSw
          obtain⟨s0,s1,s2,s3,s4,s5,s6⟩:=hSw
          first|(go_simp;done)|(go_simp;with_reducible rfl)
         simp only[ls0,ls1]
         refine tk (i:=9) (n:=101) (v:=?_) ?_ ?_
         rotate_left 1
         ·intro wz hSw
          obtain⟨s0,s1,s2,s3,s4,s5,s6⟩:=hSw
          first|(go_simp;done)|(go_simp;with_reducible rfl)
         simp only[ls0,ls1]
         refine tk (i:=10) (n:=102) (v:=?_) ?_ ?_
         rotate_left 1
         ·intro wz hSw
          obtain⟨s0,s1,s2,s3,s4,s5,s6⟩:=hSw
          first|(go_simp;done)|(go_simp;with_reducible rfl)
         simp only[ls0,ls1]
         refine tk (i:=11) (n:=103) (v:=?_) ?_ ?_
         rotate_left 1
         ·intro wz hSw
          obtain⟨s0,s1,s2,s3,s4,s5,s6⟩:=hSw
          first|(go_simp;done)|(go_simp;with_reducible rfl)
         simp only[ls0,ls1]
         refine tk (i:=12) (n:=104) (v:=?_) ?_ ?_
         rotate_left 1
         ·intro wz hSw
          obtain⟨s0,s1,s2,s3,s4,s5,s6⟩:=hSw
          first|(go_simp;done)|(go_simp;with_reducible rfl)
         simp only[ls0,ls1]
         refine take_at (i:=13) (n:=105) (v:=undef) rfl rfl (by kernel_rfl) (by kernel_rfl) (by kernel_rfl) (fun _ _ _ h=>h) (Or.inr ⟨by rfl,rfl⟩) (by assumption) ?_
         simp only[ls0,ls1]
         refine take_at (i:=14) (n:=106) (v:=undef) rfl rfl (by kernel_rfl) (by kernel_rfl) (by kernel_rfl) (fun _ _ _ h=>h) (Or.inr ⟨by rfl,rfl⟩) (by assumption) ?_
         simp only[ls0,ls1]
         refine take_at (i:=15) (n:=107) (v:=undef) rfl rfl (by kernel_rfl) (by kernel_rfl) (by kernel_rfl) (fun _ _ _ h=>h) (Or.inr ⟨by rfl,rfl⟩) (by assumption) ?_
         simp only[ls0,ls1]
         refine take_at (i:=16) (n:=108) (v:=undef) rfl rfl (by kernel_rfl) (by kernel_rfl) (by kernel_rfl) (fun _ _ _ h=>h) (Or.inr ⟨by rfl,rfl⟩) (by assumption) ?_
         simp only[ls0,ls1]
         refine take_at (i:=17) (n:=109) (v:=undef) rfl rfl (by kernel_rfl) (by kernel_rfl) (by kernel_rfl) (fun _ _ _ h=>h) (Or.inr ⟨by rfl,rfl⟩) (by assumption) ?_
         simp only[ls0,ls1]
         refine take_at (i:=18) (n:=110) (v:=undef) rfl rfl (by kernel_rfl) (by kernel_rfl) (by kernel_rfl) (fun _ _ _ h=>h) (Or.inr ⟨by rfl,rfl⟩) (by assumption) ?_
         simp only[ls0,ls1]
         refine take_at (i:=19) (n:=111) (v:=undef) rfl rfl (by kernel_rfl) (by kernel_rfl) (by kernel_rfl) (fun _ _ _ h=>h) (Or.inr ⟨by rfl,rfl⟩) (by assumption) ?_
         simp only[ls0,ls1]
         refine take_at (i:=20) (n:=112) (v:=undef) rfl rfl (by kernel_rfl) (by kernel_rfl) (by kernel_rfl) (fun _ _ _ h=>h) (Or.inr ⟨by rfl,rfl⟩) (by assumption) ?_
         simp only[ls0,ls1]
         refine take_at (i:=21) (n:=113) (v:=undef) rfl rfl (by kernel_rfl) (by kernel_rfl) (by kernel_rfl) (fun _ _ _ h=>h) (Or.inr ⟨by rfl,rfl⟩) (by assumption) ?_
         simp only[ls0,ls1]
         refine take_at (i:=22) (n:=114) (v:=undef) rfl rfl (by kernel_rfl) (by kernel_rfl) (by kernel_rfl) (fun _ _ _ h=>h) (Or.inr ⟨by rfl,rfl⟩) (by assumption) ?_
         simp only[ls0,ls1]
         refine take_at (i:=23) (n:=115) (v:=undef) rfl rfl (by kernel_rfl) (by kernel_rfl) (by kernel_rfl) (fun _ _ _ h=>h) (Or.inr ⟨by rfl,rfl⟩) (by assumption) ?_
         simp only[ls0,ls1]
         refine take_at (i:=24) (n:=116) (v:=undef) rfl rfl (by kernel_rfl) (by kernel_rfl) (by kernel_rfl) (fun _ _ _ h=>h) (Or.inr ⟨by rfl,rfl⟩) (by assumption) ?_
         simp only[ls0,ls1]
         refine take_at (i:=25) (n:=117) (v:=undef) rfl rfl (by kernel_rfl) (by kernel_rfl) (by kernel_rfl) (fun _ _ _ h=>h) (Or.inr ⟨by rfl,rfl⟩) (by assumption) ?_
         simp only[ls0,ls1]
         refine take_at (i:=26) (n:=118) (v:=undef) rfl rfl (by kernel_rfl) (by kernel_rfl) (by kernel_rfl) (fun _ _ _ h=>h) (Or.inr ⟨by rfl,rfl⟩) (by assumption) ?_
         simp only[ls0,ls1]
         refine tk (i:=27) (n:=119) (v:=?_) ?_ ?_
         rotate_left 1
         ·intro wz hSw
          obtain⟨s0,s1,s2,s3,s4,s5,s6⟩:=hSw
          first|(go_simp;done)|(go_simp;with_reducible rfl)
         simp only[ls0,ls1]
         refine wpAnyH_done (by kernel_rfl) ?_ _
         refine NoPanic.normal ?_
         clear hHeld
         go_wp2_with fail
         go_meet
         case rel=>exact⟨rfl,(Below.refl _ _).drew⟩
        have hwd:¬ within d c t=false:=by unfold within;simp;omega
        by_cases q2:fr<0
        ·have q3:¬ 0≤fr:=by omega
         obtain rfl:ob=false:=by rw[← hob];exact decide_eq_false (fun h=>h.elim hwd (fun h=>h.1 (by omega)))
         refine wp_region_noPanic ?_
         refine wp_region_held_drew (S:=fun w'=>w'.cell? ⟨gt,0,none⟩=some (.int .i64 co)∧w'.cell? ⟨gt,1,none⟩=some (.int .i64 fr)∧w'.cell? ⟨gt,2,none⟩=some (.int .i64 se)∧w'.cell? ⟨gt,3,none⟩=some (.int .i64 c)∧w'.cell? ⟨gt,4,none⟩=some (.int .i64 t)∧w'.cell? ⟨gt,5,none⟩=some (.int .i64 d)∧w'.cell? ⟨gt,6,none⟩=some (.int .i64 p)) (by kernel_rfl) ⟨by go_simp,by go_simp,by go_simp,by go_simp,by go_simp,by go_simp,by go_simp⟩ (fun hHeld=>?_)
         refine tk (i:=0) (n:=92) (v:=?_) ?_ ?_
         rotate_left 1
         ·intro wz hSw
          obtain⟨s0,s1,s2,s3,s4,s5,s6⟩:=hSw
          first|(go_simp;done)|(go_simp;with_reducible rfl)
         simp only[ls0,ls1]
         refine tk (i:=1) (n:=93) (v:=?_) ?_ ?_
         rotate_left 1
         ·intro wz hSw
          obtain⟨s0,s1,s2,s3,s4,s5,s6⟩:=hSw
          first|(go_simp;done)|(go_simp;with_reducible rfl)
         simp only[ls0,ls1]
         refine tk (i:=2) (n:=94) (v:=?_) ?_ ?_
         rotate_left 1
         ·intro wz hSw
          obtain⟨s0,s1,s2,s3,s4,s5,s6⟩:=hSw
          first|(go_simp;done)|(go_simp;with_reducible rfl)
         simp only[ls0,ls1]
         refine tk (i:=3) (n:=95) (v:=?_) ?_ ?_
         rotate_left 1
         ·intro wz hSw
          obtain⟨s0,s1,s2,s3,s4,s5,s6⟩:=hSw
          first|(go_simp;done)|(go_simp;with_reducible rfl)
         simp only[ls0,ls1]
         refine tk (i:=4) (n:=96) (v:=?_) ?_ ?_
         rotate_left 1
         ·intro wz hSw
          obtain⟨s0,s1,s2,s3,s4,s5,s6⟩:=hSw
          first|(go_simp;done)|(go_simp;with_reducible rfl)
         simp only[ls0,ls1]
         refine tk (i:=5) (n:=97) (v:=?_) ?_ ?_
         rotate_left 1
         ·intro wz hSw
          obtain⟨s0,s1,s2,s3,s4,s5,s6⟩:=hSw
          first|(go_simp;done)|(go_simp;with_reducible rfl)
         simp only[ls0,ls1]
         refine tk (i:=6) (n:=98) (v:=?_) ?_ ?_
         rotate_left 1
         ·intro wz hSw
          obtain⟨s0,s1,s2,s3,s4,s5,s6⟩:=hSw
          first|(go_simp;done)|(go_simp;with_reducible rfl)
         simp only[ls0,ls1]
         refine tk (i:=7) (n:=99) (v:=?_) ?_ ?_
         rotate_left 1
         ·intro wz hSw
          obtain⟨s0,s1,s2,s3,s4,s5,s6⟩:=hSw
          first|(go_simp;done)|(go_simp;with_reducible rfl)
         simp only[ls0,ls1]
         refine tk (i:=8) (n:=100) (v:=?_) ?_ ?_
         rotate_left 1
         ·intro wz hSw
          obtain⟨s0,s1,s2,s3,s4,s5,s6⟩:=hSw
          first|(go_simp;done)|(go_simp;with_reducible rfl)
         simp only[ls0,ls1]
         refine tk (i:=9) (n:=101) (v:=?_) ?_ ?_
         rotate_left 1
         ·intro wz hSw
          obtain⟨s0,s1,s2,s3,s4,s5,s6⟩:=hSw
          first|(go_simp;done)|(go_simp;with_reducible rfl)
         simp only[ls0,ls1]
         refine tk (i:=10) (n:=102) (v:=?_) ?_ ?_
         rotate_left 1
         ·intro wz hSw
          obtain⟨s0,s1,s2,s3,s4,s5,s6⟩:=hSw
          first|(go_simp;done)|(go_simp;with_reducible rfl)
         simp only[ls0,ls1]
         refine tk (i:=11) (n:=103) (v:=?_) ?_ ?_
         rotate_left 1
         ·intro wz hSw
          obtain⟨s0,s1,s2,s3,s4,s5,s6⟩:=hSw
          first|(go_simp;done)|(go_simp;with_reducible rfl)
         simp only[ls0,ls1]
         refine tk (i:=12) (n:=104) (v:=?_) ?_ ?_
         rotate_left 1
         ·intro wz hSw
          obtain⟨s0,s1,s2,s3,s4,s5,s6⟩:=hSw
          first|(go_simp;done)|(go_simp;with_reducible rfl)
         simp only[ls0,ls1]
         refine tk (i:=13) (n:=105) (v:=?_) ?_ ?_
         rotate_left 1
         ·intro wz hSw
          obtain⟨s0,s1,s2,s3,s4,s5,s6⟩:=hSw
          first|(go_simp;done)|(go_simp;with_reducible rfl)
         simp only[ls0,ls1]
         refine tk (i:=14) (n:=106) (v:=?_) ?_ ?_
         rotate_left 1
         ·intro wz hSw
          obtain⟨s0,s1,s2,s3,s4,s5,s6⟩:=hSw
          first|(go_simp;done)|(go_simp;with_reducible rfl)
         simp only[ls0,ls1]
         refine tk (i:=15) (n:=107) (v:=?_) ?_ ?_
         rotate_left 1
         ·intro wz hSw
          obtain⟨s0,s1,s2,s3,s4,s5,s6⟩:=hSw
          first|(go_simp;done)|(go_simp;with_reducible rfl)
         simp only[ls0,ls1]
         refine tk (i:=16) (n:=108) (v:=?_) ?_ ?_
         rotate_left 1
         ·intro wz hSw
          obtain⟨s0,s1,s2,s3,s4,s5,s6⟩:=hSw
          first|(go_simp;done)|(go_simp;with_reducible rfl)
         simp only[ls0,ls1]
         refine take_at (i:=17) (n:=109) (v:=undef) rfl rfl (by kernel_rfl) (by kernel_rfl) (by kernel_rfl) (fun _ _ _ h=>h) (Or.inr ⟨by rfl,rfl⟩) (by assumption) ?_
         simp only[ls0,ls1]
         refine take_at (i:=18) (n:=110) (v:=undef) rfl rfl (by kernel_rfl) (by kernel_rfl) (by kernel_rfl) (fun _ _ _ h=>h) (Or.inr ⟨by rfl,rfl⟩) (by assumption) ?_
         simp only[ls0,ls1]
         refine take_at (i:=19) (n:=111) (v:=undef) rfl rfl (by kernel_rfl) (by kernel_rfl) (by kernel_rfl) (fun _ _ _ h=>h) (Or.inr ⟨by rfl,rfl⟩) (by assumption) ?_
         simp only[ls0,ls1]
         refine take_at (i:=20) (n:=112) (v:=undef) rfl rfl (by kernel_rfl) (by kernel_rfl) (by kernel_rfl) (fun _ _ _ h=>h) (Or.inr ⟨by rfl,rfl⟩) (by assumption) ?_
         simp only[ls0,ls1]
         refine take_at (i:=21) (n:=113) (v:=undef) rfl rfl (by kernel_rfl) (by kernel_rfl) (by kernel_rfl) (fun _ _ _ h=>h) (Or.inr ⟨by rfl,rfl⟩) (by assumption) ?_
         simp only[ls0,ls1]
         refine take_at (i:=22) (n:=114) (v:=undef) rfl rfl (by kernel_rfl) (by kernel_rfl) (by kernel_rfl) (fun _ _ _ h=>h) (Or.inr ⟨by rfl,rfl⟩) (by assumption) ?_
         simp only[ls0,ls1]
         refine take_at (i:=23) (n:=115) (v:=undef) rfl rfl (by kernel_rfl) (by kernel_rfl) (by kernel_rfl) (fun _ _ _ h=>h) (Or.inr ⟨by rfl,rfl⟩) (by assumption) ?_
         simp only[ls0,ls1]
         refine take_at (i:=24) (n:=116) (v:=undef) rfl rfl (by kernel_rfl) (by kernel_rfl) (by kernel_rfl) (fun _ _ _ h=>h) (Or.inr ⟨by rfl,rfl⟩) (by assumption) ?_
         simp only[ls0,ls1]
         refine take_at (i:=25) (n:=117) (v:=undef) rfl rfl (by kernel_rfl) (by kernel_rfl) (by kernel_rfl) (fun _ _ _ h=>h) (Or.inr ⟨by rfl,rfl⟩) (by assumption) ?_
         simp only[ls0,ls1]
         refine tk (i:=26) (n:=118) (v:=?_) ?_ ?_
         rotate_left 1
         ·intro wz hSw
          obtain⟨s0,s1,s2,s3,s4,s5,s6⟩:=hSw
          first|(go_simp;done)|(go_simp;with_reducible rfl)
         simp only[ls0,ls1]
         refine tk (i:=27) (n:=119) (v:=?_) ?_ ?_
         rotate_left 1
         ·intro wz hSw
          obtain⟨s0,s1,s2,s3,s4,s5,s6⟩:=hSw
          first|(go_simp;done)|(go_simp;with_reducible rfl)
         simp only[ls0,ls1]
         refine wpAnyH_done (by kernel_rfl) ?_ _
         refine NoPanic.normal ?_
         clear hHeld
         go_wp2_with fail
         go_meet
         case rel=>exact⟨rfl,(Below.refl _ _).drew⟩
        ·obtain⟨fn,hfn⟩:∃fn:Nat,fr=(fn:Int):=⟨fr.toNat,by omega⟩
         subst hfn
         have hfi:(fn:Int)<(l.length:Int):=by omega
         have hfl:fn<l.length:=by omega
         have hn1:(fn:Int)≠-1:=by omega
         obtain⟨y,hy⟩:∃y,l[fn]?=some y:=⟨l[fn],List.getElem?_eq_getElem _⟩
         have hgd:((l.take j).getD (fn:Int).toNat paZ).t=y.t:=by rw[Int.toNat_natCast,List.getD_eq_getElem?_getD,List.getElem?_take_of_lt (by omega),hy];rfl
         rw[hgd]at hob
         have xt:=below_cell H5.out.bel (pa7_at HRow.out hy).2.2.2.2.1
         generalize y.t=ta at *
         have lb:b<w3.heap.size:=World.block_lt_of_cell? _ _ xt
         clear hy hgd
         by_cases q3:ta=t
         ·subst q3
          obtain rfl:ob=false:=by rw[← hob];exact decide_eq_false (fun h=>h.elim hwd (fun h=>h.2 rfl))
          refine wp_region_noPanic ?_
          refine wp_region_held_drew (S:=fun w'=>w'.cell? ⟨gt,0,none⟩=some (.int .i64 co)∧w'.cell? ⟨gt,1,none⟩=some (.int .i64 (fn:Int))∧w'.cell? ⟨gt,2,none⟩=some (.int .i64 se)∧w'.cell? ⟨gt,3,none⟩=some (.int .i64 c)∧w'.cell? ⟨gt,4,none⟩=some (.int .i64 ta)∧w'.cell? ⟨gt,5,none⟩=some (.int .i64 d)∧w'.cell? ⟨gt,6,none⟩=some (.int .i64 p)∧w'.cell? ⟨b,o+fn*7+4,none⟩=some (.int .i64 ta)) (by kernel_rfl) ⟨by go_simp,by go_simp,by go_simp,by go_simp,by go_simp,by go_simp,by go_simp,by go_simp⟩ (fun hHeld=>?_)
          refine tk (i:=0) (n:=92) (v:=?_) ?_ ?_
          rotate_left 1
          ·intro wz hSw
           obtain⟨s0,s1,s2,s3,s4,s5,s6,s7⟩:=hSw
           first|(go_simp;done)|(go_simp;with_reducible rfl)
          simp only[ls0,ls1]
          refine tk (i:=1) (n:=93) (v:=?_) ?_ ?_
          rotate_left 1
          ·intro wz hSw
           obtain⟨s0,s1,s2,s3,s4,s5,s6,s7⟩:=hSw
           first|(go_simp;done)|(go_simp;with_reducible rfl)
          simp only[ls0,ls1]
          refine tk (i:=2) (n:=94) (v:=?_) ?_ ?_
          rotate_left 1
          ·intro wz hSw
           obtain⟨s0,s1,s2,s3,s4,s5,s6,s7⟩:=hSw
           first|(go_simp;done)|(go_simp;with_reducible rfl)
          simp only[ls0,ls1]
          refine tk (i:=3) (n:=95) (v:=?_) ?_ ?_
          rotate_left 1
          ·intro wz hSw
           obtain⟨s0,s1,s2,s3,s4,s5,s6,s7⟩:=hSw
           first|(go_simp;done)|(go_simp;with_reducible rfl)
          simp only[ls0,ls1]
          refine tk (i:=4) (n:=96) (v:=?_) ?_ ?_
          rotate_left 1
          ·intro wz hSw
           obtain⟨s0,s1,s2,s3,s4,s5,s6,s7⟩:=hSw
           first|(go_simp;done)|(go_simp;with_reducible rfl)
          simp only[ls0,ls1]
          refine tk (i:=5) (n:=97) (v:=?_) ?_ ?_
          rotate_left 1
          ·intro wz hSw
           obtain⟨s0,s1,s2,s3,s4,s5,s6,s7⟩:=hSw
           first|(go_simp;done)|(go_simp;with_reducible rfl)
          simp only[ls0,ls1]
          refine tk (i:=6) (n:=98) (v:=?_) ?_ ?_
          rotate_left 1
          ·intro wz hSw
           obtain⟨s0,s1,s2,s3,s4,s5,s6,s7⟩:=hSw
           first|(go_simp;done)|(go_simp;with_reducible rfl)
          simp only[ls0,ls1]
          refine tk (i:=7) (n:=99) (v:=?_) ?_ ?_
          rotate_left 1
          ·intro wz hSw
           obtain⟨s0,s1,s2,s3,s4,s5,s6,s7⟩:=hSw
           first|(go_simp;done)|(go_simp;with_reducible rfl)
          simp only[ls0,ls1]
          refine tk (i:=8) (n:=100) (v:=?_) ?_ ?_
          rotate_left 1
          ·intro wz hSw
           obtain⟨s0,s1,s2,s3,s4,s5,s6,s7⟩:=hSw
           first|(go_simp;done)|(go_simp;with_reducible rfl)
          simp only[ls0,ls1]
          refine tk (i:=9) (n:=101) (v:=?_) ?_ ?_
          rotate_left 1
          ·intro wz hSw
           obtain⟨s0,s1,s2,s3,s4,s5,s6,s7⟩:=hSw
           first|(go_simp;done)|(go_simp;with_reducible rfl)
          simp only[ls0,ls1]
          refine tk (i:=10) (n:=102) (v:=?_) ?_ ?_
          rotate_left 1
          ·intro wz hSw
           obtain⟨s0,s1,s2,s3,s4,s5,s6,s7⟩:=hSw
           first|(go_simp;done)|(go_simp;with_reducible rfl)
          simp only[ls0,ls1]
          refine tk (i:=11) (n:=103) (v:=?_) ?_ ?_
          rotate_left 1
          ·intro wz hSw
           obtain⟨s0,s1,s2,s3,s4,s5,s6,s7⟩:=hSw
           first|(go_simp;done)|(go_simp;with_reducible rfl)
          simp only[ls0,ls1]
          refine tk (i:=12) (n:=104) (v:=?_) ?_ ?_
          rotate_left 1
          ·intro wz hSw
           obtain⟨s0,s1,s2,s3,s4,s5,s6,s7⟩:=hSw
           first|(go_simp;done)|(go_simp;with_reducible rfl)
          simp only[ls0,ls1]
          refine tk (i:=13) (n:=105) (v:=?_) ?_ ?_
          rotate_left 1
          ·intro wz hSw
           obtain⟨s0,s1,s2,s3,s4,s5,s6,s7⟩:=hSw
           first|(go_simp;done)|(go_simp;with_reducible rfl)
          simp only[ls0,ls1]
          refine tk (i:=14) (n:=106) (v:=?_) ?_ ?_
          rotate_left 1
          ·intro wz hSw
           obtain⟨s0,s1,s2,s3,s4,s5,s6,s7⟩:=hSw
           first|(go_simp;done)|(go_simp;with_reducible rfl)
          simp only[ls0,ls1]
          refine tk (i:=15) (n:=107) (v:=?_) ?_ ?_
          rotate_left 1
          ·intro wz hSw
           obtain⟨s0,s1,s2,s3,s4,s5,s6,s7⟩:=hSw
           first|(go_simp;done)|(go_simp;with_reducible rfl)
          simp only[ls0,ls1]
          refine tk (i:=16) (n:=108) (v:=?_) ?_ ?_
          rotate_left 1
          ·intro wz hSw
           obtain⟨s0,s1,s2,s3,s4,s5,s6,s7⟩:=hSw
           first|(go_simp;done)|(go_simp;with_reducible rfl)
          simp only[ls0,ls1]
          refine tk (i:=17) (n:=109) (v:=?_) ?_ ?_
          rotate_left 1
          ·intro wz hSw
           obtain⟨s0,s1,s2,s3,s4,s5,s6,s7⟩:=hSw
           first|(go_simp;done)|(go_simp;with_reducible rfl)
          simp only[ls0,ls1]
          refine tk (i:=18) (n:=110) (v:=?_) ?_ ?_
          rotate_left 1
          ·intro wz hSw
           obtain⟨s0,s1,s2,s3,s4,s5,s6,s7⟩:=hSw
           first|(go_simp;done)|(go_simp;with_reducible rfl)
          simp only[ls0,ls1]
          refine tk (i:=19) (n:=111) (v:=?_) ?_ ?_
          rotate_left 1
          ·intro wz hSw
           obtain⟨s0,s1,s2,s3,s4,s5,s6,s7⟩:=hSw
           first|(go_simp;done)|(go_simp;with_reducible rfl)
          simp only[ls0,ls1]
          refine tk (i:=20) (n:=112) (v:=?_) ?_ ?_
          rotate_left 1
          ·intro wz hSw
           obtain⟨s0,s1,s2,s3,s4,s5,s6,s7⟩:=hSw
           first|(go_simp;done)|(go_simp;with_reducible rfl)
          simp only[ls0,ls1]
          refine tk (i:=21) (n:=113) (v:=?_) ?_ ?_
          rotate_left 1
          ·intro wz hSw
           obtain⟨s0,s1,s2,s3,s4,s5,s6,s7⟩:=hSw
           first|(go_simp;done)|(go_simp;with_reducible rfl)
          simp only[ls0,ls1]
          refine tk (i:=22) (n:=114) (v:=?_) ?_ ?_
          rotate_left 1
          ·intro wz hSw
           obtain⟨s0,s1,s2,s3,s4,s5,s6,s7⟩:=hSw
           first|(go_simp;done)|(go_simp;with_reducible rfl)
          simp only[ls0,ls1]
          refine tk (i:=23) (n:=115) (v:=?_) ?_ ?_
          rotate_left 1
          ·intro wz hSw
           obtain⟨s0,s1,s2,s3,s4,s5,s6,s7⟩:=hSw
           first|(go_simp;done)|(go_simp;with_reducible rfl)
          simp only[ls0,ls1]
          refine tk (i:=24) (n:=116) (v:=?_) ?_ ?_
          rotate_left 1
          ·intro wz hSw
           obtain⟨s0,s1,s2,s3,s4,s5,s6,s7⟩:=hSw
           first|(go_simp;done)|(go_simp;with_reducible rfl)
          simp only[ls0,ls1]
          refine tk (i:=25) (n:=117) (v:=?_) ?_ ?_
          rotate_left 1
          ·intro wz hSw
           obtain⟨s0,s1,s2,s3,s4,s5,s6,s7⟩:=hSw
           first|(go_simp;done)|(go_simp;with_reducible rfl)
          simp only[ls0,ls1]
          refine tk (i:=26) (n:=118) (v:=?_) ?_ ?_
          rotate_left 1
          ·intro wz hSw
           obtain⟨s0,s1,s2,s3,s4,s5,s6,s7⟩:=hSw
           first|(go_simp;done)|(go_simp;with_reducible rfl)
          simp only[ls0,ls1]
          refine tk (i:=27) (n:=119) (v:=?_) ?_ ?_
          rotate_left 1
          ·intro wz hSw
           obtain⟨s0,s1,s2,s3,s4,s5,s6,s7⟩:=hSw
           first|(go_simp;done)|(go_simp;with_reducible rfl)
          simp only[ls0,ls1]
          refine wpAnyH_done (by kernel_rfl) ?_ _
          refine NoPanic.normal ?_
          clear hHeld
          go_wp2_with fail
          go_meet
          case rel=>exact⟨rfl,(Below.refl _ _).drew⟩
         ·have q3b:(ta != t)=true:=by simpa using q3
          obtain rfl:ob=true:=by rw[← hob];exact decide_eq_true (.inr ⟨hn1,fun e=>q3 e.symm⟩)
          refine wp_region_noPanic ?_
          refine wp_region_held_drew (S:=fun w'=>w'.cell? ⟨gt,0,none⟩=some (.int .i64 co)∧w'.cell? ⟨gt,1,none⟩=some (.int .i64 (fn:Int))∧w'.cell? ⟨gt,2,none⟩=some (.int .i64 se)∧w'.cell? ⟨gt,3,none⟩=some (.int .i64 c)∧w'.cell? ⟨gt,4,none⟩=some (.int .i64 t)∧w'.cell? ⟨gt,5,none⟩=some (.int .i64 d)∧w'.cell? ⟨gt,6,none⟩=some (.int .i64 p)∧w'.cell? ⟨b,o+fn*7+4,none⟩=some (.int .i64 ta)) (by kernel_rfl) ⟨by go_simp,by go_simp,by go_simp,by go_simp,by go_simp,by go_simp,by go_simp,by go_simp⟩ (fun hHeld=>?_)
          refine tk (i:=0) (n:=92) (v:=?_) ?_ ?_
          rotate_left 1
          ·intro wz hSw
           obtain⟨s0,s1,s2,s3,s4,s5,s6,s7⟩:=hSw
           first|(go_simp;done)|(go_simp;with_reducible rfl)
          simp only[ls0,ls1]
          refine tk (i:=1) (n:=93) (v:=?_) ?_ ?_
          rotate_left 1
          ·intro wz hSw
           obtain⟨s0,s1,s2,s3,s4,s5,s6,s7⟩:=hSw
           first|(go_simp;done)|(go_simp;with_reducible rfl)
          simp only[ls0,ls1]
          refine tk (i:=2) (n:=94) (v:=?_) ?_ ?_
          rotate_left 1
          ·intro wz hSw
           obtain⟨s0,s1,s2,s3,s4,s5,s6,s7⟩:=hSw
           first|(go_simp;done)|(go_simp;with_reducible rfl)
          simp only[ls0,ls1]
          refine tk (i:=3) (n:=95) (v:=?_) ?_ ?_
          rotate_left 1
          ·intro wz hSw
           obtain⟨s0,s1,s2,s3,s4,s5,s6,s7⟩:=hSw
           first|(go_simp;done)|(go_simp;with_reducible rfl)
          simp only[ls0,ls1]
          refine tk (i:=4) (n:=96) (v:=?_) ?_ ?_
          rotate_left 1
          ·intro wz hSw
           obtain⟨s0,s1,s2,s3,s4,s5,s6,s7⟩:=hSw
           first|(go_simp;done)|(go_simp;with_reducible rfl)
          simp only[ls0,ls1]
          refine tk (i:=5) (n:=97) (v:=?_) ?_ ?_
          rotate_left 1
          ·intro wz hSw
           obtain⟨s0,s1,s2,s3,s4,s5,s6,s7⟩:=hSw
           first|(go_simp;done)|(go_simp;with_reducible rfl)
          simp only[ls0,ls1]
          refine tk (i:=6) (n:=98) (v:=?_) ?_ ?_
          rotate_left 1
          ·intro wz hSw
           obtain⟨s0,s1,s2,s3,s4,s5,s6,s7⟩:=hSw
           first|(go_simp;done)|(go_simp;with_reducible rfl)
          simp only[ls0,ls1]
          refine tk (i:=7) (n:=99) (v:=?_) ?_ ?_
          rotate_left 1
          ·intro wz hSw
           obtain⟨s0,s1,s2,s3,s4,s5,s6,s7⟩:=hSw
           first|(go_simp;done)|(go_simp;with_reducible rfl)
          simp only[ls0,ls1]
          refine tk (i:=8) (n:=100) (v:=?_) ?_ ?_
          rotate_left 1
          ·intro wz hSw
           obtain⟨s0,s1,s2,s3,s4,s5,s6,s7⟩:=hSw
           first|(go_simp;done)|(go_simp;with_reducible rfl)
          simp only[ls0,ls1]
          refine tk (i:=9) (n:=101) (v:=?_) ?_ ?_
          rotate_left 1
          ·intro wz hSw
           obtain⟨s0,s1,s2,s3,s4,s5,s6,s7⟩:=hSw
           first|(go_simp;done)|(go_simp;with_reducible rfl)
          simp only[ls0,ls1]
          refine tk (i:=10) (n:=102) (v:=?_) ?_ ?_
          rotate_left 1
          ·intro wz hSw
           obtain⟨s0,s1,s2,s3,s4,s5,s6,s7⟩:=hSw
           first|(go_simp;done)|(go_simp;with_reducible rfl)
          simp only[ls0,ls1]
          refine tk (i:=11) (n:=103) (v:=?_) ?_ ?_
          rotate_left 1
          ·intro wz hSw
           obtain⟨s0,s1,s2,s3,s4,s5,s6,s7⟩:=hSw
           first|(go_simp;done)|(go_simp;with_reducible rfl)
          simp only[ls0,ls1]
          refine tk (i:=12) (n:=104) (v:=?_) ?_ ?_
          rotate_left 1
          ·intro wz hSw
           obtain⟨s0,s1,s2,s3,s4,s5,s6,s7⟩:=hSw
           first|(go_simp;done)|(go_simp;with_reducible rfl)
          simp only[ls0,ls1]
          refine tk (i:=13) (n:=105) (v:=?_) ?_ ?_
          rotate_left 1
          ·intro wz hSw
           obtain⟨s0,s1,s2,s3,s4,s5,s6,s7⟩:=hSw
           first|(go_simp;done)|(go_simp;with_reducible rfl)
          simp only[ls0,ls1]
          refine tk (i:=14) (n:=106) (v:=?_) ?_ ?_
          rotate_left 1
          ·intro wz hSw
           obtain⟨s0,s1,s2,s3,s4,s5,s6,s7⟩:=hSw
           first|(go_simp;done)|(go_simp;with_reducible rfl)
          simp only[ls0,ls1]
          refine tk (i:=15) (n:=107) (v:=?_) ?_ ?_
          rotate_left 1
          ·intro wz hSw
           obtain⟨s0,s1,s2,s3,s4,s5,s6,s7⟩:=hSw
           first|(go_simp;done)|(go_simp;with_reducible rfl)
          simp only[ls0,ls1]
          refine tk (i:=16) (n:=108) (v:=?_) ?_ ?_
          rotate_left 1
          ·intro wz hSw
           obtain⟨s0,s1,s2,s3,s4,s5,s6,s7⟩:=hSw
           first|(go_simp;done)|(go_simp;with_reducible rfl)
          simp only[ls0,ls1]
          refine tk (i:=17) (n:=109) (v:=?_) ?_ ?_
          rotate_left 1
          ·intro wz hSw
           obtain⟨s0,s1,s2,s3,s4,s5,s6,s7⟩:=hSw
           first|(go_simp;done)|(go_simp;with_reducible rfl)
          simp only[ls0,ls1]
          refine tk (i:=18) (n:=110) (v:=?_) ?_ ?_
          rotate_left 1
          ·intro wz hSw
           obtain⟨s0,s1,s2,s3,s4,s5,s6,s7⟩:=hSw
           first|(go_simp;done)|(go_simp;with_reducible rfl)
          simp only[ls0,ls1]
          refine tk (i:=19) (n:=111) (v:=?_) ?_ ?_
          rotate_left 1
          ·intro wz hSw
           obtain⟨s0,s1,s2,s3,s4,s5,s6,s7⟩:=hSw
           first|(go_simp;done)|(go_simp;with_reducible rfl)
          simp only[ls0,ls1]
          refine tk (i:=20) (n:=112) (v:=?_) ?_ ?_
          rotate_left 1
          ·intro wz hSw
           obtain⟨s0,s1,s2,s3,s4,s5,s6,s7⟩:=hSw
           first|(go_simp;done)|(go_simp;with_reducible rfl)
          simp only[ls0,ls1]
          refine tk (i:=21) (n:=113) (v:=?_) ?_ ?_
          rotate_left 1
          ·intro wz hSw
           obtain⟨s0,s1,s2,s3,s4,s5,s6,s7⟩:=hSw
           first|(go_simp;done)|(go_simp;with_reducible rfl)
          simp only[ls0,ls1]
          refine tk (i:=22) (n:=114) (v:=?_) ?_ ?_
          rotate_left 1
          ·intro wz hSw
           obtain⟨s0,s1,s2,s3,s4,s5,s6,s7⟩:=hSw
           first|(go_simp;done)|(go_simp;with_reducible rfl)
          simp only[ls0,ls1]
          refine tk (i:=23) (n:=115) (v:=?_) ?_ ?_
          rotate_left 1
          ·intro wz hSw
           obtain⟨s0,s1,s2,s3,s4,s5,s6,s7⟩:=hSw
           first|(go_simp;done)|(go_simp;with_reducible rfl)
          simp only[ls0,ls1]
          refine tk (i:=24) (n:=116) (v:=?_) ?_ ?_
          rotate_left 1
          ·intro wz hSw
           obtain⟨s0,s1,s2,s3,s4,s5,s6,s7⟩:=hSw
           first|(go_simp;done)|(go_simp;with_reducible rfl)
          simp only[ls0,ls1]
          refine tk (i:=25) (n:=117) (v:=?_) ?_ ?_
          rotate_left 1
          ·intro wz hSw
           obtain⟨s0,s1,s2,s3,s4,s5,s6,s7⟩:=hSw
           first|(go_simp;done)|(go_simp;with_reducible rfl)
          simp only[ls0,ls1]
          refine tk (i:=26) (n:=118) (v:=?_) ?_ ?_
          rotate_left 1
          ·intro wz hSw
           obtain⟨s0,s1,s2,s3,s4,s5,s6,s7⟩:=hSw
           first|(go_simp;done)|(go_simp;with_reducible rfl)
          simp only[ls0,ls1]
          refine tk (i:=27) (n:=119) (v:=?_) ?_ ?_
          rotate_left 1
          ·intro wz hSw
           obtain⟨s0,s1,s2,s3,s4,s5,s6,s7⟩:=hSw
           first|(go_simp;done)|(go_simp;with_reducible rfl)
          simp only[ls0,ls1]
          refine wpAnyH_done (by kernel_rfl) ?_ _
          refine NoPanic.normal ?_
          clear hHeld
          go_wp2_with fail
          go_meet
          case rel=>exact⟨rfl,(Below.refl _ _).drew⟩
       case rest =>
        obtain⟨rfl,H8⟩:=hcut
        obtain⟨w5,hw5⟩:∃w5,w5=wc:=⟨_,rfl⟩
        subst hw5
        have H9:Hid (FB w w5 w.heap.size):=H5.out.grow H8.out
        clear H5
        have H5:Hid (FB w w5 w.heap.size):=H9
        cases ob with
        | true =>
         have h9:=hwx 12 HW9.out (by decide)
         obtain⟨rfl,rfl⟩:=Prod.mk.inj h9
         go_wp2_with (go_at_call 60;refine(F_any _ _ _).mono ?_;rintro r w6 ⟨rfl,hb6⟩;have H6:Hid (FB w w6 w.heap.size):=H5.out.grow hb6;clear hb6;obtain⟨r10,r11,q10,q11,rl⟩:=H6.out.res2)
         refine bodyPost_ret (CheckD_ends (set_two H6.out.res) rfl) rfl ?_
         exact⟨rfl,H6.out.set _ _⟩
        | false =>
         clear hwx
         go_wp2_with fail
         refine⟨⟨j+1,by omega,by simp,H5.out,?_⟩,by simp[intOf];omega⟩
         have h9:=HP.out.2
         rw[HX.out.1,chkGo,if_neg (by rw[HW9.out];simp)]at h9
         rw[HX.out.2]
         exact h9
  ·have hje:j=l.length:=by omega
   subst hje
   have h9:((0:Int),(0:Int))=(z1,z2):=by
    have h8:=HP.out.2
    rw[List.drop_length,HC.out]at h8
    exact h8
   obtain⟨rfl,rfl⟩:=Prod.mk.inj h9
   obtain⟨r10,r11,q10,q11,rl⟩:=HP.out.1.res2
   go_wp2_with fail
   refine bodyPost_ret (CheckD_ends (set_two HP.out.1.res) rfl) rfl ?_
   exact⟨rfl,HP.out.1.set _ _⟩
end Go.Proofs.YtccoobcggbbcialGreatDoor
