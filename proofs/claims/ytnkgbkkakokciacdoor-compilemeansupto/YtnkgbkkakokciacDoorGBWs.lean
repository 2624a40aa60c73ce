import Derived.Test.YtnkgbkkakokciacDoorGDB
import Derived.Test.YtnkgbkkakokciacDoorGBNode
import Derived.Deep.CutRange
import Derived.Test.YtnkgbkkakokciacDoorGBWorth
import Derived.Deep.RegionHeldLaw
namespace Go.Proofs.YtnkgbkkakokciacDoor.B
open Go.ChangeShapes Go.WideShapes Go.ChangeAt Go.RowKit
theorem Comes.pre {l:List Io} {is:List Int} {i:Nat} {s s1:MS} {p:Nat} {st:List Int} {m:Ms} (r:Rch l is s s1) (k:∀ j,j<i→s1.cs.getD j 0=s.cs.getD j 0) (h:Comes l is i s1 p st m):Comes l is i s p st m:=by
 obtain ⟨s2,r2,h2,k2⟩:=h
 exact ⟨s2,r.trans r2,h2,fun j hj=>(k2 j hj).trans (k j hj)⟩
theorem Comes.at {l:List Io} {is:List Int} {i:Nat} {s:MS} {p p':Nat} {st:List Int} {m:Ms} (h:Comes l is i s p st m) (e:p=p'):Comes l is i s p' st m:=e ▸ h
section
variable (l:List Io) (is:List Int)
theorem cd12 (ck:Int) (ca cb:Ex) (hck:1≤ck∧ck≤4) (ha:ca.Ok) (hb:cb.Ok) (p:Nat) (q t:Int) (st vs cs:List Int) (ps:List (Int × Int)) (h:AtR l p q (cdP ck ca cb++[⟨12,t,0⟩])) :
  Rch l is ⟨p,st,vs,cs,ps⟩ ⟨if condVal ck (ca.val vs is) (cb.val vs is)=true then p+(cdP ck ca cb).length+1 else (t+q).toNat,st,vs,cs,ps⟩:=by
 obtain ⟨h1,h2⟩:=h.app
 have r1:=cd_sim l is ck ca cb hck ha hb p q st vs cs ps h1
 have r2:=go12 l is (st:=st) (z:=if condVal ck (ca.val vs is) (cb.val vs is)=true then 1 else 0) (vs:=vs) (cs:=cs) (ps:=ps) h2
 have r:=r1.trans r2
 by_cases c:condVal ck (ca.val vs is) (cb.val vs is)=true
 ·rw [if_pos c] at r ⊢
  simpa using r
 ·rw [if_neg c] at r ⊢
  simpa using r
mutual
theorem St.sim:∀ (x:St) (i at_:Nat) (m m':Ms) (p:Nat) (st:List Int) (s:MS),x.Ok→i+x.lpd≤8→AtR l p (p:Int) (x.pc i)→St.run is x at_ m=(m',none)→Stands s p st m→Comes l is i s (p+(x.pc i).length) st m'
 | .mk k n e ck ca cb y lb,i,at_,m,m',p,st,s,hok,hd,h,hr,hs=>by
  obtain ⟨pc,st0,vs,cs,ps⟩:=s
  obtain ⟨g1,g2,g3,g4,g5⟩:=hs
  simp only at g1 g2 g3 g4 g5
  subst g1 g2 g3 g4
  rw [St.Ok] at hok
  rw [St.run] at hr
  rw [St.lpd] at hd
  by_cases h0:m.steps=20000
  ·rw [if_pos h0] at hr;simp at hr
  rw [if_neg h0] at hr
  rw [St.pc] at h ⊢
  obtain ⟨hk,ok1,ok2,ok3,ok4,-,oky,okl⟩:=hok
  have hi1:((i+1:Nat):Int)=(i:Int)+1:=by omega
  have hk':k=1∨k=2∨k=3∨k=4∨k=5∨k=6∨k=7:=by omega
  rcases hk' with rfl | rfl | rfl | rfl | rfl | rfl | rfl
  ·simp only [if_true] at h hr ⊢
   obtain rfl:=(Prod.mk.inj hr).1
   obtain ⟨h1,h2⟩:=h.app
   have r:=(Ex.sim l is e pc pc st0 m.vars cs m.puts (ok1 rfl).2.2 h1).trans (go3 l is h2)
   exact (Comes.go (m':=⟨m.vars.set n.toNat (e.val m.vars is),m.puts,m.steps+1⟩) r rfl rfl g5).at (by simp [Nat.add_assoc])
  ·simp only [show ¬ ((2:Int)=1) by decide,if_true,if_false] at h hr ⊢
   obtain rfl:=(Prod.mk.inj hr).1
   obtain ⟨h1,h2⟩:=h.app
   have r:=(Ex.sim l is e pc pc st0 m.vars cs m.puts (ok2 rfl) h1).trans (go10 l is h2)
   exact (Comes.go (m':=⟨m.vars,m.puts++[(n,e.val m.vars is)],m.steps+1⟩) r rfl rfl g5).at (by simp [Nat.add_assoc])
  ·simp only [show ¬ ((3:Int)=1) by decide,show ¬ ((3:Int)=2) by decide,show ¬ ((3:Int)=4∨(3:Int)=5) by decide,if_true,if_false] at h hr hd ⊢
   obtain ⟨hck,hca,hcb⟩:=ok3 (.inl rfl)
   unfold condOf at hr
   by_cases hl0:lb.length=0
   ·rw [if_pos hl0] at h ⊢
    unfold ifP at h ⊢
    obtain ⟨h1,h2⟩:=AtR.jn h
    have r:=cd12 l is ck ca cb hck hca hcb pc pc _ st0 m.vars cs m.puts h1
    generalize cdP ck ca cb=C at *
    have hlen:(C++[(⟨12,(C.length:Int)+1+(St.pcAll y i).length,0⟩:Io)]).length=C.length+1:=by simp
    rw [hlen] at h2
    rw [jn_len,hlen]
    by_cases c:condVal ck (ca.val m.vars is) (cb.val m.vars is)=true
    ·rw [if_pos c] at r hr
     exact (Comes.pre r (fun _ _=>rfl) (St.simAll y i (at_+1) _ m' (pc+C.length+1) st0 _ oky (by omega) h2 hr ⟨rfl,rfl,rfl,rfl,g5⟩)).at (by omega)
    ·rw [if_neg c] at r hr
     have hlb:lb=[]:=List.eq_nil_of_length_eq_zero hl0
     subst hlb
     obtain rfl:=(Prod.mk.inj hr).1
     exact (Comes.go (m':=⟨m.vars,m.puts,m.steps+1⟩) r rfl rfl g5).at (by omega)
   ·rw [if_neg hl0] at h ⊢
    unfold elP at h ⊢
    obtain ⟨h12,h3⟩:=AtR.jn h
    obtain ⟨h12,h11⟩:=h12.app
    obtain ⟨h1,h2⟩:=AtR.jn h12
    have r:=cd12 l is ck ca cb hck hca hcb pc pc _ st0 m.vars cs m.puts h1
    generalize cdP ck ca cb=C at *
    have hlen:(C++[(⟨12,(C.length:Int)+1+(St.pcAll y i).length+1,0⟩:Io)]).length=C.length+1:=by simp
    simp only [jn_len,hlen,List.length_append,List.length_cons,List.length_nil] at h2 h3 h11 ⊢
    simp only [List.length_append,List.length_cons,List.length_nil] at hlen
    by_cases c:condVal ck (ca.val m.vars is) (cb.val m.vars is)=true
    ·rw [if_pos c] at r hr
     refine (Comes.pre r (fun _ _=>rfl) (Comes.trans (St.simAll y i (at_+1) _ m' (pc+C.length+1) st0 _ oky (by omega) (by simpa [Nat.add_assoc] using h2) hr ⟨rfl,rfl,rfl,rfl,g5⟩) (Nat.le_refl _) (fun s1 hs1 k1=>?_)))
     obtain ⟨pc1,st1,vs1,cs1,ps1⟩:=s1
     obtain ⟨w1,w2,w3,w4,w5⟩:=hs1
     simp only at w1 w2 w3 w4 w5
     subst w1 w2
     have r2:=go11 l is (p:=pc+C.length+1+(St.pcAll y i).length) (st:=st1) (vs:=vs1) (cs:=cs1) (ps:=ps1) (by simpa [Nat.add_assoc] using h11)
     exact (Comes.go r2 w3 w4 w5).at (by omega)
    ·rw [if_neg c] at r hr
     refine (Comes.pre r (fun _ _=>rfl) ?_)
     have ht:((C.length:Int)+1+(St.pcAll y i).length+1+pc).toNat=pc+(C.length+1+(St.pcAll y i).length+1):=by omega
     rw [ht]
     exact (St.simAll lb i (at_+1+St.countAll y) _ m' (pc+(C.length+1+(St.pcAll y i).length+1)) st0 _ okl (by omega) (by simpa using h3) hr ⟨rfl,rfl,rfl,rfl,g5⟩).at (by omega)
  ·simp only [show ¬ ((4:Int)=1) by decide,show ¬ ((4:Int)=2) by decide,show ¬ ((4:Int)=3) by decide,true_or,if_true,if_false] at h hr hd ⊢
   obtain ⟨hn0,hn1⟩:=ok4 (.inl rfl)
   by_cases hn:n=0
   ·subst hn
    simp only [if_true] at h ⊢
    obtain rfl:=(Prod.mk.inj hr).1
    exact Comes.refl ⟨rfl,rfl,rfl,rfl,g5⟩
   ·rw [if_neg hn] at h ⊢
    unfold lpP at h ⊢
    obtain ⟨hJ,h14⟩:=h.app
    obtain ⟨h13,hA⟩:=AtR.jn hJ
    rw [← hi1] at hA
    have r:=go13 l is (st:=st0) (vs:=m.vars) (cs:=cs) (ps:=m.puts) h13
    simp only [jn_len,List.length_append,List.length_cons,List.length_nil] at h14 hA ⊢
    obtain ⟨k,hk⟩:∃ k,n.toNat=k+1:=⟨n.toNat - 1,by omega⟩
    rw [hk] at hr
    refine Comes.pre r (fun j hj=>set_other (by omega)) ?_
    refine (rounds l is i (by omega) pc _ st0 (fun _=>true) (fun s=>St.runAll is y (at_+1) s) h14 (fun m1 m2 s1 hr1 hs1=>?_) k _ m' _ hr ⟨rfl,rfl,rfl,rfl,by simpa using g5⟩ ?_).at (by omega)
    ·obtain ⟨s2,q1,q2,q3⟩:=St.simAll y (i+1) (at_+1) m1 m2 (pc+1) st0 s1 oky (by omega) (by simpa using hA) (by simpa using hr1) hs1
     refine ⟨s2,q1,⟨q2.pc.trans ?_,q2.st,q2.vs,q2.ps,q2.cs⟩,fun j hj=>q3 j (by omega),?_⟩
     ·rw [hi1];omega
     ·rw [if_pos rfl];exact q3 i (by omega)
    ·show (cs.set _ _).getD i 0=_
     rw [show ((i:Int)).toNat=i by omega,set_same (by omega)]
     omega
  ·simp only [show ¬ ((5:Int)=1) by decide,show ¬ ((5:Int)=2) by decide,show ¬ ((5:Int)=3) by decide,show ¬ ((5:Int)=4) by decide,or_true,if_true,if_false] at h hr hd ⊢
   obtain ⟨hn0,hn1⟩:=ok4 (.inr rfl)
   obtain ⟨hck,hca,hcb⟩:=ok3 (.inr rfl)
   by_cases hn:n=0
   ·subst hn
    simp only [if_true] at h ⊢
    obtain rfl:=(Prod.mk.inj hr).1
    exact Comes.refl ⟨rfl,rfl,rfl,rfl,g5⟩
   ·rw [if_neg hn] at h ⊢
    unfold lpP at h ⊢
    obtain ⟨hJ,h14⟩:=h.app
    obtain ⟨h13,hW⟩:=AtR.jn hJ
    rw [← hi1] at hW h14 ⊢
    have r:=go13 l is (st:=st0) (vs:=m.vars) (cs:=cs) (ps:=m.puts) h13
    obtain ⟨k,hk⟩:∃ k,n.toNat=k+1:=⟨n.toNat - 1,by omega⟩
    rw [hk] at hr
    unfold whP at hW h14 ⊢
    obtain ⟨hW,hE⟩:=hW.app
    obtain ⟨h11,h15⟩:=AtR.app (C:=[(⟨11,_,0⟩:Io)]) hE
    obtain ⟨h1,h2⟩:=AtR.jn hW
    have RC:=fun vs cs ps=>cd12 l is ck ca cb hck hca hcb _ _ _ st0 vs cs ps h1
    generalize cdP ck ca cb=C at *
    generalize hA:St.pcAll y ((i+1:Nat):Int)=A at *
    simp only [jn_len,List.length_append,List.length_cons,List.length_nil] at h14 h2 h11 h15 RC ⊢
    refine Comes.pre r (fun j hj=>set_other (by omega)) ?_
    refine (rounds l is i (by omega) pc _ st0 (condOf is ck ca cb) (fun s=>St.runAll is y (at_+1) s) h14 (fun m1 m2 s1 hr1 hs1=>?_) k _ m' _ hr ⟨rfl,rfl,rfl,rfl,by simpa using g5⟩ ?_).at (by omega)
    ·obtain ⟨pc1,st1,vs1,cs1,ps1⟩:=s1
     obtain ⟨w1,w2,w3,w4,w5⟩:=hs1
     simp only at w1 w2 w3 w4 w5
     subst w1 w2 w3 w4
     have rc:=RC m1.vars cs1 m1.puts
     by_cases c:condOf is ck ca cb m1=true
     ·rw [if_pos c] at hr1
      unfold condOf at c
      rw [if_pos c] at rc
      obtain ⟨s2,q1,q2,q3⟩:=St.simAll y (i+1) (at_+1) m1 m2 (pc+1+C.length+1) st1 ⟨pc+1+C.length+1,st1,m1.vars,cs1,m1.puts⟩ oky (by omega) (by rw [hA];simpa [Nat.add_assoc] using h2) hr1 ⟨rfl,rfl,rfl,rfl,w5⟩
      rw [hA] at q2
      obtain ⟨pc2,st2,vs2,cs2,ps2⟩:=s2
      obtain ⟨u1,u2,u3,u4,u5⟩:=q2
      simp only at u1 u2 u3 u4 u5 q3
      subst u1 u2 u3 u4
      have r2:=go11 l is (p:=pc+1+C.length+1+A.length) (st:=st2) (vs:=m2.vars) (cs:=cs2) (ps:=m2.puts) (by simpa [Nat.add_assoc] using h11)
      refine ⟨_,(by simpa [Nat.add_assoc] using rc:Rch l is _ _).trans ((by simpa [Nat.add_assoc] using q1:Rch l is _ _).trans (by simpa [Nat.add_assoc] using r2)),⟨?_,rfl,rfl,rfl,u5⟩,fun j hj=>q3 j (by omega),?_⟩
      ·simp only;omega
      ·rw [if_pos (by unfold condOf;exact c)]
       exact q3 i (by omega)
     ·rw [if_neg c] at hr1
      obtain rfl:=(Prod.mk.inj hr1).1
      have c':=c
      unfold condOf at c
      rw [if_neg c] at rc
      have r2:=go15 l is (p:=pc+1+C.length+1+A.length+1) (st:=st1) (vs:=m1.vars) (cs:=cs1) (ps:=m1.puts) (by simpa [Nat.add_assoc] using h15)
      have rc':Rch l is ⟨pc+1,st1,m1.vars,cs1,m1.puts⟩ ⟨pc+1+C.length+1+A.length+1,st1,m1.vars,cs1,m1.puts⟩:=by
       have e:pc+1+C.length+1+A.length+1=((C.length:Int)+1+A.length+1+((pc+1:Nat):Int)).toNat:=by omega
       rw [e]
       simpa using rc
      refine ⟨_,rc'.trans r2,⟨?_,rfl,rfl,rfl,by simpa using w5⟩,fun j hj=>set_other (by omega),?_⟩
      ·simp only;omega
      ·rw [if_neg c']
       show (cs1.set _ _).getD i 0=_
       rw [show ((i:Int)).toNat=i by omega,set_same (by omega)]
    ·show (cs.set _ _).getD i 0=_
     rw [show ((i:Int)).toNat=i by omega,set_same (by omega)]
     omega
  ·simp only [show ¬ ((6:Int)=1) by decide,show ¬ ((6:Int)=2) by decide,show ¬ ((6:Int)=3) by decide,show ¬ ((6:Int)=4) by decide,show ¬ ((6:Int)=5) by decide,or_false,if_true,if_false] at h hr hd ⊢
   obtain ⟨hJ,h17⟩:=h.app
   obtain ⟨h16,hA⟩:=AtR.jn hJ
   simp only [jn_len,List.length_append,List.length_cons,List.length_nil] at h17 hA ⊢
   have r:=goNo l is (st:=st0) (vs:=m.vars) (cs:=cs) (ps:=m.puts) (.inl rfl) h16
   refine Comes.pre r (fun _ _=>rfl) (Comes.trans (St.simAll y i (at_+1) _ m' (pc+1) st0 _ oky (by omega) (by simpa using hA) hr ⟨rfl,rfl,rfl,rfl,g5⟩) (Nat.le_refl _) (fun s1 hs1 k1=>?_))
   obtain ⟨pc1,st1,vs1,cs1,ps1⟩:=s1
   obtain ⟨w1,w2,w3,w4,w5⟩:=hs1
   simp only at w1 w2 w3 w4 w5
   subst w1 w2
   have r2:=goNo l is (p:=pc+1+(St.pcAll y i).length) (st:=st1) (vs:=vs1) (cs:=cs1) (ps:=ps1) (.inr (.inl rfl)) (by simpa [Nat.add_assoc] using h17)
   exact (Comes.go r2 w3 w4 w5).at (by omega)
  ·simp only [show ¬ ((7:Int)=1) by decide,show ¬ ((7:Int)=2) by decide,show ¬ ((7:Int)=3) by decide,show ¬ ((7:Int)=4) by decide,show ¬ ((7:Int)=5) by decide,show ¬ ((7:Int)=6) by decide,if_false] at h hr ⊢
   obtain rfl:=(Prod.mk.inj hr).1
   exact Comes.go (m':=⟨m.vars,m.puts,m.steps+1⟩) (goNo l is (.inr (.inr rfl)) h) rfl rfl g5
theorem St.simAll:∀ (a:List St) (i at_:Nat) (m m':Ms) (p:Nat) (st:List Int) (s:MS),St.OkAll a→i+St.lpdAll a≤8→AtR l p (p:Int) (St.pcAll a i)→St.runAll is a at_ m=(m',none)→Stands s p st m→Comes l is i s (p+(St.pcAll a i).length) st m'
 | [],i,at_,m,m',p,st,s,_,_,_,hr,hs=>by
  rw [St.runAll] at hr
  obtain rfl:=(Prod.mk.inj hr).1
  exact Comes.refl hs
 | x::r,i,at_,m,m',p,st,s,hok,hd,h,hr,hs=>by
  rw [St.OkAll] at hok
  rw [St.lpdAll] at hd
  rw [St.pcAll] at h ⊢
  rw [St.runAll] at hr
  obtain ⟨h1,h2⟩:=AtR.jn h
  rcases hx:St.run is x at_ m with ⟨m1,_ | z⟩
  ·rw [hx] at hr
   refine Comes.trans (St.sim x i at_ m m1 p st s hok.1 (by omega) h1 hx hs) (Nat.le_refl _) (fun s1 hs1 k1=>?_)
   exact (St.simAll r i (at_+x.count) m1 m' _ st s1 hok.2 (by omega) h2 hr hs1).at (by rw [jn_len];omega)
  ·rw [hx] at hr
   simp at hr
end
end
theorem Rch.run {l:List Io} {is:List Int} {s s':MS} (h:Rch l is s s') (he:s'.pc=l.length):∀ (n:Nat) (t:Int),(∃ z,runF l is n s t = .inl z)∨∃ t',runF l is n s t = .inr (s',t'):=by
 induction h with
 | refl s=>exact fun n t=>.inr ⟨t,run_end he⟩
 | step hp _ ih =>
  intro n t
  cases n with
  | zero=>exact .inl ⟨_,by rw [runF,if_neg (by omega)]⟩
  | succ n =>
   rw [run_at (by omega)]
   exact ih he n _
theorem AtR.self (l:List Io):AtR l 0 ((0:Nat):Int) l:=⟨by omega,fun j _=>by rw [Nat.zero_add];exact (mvI_zero _).symm⟩
theorem image_means (a:List St) (vs is:List Int) (hok:St.OkAll a) (hd:St.lpdAll a≤8) {m':Ms} (hr:St.runAll is a 0 ⟨vs,[],0⟩=(m',none)) (n:Nat) (t:Int) :
  (∃ z,runF (St.pcAll a 0) is n (ms0 vs) t = .inl z)∨∃ s t',runF (St.pcAll a 0) is n (ms0 vs) t = .inr (s,t')∧s.vs=m'.vars∧s.ps=m'.puts:=by
 obtain ⟨s',r,hs,-⟩:=St.simAll (St.pcAll a 0) is a 0 0 ⟨vs,[],0⟩ m' 0 [] (ms0 vs) hok (by omega) (AtR.self _) hr ⟨rfl,rfl,rfl,rfl,rfl⟩
 rcases r.run (by rw [hs.pc];exact Nat.zero_add _) n t with h | ⟨t',h⟩
 ·exact .inl h
 ·exact .inr ⟨s',t',h,hs.vs,hs.ps⟩
set_option maxHeartbeats 1000000 in
theorem expr1_any (e:Ex) (k n:Int) (ad:Option Addr) (m ca p:Nat) (w:World) (hN:e.nodes≤1048576) (hfm:FormsIn w) (hin:e.In w (.agg #[.int .i64 k,.int .i64 n,.slice ad m ca]))
  (h0:w.cell? ⟨p,0,none⟩=some (.int .i64 k)) (h1:w.cell? ⟨p,1,none⟩=some (.int .i64 n)) (h2:w.cell? ⟨p,2,none⟩=some (.slice ad m ca)) :
  Calls Tryd.prog 154 #[.pointer (some ⟨p,0,none⟩)] w fun r w'=>r = .returned (.int .i64 (e.node 0).1)∧Below w.heap.size w w':=by
 have h1s:5<w.heap.size:=World.block_lt_of_cell? _ _ (hfm 1 (by omega) (by omega)).1
 have hp:p<w.heap.size:=World.block_lt_of_cell? _ _ h0
 have HH:Hid (_∧_):=⟨hfm,hin⟩
 clear hfm hin
 go_enter Tryd.func154,Tryd.ntmps154
 go_wp2_with (first
  | (go_at_call 155;refine (node_any _ e _ _ w.heap.size 0 (Nat.lt_succ_self _) (by omega) (by omega) (by omega) ?q1 ?q2 ?q3).mono ?_;rotate_left 3;rintro r w' ⟨rfl,hq',hb'⟩;have HB:Hid _:=hb';clear hq' hb'))
 case q1=>exact heap_alloc_new w _
 case q2=>exact HH.out.1.but (by omega) (But.of_below (q:=w.heap.size) ((Below.refl _ _).alloc (Nat.le_refl _) _))
 case q3=>exact HH.out.2.old.move fun b hb _=>⟨by omega,Below.heap_alloc _ _ _ hb⟩
 go_ret
 refine ⟨rfl,?_⟩
 have hb:=HB.out
 exact ⟨hb.os,hb.tape,hb.output,by have:=hb.size;simp at this;omega,fun k hk=>(hb.block k (by simp;omega) (by omega)).trans (Below.heap_alloc _ _ _ hk)⟩
theorem ent39 (cp:Array Value) (w:World):(callFunc 154 cp).run Tryd.prog w = .ok (.enter 154 cp) w:=run_enter Tryd.func154 (by kernel_rfl) (by kernel_rfl) cp w
theorem ent38 (cp:Array Value) (w:World):(callFunc 153 cp).run Tryd.prog w = .ok (.enter 153 cp) w:=run_enter Tryd.func153 (by kernel_rfl) (by kernel_rfl) cp w
theorem ent41 (cp:Array Value) (w:World):(callFunc 156 cp).run Tryd.prog w = .ok (.enter 156 cp) w:=run_enter Tryd.func156 (by kernel_rfl) (by kernel_rfl) cp w
def condErr (ck:Int) (ca cb:Ex):Int:=if ck<1∨4<ck then 6 else if (ca.node 0).1≠0 then (ca.node 0).1 else (cb.node 0).1
theorem FormsIn.below {w w':World} (h:FormsIn w) (hb:Below w.heap.size w w'):FormsIn w':=fun m h1 h2=>⟨below_cell hb (h m h1 h2).1,below_cell hb (h m h1 h2).2⟩
def condR (b:Bool) (ca cb:Ex):Int:=if b=false then 6 else if (ca.node 0).1≠0 then (ca.node 0).1 else (cb.node 0).1
theorem cond_looks (W:World) (g p1 p2 p3 p4 cap:Nat) (b:Bool) (ak an bk bn:Int) (aad bad:Option Addr) (am ac bm bc:Nat) (ca cb:Ex) (hN:ca.nodes≤1048576∧cb.nodes≤1048576) (hfm:FormsIn W)
  (hca:ca.In W (.agg #[.int .i64 ak,.int .i64 an,.slice aad am ac])) (hcb:cb.In W (.agg #[.int .i64 bk,.int .i64 bn,.slice bad bm bc]))
  (g0:W.cell? ⟨g,0,none⟩=some (.func (.func 151) #[] #[.pointer (some ⟨p1,0,none⟩),.pointer (some ⟨p2,0,none⟩)])) (g1:W.cell? ⟨g,1,none⟩=some (.func (.func 154) #[] #[.pointer (some ⟨p3,0,none⟩)])) (g2:W.cell? ⟨g,2,none⟩=some (.func (.func 154) #[] #[.pointer (some ⟨p4,0,none⟩)]))
  (c1:W.cell? ⟨p1,0,none⟩=some (.bool b)) (c2:W.cell? ⟨p2,0,none⟩=some (.int .i64 6))
  (c3:W.cell? ⟨p3,0,none⟩=some (.int .i64 ak)) (c4:W.cell? ⟨p3,1,none⟩=some (.int .i64 an)) (c5:W.cell? ⟨p3,2,none⟩=some (.slice aad am ac))
  (c6:W.cell? ⟨p4,0,none⟩=some (.int .i64 bk)) (c7:W.cell? ⟨p4,1,none⟩=some (.int .i64 bn)) (c8:W.cell? ⟨p4,2,none⟩=some (.slice bad bm bc)) :
  Calls Tryd.prog 136 #[.slice (some ⟨g,0,none⟩) 3 cap] W fun e w'=>e = .returned (.int .i64 (condR b ca cb))∧Below W.heap.size W w':=by
 refine (first_any 3 (by omega) g cap (fun i=>if i=0 then 151 else 154) (fun i=>if i=0 then #[.pointer (some ⟨p1,0,none⟩),.pointer (some ⟨p2,0,none⟩)] else if i=1 then #[.pointer (some ⟨p3,0,none⟩)] else #[.pointer (some ⟨p4,0,none⟩)])
  (fun i w=>Below W.heap.size W w∧(0<i→b=true)∧(1<i→(ca.node 0).1=0)∧(2<i→(cb.node 0).1=0))
  (fun c w=>Below W.heap.size W w∧c=(condR b ca cb)) ?_ ?_ ?_ W ⟨Below.refl _ _,by omega,by omega,by omega⟩).mono ?_
 ·intro i hi w hP
  match i,hi with
  | 0,_=>exact below_cell hP.1 g0
  | 1,_=>exact below_cell hP.1 g1
  | 2,_=>exact below_cell hP.1 g2
 ·intro i hi w ⟨hP,h1,h2,h3⟩
  match i,hi with
  | 0,_ =>
   refine (needs1_any p1 p2 b 6 w (below_cell hP c1) (below_cell hP c2)).mono ?_
   rintro e w' ⟨rfl,rfl⟩
   refine ⟨_,rfl,?_⟩
   cases b
   ·exact .inr ⟨by simp,hP,by simp [condR]⟩
   ·exact .inl ⟨by simp,hP,fun _=>rfl,by omega,by omega⟩
  | 1,_ =>
   have hb:=h1 (by omega)
   subst hb
   refine (expr1_any ca ak an aad am ac p3 w hN.1 (hfm.below hP) (Ex.In.below hP _ hca) (below_cell hP c3) (below_cell hP c4) (below_cell hP c5)).mono ?_
   rintro e w' ⟨rfl,hb'⟩
   refine ⟨_,rfl,?_⟩
   by_cases h0:(ca.node 0).1=0
   ·exact .inl ⟨h0,below_seq hP hb',fun _=>rfl,fun _=>h0,by omega⟩
   ·exact .inr ⟨h0,below_seq hP hb',by simp [condR,h0]⟩
  | 2,_ =>
   have hb:=h1 (by omega)
   have ha:=h2 (by omega)
   subst hb
   refine (expr1_any cb bk bn bad bm bc p4 w hN.2 (hfm.below hP) (Ex.In.below hP _ hcb) (below_cell hP c6) (below_cell hP c7) (below_cell hP c8)).mono ?_
   rintro e w' ⟨rfl,hb'⟩
   refine ⟨_,rfl,?_⟩
   by_cases h0:(cb.node 0).1=0
   ·exact .inl ⟨h0,below_seq hP hb',fun _=>rfl,fun _=>ha,fun _=>h0⟩
   ·exact .inr ⟨h0,below_seq hP hb',by simp [condR,ha]⟩
 ·intro i hi cp w
  match i,hi with
  | 0,_=>exact ent36 cp w
  | 1,_=>exact ent39 cp w
  | 2,_=>exact ent39 cp w
 ·rintro e w' ⟨c,rfl,h⟩
  rcases h with ⟨rfl,hP,h1,h2,h3⟩ | ⟨_,hP,rfl⟩
  ·have e1:=h1 (by omega)
   have e2:=h2 (by omega)
   have e3:=h3 (by omega)
   exact ⟨ret_int (by simp [condR,e1,e2,e3]),hP⟩
  ·exact ⟨rfl,hP⟩
theorem keep_alloc8 {w X:World} {o:Obj} {p:Nat} {x0 x1 x2 x3 x4 x5 x6:Value} (h:Below w.heap.size w X∧X.cell? ⟨p,0,none⟩=some x0∧X.cell? ⟨p,1,none⟩=some x1∧X.cell? ⟨p,2,none⟩=some x2∧X.cell? ⟨p,3,none⟩=some x3∧X.cell? ⟨p,4,none⟩=some x4∧X.cell? ⟨p,5,none⟩=some x5∧X.cell? ⟨p,6,none⟩=some x6) :
  Below w.heap.size w (X.alloc o)∧(X.alloc o).cell? ⟨p,0,none⟩=some x0∧(X.alloc o).cell? ⟨p,1,none⟩=some x1∧(X.alloc o).cell? ⟨p,2,none⟩=some x2∧(X.alloc o).cell? ⟨p,3,none⟩=some x3∧(X.alloc o).cell? ⟨p,4,none⟩=some x4∧(X.alloc o).cell? ⟨p,5,none⟩=some x5∧(X.alloc o).cell? ⟨p,6,none⟩=some x6:=by
 have hb:Below X.heap.size X (X.alloc o):=(Below.refl _ _).alloc (Nat.le_refl _) o
 exact ⟨h.1.alloc h.1.size o,below_cell hb h.2.1,below_cell hb h.2.2.1,below_cell hb h.2.2.2.1,below_cell hb h.2.2.2.2.1,below_cell hb h.2.2.2.2.2.1,below_cell hb h.2.2.2.2.2.2.1,below_cell hb h.2.2.2.2.2.2.2⟩
theorem keep_below8 {w X Y:World} {p:Nat} {x0 x1 x2 x3 x4 x5 x6:Value} (h:Below w.heap.size w X∧X.cell? ⟨p,0,none⟩=some x0∧X.cell? ⟨p,1,none⟩=some x1∧X.cell? ⟨p,2,none⟩=some x2∧X.cell? ⟨p,3,none⟩=some x3∧X.cell? ⟨p,4,none⟩=some x4∧X.cell? ⟨p,5,none⟩=some x5∧X.cell? ⟨p,6,none⟩=some x6) (hb:Below X.heap.size X Y) :
  Below w.heap.size w Y∧Y.cell? ⟨p,0,none⟩=some x0∧Y.cell? ⟨p,1,none⟩=some x1∧Y.cell? ⟨p,2,none⟩=some x2∧Y.cell? ⟨p,3,none⟩=some x3∧Y.cell? ⟨p,4,none⟩=some x4∧Y.cell? ⟨p,5,none⟩=some x5∧Y.cell? ⟨p,6,none⟩=some x6 :=
 ⟨below_seq h.1 hb,below_cell hb h.2.1,below_cell hb h.2.2.1,below_cell hb h.2.2.2.1,below_cell hb h.2.2.2.2.1,below_cell hb h.2.2.2.2.2.1,below_cell hb h.2.2.2.2.2.2.1,below_cell hb h.2.2.2.2.2.2.2⟩
theorem take_at {P:Program} {md:Region.Mode} {ops:Array Oper} {Q:Exit→Act→World→Prop} {S:World→Prop} {i n:Nat} {oi:Oper} {v:Value} {fuel:Nat} {listed:Array Bool} {l:List Value} {ds:List Deferred} {w:World}
  (hi:ops[i]?=some oi) (hd:oi.dst=some n) (hs:Region.noSelect ops=true) (hf:Region.free md ops listed i=true) (hr:(Region.ready md ops listed).contains i=true)
  (hQ:∀ c a w,Q (.panic c) (a.put oi.dst v) w→Q (.panic c) a w) (hy:YieldsIf P ops S oi v ⟨l.toArray,ds⟩) (hS:S w)
  (h:wpAnyH P md ops Q S fuel (listed.setIfInBounds i true) ⟨(l.set n v).toArray,ds⟩ w):wpAnyH P md ops Q S (fuel+1) listed ⟨l.toArray,ds⟩ w:=by
 refine wpAnyH_take hi hs hf hr hQ hy hS ?_
 have e:Act.put ⟨l.toArray,ds⟩ oi.dst v=⟨(l.set n v).toArray,ds⟩:=by rw [hd];simp [Act.put]
 rw [e]
 exact h
theorem tk {P:Program} {md:Region.Mode} {ops:Array Oper} {Q:Exit→Act→World→Prop} {S:World→Prop} {i n:Nat} {oi:Oper} {v:Value} {fuel:Nat} {listed:Array Bool} {l:List Value} {ds:List Deferred} {w:World}
  (hy:∀ w,S w→(execOp (Act.eval ⟨l.toArray,ds⟩) oi).run P w = .ok (.value v) w) (h:wpAnyH P md ops Q S fuel (listed.setIfInBounds i true) ⟨(l.set n v).toArray,ds⟩ w)
  (hi:ops[i]?=some oi:=by rfl) (hd:oi.dst=some n:=by rfl) (hs:(Region.noSelect ops&&Region.free md ops listed i&&(Region.ready md ops listed).contains i)=true:=by kernel_rfl)
  (hQ:∀ c a w,Q (.panic c) (a.put oi.dst v) w→Q (.panic c) a w:=by exact fun _ _ _ h=>h) (hg:Region.wanted oi (yielded ops l.toArray)=true:=by rfl) (hS:S w:=by assumption):wpAnyH P md ops Q S (fuel+1) listed ⟨l.toArray,ds⟩ w:=by
 simp only [Bool.and_eq_true] at hs
 exact take_at hi hd hs.1.1 hs.1.2 hs.2 hQ (.inl ⟨hg,hy⟩) hS h
theorem ls0 (x a:Value) (l:List Value):(x::l).set 0 a=a::l:=rfl
theorem ls1 (x a:Value) (l:List Value) (n:Nat):(x::l).set (n+1) a=x::l.set n a:=rfl
set_option maxRecDepth 20000 in
set_option maxHeartbeats 2000000 in
theorem cond1_any (ck ak an bk bn:Int) (aad bad:Option Addr) (am ac bm bc p:Nat) (ca cb:Ex) (w:World) (hN:ca.nodes≤1048576∧cb.nodes≤1048576) (hfm:FormsIn w)
  (hca:ca.In w (.agg #[.int .i64 ak,.int .i64 an,.slice aad am ac])) (hcb:cb.In w (.agg #[.int .i64 bk,.int .i64 bn,.slice bad bm bc]))
  (h0:w.cell? ⟨p,0,none⟩=some (.int .i64 ck)) (h1:w.cell? ⟨p,1,none⟩=some (.int .i64 ak)) (h2:w.cell? ⟨p,2,none⟩=some (.int .i64 an)) (h3:w.cell? ⟨p,3,none⟩=some (.slice aad am ac))
  (h4:w.cell? ⟨p,4,none⟩=some (.int .i64 bk)) (h5:w.cell? ⟨p,5,none⟩=some (.int .i64 bn)) (h6:w.cell? ⟨p,6,none⟩=some (.slice bad bm bc)) :
  Calls Tryd.prog 156 #[.pointer (some ⟨p,0,none⟩)] w fun r w'=>r = .returned (.int .i64 (condErr ck ca cb))∧Below w.heap.size w w':=by
 have HH:Hid (_∧_∧_):=⟨hfm,hca,hcb⟩
 clear hfm hca hcb
 have hp:p<w.heap.size:=World.block_lt_of_cell? _ _ h0
 by_cases hg:1≤ck
 ·have hd:decide (1≤ck)=true:=decide_eq_true hg
  go_enter Tryd.func156,Tryd.ntmps156
  go_wp2_with fail
  go_region_held3 (fun w'=>Below w.heap.size w w'∧w'.cell? ⟨p,0,none⟩=some (.int .i64 ck)∧w'.cell? ⟨p,1,none⟩=some (.int .i64 ak)∧w'.cell? ⟨p,2,none⟩=some (.int .i64 an)∧w'.cell? ⟨p,3,none⟩=some (.slice aad am ac)∧w'.cell? ⟨p,4,none⟩=some (.int .i64 bk)∧w'.cell? ⟨p,5,none⟩=some (.int .i64 bn)∧w'.cell? ⟨p,6,none⟩=some (.slice bad bm bc))
   (first | assumption | exact ⟨(Below.refl _ _).drew,h0,h1,h2,h3,h4,h5,h6⟩ | exact keep_alloc8 ‹Below w.heap.size w _∧_› | exact keep_alloc8 (keep_alloc8 ‹Below w.heap.size w _∧_›))
   (first
    | (go_at_call 137;refine (needs_any _ _ _).mono ?_;rintro r w1 ⟨rfl,rfl⟩)
    | (go_at_call_of 140 ak;refine (expr_any _ _ _ _ _ _).mono ?_;rintro r w1 ⟨rfl,rfl⟩)
    | (go_at_call_of 140 bk;refine (expr_any _ _ _ _ _ _).mono ?_;rintro r w1 ⟨rfl,rfl⟩)
    | (go_at_call 136;refine (cond_looks _ _ w.heap.size (w.heap.size+1) (w.heap.size+1+1) (w.heap.size+1+1+1) _ (decide (ck≤4)) ak an bk bn aad bad am ac bm bc ca cb hN (HH.out.1.below (And.left ‹Below w.heap.size w _∧_›)) (Ex.In.below (And.left ‹Below w.heap.size w _∧_›) _ HH.out.2.1) (Ex.In.below (And.left ‹Below w.heap.size w _∧_›) _ HH.out.2.2) (by simp [go_sem]) (by simp [go_sem]) (by simp [go_sem]) (by simp [go_sem]) (by simp [go_sem]) (by simp [go_sem]) (by simp [go_sem]) (by simp [go_sem]) (by simp [go_sem]) (by simp [go_sem]) (by simp [go_sem])).mono ?_;rintro r w9 ⟨rfl,hb9⟩;have hS9:=keep_below8 ‹Below w.heap.size w _∧_› hb9;clear hb9))
  all_goals
   go_wp2_with fail
   go_ret
   refine ⟨ret_int ?_,And.left ‹Below w.heap.size w _∧_›⟩
   unfold condErr condR
   by_cases h4':ck≤4
   ·rw [if_neg (by simpa using h4'),if_neg (show ¬ (ck<1∨4<ck) by omega)]
   ·rw [if_pos (by simpa using h4'),if_pos (show ck<1∨4<ck by omega)]
 ·have hd:decide (1≤ck)=false:=decide_eq_false hg
  have HG:Hid (¬ 1≤ck):=hg
  clear hg
  go_enter Tryd.func156,Tryd.ntmps156
  go_wp2_with fail
  refine wp_region_held_drew (S:=(fun w'=>Below w.heap.size w w'∧w'.cell? ⟨p,0,none⟩=some (.int .i64 ck)∧w'.cell? ⟨p,1,none⟩=some (.int .i64 ak)∧w'.cell? ⟨p,2,none⟩=some (.int .i64 an)∧w'.cell? ⟨p,3,none⟩=some (.slice aad am ac)∧w'.cell? ⟨p,4,none⟩=some (.int .i64 bk)∧w'.cell? ⟨p,5,none⟩=some (.int .i64 bn)∧w'.cell? ⟨p,6,none⟩=some (.slice bad bm bc))) (by kernel_rfl) ⟨(Below.refl _ _).drew,h0,h1,h2,h3,h4,h5,h6⟩ (fun hHeld=>?_)
  refine tk (i:=0) (n:=2) (v:=?_) ?_ ?_
  rotate_left 1
  ·intro w hSw
   first | (go_simp;done) | (go_simp;with_reducible rfl)
  simp only [ls0,ls1]
  refine tk (i:=1) (n:=3) (v:=?_) ?_ ?_
  rotate_left 1
  ·intro w hSw
   first | (go_simp;done) | (go_simp;with_reducible rfl)
  simp only [ls0,ls1]
  refine tk (i:=2) (n:=4) (v:=?_) ?_ ?_
  rotate_left 1
  ·intro w hSw
   first | (go_simp;done) | (go_simp;with_reducible rfl)
  simp only [ls0,ls1]
  refine tk (i:=3) (n:=5) (v:=?_) ?_ ?_
  rotate_left 1
  ·intro w hSw
   first | (go_simp;done) | (go_simp;with_reducible rfl)
  simp only [ls0,ls1]
  refine take_at (i:=4) (n:=6) (v:=undef) rfl rfl (by kernel_rfl) (by kernel_rfl) (by kernel_rfl) (fun _ _ _ h=>h) (Or.inr ⟨by rfl,rfl⟩) (by assumption) ?_
  simp only [ls0,ls1]
  refine take_at (i:=5) (n:=7) (v:=undef) rfl rfl (by kernel_rfl) (by kernel_rfl) (by kernel_rfl) (fun _ _ _ h=>h) (Or.inr ⟨by rfl,rfl⟩) (by assumption) ?_
  simp only [ls0,ls1]
  refine take_at (i:=6) (n:=8) (v:=undef) rfl rfl (by kernel_rfl) (by kernel_rfl) (by kernel_rfl) (fun _ _ _ h=>h) (Or.inr ⟨by rfl,rfl⟩) (by assumption) ?_
  simp only [ls0,ls1]
  refine tk (i:=7) (n:=9) (v:=?_) ?_ ?_
  rotate_left 1
  ·intro w hSw
   first | (go_simp;done) | (go_simp;with_reducible rfl)
  simp only [ls0,ls1]
  refine tk (i:=9) (n:=11) (v:=?_) ?_ ?_
  rotate_left 1
  ·intro w hSw
   first | (go_simp;done) | (go_simp;with_reducible rfl)
  simp only [ls0,ls1]
  refine tk (i:=10) (n:=12) (v:=?_) ?_ ?_
  rotate_left 1
  ·intro w hSw
   first | (go_simp;done) | (go_simp;with_reducible rfl)
  simp only [ls0,ls1]
  refine tk (i:=12) (n:=14) (v:=?_) ?_ ?_
  rotate_left 1
  ·intro w hSw
   first | (go_simp;done) | (go_simp;with_reducible rfl)
  simp only [ls0,ls1]
  refine tk (i:=13) (n:=15) (v:=?_) ?_ ?_
  rotate_left 1
  ·intro w hSw
   first | (go_simp;done) | (go_simp;with_reducible rfl)
  simp only [ls0,ls1]
  refine wpAnyH_ready (rs:=[8]) (by kernel_rfl) (by simp) ?_
  refine AllReadyH.cons rfl (fun K hK=>?_) AllReadyH.nil
  go_simp
  go_wp2_with (go_at_call 137;refine (needs_any _ _ _).mono ?_;rintro r w1 ⟨rfl,rfl⟩)
  refine hK.out _ _ ?_ (fun hHeld=>?_)
  ·first | assumption | exact keep_alloc8 ‹Below w.heap.size w _∧_› | exact keep_alloc8 (keep_alloc8 ‹Below w.heap.size w _∧_›)
  clear hK K
  refine wpAnyH_ready (rs:=[11]) (by kernel_rfl) (by simp) ?_
  refine AllReadyH.cons rfl (fun K hK=>?_) AllReadyH.nil
  go_simp
  go_wp2_with (go_at_call 140;refine (expr_any _ _ _ _ _ _).mono ?_;rintro r w1 ⟨rfl,rfl⟩)
  refine hK.out _ _ ?_ (fun hHeld=>?_)
  ·first | assumption | exact keep_alloc8 ‹Below w.heap.size w _∧_› | exact keep_alloc8 (keep_alloc8 ‹Below w.heap.size w _∧_›)
  clear hK K
  refine wpAnyH_ready (rs:=[14]) (by kernel_rfl) (by simp) ?_
  refine AllReadyH.cons rfl (fun K hK=>?_) AllReadyH.nil
  go_simp
  go_wp2_with (go_at_call 140;refine (expr_any _ _ _ _ _ _).mono ?_;rintro r w1 ⟨rfl,rfl⟩)
  refine hK.out _ _ ?_ (fun hHeld=>?_)
  ·first | assumption | exact keep_alloc8 ‹Below w.heap.size w _∧_› | exact keep_alloc8 (keep_alloc8 ‹Below w.heap.size w _∧_›)
  clear hK K
  refine wpAnyH_ready (rs:=[15]) (by kernel_rfl) (by simp) ?_
  refine AllReadyH.cons rfl (fun K hK=>?_) AllReadyH.nil
  go_simp
  refine hK.out _ _ ?_ (fun hHeld=>?_)
  ·first | assumption | exact keep_alloc8 ‹Below w.heap.size w _∧_› | exact keep_alloc8 (keep_alloc8 ‹Below w.heap.size w _∧_›)
  clear hK K
  refine wpAnyH_ready (rs:=[16]) (by kernel_rfl) (by simp) ?_
  refine AllReadyH.cons rfl (fun K hK=>?_) AllReadyH.nil
  go_simp
  go_wp2_with (go_at_call 136;refine (cond_looks _ _ w.heap.size (w.heap.size+1) (w.heap.size+1+1) (w.heap.size+1+1+1) _ false ak an bk bn aad bad am ac bm bc ca cb hN (HH.out.1.below (And.left ‹Below w.heap.size w _∧_›)) (Ex.In.below (And.left ‹Below w.heap.size w _∧_›) _ HH.out.2.1) (Ex.In.below (And.left ‹Below w.heap.size w _∧_›) _ HH.out.2.2) (by simp [go_sem]) (by simp [go_sem]) (by simp [go_sem]) (by simp [go_sem]) (by simp [go_sem]) (by simp [go_sem]) (by simp [go_sem]) (by simp [go_sem]) (by simp [go_sem]) (by simp [go_sem]) (by simp [go_sem])).mono ?_;rintro r w9 ⟨rfl,hb9⟩;have hS9:=keep_below8 ‹Below w.heap.size w _∧_› hb9;clear hb9)
  refine hK.out _ _ ?_ (fun hHeld=>?_)
  ·first | assumption | exact keep_alloc8 ‹Below w.heap.size w _∧_› | exact keep_alloc8 (keep_alloc8 ‹Below w.heap.size w _∧_›)
  clear hK K
  refine tk (i:=17) (n:=1) (v:=?_) ?_ ?_
  rotate_left 1
  ·intro w hSw
   first | (go_simp;done) | (go_simp;with_reducible rfl)
  simp only [ls0,ls1]
  refine wpAnyH_done (by kernel_rfl) ?_ _
  all_goals
   go_wp2_with fail
   go_ret
   refine ⟨ret_int ?_,And.left ‹Below w.heap.size w _∧_›⟩
   have hg:=HG.out
   unfold condErr condR
   rw [if_pos rfl,if_pos (by omega)]
def moreS (hv hc hi ho eN:Bool) (ck:Int) (aN bN:Bool) (ly ll:Nat):Bool :=
 (!hv && !eN) || (!hc&&(!decide (ck=0) || !aN || !bN)) || (!hi&&decide (0<ly)) || (!ho&&decide (0<ll))
set_option maxRecDepth 20000 in
set_option maxHeartbeats 4000000 in
theorem hasMore_any (w:World) (sk sn ck ek en ak an bk bn lo mo:Int) (ead aad bad yad lad:Option Addr) (em ec am ac bm bc ly yc ll lc:Nat) (hv hc hi ho:Bool) :
  Calls Tryd.prog 138 #[.agg #[.int .i64 sk,.int .i64 sn,.int .i64 ek,.int .i64 en,.slice ead em ec,.int .i64 ck,.int .i64 ak,.int .i64 an,.slice aad am ac,.int .i64 bk,.int .i64 bn,.slice bad bm bc,.slice yad ly yc,.slice lad ll lc],.agg #[.int .i64 lo,.int .i64 mo,.bool hv,.bool hc,.bool hi,.bool ho]] w
   fun r w'=>r = .returned (.bool (moreS hv hc hi ho (exNone ek en em) ck (exNone ak an am) (exNone bk bn bm) ly ll))∧Below w.heap.size w w':=by
 generalize hE:exNone ek en em=eN
 generalize hA:exNone ak an am=aN
 generalize hB:exNone bk bn bm=bN
 have hW:∃ W,W=(w.alloc (.cells #[.int .i64 sk,.int .i64 sn,.int .i64 ek,.int .i64 en,.slice ead em ec,.int .i64 ck,.int .i64 ak,.int .i64 an,.slice aad am ac,.int .i64 bk,.int .i64 bn,.slice bad bm bc,.slice yad ly yc,.slice lad ll lc] 123)).alloc (.cells #[.int .i64 lo,.int .i64 mo,.bool hv,.bool hc,.bool hi,.bool ho] 203):=⟨_,rfl⟩
 obtain ⟨W,hWe⟩:=hW
 have hBW:Below w.heap.size w W:=by rw [hWe];exact ((Below.refl _ _).alloc (Nat.le_refl _) _).alloc (by simp) _
 have hz:w.heap.size+1<W.heap.size:=by rw [hWe];simp
 have hz':w.heap.size<W.heap.size:=by omega
 have hcell:∀ (i:Nat) (u:Value),#[Value.int .i64 sk,.int .i64 sn,.int .i64 ek,.int .i64 en,.slice ead em ec,.int .i64 ck,.int .i64 ak,.int .i64 an,.slice aad am ac,.int .i64 bk,.int .i64 bn,.slice bad bm bc,.slice yad ly yc,.slice lad ll lc][i]?=some u→W.cell? ⟨w.heap.size,i,none⟩=some u:=by
  intro i u hu
  rw [hWe,World.cell?_alloc_past _ _ _ (by simp),World.cell?_alloc_at _ _ _ _ rfl];exact hu
 have hcel2:∀ (i:Nat) (u:Value),#[Value.int .i64 lo,.int .i64 mo,.bool hv,.bool hc,.bool hi,.bool ho][i]?=some u→W.cell? ⟨w.heap.size+1,i,none⟩=some u:=by
  intro i u hu
  rw [hWe,World.cell?_alloc_at _ _ _ _ (by simp)];exact hu
 have d2:=hcell 2 _ rfl
 have d3:=hcell 3 _ rfl
 have d4:=hcell 4 _ rfl
 have d5:=hcell 5 _ rfl
 have d6:=hcell 6 _ rfl
 have d7:=hcell 7 _ rfl
 have d8:=hcell 8 _ rfl
 have d9:=hcell 9 _ rfl
 have d10:=hcell 10 _ rfl
 have d11:=hcell 11 _ rfl
 have d12:=hcell 12 _ rfl
 have d13:=hcell 13 _ rfl
 have e2:=hcel2 2 _ rfl
 have e3:=hcel2 3 _ rfl
 have e4:=hcel2 4 _ rfl
 have e5:=hcel2 5 _ rfl
 clear hcell hcel2
 have HB:Hid (Below w.heap.size w W):=hBW
 have HW:Hid (Below W.heap.size W W):=Below.refl _ _
 clear hBW
 go_enter Tryd.func138,Tryd.ntmps138
 go_upto_region 1 with fail
 rw [← hWe]
 clear hWe
 go_wp2_with (first
  | (go_at_call_of 152 ek;refine (isNone_any _ _ _ _ _ _).mono ?_;rintro e w' ⟨rfl,hb'⟩;rw [hE];obtain ⟨HW,hcc⟩:=next_world HW hb';clear hb')
  | (go_at_call_of 152 ak;refine (isNone_any _ _ _ _ _ _).mono ?_;rintro e w' ⟨rfl,hb'⟩;rw [hA];obtain ⟨HW,hcc⟩:=next_world HW hb';clear hb')
  | (go_at_call_of 152 bk;refine (isNone_any _ _ _ _ _ _).mono ?_;rintro e w' ⟨rfl,hb'⟩;rw [hB];obtain ⟨HW,hcc⟩:=next_world HW hb';clear hb'))
 all_goals
  go_ret
  refine ⟨ret_bool ?_,below_seq HB.out HW.out⟩
  clear HB HW d2 d3 d4 d5 d6 d7 d8 d9 d10 d11 d12 d13 e2 e3 e4 e5 hE hA hB
  unfold moreS
  grind
def highN (k:Int):Int:=if k=1 then 7 else if k=2∨k=6 then 3 else if k=4∨k=5∨k=7 then 1000 else 0
def lowN (k:Int):Int:=if k=7 then 1 else 0
def stErr (k n:Int) (eN:Bool) (wE ck:Int) (aN bN:Bool) (wA wB:Int) (ly ll:Nat) (d:Int) (lk:Bool):Int :=
 if k<1∨7<k then 6
 else if n<lowN k∨highN k<n then 3
 else if ¬ (k=1∨k=2)∧eN=false then 6
 else if ¬ (k=3∨k=5)∧(ck≠0∨aN=false∨bN=false) then 6
 else if (¬ (3≤k∧k≤6)∧0<ly)∨(k≠3∧0<ll) then 6
 else if (k=1∨k=2)∧wE≠0 then wE
 else if (k=3∨k=5)∧(ck<1∨4<ck) then 6
 else if (k=3∨k=5)∧wA≠0 then wA
 else if (k=3∨k=5)∧wB≠0 then wB
 else if (3≤k∧k≤6)∧6≤d then 2
 else if k=6∧lk=true then 10
 else 0
section
variable (n:Int) (eN:Bool) (wE ck:Int) (aN bN:Bool) (wA wB:Int) (ly ll:Nat) (d:Int) (lk:Bool)
theorem stErr_1:stErr 1 n eN wE ck aN bN wA wB ly ll d lk=if n<0∨7<n then 3 else if ck≠0∨aN=false∨bN=false then 6 else if 0<ly∨0<ll then 6 else wE:=by
 simp [stErr,lowN,highN] <;> grind
theorem stErr_2:stErr 2 n eN wE ck aN bN wA wB ly ll d lk=if n<0∨3<n then 3 else if ck≠0∨aN=false∨bN=false then 6 else if 0<ly∨0<ll then 6 else wE:=by
 simp [stErr,lowN,highN] <;> grind
theorem stErr_3:stErr 3 n eN wE ck aN bN wA wB ly ll d lk=if n<0∨0<n then 3 else if eN=false then 6 else if ck<1∨4<ck then 6 else if wA≠0 then wA else if wB≠0 then wB else if 6≤d then 2 else 0:=by
 simp [stErr,lowN,highN] <;> grind
theorem stErr_4:stErr 4 n eN wE ck aN bN wA wB ly ll d lk=if n<0∨1000<n then 3 else if eN=false then 6 else if ck≠0∨aN=false∨bN=false then 6 else if 0<ll then 6 else if 6≤d then 2 else 0:=by
 simp [stErr,lowN,highN] <;> grind
theorem stErr_5:stErr 5 n eN wE ck aN bN wA wB ly ll d lk=if n<0∨1000<n then 3 else if eN=false then 6 else if 0<ll then 6 else if ck<1∨4<ck then 6 else if wA≠0 then wA else if wB≠0 then wB else if 6≤d then 2 else 0:=by
 simp [stErr,lowN,highN] <;> grind
theorem stErr_6:stErr 6 n eN wE ck aN bN wA wB ly ll d lk=if n<0∨3<n then 3 else if eN=false then 6 else if ck≠0∨aN=false∨bN=false then 6 else if 0<ll then 6 else if 6≤d then 2 else if lk=true then 10 else 0:=by
 simp [stErr,lowN,highN] <;> grind
theorem stErr_7:stErr 7 n eN wE ck aN bN wA wB ly ll d lk=if n<1∨1000<n then 3 else if eN=false then 6 else if ck≠0∨aN=false∨bN=false then 6 else if 0<ly∨0<ll then 6 else 0:=by
 simp [stErr,lowN,highN] <;> grind
end
def Fl.err (f:Fl):Int :=
 match f.s with
 | .mk k n e ck ca cb y l=>stErr k n (exNone e.k e.n e.a.length) (wrongL (e.pre 31) 0) ck (exNone ca.k ca.n ca.a.length) (exNone cb.k cb.n cb.a.length) (wrongL (ca.pre 31) 0) (wrongL (cb.pre 31) 0) y.length l.length f.d (decide (n ∈ f.ls))
end Go.Proofs.YtnkgbkkakokciacDoor.B
