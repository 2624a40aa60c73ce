import Derived.Test.YtnkgbkkakokciacDoorGBSameI
import Derived.Test.YtnkgbkkakokciacDoorGBRunB
import Derived.Test.YtnkgbkkakokciacDoorGBRunD
import Derived.Test.YtnkgbkkakokciacDoorGRB
import Derived.Test.YtnkgbkkakokciacDoorGBStepA
import Derived.Test.YtnkgbkkakokciacDoorGBStmtAll
import Derived.Test.YtnkgbkkakokciacDoorGCW
import Derived.Test.YtnkgbkkakokciacDoorGAny
import Derived.Laws.MakeOwn
import Derived.Test.YtnkgbkkakokciacDoorGWorks
import Derived.Test.YtnkgbkkakokciacDoorGMNewOk
import Derived.Test.YtnkgbkkakokciacDoorGKinds
import Derived.Test.YtnkgbkkakokciacDoorGBTwin
namespace Go.Proofs.YtnkgbkkakokciacDoor.B
theorem ways_one {z:Int} {t:Int} {M:Int→Option Int} (h:M t=none∨M t=some z):putWays z [t] M=(0,setH M t z):=by
 rw [putWays,if_neg (by rintro ⟨a,b⟩;rcases h with h | h <;> contradiction),putWays]
theorem setH_other {M:Int→Option Int} {t j z:Int} (h:j≠t):setH M t z j=M j:=by unfold setH;rw [if_neg h]
theorem setH_keep {M:Int→Option Int} {t z:Int} (h:M t=none∨M t=some z) {j w:Int} (hj:M j=some w):setH M t z j=some w:=by
 by_cases c:j=t
 ·subst c
  rw [hj] at h
  rw [setH_same]
  rcases h with h | h
  ·cases h
  ·exact h.symm
 ·rw [setH_other c,hj]
theorem ways_two {z:Int} {t u:Int} {M:Int→Option Int} (h:M t=none∨M t=some z) (h':M u=none∨M u=some z):putWays z [t,u] M=(0,setH (setH M t z) u z):=by
 rw [putWays,if_neg (by rintro ⟨a,b⟩;rcases h with h | h <;> contradiction)]
 refine ways_one ?_
 by_cases c:u=t
 ·subst c;exact .inr (setH_same _ _ _)
 ·rw [setH_other c];exact h'
structure SR (l:List Io) (k e:Nat) (z:Int) (M M':Int→Option Int):Prop where
 run:stackScan (l.drop k) k M=stackScan (l.drop e) e M'
 le:k≤e
 fin:M' e=some z
 out:∀ j:Int,(e:Int)<j→M' j=M j
 keep:∀ j w:Int,M j=some w→M' j=some w
theorem SR.refl {l:List Io} {k:Nat} {z:Int} {M:Int→Option Int} (h:M k=some z):SR l k k z M M:=⟨rfl,Nat.le_refl _,h,fun _ _=>rfl,fun _ _ h=>h⟩
theorem SR.trans {l:List Io} {k m e:Nat} {z z':Int} {M M1 M2:Int→Option Int} (h:SR l k m z M M1) (h':SR l m e z' M1 M2):SR l k e z' M M2 :=
 ⟨h.run.trans h'.run,Nat.le_trans h.le h'.le,h'.fin,fun j hj=>by have:=h'.le;rw [h'.out j hj,h.out j (by omega)],fun j w hw=>h'.keep j w (h.keep j w hw)⟩
theorem SR.at' {l:List Io} {k e e':Nat} {z z':Int} {M M':Int→Option Int} (h:SR l k e z M M') (q:e=e') (q':z=z'):SR l k e' z' M M':=by subst q q';exact h
theorem step_at {l:List Io} {k:Nat} {x:Io} {z:Int} {M M':Int→Option Int} (h:k<l.length∧l.getD k in0=x) (hM:M k=some z) (h1:takesOf x.op.toNat≤z) (h2:z - takesOf x.op.toNat+putsOf x.op.toNat≤20) (hp:putWays (z - takesOf x.op.toNat+putsOf x.op.toNat) (waysOf k x) M=(0,M')):stackScan (l.drop k) k M=stackScan (l.drop (k+1)) (k+1) M':=by
 have hs:stackStep M k x=(0,M'):=by
  unfold stackStep
  rw [hM]
  simp only
  rw [if_neg (by omega),hp]
 rw [stackScan_at h.1,h.2,hs]
 simp
theorem SR.one {l:List Io} {k:Nat} {x:Io} {z z':Int} {M:Int→Option Int} (h:k<l.length∧l.getD k in0=x) (hM:M k=some z) (hx:x.op≠11∧x.op≠12∧x.op≠14) (h1:takesOf x.op.toNat≤z) (hz:z - takesOf x.op.toNat+putsOf x.op.toNat=z') (h2:z'≤20) (hn:M ((k:Int)+1)=none∨M ((k:Int)+1)=some z'):SR l k (k+1) z' M (setH M ((k:Int)+1) z') where
 run:=step_at h hM h1 (by omega) (by
  rw [hz,show waysOf k x=[(k:Int)+1] by unfold waysOf;rw [if_neg hx.1,if_neg hx.2.1,if_neg hx.2.2]]
  exact ways_one hn)
 le:=by omega
 fin:=setH_same _ _ _
 out j hj:=setH_other (by omega)
 keep j w hw:=setH_keep hn hw
mutual
def Ex.hgt:Ex→Nat
 | .mk k _ a=>max (Ex.hgtAll a) (if k=4 then 3 else 1)
def Ex.hgtAll:List Ex→Nat
 | []=>0
 | e::r=>max e.hgt (1+Ex.hgtAll r)
end
theorem Ex.hgt_le:∀ e:Ex,e.Fit→2*e.hgt≤e.nodes+5
 | .mk k n [],h=>by
  rw [Ex.Fit] at h
  rcases h.1 with ⟨rfl,-⟩ | ⟨rfl,-⟩ | ⟨rfl,-⟩ | ⟨rfl,hl⟩ | ⟨-,hl⟩
  ·simp [Ex.hgt,Ex.hgtAll,Ex.nodes]
  ·simp [Ex.hgt,Ex.hgtAll,Ex.nodes]
  ·simp [Ex.hgt,Ex.hgtAll,Ex.nodes]
  ·simp at hl
  ·simp at hl
 | .mk k n [x],h=>by
  rw [Ex.Fit,Ex.FitAll] at h
  have hx:=Ex.hgt_le x h.2.1
  have:=Ex.nodes_pos x
  rw [Ex.hgt,Ex.hgtAll,Ex.hgtAll,Ex.nodes,Ex.nodesAll,Ex.nodesAll]
  split <;> omega
 | .mk k n [x,y],h=>by
  rw [Ex.Fit,Ex.FitAll,Ex.FitAll] at h
  have hx:=Ex.hgt_le x h.2.1
  have hy:=Ex.hgt_le y h.2.2.1
  have:=Ex.nodes_pos x
  have:=Ex.nodes_pos y
  rw [Ex.hgt,Ex.hgtAll,Ex.hgtAll,Ex.hgtAll,Ex.nodes,Ex.nodesAll,Ex.nodesAll,Ex.nodesAll]
  split <;> omega
 | .mk k n (x::y::w::r),h=>by
  rw [Ex.Fit] at h
  rcases h.1 with ⟨-,-,-,hl⟩ | ⟨-,-,-,hl⟩ | ⟨-,-,-,hl⟩ | ⟨-,hl⟩ | ⟨-,hl⟩ <;> simp at hl
section
variable (l:List Io)
theorem one_calm {p:Nat} {q:Int} {op a b:Int} (h:AtR l p q [⟨op,a,b⟩]) (hc:op≠11∧op≠12∧op≠14):p<l.length∧l.getD p in0=⟨op,a,b⟩:=by
 have:=h.one
 rw [show mvI q ⟨op,a,b⟩=(⟨op,a,b⟩:Io) by unfold mvI;rw [if_neg (by simp only;omega),if_neg hc.2.2]] at this
 exact this
mutual
theorem Ex.sr:∀ (e:Ex) (p:Nat) (q z:Int) (M:Int→Option Int),e.Fit→AtR l p q e.pc→M p=some z→(∀ j:Int,(p:Int)<j→j≤p+e.pc.length→M j=none)→0≤z→z+e.hgt≤20→∃ M',SR l p (p+e.pc.length) (z+1) M M'
 | .mk k n a,p,q,z,M,hf,h,hM,hn,hz,hh=>by
  rw [Ex.Fit] at hf
  obtain ⟨hk,ha⟩:=hf
  rw [Ex.pc] at h hn ⊢
  rw [Ex.hgt] at hh
  rcases hk with ⟨rfl,-⟩ | ⟨rfl,-⟩ | ⟨rfl,-⟩ | ⟨rfl,hl⟩ | ⟨hk,hl⟩
  ·simp only [true_or,if_true] at h hn ⊢
   exact ⟨_,(SR.one (one_calm l h (by decide)) hM (by simp) (by simpa [takesOf] using hz) (z':=z+1) (by simp [takesOf,putsOf]) (by simp at hh;omega) (.inl (hn _ (by omega) (by simp)))).at' rfl rfl⟩
  ·simp only [or_true,if_true] at h hn ⊢
   exact ⟨_,(SR.one (one_calm l h (by decide)) hM (by simp) (by simpa [takesOf] using hz) (z':=z+1) (by simp [takesOf,putsOf]) (by simp at hh;omega) (.inl (hn _ (by omega) (by simp)))).at' rfl rfl⟩
  ·simp only [show ¬ ((3:Int)=1∨(3:Int)=2) by decide,if_true,if_false] at h hn ⊢
   exact ⟨_,(SR.one (one_calm l h (by decide)) hM (by simp) (by simpa [takesOf] using hz) (z':=z+1) (by simp [takesOf,putsOf]) (by simp at hh;omega) (.inl (hn _ (by omega) (by simp)))).at' rfl rfl⟩
  ·simp only [show ¬ ((4:Int)=1∨(4:Int)=2) by decide,show ¬ ((4:Int)=3) by decide,if_true,if_false,List.length_append,List.length_cons,List.length_nil] at h hn hh ⊢
   obtain ⟨h1,h2⟩:=h.app
   obtain ⟨h3,h4⟩:=AtR.app (C:=[⟨1,0,0⟩]) h2
   obtain ⟨h5,h6⟩:=AtR.app (C:=[⟨1,1,0⟩]) h4
   obtain ⟨h7,h8⟩:=AtR.app (C:=[⟨5,0,0⟩]) h6
   obtain ⟨M1,s1⟩:=Ex.srAll a p q z M ha h1 hM (fun j a b=>hn j a (by omega)) hz (by omega)
   rw [hl] at s1
   generalize (Ex.pcAll a).length=L at *
   have t1:=SR.one (z':=z+2) (one_calm l h3 (by decide)) s1.fin (by simp) (by simp [takesOf];omega) (by simp [takesOf,putsOf];omega) (by omega) (.inl (by rw [s1.out _ (by omega)];exact hn _ (by omega) (by omega)))
   have t2:=SR.one (z':=z+3) (one_calm l h5 (by decide)) t1.fin (by simp) (by simp [takesOf];omega) (by simp [takesOf,putsOf];omega) (by omega) (.inl (by rw [t1.out _ (by simp;omega),s1.out _ (by simp;omega)];exact hn _ (by simp;omega) (by simp;omega)))
   have t3:=SR.one (z':=z+2) (one_calm l h7 (by decide)) t2.fin (by simp) (by simp [takesOf];omega) (by simp [takesOf,putsOf];omega) (by omega) (.inl (by rw [t2.out _ (by simp;omega),t1.out _ (by simp;omega),s1.out _ (by simp;omega)];exact hn _ (by simp;omega) (by simp;omega)))
   have t4:=SR.one (z':=z+1) (one_calm l h8 (by decide)) t3.fin (by simp) (by simp [takesOf];omega) (by simp [takesOf,putsOf]) (by omega) (.inl (by rw [t3.out _ (by simp;omega),t2.out _ (by simp;omega),t1.out _ (by simp;omega),s1.out _ (by simp;omega)];exact hn _ (by simp;omega) (by simp;omega)))
   exact ⟨_,(s1.trans (t1.trans (t2.trans (t3.trans t4)))).at' (by simp;omega) rfl⟩
  ·have hk':¬ (k=1∨k=2)∧¬ k=3∧¬ k=4:=by omega
   simp only [hk'.1,hk'.2.1,hk'.2.2,if_false,List.length_append,List.length_cons,List.length_nil] at h hn hh ⊢
   obtain ⟨h1,h2⟩:=h.app
   obtain ⟨M1,s1⟩:=Ex.srAll a p q z M ha h1 hM (fun j a b=>hn j a (by omega)) hz (by omega)
   rw [hl] at s1
   generalize (Ex.pcAll a).length=L at *
   have hto:takesOf (k - 1).toNat=2∧putsOf (k - 1).toNat=1:=by rcases hk with rfl | rfl | rfl <;> simp [takesOf,putsOf]
   have t1:=SR.one (z':=z+1) (one_calm l h2 (by omega)) s1.fin (by simp only;omega) (by simp only [hto.1];omega) (by simp only [hto.1,hto.2];omega) (by omega) (.inl (by rw [s1.out _ (by omega)];exact hn _ (by omega) (by omega)))
   exact ⟨_,(s1.trans t1).at' (by omega) rfl⟩
theorem Ex.srAll:∀ (a:List Ex) (p:Nat) (q z:Int) (M:Int→Option Int),Ex.FitAll a→AtR l p q (Ex.pcAll a)→M p=some z→(∀ j:Int,(p:Int)<j→j≤p+(Ex.pcAll a).length→M j=none)→0≤z→z+Ex.hgtAll a≤20→∃ M',SR l p (p+(Ex.pcAll a).length) (z+a.length) M M'
 | [],p,q,z,M,_,_,hM,_,_,_=>⟨M,(SR.refl hM).at' rfl (by simp)⟩
 | e::r,p,q,z,M,hf,h,hM,hn,hz,hh=>by
  rw [Ex.FitAll] at hf
  rw [Ex.pcAll] at h hn ⊢
  rw [Ex.hgtAll] at hh
  rw [List.length_append] at hn ⊢
  obtain ⟨h1,h2⟩:=h.app
  obtain ⟨M1,s1⟩:=Ex.sr e p q z M hf.1 h1 hM (fun j a b=>hn j a (by omega)) hz (by omega)
  obtain ⟨M2,s2⟩:=Ex.srAll r (p+e.pc.length) q (z+1) M1 hf.2 h2 s1.fin (fun j a b=>by rw [s1.out j a];exact hn j (by omega) (by omega)) (by omega) (by omega)
  exact ⟨M2,(s1.trans s2).at' (by omega) (by simp;omega)⟩
end
theorem cd_sr (ck:Int) (ca cb:Ex) (ha:ca.Fit∧ca.nodes≤30) (hb:cb.Fit∧cb.nodes≤30) (p:Nat) (q:Int) (M:Int→Option Int) (h:AtR l p q (cdP ck ca cb)) (hM:M p=some 0) (hn:∀ j:Int,(p:Int)<j→j≤p+(cdP ck ca cb).length→M j=none):∃ M',SR l p (p+(cdP ck ca cb).length) 1 M M':=by
 have g1:=Ex.hgt_le ca ha.1
 have g2:=Ex.hgt_le cb hb.1
 unfold cdP at h hn ⊢
 simp only [List.length_append,List.length_cons,List.length_nil] at hn ⊢
 obtain ⟨h1,h4⟩:=h.app
 obtain ⟨h1,h3⟩:=h1.app
 obtain ⟨h1,h2⟩:=h1.app
 simp only [List.length_append,List.length_cons,List.length_nil] at h3 h4
 obtain ⟨M1,s1⟩:=Ex.sr l ca p q 0 M ha.1 h1 hM (fun j a b=>hn j a (by omega)) (by omega) (by omega)
 obtain ⟨M2,s2⟩:=Ex.sr l cb (p+ca.pc.length) q (0+1) M1 hb.1 h2 s1.fin (fun j a b=>by rw [s1.out j a];exact hn j (by omega) (by omega)) (by omega) (by omega)
 have s12:=(s1.trans s2).at' (e':=p+(ca.pc.length+cb.pc.length)) (by omega) rfl
 generalize ca.pc.length+cb.pc.length=L at *
 have hto:takesOf (if ck=2∨ck=3 then (8:Int) else 7).toNat=2∧putsOf (if ck=2∨ck=3 then (8:Int) else 7).toNat=1:=by split <;> simp [takesOf,putsOf]
 have t1:=SR.one (z':=1) (one_calm l h3 (by split <;> decide)) s12.fin (by simp only;split <;> decide) (by simp only [hto.1];omega) (by simp only [hto.1,hto.2];omega) (by omega) (.inl (by rw [s12.out _ (by omega)];exact hn _ (by omega) (by omega)))
 have s3:=s12.trans t1
 by_cases h3k:3≤ck
 ·rw [if_pos h3k] at h4 hn ⊢
  simp only [List.length_cons,List.length_nil] at hn ⊢
  obtain ⟨h5,h6⟩:=AtR.app (C:=[⟨1,0,0⟩]) h4
  have t2:=SR.one (z':=2) (one_calm l h5 (by decide)) (s3.at' (e':=p+(L+(0+1))) (by omega) rfl).fin (by simp) (by simp [takesOf]) (by simp [takesOf,putsOf]) (by omega) (.inl (by rw [s3.out _ (by omega)];exact hn _ (by omega) (by omega)))
  have t3:=SR.one (z':=1) (one_calm l h6 (by decide)) t2.fin (by simp) (by simp [takesOf]) (by simp [takesOf,putsOf]) (by omega) (.inl (by rw [t2.out _ (by simp;omega),s3.out _ (by simp;omega)];exact hn _ (by simp;omega) (by simp;omega)))
  exact ⟨_,(((s3.at' (e':=p+(L+(0+1))) (by omega) rfl).trans (t2.trans t3))).at' (by simp;omega) rfl⟩
 ·rw [if_neg h3k] at hn ⊢
  exact ⟨_,s3.at' (by simp;omega) rfl⟩
end
structure Pre (M:Int→Option Int) (p e:Nat):Prop where
 start:M p=some 0
 inner:∀ j:Int,(p:Int)<j→j<e→M j=none
 fin:M e=none∨M e=some 0
theorem Pre.upto {M:Int→Option Int} {p e:Nat} (h:Pre M p e) {j:Int} (h1:(p:Int)≤j) (h2:j≤e):M j=none∨M j=some 0:=by
 by_cases c:j=p
 ·subst c;exact .inr h.start
 by_cases c2:j=e
 ·subst c2;exact h.fin
 ·exact .inl (h.inner j (by omega) (by omega))
section
variable (l:List Io)
theorem mk12 {p K:Nat} {T:Int} {M M1:Int→Option Int} (s:SR l p K 1 M M1) (hx:K<l.length∧l.getD K in0=⟨12,T,0⟩) (hT:M1 T=none∨M1 T=some 0) (hK:M1 ((K:Int)+1)=none∨M1 ((K:Int)+1)=some 0) :
  ∃ M2,stackScan (l.drop p) p M=stackScan (l.drop (K+1)) (K+1) M2∧M2 ((K:Int)+1)=some 0∧M2 T=some 0∧(∀ j:Int,(K:Int)+1<j→j≠T→M2 j=M j)∧(∀ j w:Int,M j=some w→M2 j=some w):=by
 refine ⟨setH (setH M1 T 0) ((K:Int)+1) 0,s.run.trans (step_at hx s.fin (by simp [takesOf]) (by simp [takesOf,putsOf]) ?_),setH_same _ _ _,?_,fun j h1 h2=>?_,fun j w hw=>?_⟩
 ·rw [show waysOf K ⟨12,T,0⟩=[T,(K:Int)+1] by simp [waysOf]]
  simpa [takesOf,putsOf] using ways_two hT hK
 ·by_cases c:T=(K:Int)+1
  ·rw [← c];exact setH_same _ _ _
  ·rw [setH_other c,setH_same]
 ·rw [setH_other (by omega),setH_other h2,s.out j (by omega)]
 ·refine setH_keep ?_ (setH_keep hT (s.keep j w hw))
  by_cases c:(K:Int)+1=T
  ·rw [c,setH_same];exact .inr rfl
  ·rw [setH_other c];exact hK
theorem step11 {K:Nat} {T:Int} {M:Int→Option Int} (hM:M K=some 0) (hx:K<l.length∧l.getD K in0=⟨11,T,0⟩) (hT:M T=none∨M T=some 0):stackScan (l.drop K) K M=stackScan (l.drop (K+1)) (K+1) (setH M T 0):=by
 refine step_at hx hM (by simp [takesOf]) (by simp [takesOf,putsOf]) ?_
 rw [show waysOf K ⟨11,T,0⟩=[T] by simp [waysOf]]
 simpa [takesOf,putsOf] using ways_one hT
theorem SR.four {K:Nat} {a B:Int} {M:Int→Option Int} (hM:M K=some 0) (hx:K<l.length∧l.getD K in0=⟨14,a,B⟩) (hB:M B=some 0) (hBK:B≤K) (hK:M ((K:Int)+1)=none∨M ((K:Int)+1)=some 0):SR l K (K+1) 0 M (setH (setH M B 0) ((K:Int)+1) 0) where
 run:=by
  refine step_at hx hM (by simp [takesOf]) (by simp [takesOf,putsOf]) ?_
  rw [show waysOf K ⟨14,a,B⟩=[B,(K:Int)+1] by simp [waysOf]]
  simpa [takesOf,putsOf] using ways_two (.inr hB) hK
 le:=by omega
 fin:=setH_same _ _ _
 out j hj:=by rw [setH_other (by omega),setH_other (by omega)]
 keep j w hw:=by
  refine setH_keep ?_ (setH_keep (.inr hB) hw)
  rw [setH_other (by omega)]
  exact hK
mutual
theorem St.sr:∀ (x:St) (ar:List (Int × Int)) (i:Int) (p:Nat) (M:Int→Option Int),x.Fit ar→AtR l p (p:Int) (x.pc i)→Pre M p (p+(x.pc i).length)→∃ M',SR l p (p+(x.pc i).length) 0 M M'
 | .mk k n e ck ca cb y lb,ar,i,p,M,hf,h,hP=>by
  rw [St.Fit] at hf
  obtain ⟨hk,-,h3,h4,-,-,-,-,hy,hl⟩:=hf
  rw [St.pc] at h hP ⊢
  have hk':k=1∨k=2∨k=3∨k=4∨k=5∨k=6∨k=7:=by omega
  rcases hk' with rfl | rfl | rfl | rfl | rfl | rfl | rfl
  ·simp only [if_true,List.length_append,List.length_cons,List.length_nil] at h hP ⊢
   obtain ⟨h1,h2⟩:=h.app
   have g:=Ex.hgt_le e (h3 (.inl rfl)).1
   have gn:=(h3 (.inl rfl)).2
   obtain ⟨M1,s1⟩:=Ex.sr l e p p 0 M (h3 (.inl rfl)).1 h1 hP.start (fun j a b=>hP.inner j a (by omega)) (by omega) (by omega)
   have t1:=SR.one (z':=0) (one_calm l h2 (by decide)) s1.fin (by simp) (by simp [takesOf]) (by simp [takesOf,putsOf]) (by omega) (by rw [s1.out _ (by omega)];exact hP.upto (by omega) (by omega))
   exact ⟨_,(s1.trans t1).at' (by omega) rfl⟩
  ·simp only [show ¬ ((2:Int)=1) by decide,if_true,if_false,List.length_append,List.length_cons,List.length_nil] at h hP ⊢
   obtain ⟨h1,h2⟩:=h.app
   have g:=Ex.hgt_le e (h3 (.inr rfl)).1
   have gn:=(h3 (.inr rfl)).2
   obtain ⟨M1,s1⟩:=Ex.sr l e p p 0 M (h3 (.inr rfl)).1 h1 hP.start (fun j a b=>hP.inner j a (by omega)) (by omega) (by omega)
   have t1:=SR.one (z':=0) (one_calm l h2 (by decide)) s1.fin (by simp) (by simp [takesOf]) (by simp [takesOf,putsOf]) (by omega) (by rw [s1.out _ (by omega)];exact hP.upto (by omega) (by omega))
   exact ⟨_,(s1.trans t1).at' (by omega) rfl⟩
  ·simp only [show ¬ ((3:Int)=1) by decide,show ¬ ((3:Int)=2) by decide,if_true,if_false] at h hP ⊢
   obtain ⟨-,ha,hb⟩:=h4 (.inl rfl)
   by_cases hl0:lb.length=0
   ·rw [if_pos hl0] at h hP ⊢
    unfold ifP at h hP ⊢
    obtain ⟨h12,hA⟩:=AtR.jn h
    obtain ⟨h1,h2⟩:=h12.app
    simp only [jn_len,List.length_append,List.length_cons,List.length_nil] at hP hA ⊢
    obtain ⟨M1,s1⟩:=cd_sr l ck ca cb ha hb p p M h1 hP.start (fun j a b=>hP.inner j a (by omega))
    generalize (cdP ck ca cb).length=C at *
    have k12:=h2.one
    rw [show mvI (p:Int) ⟨12,(C:Int)+1+(St.pcAll y i).length,0⟩=(⟨12,((p+(C+(0+1)+(St.pcAll y i).length):Nat):Int),0⟩:Io) by simp [mvI];omega] at k12
    obtain ⟨M2,r2,a2,b2,o2,k2⟩:=mk12 l s1 k12 (by rw [s1.out _ (by omega)];exact hP.fin) (by rw [s1.out _ (by omega)];exact hP.upto (by omega) (by omega))
    obtain ⟨M3,s3⟩:=St.srAll y _ i (p+(C+(0+1))) M2 hy hA ⟨by rw [show ((p+(C+(0+1)):Nat):Int)=((p+C:Nat):Int)+1 by omega];exact a2,fun j a b=>by rw [o2 j (by omega) (by omega)];exact hP.inner j (by omega) (by omega),.inr (by rw [Nat.add_assoc];exact b2)⟩
    rw [Nat.add_assoc] at s3
    exact ⟨M3,r2.trans s3.run,by omega,s3.fin,fun j hj=>by rw [s3.out j hj,o2 j (by omega) (by omega)],fun j w hw=>s3.keep j w (k2 j w hw)⟩
   ·rw [if_neg hl0] at h hP ⊢
    unfold elP at h hP ⊢
    obtain ⟨h123,hB⟩:=AtR.jn h
    obtain ⟨h12,h11⟩:=h123.app
    obtain ⟨h12,hA⟩:=AtR.jn h12
    obtain ⟨h1,h2⟩:=h12.app
    simp only [jn_len,List.length_append,List.length_cons,List.length_nil] at hP hA hB h11 ⊢
    obtain ⟨M1,s1⟩:=cd_sr l ck ca cb ha hb p p M h1 hP.start (fun j a b=>hP.inner j a (by omega))
    generalize (cdP ck ca cb).length=C at *
    have k12:=h2.one
    rw [show mvI (p:Int) ⟨12,(C:Int)+1+(St.pcAll y i).length+1,0⟩=(⟨12,((p+(C+(0+1)+(St.pcAll y i).length+(0+1)):Nat):Int),0⟩:Io) by simp [mvI];omega] at k12
    obtain ⟨M2,r2,a2,b2,o2,k2⟩:=mk12 l s1 k12 (by rw [s1.out _ (by omega)];exact hP.upto (by omega) (by omega)) (by rw [s1.out _ (by omega)];exact hP.upto (by omega) (by omega))
    have P3:Pre M2 (p+(C+(0+1))) (p+(C+(0+1))+(St.pcAll y i).length):=by
     refine ⟨by rw [show ((p+(C+(0+1)):Nat):Int)=((p+C:Nat):Int)+1 by omega];exact a2,fun j a b=>by rw [o2 j (by omega) (by omega)];exact hP.inner j (by omega) (by omega),?_⟩
     by_cases c:(St.pcAll y i).length=0
     ·right
      rw [c,show ((p+(C+(0+1))+0:Nat):Int)=((p+C:Nat):Int)+1 by omega]
      exact a2
     ·left
      rw [o2 _ (by omega) (by omega)]
      exact hP.inner _ (by omega) (by omega)
    obtain ⟨M3,s3⟩:=St.srAll y _ i (p+(C+(0+1))) M2 hy hA P3
    have k11:=h11.one
    rw [show ∀ z:Int,mvI (p:Int) ⟨11,z,0⟩=(⟨11,z+p,0⟩:Io) from fun z=>by simp [mvI]] at k11
    have f3:=s3.fin
    rw [Nat.add_assoc] at f3
    have hT:M3 (((C+(0+1)+(St.pcAll y i).length:Nat):Int)+1+(St.pcAll lb i).length+p)=none∨M3 (((C+(0+1)+(St.pcAll y i).length:Nat):Int)+1+(St.pcAll lb i).length+p)=some 0:=by
     rw [s3.out _ (by omega)]
     by_cases c:(St.pcAll lb i).length=0
     ·right
      rw [← b2]
      congr 1
      omega
     ·rw [o2 _ (by omega) (by omega)]
      exact hP.upto (by omega) (by omega)
    have r4:=step11 l f3 k11 hT
    have P5:Pre (setH M3 (((C+(0+1)+(St.pcAll y i).length:Nat):Int)+1+(St.pcAll lb i).length+p) 0) (p+(C+(0+1)+(St.pcAll y i).length+(0+1))) (p+(C+(0+1)+(St.pcAll y i).length+(0+1))+(St.pcAll lb i).length):=by
     refine ⟨setH_keep hT (by rw [s3.out _ (by omega)];exact b2),fun j a b=>?_,.inr ?_⟩
     ·rw [setH_other (by omega),s3.out _ (by omega),o2 _ (by omega) (by omega)]
      exact hP.inner _ (by omega) (by omega)
     ·rw [show ((p+(C+(0+1)+(St.pcAll y i).length+(0+1))+(St.pcAll lb i).length:Nat):Int)=((C+(0+1)+(St.pcAll y i).length:Nat):Int)+1+(St.pcAll lb i).length+p by omega]
      exact setH_same _ _ _
    obtain ⟨M5,s5⟩:=St.srAll lb _ i (p+(C+(0+1)+(St.pcAll y i).length+(0+1))) _ hl hB P5
    have s5:=s5.at' (e':=p+(C+(0+1)+(St.pcAll y i).length+(0+1)+(St.pcAll lb i).length)) (by omega) rfl
    have r3:=s3.run
    rw [Nat.add_assoc] at r3
    refine ⟨M5,r2.trans (r3.trans (r4.trans s5.run)),by omega,s5.fin,fun j hj=>?_,fun j w hw=>s5.keep j w (setH_keep hT (s3.keep j w (k2 j w hw)))⟩
    rw [s5.out j hj,setH_other (by omega),s3.out j (by omega),o2 j (by omega) (by omega)]
  ·simp only [show ¬ ((4:Int)=1) by decide,show ¬ ((4:Int)=2) by decide,show ¬ ((4:Int)=3) by decide,if_true,if_false] at h hP ⊢
   by_cases hn:n=0
   ·subst hn
    simp only [if_true] at hP ⊢
    exact ⟨M,SR.refl hP.start⟩
   ·rw [if_neg hn] at h hP ⊢
    unfold lpP at h hP ⊢
    obtain ⟨hJ,h14⟩:=h.app
    obtain ⟨h13,hA⟩:=AtR.jn hJ
    simp only [jn_len,List.length_append,List.length_cons,List.length_nil] at hP hA h14 ⊢
    have s1:=SR.one (z':=0) (one_calm l h13 (by decide)) hP.start (by simp) (by simp [takesOf]) (by simp [takesOf,putsOf]) (by omega) (.inl (hP.inner _ (by omega) (by omega)))
    obtain ⟨M2,s2⟩:=St.srAll y _ (i+1) (p+(0+1)) _ hy hA ⟨s1.fin,fun j a b=>by rw [s1.out j a];exact hP.inner j (by omega) (by omega),by
     by_cases c:(St.pcAll y (i+1)).length=0
     ·rw [c];exact .inr s1.fin
     ·rw [s1.out _ (by omega)];exact .inl (hP.inner _ (by omega) (by omega))⟩
    have k14:=h14.one
    rw [show ∀ z:Int,mvI (p:Int) ⟨14,z,1⟩=(⟨14,z,1+p⟩:Io) from fun z=>by simp [mvI]] at k14
    have s12:=(s1.trans s2).at' (e':=p+(0+1+(St.pcAll y (i+1)).length)) (by omega) rfl
    have t3:=SR.four l s12.fin k14 (s2.keep _ _ (by rw [show 1+(p:Int)=((p+(0+1):Nat):Int) by omega];exact s1.fin)) (by omega) (by rw [s12.out _ (by omega)];exact hP.upto (by omega) (by omega))
    exact ⟨_,(s12.trans t3).at' (by omega) rfl⟩
  ·simp only [show ¬ ((5:Int)=1) by decide,show ¬ ((5:Int)=2) by decide,show ¬ ((5:Int)=3) by decide,show ¬ ((5:Int)=4) by decide,if_true,if_false] at h hP ⊢
   obtain ⟨-,ha,hb⟩:=h4 (.inr rfl)
   by_cases hn:n=0
   ·subst hn
    simp only [if_true] at hP ⊢
    exact ⟨M,SR.refl hP.start⟩
   ·rw [if_neg hn] at h hP ⊢
    unfold lpP at h hP ⊢
    obtain ⟨hJ,h14⟩:=h.app
    obtain ⟨h13,hW⟩:=AtR.jn hJ
    unfold whP at hW h14 hP ⊢
    obtain ⟨hW,hE⟩:=hW.app
    obtain ⟨h11,h15⟩:=AtR.app (C:=[(⟨11,_,0⟩:Io)]) hE
    obtain ⟨h12,hA⟩:=AtR.jn hW
    obtain ⟨h1,h2⟩:=h12.app
    simp only [jn_len,List.length_append,List.length_cons,List.length_nil] at hP hA h11 h15 h14 h2 ⊢
    have s1:=SR.one (z':=0) (one_calm l h13 (by decide)) hP.start (by simp) (by simp [takesOf]) (by simp [takesOf,putsOf]) (by omega) (.inl (hP.inner _ (by omega) (by omega)))
    obtain ⟨M2,s2⟩:=cd_sr l ck ca cb ha hb (p+(0+1)) _ _ h1 s1.fin (fun j a b=>by rw [s1.out j a];exact hP.inner j (by omega) (by omega))
    generalize (cdP ck ca cb).length=C at *
    generalize hAA:(St.pcAll y (i+1)).length=A at *
    have k12:=h2.one
    rw [show ∀ z q:Int,mvI q ⟨12,z,0⟩=(⟨12,z+q,0⟩:Io) from fun z q=>by simp [mvI]] at k12
    have k11:=h11.one
    rw [show ∀ z q:Int,mvI q ⟨11,z,0⟩=(⟨11,z+q,0⟩:Io) from fun z q=>by simp [mvI]] at k11
    have k15:=one_calm l h15 (by decide)
    have k14:=h14.one
    rw [show ∀ z:Int,mvI (p:Int) ⟨14,z,1⟩=(⟨14,z,1+p⟩:Io) from fun z=>by simp [mvI]] at k14
    have s12:=s1.trans s2
    have in12:∀ j:Int,((p+(0+1)+C:Nat):Int)<j→j<((p+(0+1)+C:Nat):Int)+4+A→M2 j=none:=fun j a b=>by rw [s12.out j a];exact hP.inner j (by omega) (by omega)
    obtain ⟨M3,r3,a3,b3,o3,k3⟩:=mk12 l s2 k12 (.inl (in12 _ (by omega) (by omega))) (.inl (in12 _ (by omega) (by omega)))
    have k13:M3 ((p:Int)+1)=some 0:=k3 _ _ (setH_same _ _ _)
    have r3:=s1.run.trans r3
    have k3:∀ j w:Int,M j=some w→M3 j=some w:=fun j w hw=>k3 j w (s1.keep j w hw)
    have o3:∀ j:Int,((p+(0+1)+C:Nat):Int)+1<j→j≠_→M3 j=M j:=fun j a b=>by rw [o3 j a b,s1.out j (by omega)]
    have P4:Pre M3 (p+(0+1)+(C+(0+1))) (p+(0+1)+(C+(0+1))+A):=by
     refine ⟨by rw [show ((p+(0+1)+(C+(0+1)):Nat):Int)=((p+(0+1)+C:Nat):Int)+1 by omega];exact a3,fun j a b=>by rw [o3 j (by omega) (by omega)];exact hP.inner j (by omega) (by omega),?_⟩
     by_cases c:A=0
     ·right
      rw [c,show ((p+(0+1)+(C+(0+1))+0:Nat):Int)=((p+(0+1)+C:Nat):Int)+1 by omega]
      exact a3
     ·left
      rw [o3 _ (by omega) (by omega)]
      exact hP.inner _ (by omega) (by omega)
    obtain ⟨M4,s4⟩:=St.srAll y _ (i+1) (p+(0+1)+(C+(0+1))) M3 hy hA (by rw [hAA];exact P4)
    rw [hAA] at s4
    have f4:=s4.fin
    rw [Nat.add_assoc (p+(0+1))] at f4
    have hT:M4 (((C+(0+1)+A:Nat):Int)+2+((p+(0+1):Nat):Int))=none:=by
     rw [s4.out _ (by omega),o3 _ (by omega) (by omega)]
     exact hP.inner _ (by omega) (by omega)
    have r5:=step11 l f4 k11 (.inl hT)
    have g15:setH M4 (((C+(0+1)+A:Nat):Int)+2+((p+(0+1):Nat):Int)) 0 ((p+(0+1)+(C+(0+1)+A)+(0+1):Nat):Int)=some 0:=by
     refine setH_keep (.inl hT) ?_
     rw [s4.out _ (by omega),← b3]
     congr 1
     omega
    have s6:=SR.one (z':=0) k15 g15 (by simp) (by simp [takesOf]) (by simp [takesOf,putsOf]) (by omega) (.inr (by rw [show ((p+(0+1)+(C+(0+1)+A)+(0+1):Nat):Int)+1=((C+(0+1)+A:Nat):Int)+2+((p+(0+1):Nat):Int) by omega];exact setH_same _ _ _))
    have s6':=s6.at' (e':=p+(0+1+(C+(0+1)+A+(0+1+1)))) (by omega) rfl
    have keep1:M4 (1+(p:Int))=some 0:=s4.keep _ _ (by
     rw [show 1+(p:Int)=(p:Int)+1 by omega]
     exact k13)
    have t7:=SR.four l s6'.fin k14 (s6'.keep _ _ (setH_keep (.inl hT) keep1)) (by omega) (by
     rw [s6'.out _ (by omega),setH_other (by omega),s4.out _ (by omega),o3 _ (by omega) (by omega)]
     exact hP.upto (by omega) (by omega))
    have r4:=s4.run
    rw [Nat.add_assoc (p+(0+1))] at r4
    refine ⟨_,(r3.trans (r4.trans (r5.trans (s6'.run.trans t7.run)))),by omega,t7.fin,fun j hj=>?_,fun j w hw=>t7.keep j w (s6'.keep j w (setH_keep (.inl hT) (s4.keep j w (k3 j w hw))))⟩
    rw [t7.out j (by omega),s6'.out j (by omega),setH_other (by omega),s4.out j (by omega),o3 j (by omega) (by omega)]
  ·simp only [show ¬ ((6:Int)=1) by decide,show ¬ ((6:Int)=2) by decide,show ¬ ((6:Int)=3) by decide,show ¬ ((6:Int)=4) by decide,show ¬ ((6:Int)=5) by decide,if_true,if_false] at h hP ⊢
   obtain ⟨hJ,h17⟩:=h.app
   obtain ⟨h16,hA⟩:=AtR.jn hJ
   simp only [jn_len,List.length_append,List.length_cons,List.length_nil] at hP hA h17 ⊢
   have s1:=SR.one (z':=0) (one_calm l h16 (by decide)) hP.start (by simp) (by simp [takesOf]) (by simp [takesOf,putsOf]) (by omega) (.inl (hP.inner _ (by omega) (by omega)))
   obtain ⟨M2,s2⟩:=St.srAll y _ i (p+(0+1)) _ hy hA ⟨s1.fin,fun j a b=>by rw [s1.out j a];exact hP.inner j (by omega) (by omega),by
    by_cases c:(St.pcAll y i).length=0
    ·rw [c];exact .inr s1.fin
    ·rw [s1.out _ (by omega)];exact .inl (hP.inner _ (by omega) (by omega))⟩
   have s12:=(s1.trans s2).at' (e':=p+(0+1+(St.pcAll y i).length)) (by omega) rfl
   have t3:=SR.one (z':=0) (one_calm l h17 (by decide)) s12.fin (by simp) (by simp [takesOf]) (by simp [takesOf,putsOf]) (by omega) (by rw [s12.out _ (by omega)];exact hP.upto (by omega) (by omega))
   exact ⟨_,(s12.trans t3).at' (by omega) rfl⟩
  ·simp only [show ¬ ((7:Int)=1) by decide,show ¬ ((7:Int)=2) by decide,show ¬ ((7:Int)=3) by decide,show ¬ ((7:Int)=4) by decide,show ¬ ((7:Int)=5) by decide,show ¬ ((7:Int)=6) by decide,if_false,List.length_cons,List.length_nil] at h hP ⊢
   exact ⟨_,(SR.one (z':=0) (one_calm l h (by decide)) hP.start (by simp) (by simp [takesOf]) (by simp [takesOf,putsOf]) (by omega) (hP.upto (by omega) (by omega))).at' (by omega) rfl⟩
theorem St.srAll:∀ (a:List St) (ar:List (Int × Int)) (i:Int) (p:Nat) (M:Int→Option Int),St.FitAll a ar→AtR l p (p:Int) (St.pcAll a i)→Pre M p (p+(St.pcAll a i).length)→∃ M',SR l p (p+(St.pcAll a i).length) 0 M M'
 | [],_,_,p,M,_,_,hP=>⟨M,SR.refl hP.start⟩
 | x::r,ar,i,p,M,hf,h,hP=>by
  rw [St.FitAll] at hf
  rw [St.pcAll] at h hP ⊢
  obtain ⟨h1,h2⟩:=AtR.jn h
  rw [jn_len] at hP ⊢
  obtain ⟨M1,s1⟩:=St.sr x ar i p M hf.1 h1 ⟨hP.start,fun j a b=>hP.inner j a (by omega),hP.upto (by omega) (by omega)⟩
  obtain ⟨M2,s2⟩:=St.srAll r ar i (p+(x.pc i).length) M1 hf.2 h2 ⟨s1.fin,fun j a b=>by rw [s1.out j a];exact hP.inner j (by omega) (by omega),by
   by_cases c:(St.pcAll r i).length=0
   ·rw [c];exact .inr s1.fin
   ·rw [s1.out _ (by omega)];exact hP.upto (by omega) (by omega)⟩
  exact ⟨M2,(s1.trans s2).at' (by omega) rfl⟩
end
end
theorem image_right (a:List St) (h:St.FitAll a []) (hl:St.LayAll a) (hn:(St.pcAll a 0).length≤2000):checkI (St.pcAll a 0)=(0,0):=by
 obtain ⟨ws,n1,n2⟩:=image_nest a h
 obtain ⟨M,s⟩:=St.srAll (St.pcAll a 0) a [] 0 0 M0 h (AtR.self _) ⟨setH_same _ _ _,fun j a b=>setH_other (by omega),by
  rw [Nat.zero_add]
  by_cases c:(St.pcAll a 0).length=0
  ·rw [c];exact .inr (setH_same _ _ _)
  ·exact .inl (setH_other (by omega))⟩
 have r:=s.run
 have f:=s.fin
 rw [Nat.zero_add] at r f
 rw [List.drop_zero,List.drop_length] at r
 have h1:scan (fun _ x=>formErr x) (St.pcAll a 0) 0=none:=scan_none _ _ 0 (fun j hj=>image_form a h hl hn _ (getD_mem hj))
 have h2:scan (unclosedErr []) (St.pcAll a 0) 0=none:=scan_none _ _ 0 (fun j hj=>by unfold unclosedErr;rw [if_neg (by simp)])
 unfold checkI
 rw [if_neg (by omega),h1]
 simp only
 rw [n1]
 simp only
 rw [h2]
 simp only
 rw [n2]
 simp only
 rw [r,stackScan]
 simp only
 rw [f]
 simp
end Go.Proofs.YtnkgbkkakokciacDoor.B
namespace Go.Proofs.YtnkgbkkakokciacDoor.B
open Go.ChangeShapes Go.WideShapes Go.ChangeAt Go.RowKit
def PutSl (w:World) (ps:List (Int × Int)) (v:Value):Prop:=∃ ad c,v = .slice ad ps.length c∧(ps=[]∨∃ b o,ad=some ⟨b,o,none⟩∧∀ j,j<ps.length→w.cell? ⟨b,o+j*2,none⟩=some (.int .i64 (ps.getD j (0,0)).1)∧w.cell? ⟨b,o+j*2+1,none⟩=some (.int .i64 (ps.getD j (0,0)).2))
theorem PutSl.below {w w':World} {ps:List (Int × Int)} {v:Value} (h:PutSl w ps v) (hb:Below w.heap.size w w'):PutSl w' ps v:=by
 obtain ⟨ad,c,h1,h2⟩:=h
 refine ⟨ad,c,h1,?_⟩
 rcases h2 with h2 | ⟨b,o,h2,h3⟩
 ·exact .inl h2
 ·exact .inr ⟨b,o,h2,fun j hj=>⟨below_cell hb (h3 j hj).1,below_cell hb (h3 j hj).2⟩⟩
set_option maxRecDepth 20000 in
set_option maxHeartbeats 4000000 in
theorem SameP_any (w:World) (ps:List (Int × Int)) (v v':Value) (hl:ps.length≤4194304) (h:PutSl w ps v) (h':PutSl w ps v') :
  Calls Tryd.prog 41 #[v,v'] w fun r w'=>r = .returned (.bool true)∧Below w.heap.size w w':=by
 obtain ⟨ad,c,rfl,hc⟩:=h
 obtain ⟨ad',c',rfl,hc'⟩:=h'
 have HR:Hid ((ps=[]∨∃ b o,ad=some ⟨b,o,none⟩∧∀ j,j<ps.length→w.cell? ⟨b,o+j*2,none⟩=some (.int .i64 (ps.getD j (0,0)).1)∧w.cell? ⟨b,o+j*2+1,none⟩=some (.int .i64 (ps.getD j (0,0)).2))∧(ps=[]∨∃ b o,ad'=some ⟨b,o,none⟩∧∀ j,j<ps.length→w.cell? ⟨b,o+j*2,none⟩=some (.int .i64 (ps.getD j (0,0)).1)∧w.cell? ⟨b,o+j*2+1,none⟩=some (.int .i64 (ps.getD j (0,0)).2))):=⟨hc,hc'⟩
 clear hc hc'
 go_enter Tryd.func41,Tryd.ntmps41
 go_wp2_with fail
 go_loopw [13] (fun x wr=>∃ j:Nat,j≤ps.length∧x = .int .i64 j∧Below w.heap.size w wr) (fun x _=>ps.length - (intOf x).toNat)
 case atStart=>exact ⟨0,Nat.zero_le _,rfl,Below.refl _ _⟩
 case round =>
  obtain ⟨j,hj,rfl,hb⟩:=hrel
  by_cases hlt:j<ps.length
  ·rcases HR.out.1 with h | ⟨b,o,had,hrow⟩
   ·rw [h] at hlt;simp at hlt
   rcases HR.out.2 with h | ⟨b',o',had',hrow'⟩
   ·rw [h] at hlt;simp at hlt
   subst had had'
   have c0:=below_cell hb (hrow j hlt).1
   have c1:=below_cell hb (hrow j hlt).2
   have d0:=below_cell hb (hrow' j hlt).1
   have d1:=below_cell hb (hrow' j hlt).2
   clear hrow hrow'
   generalize (ps.getD j (0,0)).1=z at *
   generalize (ps.getD j (0,0)).2=z' at *
   have HB:Hid (Below w.heap.size w wr):=hb
   clear hb
   go_wp2_with fail
   go_region
   go_wp2_with fail
   go_roundw
   case rel=>exact ⟨j+1,by omega,by go_num,HB.out.drew⟩
   case measure=>simp [intOf];omega
  ·have hje:j=ps.length:=by omega
   subst hje
   go_wp2_with fail
   go_ret
   exact ⟨rfl,hb⟩
def meanOf (a:List St) (vs is:List Int) (cx cy:Int):(Int × Int) × Ms :=
 if cx≠0 then ((cx,cy),⟨[],[],0⟩)
 else if vs.length≠8∨is.length≠4 then ((3,0),⟨[],[],0⟩)
 else match St.runAll is a 0 ⟨vs,[],0⟩ with
  | (s,none)=>((0,0),s)
  | (_,some z)=>((11,(z:Int)),⟨[],[],0⟩)
def EndIs (w:World) (m:(Int × Int) × Ms) (e:Ending) (w':World):Prop :=
 ∃ vv pv B,e = .returned (.tuple #[.agg #[vv,pv,.int .i64 m.2.steps],.agg #[.int .i64 m.1.1,.int .i64 m.1.2]]) ∧
  ((vv = .slice none 0 0∧m.2.vars=[])∨∃ vb vc,vv = .slice (some ⟨vb,0,none⟩) 8 vc∧VarBlk w' vb vc m.2.vars∧w.heap.size≤vb∧vb<B) ∧
  w'.ownsRow B 43 2 pv m.2.puts.length (putVs m.2.puts)∧w.heap.size≤B∧Below w.heap.size w w'
theorem EndIs.bare {w w':World} {c k:Int} (hb:Below w.heap.size w w'):EndIs w ((c,k),⟨[],[],0⟩) (.returned (.tuple #[.agg #[.slice none 0 0,.slice none 0 0,.int .i64 0],.agg #[.int .i64 c,.int .i64 k]])) w' :=
 ⟨_,_,w.heap.size,rfl,.inl ⟨rfl,rfl⟩,World.ownsRow_nil _ _ _ _,Nat.le_refl _,hb⟩
theorem EndIs.of_run {w w':World} {s:Ms} {e:Ending} (h:RunEnd w (s,none) e w'):EndIs w ((0,0),s) e w':=by
 obtain ⟨vb,vc,B,pad,pcap,rfl,h1,h2,h3,h4,h5⟩:=h
 exact ⟨_,_,B,rfl,.inr ⟨vb,vc,rfl,h1,h3,h4⟩,h2,by omega,h5⟩
theorem EndIs.of_many {w w':World} {s:Ms} {z:Nat} {e:Ending} (h:RunEnd w (s,some z) e w'):EndIs w ((11,(z:Int)),⟨[],[],0⟩) e w':=by
 obtain ⟨rfl,hb⟩:=h
 exact EndIs.bare hb
theorem firstErr_zero:∀ (l:List Fl) (j:Nat),(firstErr l j).1=0→(firstErr l j).2=0
 | [],_,_=>rfl
 | f::r,j,h=>by
  unfold firstErr at h ⊢
  by_cases hf:f.err≠0
  ·rw [if_pos hf] at h;exact absurd h hf
  ·rw [if_neg hf] at h ⊢;exact firstErr_zero r (j+1) h
theorem checkV_zero {a:List St} {cy:Int} (h:checkV a = .agg #[.int .i64 0,.int .i64 cy]):cy=0∧St.OkAll a:=by
 unfold checkV at h
 by_cases hc:200<St.countAll a
 ·rw [if_pos hc] at h;simp at h
 ·rw [if_neg hc] at h
  simp at h
  exact ⟨by rw [← h.2];exact firstErr_zero _ _ h.1,found_ok a h.1⟩
theorem IntSl.len {w:World} {vs:List Int} {ad:Option Addr} {n c:Nat} (h:IntSl w vs (.slice ad n c)):n=vs.length:=by
 obtain ⟨ad2,c2,e,-⟩:=h
 cases e
 rfl
theorem IntSl.at_ {w:World} {vs:List Int} {ad:Option Addr} {n c:Nat} (h:IntSl w vs (.slice ad n c)) (hn:0<vs.length):∃ b o,ad=some ⟨b,o,none⟩∧∀ j,j<vs.length→w.cell? ⟨b,o+j,none⟩=some (.int .i64 (vs.getD j 0)):=by
 obtain ⟨ad2,c2,e,h2⟩:=h
 cases e
 rcases h2 with h2 | ⟨b,o,h2,h3⟩
 ·subst h2;simp at hn
 ·exact ⟨b,o,h2,h3⟩
theorem SlQ_below {p:Nat→Prop} {w w':World} {a:List St} {v:Value} {bl:List Nat} (h:St.SlQ p w a v bl) (hb:Below w.heap.size w w'):St.SlQ p w' a v bl :=
 h.move (fun b hp hlt=>⟨hp,hb.block b hlt⟩)
theorem Run_is (w:World) (v:Value) (a:List St) (va ia:Option Addr) (vn vc im ic:Nat) (vs is:List Int) (cx cy:Int) (p:Nat→Prop) (bl:List Nat) (hr:Ready w) (hsl:St.SlQ p w a v bl) (hnd:bl.Nodup) (hb:St.bulkAll a≤1048576) (hx:checkV a = .agg #[.int .i64 cx,.int .i64 cy])
  (hv:IntSl w vs (.slice va vn vc)) (hi:IntSl w is (.slice ia im ic)) :
  Calls Tryd.prog 39 #[v,.slice va vn vc,.slice ia im ic] w (EndIs w (meanOf a vs is cx cy)):=by
 have hC:∀ W,Below w.heap.size w W→Calls Tryd.prog 59 #[v] W fun r w'=>r = .returned (.agg #[.int .i64 cx,.int .i64 cy])∧Below W.heap.size W w':=fun W hW =>
  Check_a every_list a cx cy W v p bl (hr.below hW) ⟨SlQ_below hsl hW,hnd,hb⟩ hx
 have lv:=hv.len
 have li:=hi.len
 subst lv li
 unfold meanOf
 by_cases h0:cx≠0
 ·rw [if_pos h0]
  exact (Run_bad w v _ _ cx cy h0 hC).mono fun r w' ⟨h1,h2⟩=>by subst h1;exact EndIs.bare h2
 rw [if_neg h0]
 have h0':cx=0:=by simpa using h0
 subst h0'
 obtain ⟨hy,hok⟩:=checkV_zero hx
 subst hy
 by_cases h1:vs.length≠8∨is.length≠4
 ·rw [if_pos h1]
  exact (Run_range w v va ia _ vc _ ic h1 hC).mono fun r w' ⟨h1,h2⟩=>by subst h1;exact EndIs.bare h2
 rw [if_neg h1]
 have l8:vs.length=8:=by omega
 have l4:is.length=4:=by omega
 obtain ⟨b,o,rfl,hvc⟩:=hv.at_ (by omega)
 obtain ⟨b',o',rfl,hic⟩:=hi.at_ (by omega)
 rw [l8] at hvc ⊢
 rw [l4] at hic ⊢
 rcases hz:St.runAll is a 0 ⟨vs,[],0⟩ with ⟨s3,_ | z⟩
 ·exact (Run_good w v _ a b o vc _ ic vs is s3 rfl l8 hvc ⟨b',o',ic,rfl,hic⟩ hsl.plain hb hok hC hz).mono fun r w' h=>EndIs.of_run h
 ·exact (Run_many w v _ a b o vc _ ic vs is s3 z rfl l8 hvc ⟨b',o',ic,rfl,hic⟩ hsl.plain hb hok hC hz).mono fun r w' h=>EndIs.of_many h
theorem meanOf_puts (a:List St) (vs is:List Int) (cx cy:Int):(meanOf a vs is cx cy).2.vars.length≤8∧(meanOf a vs is cx cy).2.puts.length≤20000∧(meanOf a vs is cx cy).2.steps≤20000:=by
 unfold meanOf
 by_cases h0:cx≠0
 ·rw [if_pos h0];exact ⟨Nat.zero_le _,Nat.zero_le _,Nat.zero_le _⟩
 rw [if_neg h0]
 by_cases h1:vs.length≠8∨is.length≠4
 ·rw [if_pos h1];exact ⟨Nat.zero_le _,Nat.zero_le _,Nat.zero_le _⟩
 rw [if_neg h1]
 have k1:=St.runAll_keep is a 0 ⟨vs,[],0⟩ (by simp only;omega)
 have k2:=St.runAll_puts is a 0 ⟨vs,[],0⟩ (Nat.le_refl _)
 rcases hz:St.runAll is a 0 ⟨vs,[],0⟩ with ⟨s3,_ | z⟩
 ·rw [hz] at k1 k2
  have:=k1.2.1 (Nat.zero_le _)
  exact ⟨Nat.le_of_eq k1.1,Nat.le_trans k2 this,this⟩
 ·exact ⟨Nat.zero_le _,Nat.zero_le _,Nat.zero_le _⟩
theorem VarBlk.sl {w:World} {vb vc:Nat} {vs:List Int} (h:VarBlk w vb vc vs):IntSl w vs (.slice (some ⟨vb,0,none⟩) 8 vc):=by
 obtain ⟨hl,cs,h1,h2,h3⟩:=h
 refine ⟨_,_,by rw [hl],.inr ⟨vb,0,rfl,fun j hj=>?_⟩⟩
 unfold World.cell?
 rw [h1]
 simpa using h3 j (by omega)
theorem putVs_at:∀ (ps:List (Int × Int)) (j:Nat),j<ps.length→(putVs ps)[j*2]?=some (.int .i64 (ps.getD j (0,0)).1)∧(putVs ps)[j*2+1]?=some (.int .i64 (ps.getD j (0,0)).2)
 | [],j,h=>by simp at h
 | p::r,0,_=>by simp [putVs]
 | p::r,j+1,h=>by
  have ih:=putVs_at r j (by simpa using h)
  have e:putVs (p::r) = .int .i64 p.1 :: .int .i64 p.2::putVs r:=by simp [putVs]
  rw [e]
  have e2:(j+1)*2=j*2+1+1:=by omega
  rw [e2]
  simpa using ih
theorem PutSl.of_own {w:World} {B:Nat} {pv:Value} {ps:List (Int × Int)} (h:w.ownsRow B 43 2 pv ps.length (putVs ps)):PutSl w ps pv:=by
 obtain ⟨ad,cap,rfl⟩:=owns_value h
 refine ⟨ad,cap,rfl,?_⟩
 by_cases hp:ps=[]
 ·exact .inl hp
 obtain ⟨-,⟨e,he⟩ | ⟨g,cap',cur,e,-,hg,-,-,-,ht⟩⟩:=h
 ·exact absurd (List.length_eq_zero_iff.1 he) hp
 cases e
 refine .inr ⟨g,0,rfl,fun j hj=>?_⟩
 have h1:=putVs_at ps j hj
 rw [← ht,List.getElem?_take,List.getElem?_take] at h1
 rw [if_pos (by omega),if_pos (by omega)] at h1
 constructor
 ·unfold World.cell?;rw [hg];simpa using h1.1
 ·unfold World.cell?;rw [hg];simpa using h1.2
theorem agree (a:List St) (vs is:List Int) (cy:Int) (hx:checkV a = .agg #[.int .i64 0,.int .i64 cy]) (hn:(St.pcAll a 0).length≤2000) :
  ((meanOf a vs is 0 cy).1.1=0∧(resF (St.pcAll a 0) vs is).1.1=0∧(meanOf a vs is 0 cy).2.vars=(resF (St.pcAll a 0) vs is).2.1∧(meanOf a vs is 0 cy).2.puts=(resF (St.pcAll a 0) vs is).2.2.1) ∨
  (((meanOf a vs is 0 cy).1.1≠0∨(resF (St.pcAll a 0) vs is).1.1≠0)∧(((meanOf a vs is 0 cy).1.1=3∧(resF (St.pcAll a 0) vs is).1.1=3)∨(meanOf a vs is 0 cy).1.1=11∨(resF (St.pcAll a 0) vs is).1.1=11)):=by
 have hf:=checkV_fit hx
 obtain ⟨-,hlay,-⟩:=checkV_lay hx
 obtain ⟨hok,hd⟩:=St.FitAll.ok a [] hf
 have hd:=hd (by simp)
 have hc:docI (St.pcAll a 0)=(0,0):=(doc_check _).trans (image_right a hf hlay hn)
 unfold meanOf
 rw [if_neg (by simp)]
 by_cases hl:vs.length≠8∨is.length≠4
 ·rw [if_pos hl,res_range hc hl]
  exact .inr ⟨.inl (by simp),.inl ⟨rfl,rfl⟩⟩
 ·rw [if_neg hl,res_run hc (by omega) (by omega)]
  rcases hr:St.runAll is a 0 ⟨vs,[],0⟩ with ⟨m',_ | z⟩
  ·rcases image_means a vs is hok (by simp at hd;omega) hr 20000 0 with ⟨z,h⟩ | ⟨s,t,h,h1,h2⟩
   ·rw [h]
    exact .inr ⟨.inr (by simp),.inr (.inr rfl)⟩
   ·rw [h]
    exact .inl ⟨rfl,rfl,h1.symm,h2.symm⟩
  ·exact .inr ⟨.inl (by simp),.inr (.inl rfl)⟩
def zeros8:List Int:=[0,0,0,0,0,0,0,0]
def fives4:List Int:=[5,0,0,0]
def doneMs:Ms:=⟨[15,0,0,0,0,0,0,0],[(1,30)],5⟩
def BodyAt (w:World) (v:Value):Prop:=∃ T p bl,(St.SlQ p w T v bl∧bl.Nodup∧St.bulkAll T≤1048576)∧checkV T = .agg #[.int .i64 0,.int .i64 0]∧meanOf T zeros8 fives4 0 0=((0,0),doneMs)
theorem BodyAt.below {w w':World} {v:Value} (h:BodyAt w v) (hb:Below w.heap.size w w'):BodyAt w' v:=by
 obtain ⟨T,p,bl,⟨h1,h2,h3⟩,h4⟩:=h
 exact ⟨T,p,bl,⟨SlQ_below h1 hb,h2,h3⟩,h4⟩
def endV (vb vc:Nat) (pad:Option Addr) (pcap:Nat):Value:=.agg #[.slice (some ⟨vb,0,none⟩) 8 vc,.slice pad 1 pcap,.int .i64 5]
def okV:Value:=.agg #[.int .i64 0,.int .i64 0]
def RanAt (w:World) (vb vc:Nat) (pad:Option Addr) (pcap:Nat):Prop:=VarBlk w vb vc doneMs.vars∧∃ B,w.ownsRow B 43 2 (.slice pad 1 pcap) 1 (putVs doneMs.puts)
theorem RanAt.move {w w':World} {vb vc pcap:Nat} {pad:Option Addr} (h:RanAt w vb vc pad pcap) (hb:∀ (k:Nat) (cs:Array Value) (t:TypeId),(t=3∨t=43)→w.heap[k]?=some (Obj.cells cs t (0,0))→w'.heap[k]?=some (Obj.cells cs t (0,0))):RanAt w' vb vc pad pcap:=by
 obtain ⟨⟨l8,cs,h1,h2,h3⟩,B,hl,h4⟩:=h
 refine ⟨⟨l8,cs,hb _ _ _ (.inl rfl) h1,h2,h3⟩,B,hl,?_⟩
 rcases h4 with h4 | ⟨g,cap,cur,e,hB,hg,hr⟩
 ·exact .inl h4
 ·exact .inr ⟨g,cap,cur,e,hB,hb _ _ _ (.inr rfl) hg,hr⟩
theorem RanAt.below {w w':World} {vb vc pcap:Nat} {pad:Option Addr} (h:RanAt w vb vc pad pcap) (hb:Below w.heap.size w w'):RanAt w' vb vc pad pcap :=
 h.move fun k _ _ _ hk=>(hb.block k (Array.getElem?_eq_some_iff.1 hk).1).trans hk
def Blk3 (w w':World) (x:Value) (c0 c1 c2:Value):Prop:=∃ g,x = .pointer (some ⟨g,0,none⟩)∧w.heap.size≤g∧w'.heap[g]?=some (.cells #[c0,c1,c2] 27 (0,0))
def Blk2 (w w':World) (x:Value) (c0 c1:Value):Prop:=∃ g,x = .pointer (some ⟨g,0,none⟩)∧w.heap.size≤g∧w'.heap[g]?=some (.cells #[c0,c1] 30 (0,0))
theorem Blk3.below {w0 w w':World} {x c0 c1 c2:Value} (h:Blk3 w0 w x c0 c1 c2) (hb:Below w.heap.size w w'):Blk3 w0 w' x c0 c1 c2:=by
 obtain ⟨g,h1,h2,h3⟩:=h
 exact ⟨g,h1,h2,(hb.block g (Array.getElem?_eq_some_iff.1 h3).1).trans h3⟩
theorem Blk2.below {w0 w w':World} {x c0 c1:Value} (h:Blk2 w0 w x c0 c1) (hb:Below w.heap.size w w'):Blk2 w0 w' x c0 c1:=by
 obtain ⟨g,h1,h2,h3⟩:=h
 exact ⟨g,h1,h2,(hb.block g (Array.getElem?_eq_some_iff.1 h3).1).trans h3⟩
structure DF (w:World) (l0 l1 l2 l3 l4 l5 l6 l7 l8 l9 l10:Bool) (x1 x2 x3 x4 x5 x6 x7 x8 x9:Value) (w':World):Prop where
 bel:Below w.heap.size w w'
 mid:(l3=false∧l4=false∧l5=false∧l6=false∧l9=false∧l10=false∧(l0=true→BodyAt w' x4)∧(l1=true→∃ k,x5 = .slice (some ⟨k,0,none⟩) 8 8∧IntSl w' zeros8 x5)∧(l2=true→∃ k,x6 = .slice (some ⟨k,0,none⟩) 4 4∧IntSl w' fives4 x6)) ∨
  (l3=true∧l0=true∧l1=true∧l2=true∧∃ vb vc pad pcap,RanAt w' vb vc pad pcap∧x7 = .tuple #[endV vb vc pad pcap,okV]∧(l4=true→x3 = .tuple #[endV vb vc pad pcap,okV])∧(l4=false→l5=false∧l6=false)∧(l5=true→x8=endV vb vc pad pcap)∧(l5=false→l9=false)∧(l6=true→x9=okV)∧(l6=false→l10=false))
 b3:(l7=false∧l9=false)∨(l7=true∧∃ c0 c1 c2,Blk3 w w' x1 c0 c1 c2∧(l9=true→x8 = .agg #[c0,c1,c2]))
 b2:(l8=false∧l10=false)∨(l8=true∧∃ c0 c1,Blk2 w w' x2 c0 c1∧(l10=true→x9 = .agg #[c0,c1]))
theorem DF.grow {w:World} {l0 l1 l2 l3 l4 l5 l6 l7 l8 l9 l10:Bool} {x1 x2 x3 x4 x5 x6 x7 x8 x9:Value} {w' w'':World} (h:DF w l0 l1 l2 l3 l4 l5 l6 l7 l8 l9 l10 x1 x2 x3 x4 x5 x6 x7 x8 x9 w') (hb:Below w'.heap.size w' w''):DF w l0 l1 l2 l3 l4 l5 l6 l7 l8 l9 l10 x1 x2 x3 x4 x5 x6 x7 x8 x9 w'':=by
 obtain ⟨h1,h2,h3,h4⟩:=h
 refine ⟨below_seq h1 hb,?_,?_,?_⟩
 ·rcases h2 with ⟨a,b,c,d,e,f,g,i,j⟩ | ⟨a,b,c,d,vb,vc,pad,pcap,h,r⟩
  ·refine .inl ⟨a,b,c,d,e,f,fun q=>(g q).below hb,fun q=>?_,fun q=>?_⟩
   ·obtain ⟨k,e,hk⟩:=i q;exact ⟨k,e,hk.below hb⟩
   ·obtain ⟨k,e,hk⟩:=j q;exact ⟨k,e,hk.below hb⟩
  ·exact .inr ⟨a,b,c,d,vb,vc,pad,pcap,h.below hb,r⟩
 ·rcases h3 with h3 | ⟨a,c0,c1,c2,h,r⟩
  ·exact .inl h3
  ·exact .inr ⟨a,c0,c1,c2,h.below hb,r⟩
 ·rcases h4 with h4 | ⟨a,c0,c1,h,r⟩
  ·exact .inl h4
  ·exact .inr ⟨a,c0,c1,h.below hb,r⟩
theorem DF.last {w:World} {x1 x2 x3 x4 x5 x6 x7 x8 x9:Value} {w':World} (h:DF w true true true true true true true true true true true x1 x2 x3 x4 x5 x6 x7 x8 x9 w') :
  ∃ g g' vb vc pad pcap,x1 = .pointer (some ⟨g,0,none⟩)∧x2 = .pointer (some ⟨g',0,none⟩)∧Hid (RanAt w' vb vc pad pcap∧Below w.heap.size w w')∧w'.heap[g]?=some (.cells #[.slice (some ⟨vb,0,none⟩) 8 vc,.slice pad 1 pcap,.int .i64 5] 27 (0,0))∧w'.heap[g']?=some (.cells #[.int .i64 0,.int .i64 0] 30 (0,0)):=by
 obtain ⟨h1,h2,h3,h4⟩:=h
 rcases h2 with ⟨a,-⟩ | ⟨-,-,-,-,vb,vc,pad,pcap,h,-,-,-,r5,-,r6,-⟩
 ·cases a
 rcases h3 with ⟨a,-⟩ | ⟨-,c0,c1,c2,⟨g,e,-,hg⟩,r⟩
 ·cases a
 rcases h4 with ⟨a,-⟩ | ⟨-,d0,d1,⟨g',e',-,hg'⟩,r'⟩
 ·cases a
 have e8:=(r rfl).symm.trans (r5 rfl)
 have e9:=(r' rfl).symm.trans (r6 rfl)
 unfold endV at e8
 unfold okV at e9
 simp at e8 e9
 obtain ⟨rfl,rfl,rfl⟩:=e8
 obtain ⟨rfl,rfl⟩:=e9
 exact ⟨g,g',vb,vc,pad,pcap,e,e',⟨h,h1⟩,hg,hg'⟩
theorem DF.s0 {w:World} {l1 l2 l3 l4 l5 l6 l7 l8 l9 l10:Bool} {x1 x2 x3 x4 x5 x6 x7 x8 x9:Value} {w':World} (h:DF w false l1 l2 l3 l4 l5 l6 l7 l8 l9 l10 x1 x2 x3 x4 x5 x6 x7 x8 x9 w') {v:Value} (hv:BodyAt w' v) :
  DF w true l1 l2 l3 l4 l5 l6 l7 l8 l9 l10 x1 x2 x3 v x5 x6 x7 x8 x9 w':=by
 obtain ⟨h1,h2,h3,h4⟩:=h
 refine ⟨h1,?_,h3,h4⟩
 rcases h2 with ⟨a,b,c,d,e,f,-,i,j⟩ | ⟨-,b,-⟩
 ·exact .inl ⟨a,b,c,d,e,f,fun _=>hv,i,j⟩
 ·cases b
theorem DF.s1 {w:World} {l0 l2 l3 l4 l5 l6 l7 l8 l9 l10:Bool} {x1 x2 x3 x4 x5 x6 x7 x8 x9:Value} {w':World} (h:DF w l0 false l2 l3 l4 l5 l6 l7 l8 l9 l10 x1 x2 x3 x4 x5 x6 x7 x8 x9 w') {v:Value} (hv:∃ k,v = .slice (some ⟨k,0,none⟩) 8 8∧IntSl w' zeros8 v) :
  DF w l0 true l2 l3 l4 l5 l6 l7 l8 l9 l10 x1 x2 x3 x4 v x6 x7 x8 x9 w':=by
 obtain ⟨h1,h2,h3,h4⟩:=h
 refine ⟨h1,?_,h3,h4⟩
 rcases h2 with ⟨a,b,c,d,e,f,g,-,j⟩ | ⟨-,-,b,-⟩
 ·exact .inl ⟨a,b,c,d,e,f,g,fun _=>hv,j⟩
 ·cases b
theorem DF.s2 {w:World} {l0 l1 l3 l4 l5 l6 l7 l8 l9 l10:Bool} {x1 x2 x3 x4 x5 x6 x7 x8 x9:Value} {w':World} (h:DF w l0 l1 false l3 l4 l5 l6 l7 l8 l9 l10 x1 x2 x3 x4 x5 x6 x7 x8 x9 w') {v:Value} (hv:∃ k,v = .slice (some ⟨k,0,none⟩) 4 4∧IntSl w' fives4 v) :
  DF w l0 l1 true l3 l4 l5 l6 l7 l8 l9 l10 x1 x2 x3 x4 x5 v x7 x8 x9 w':=by
 obtain ⟨h1,h2,h3,h4⟩:=h
 refine ⟨h1,?_,h3,h4⟩
 rcases h2 with ⟨a,b,c,d,e,f,g,i,-⟩ | ⟨-,-,-,b,-⟩
 ·exact .inl ⟨a,b,c,d,e,f,g,i,fun _=>hv⟩
 ·cases b
theorem DF.s3 {w:World} {l4 l5 l6 l7 l8 l9 l10:Bool} {x1 x2 x3 x4 x5 x6 x7 x8 x9:Value} {w':World} (h:DF w true true true false l4 l5 l6 l7 l8 l9 l10 x1 x2 x3 x4 x5 x6 x7 x8 x9 w') {vb vc pcap:Nat} {pad:Option Addr} (hv:RanAt w' vb vc pad pcap) :
  DF w true true true true l4 l5 l6 l7 l8 l9 l10 x1 x2 x3 x4 x5 x6 (.tuple #[endV vb vc pad pcap,okV]) x8 x9 w':=by
 obtain ⟨h1,h2,h3,h4⟩:=h
 refine ⟨h1,?_,h3,h4⟩
 rcases h2 with ⟨a,b,c,d,e,f,g,i,-⟩ | ⟨b,-⟩
 ·subst b c d e f
  exact .inr ⟨rfl,rfl,rfl,rfl,vb,vc,pad,pcap,hv,rfl,(fun h=>by cases h),(fun _=>⟨rfl,rfl⟩),(fun h=>by cases h),(fun _=>rfl),(fun h=>by cases h),(fun _=>rfl)⟩
 ·cases b
theorem DF.s4 {w:World} {l0 l1 l2 l5 l6 l7 l8 l9 l10:Bool} {x1 x2 x3 x4 x5 x6 x7 x8 x9:Value} {w':World} (h:DF w l0 l1 l2 true false l5 l6 l7 l8 l9 l10 x1 x2 x3 x4 x5 x6 x7 x8 x9 w')  :
  DF w l0 l1 l2 true true l5 l6 l7 l8 l9 l10 x1 x2 x7 x4 x5 x6 x7 x8 x9 w':=by
 obtain ⟨h1,h2,h3,h4⟩:=h
 refine ⟨h1,?_,h3,h4⟩
 rcases h2 with ⟨a,-⟩ | ⟨a,b,c,d,vb,vc,pad,pcap,h,e7,-,e4,r⟩
 ·cases a
 ·obtain ⟨rfl,rfl⟩:=e4 rfl
  exact .inr ⟨a,b,c,d,vb,vc,pad,pcap,h,e7,(fun _=>e7),(fun h=>by cases h),r⟩
theorem DF.s5 {w:World} {l0 l1 l2 l3 l6 l7 l8 l9 l10:Bool} {x1 x2 x3 x4 x5 x6 x7 x8 x9:Value} {w':World} (h:DF w l0 l1 l2 l3 true false l6 l7 l8 l9 l10 x1 x2 x3 x4 x5 x6 x7 x8 x9 w') {v:Value} (hv:∀ y z,x3 = .tuple #[y,z]→v=y) :
  DF w l0 l1 l2 l3 true true l6 l7 l8 l9 l10 x1 x2 x3 x4 x5 x6 x7 v x9 w':=by
 obtain ⟨h1,h2,h3,h4⟩:=h
 rcases h2 with ⟨-,a,-⟩ | ⟨a,b,c,d,vb,vc,pad,pcap,h,e7,e4,-,-,e5,r⟩
 ·cases a
 ·have e9:=e5 rfl
  subst e9
  refine ⟨h1,.inr ⟨a,b,c,d,vb,vc,pad,pcap,h,e7,e4,(fun h=>by cases h),(fun _=>hv _ _ (e4 rfl)),(fun h=>by cases h),r⟩,?_,h4⟩
  rcases h3 with h3 | ⟨q,c0,c1,c2,hb,-⟩
  ·exact .inl h3
  ·exact .inr ⟨q,c0,c1,c2,hb,fun h=>by cases h⟩
theorem DF.s6 {w:World} {l0 l1 l2 l3 l5 l7 l8 l9 l10:Bool} {x1 x2 x3 x4 x5 x6 x7 x8 x9:Value} {w':World} (h:DF w l0 l1 l2 l3 true l5 false l7 l8 l9 l10 x1 x2 x3 x4 x5 x6 x7 x8 x9 w') {v:Value} (hv:∀ y z,x3 = .tuple #[y,z]→v=z) :
  DF w l0 l1 l2 l3 true l5 true l7 l8 l9 l10 x1 x2 x3 x4 x5 x6 x7 x8 v w':=by
 obtain ⟨h1,h2,h3,h4⟩:=h
 rcases h2 with ⟨-,a,-⟩ | ⟨a,b,c,d,vb,vc,pad,pcap,h,e7,e4,-,e5,e5',-,e6⟩
 ·cases a
 ·have e10:=e6 rfl
  subst e10
  refine ⟨h1,.inr ⟨a,b,c,d,vb,vc,pad,pcap,h,e7,e4,(fun h=>by cases h),e5,e5',(fun _=>hv _ _ (e4 rfl)),(fun h=>by cases h)⟩,h3,?_⟩
  rcases h4 with h4 | ⟨q,c0,c1,hb,-⟩
  ·exact .inl h4
  ·exact .inr ⟨q,c0,c1,hb,fun h=>by cases h⟩
theorem DF.s7 {w:World} {l0 l1 l2 l3 l4 l5 l6 l8 l9 l10:Bool} {x1 x2 x3 x4 x5 x6 x7 x8 x9:Value} {w':World} (h:DF w l0 l1 l2 l3 l4 l5 l6 false l8 l9 l10 x1 x2 x3 x4 x5 x6 x7 x8 x9 w') {v c0 c1 c2:Value} (hv:Blk3 w w' v c0 c1 c2) :
  DF w l0 l1 l2 l3 l4 l5 l6 true l8 l9 l10 v x2 x3 x4 x5 x6 x7 x8 x9 w':=by
 obtain ⟨h1,h2,h3,h4⟩:=h
 refine ⟨h1,h2,?_,h4⟩
 rcases h3 with ⟨-,e⟩ | ⟨q,-⟩
 ·exact .inr ⟨rfl,c0,c1,c2,hv,fun h=>by rw [e] at h;cases h⟩
 ·cases q
theorem DF.s8 {w:World} {l0 l1 l2 l3 l4 l5 l6 l7 l9 l10:Bool} {x1 x2 x3 x4 x5 x6 x7 x8 x9:Value} {w':World} (h:DF w l0 l1 l2 l3 l4 l5 l6 l7 false l9 l10 x1 x2 x3 x4 x5 x6 x7 x8 x9 w') {v c0 c1:Value} (hv:Blk2 w w' v c0 c1) :
  DF w l0 l1 l2 l3 l4 l5 l6 l7 true l9 l10 x1 v x3 x4 x5 x6 x7 x8 x9 w':=by
 obtain ⟨h1,h2,h3,h4⟩:=h
 refine ⟨h1,h2,h3,?_⟩
 rcases h4 with ⟨-,e⟩ | ⟨q,-⟩
 ·exact .inr ⟨rfl,c0,c1,hv,fun h=>by rw [e] at h;cases h⟩
 ·cases q
theorem other_block {w:World} {g k:Nat} {cs cs':Array Value} {t t':TypeId} {a:Addr} {u:Value} (hg:w.heap[g]?=some (Obj.cells cs t (0,0))) (hk:w.heap[k]?=some (Obj.cells cs' t' (0,0))) (ht:t≠t') (ha:a.block=g):(w.setCell a u).heap[k]?=some (Obj.cells cs' t' (0,0)):=by
 have hne:k≠g:=by
  intro e
  subst e
  rw [hg] at hk
  simp at hk
  exact ht hk.2
 rw [Below.heap_setCell _ _ _ _ (by rw [ha];exact hne)]
 exact hk
theorem DF.shape {w:World} {l0 l1 l2 l3 l4 l5 l6 l7 l8 l9 l10:Bool} {x1 x2 x3 x4 x5 x6 x7 x8 x9:Value} {w':World} (h:DF w l0 l1 l2 l3 l4 l5 l6 l7 l8 l9 l10 x1 x2 x3 x4 x5 x6 x7 x8 x9 w') (h3:l3=true):∃ vb vc pad pcap,(l4=true→x3 = .tuple #[endV vb vc pad pcap,okV])∧(l5=true→x8=endV vb vc pad pcap)∧(l6=true→x9=okV):=by
 rcases h.mid with ⟨a,-⟩ | ⟨-,-,-,-,vb,vc,pad,pcap,-,-,e4,-,e5,-,e6,-⟩
 ·rw [h3] at a;cases a
 ·exact ⟨vb,vc,pad,pcap,e4,e5,e6⟩
theorem DF.s9 {w:World} {l0 l1 l2 l4 l6 l8 l9 l10:Bool} {x1 x2 x3 x4 x5 x6 x7 x8 x9:Value} {w':World} {g:Nat} {c0 c1 c2 d0 d1 d2:Value} (h:DF w l0 l1 l2 true l4 true l6 true l8 l9 l10 x1 x2 x3 x4 x5 x6 x7 x8 x9 w') (hx:x1 = .pointer (some ⟨g,0,none⟩)) (hg0:w.heap.size≤g) (hg:w'.heap[g]?=some (.cells #[c0,c1,c2] 27 (0,0))) (h8:x8 = .agg #[d0,d1,d2]) :
  DF w l0 l1 l2 true l4 true l6 true l8 true l10 x1 x2 x3 x4 x5 x6 x7 x8 x9 (((w'.setCell ⟨g,0,none⟩ d0).setCell ⟨g,1,none⟩ d1).setCell ⟨g,2,none⟩ d2):=by
 obtain ⟨h1,h2,h3,h4⟩:=h
 have q1:=setCell_at (i:=0) (u:=d0) hg
 have q2:=setCell_at (i:=1) (u:=d1) q1
 have q3:=setCell_at (i:=2) (u:=d2) q2
 have mv:∀ (k:Nat) (cs:Array Value) (t:TypeId),t≠27→w'.heap[k]?=some (Obj.cells cs t (0,0))→(((w'.setCell ⟨g,0,none⟩ d0).setCell ⟨g,1,none⟩ d1).setCell ⟨g,2,none⟩ d2).heap[k]?=some (Obj.cells cs t (0,0)):=fun k cs t ht hk =>
  other_block q2 (other_block q1 (other_block hg hk (Ne.symm ht) rfl) (Ne.symm ht) rfl) (Ne.symm ht) rfl
 refine ⟨((h1.setCell hg0 _).setCell hg0 _).setCell hg0 _,?_,.inr ⟨rfl,d0,d1,d2,⟨g,hx,hg0,by simpa using q3⟩,fun _=>h8⟩,?_⟩
 ·rcases h2 with ⟨a,-⟩ | ⟨a,b,c,d,vb,vc,pad,pcap,h,e7,e4,e4',e5,-,r⟩
  ·cases a
  ·exact .inr ⟨a,b,c,d,vb,vc,pad,pcap,h.move (fun k cs t ht hk=>mv k cs t (by rcases ht with rfl | rfl <;> decide) hk),e7,e4,e4',e5,(fun h=>by cases h),r⟩
 ·rcases h4 with h4 | ⟨q,b0,b1,⟨k,hk1,hk2,hk3⟩,r⟩
  ·exact .inl h4
  ·exact .inr ⟨q,b0,b1,⟨k,hk1,hk2,mv k _ 30 (by decide) hk3⟩,r⟩
theorem DF.s10 {w:World} {l0 l1 l2 l4 l5 l7 l9 l10:Bool} {x1 x2 x3 x4 x5 x6 x7 x8 x9:Value} {w':World} {g:Nat} {c0 c1 d0 d1:Value} (h:DF w l0 l1 l2 true l4 l5 true l7 true l9 l10 x1 x2 x3 x4 x5 x6 x7 x8 x9 w') (hx:x2 = .pointer (some ⟨g,0,none⟩)) (hg0:w.heap.size≤g) (hg:w'.heap[g]?=some (.cells #[c0,c1] 30 (0,0))) (h9:x9 = .agg #[d0,d1]) :
  DF w l0 l1 l2 true l4 l5 true l7 true l9 true x1 x2 x3 x4 x5 x6 x7 x8 x9 ((w'.setCell ⟨g,0,none⟩ d0).setCell ⟨g,1,none⟩ d1):=by
 obtain ⟨h1,h2,h3,h4⟩:=h
 have q1:=setCell_at (i:=0) (u:=d0) hg
 have q2:=setCell_at (i:=1) (u:=d1) q1
 have mv:∀ (k:Nat) (cs:Array Value) (t:TypeId),t≠30→w'.heap[k]?=some (Obj.cells cs t (0,0))→((w'.setCell ⟨g,0,none⟩ d0).setCell ⟨g,1,none⟩ d1).heap[k]?=some (Obj.cells cs t (0,0)):=fun k cs t ht hk =>
  other_block q1 (other_block hg hk (Ne.symm ht) rfl) (Ne.symm ht) rfl
 refine ⟨(h1.setCell hg0 _).setCell hg0 _,?_,?_,.inr ⟨rfl,d0,d1,⟨g,hx,hg0,by simpa using q2⟩,fun _=>h9⟩⟩
 ·rcases h2 with ⟨a,-⟩ | ⟨a,b,c,d,vb,vc,pad,pcap,h,e7,e4,e4',e5,e5',e6,-⟩
  ·cases a
  ·exact .inr ⟨a,b,c,d,vb,vc,pad,pcap,h.move (fun k cs t ht hk=>mv k cs t (by rcases ht with rfl | rfl <;> decide) hk),e7,e4,e4',e5,e5',e6,(fun h=>by cases h)⟩
 ·rcases h3 with h3 | ⟨q,b0,b1,b2,⟨k,hk1,hk2,hk3⟩,r⟩
  ·exact .inl h3
  ·exact .inr ⟨q,b0,b1,b2,⟨k,hk1,hk2,mv k _ 27 (by decide) hk3⟩,r⟩
theorem zeros_made (w:World):IntSl (w.alloc (.cells #[.int .i64 0,.int .i64 0,.int .i64 0,.int .i64 0,.int .i64 0,.int .i64 0,.int .i64 0,.int .i64 0] 3)) zeros8 (.slice (some ⟨w.heap.size,0,none⟩) 8 8):=by
 refine ⟨_,_,rfl,.inr ⟨w.heap.size,0,rfl,fun j hj=>?_⟩⟩
 have:=(cells_of (l:=[.int .i64 0,.int .i64 0,.int .i64 0,.int .i64 0,.int .i64 0,.int .i64 0,.int .i64 0,.int .i64 0]) (heap_alloc_new w (.cells #[.int .i64 0,.int .i64 0,.int .i64 0,.int .i64 0,.int .i64 0,.int .i64 0,.int .i64 0,.int .i64 0] 3))).1 j (.int .i64 (zeros8.getD j 0))
 rw [Nat.zero_add]
 apply this
 have hj':j<8:=hj
 have:j=0∨j=1∨j=2∨j=3∨j=4∨j=5∨j=6∨j=7:=by omega
 rcases this with rfl | rfl | rfl | rfl | rfl | rfl | rfl | rfl <;> rfl
theorem fives_made (w:World):IntSl (w.alloc (.cells #[.int .i64 5,.int .i64 0,.int .i64 0,.int .i64 0] 3)) fives4 (.slice (some ⟨w.heap.size,0,none⟩) 4 4):=by
 refine ⟨_,_,rfl,.inr ⟨w.heap.size,0,rfl,fun j hj=>?_⟩⟩
 have:=(cells_of (l:=[.int .i64 5,.int .i64 0,.int .i64 0,.int .i64 0]) (heap_alloc_new w (.cells #[.int .i64 5,.int .i64 0,.int .i64 0,.int .i64 0] 3))).1 j (.int .i64 (fives4.getD j 0))
 rw [Nat.zero_add]
 apply this
 have hj':j<4:=hj
 have:j=0∨j=1∨j=2∨j=3:=by omega
 rcases this with rfl | rfl | rfl | rfl <;> rfl
theorem puts_made (w:World):PutSl (w.alloc (.cells #[.int .i64 1,.int .i64 30] 43)) doneMs.puts (.slice (some ⟨w.heap.size,0,none⟩) 1 1):=by
 refine ⟨_,_,rfl,.inr ⟨w.heap.size,0,rfl,fun j hj=>?_⟩⟩
 have h:=(cells_of (l:=[.int .i64 1,.int .i64 30]) (heap_alloc_new w (.cells #[.int .i64 1,.int .i64 30] 43))).1
 have hj':j<1:=hj
 have:j=0:=by omega
 subst this
 exact ⟨h 0 _ rfl,h 1 _ rfl⟩
theorem below_new (w:World) (o:Obj):Below w.heap.size w (w.alloc o):=(Below.refl _ w).alloc (Nat.le_refl _) o
theorem run_own (w:World) (v:Value) (k m:Nat) (hr:Ready w) (hb:BodyAt w v) (hv:IntSl w zeros8 (.slice (some ⟨k,0,none⟩) 8 8)) (hi:IntSl w fives4 (.slice (some ⟨m,0,none⟩) 4 4)) :
  Calls Tryd.prog 39 #[v,.slice (some ⟨k,0,none⟩) 8 8,.slice (some ⟨m,0,none⟩) 4 4] w fun r w'=>∃ vb vc pad pcap,r = .returned (.tuple #[endV vb vc pad pcap,okV])∧RanAt w' vb vc pad pcap∧Below w.heap.size w w':=by
 obtain ⟨T,p,bl,⟨h1,h2,h3⟩,h4,h5⟩:=hb
 refine (Run_is w v T _ _ _ _ _ _ zeros8 fives4 0 0 p bl hr h1 h2 h3 h4 hv hi).mono fun r w' h=>?_
 rw [h5] at h
 obtain ⟨vv,pv,B,he,hvv,ho,-,hbw⟩:=h
 rcases hvv with ⟨-,hn⟩ | ⟨vb,vc,rfl,hvb,-⟩
 ·cases hn
 obtain ⟨pad,pcap,rfl⟩:=owns_value ho
 exact ⟨vb,vc,pad,pcap,he,⟨hvb,B,ho⟩,hbw⟩
set_option maxRecDepth 20000 in
set_option maxHeartbeats 4000000 in
theorem does_b (hplain:∀ w:World,Calls Tryd.prog 31 #[] w fun r w'=>∃ v,r = .returned v∧BodyAt w' v∧Below w.heap.size w w') (w:World) (hr:Ready w) :
  Calls Tryd.prog 37 #[] w fun r w'=>r = .returned (.bool true)∧Below w.heap.size w w':=by
 have HP:Hid _:=hplain
 have HR:Hid (Ready w):=hr
 clear hplain hr
 obtain ⟨i0,hi0,hz0,hz1,hz2⟩:=info_parts info3
 have hmk:∀ W:World,(Instr.makeSlice 23 (.int .i64 8) (.int .i64 8)).run Tryd.prog W = .ok (.slice (some ⟨W.heap.size,0,none⟩) 8 8) (W.alloc (.cells #[.int .i64 0,.int .i64 0,.int .i64 0,.int .i64 0,.int .i64 0,.int .i64 0,.int .i64 0,.int .i64 0] 3)):=by
  intro W
  have h:=run_make (P:=Tryd.prog) W 23 3 i0 _ Tryd.underlying23 hi0 hz0 .i64 .i64 8 8 (by decide) (by decide) (by rw [hz2];decide) (by decide)
  rw [hz1] at h
  have e:madeCells (Value.int .i64 0).cells (Int.toNat 8*1)=#[.int .i64 0,.int .i64 0,.int .i64 0,.int .i64 0,.int .i64 0,.int .i64 0,.int .i64 0,.int .i64 0]:=by kernel_rfl
  rw [e] at h
  exact h
 clear hi0 hz0 hz1 hz2
 go_enter Tryd.func37,Tryd.ntmps37
 go_wp2_with fail
 go_cut [1,2] from 1 to 1 (fun x y wc=>∃ g g' vb vc pad pcap,x = .pointer (some ⟨g,0,none⟩)∧y = .pointer (some ⟨g',0,none⟩)∧Hid (RanAt wc vb vc pad pcap∧Below w.heap.size w wc)∧wc.heap[g]?=some (.cells #[.slice (some ⟨vb,0,none⟩) 8 vc,.slice pad 1 pcap,.int .i64 5] 27 (0,0))∧wc.heap[g']?=some (.cells #[.int .i64 0,.int .i64 0] 30 (0,0)))
 case first =>
  refine wp_region_any (by kernel_rfl) (wpAny_inv (fun l a w'=>∃ l0 l1 l2 l3 l4 l5 l6 l7 l8 l9 l10:Bool,∃ x1 x2 x3 x4 x5 x6 x7 x8 x9:Value,l=#[l0,l1,l2,l3,l4,l5,l6,l7,l8,l9,l10]∧a=⟨#[.bool false,x1,x2,x3,x4,x5,x6,x7,x8,x9,undef,undef,undef,undef,undef,undef,undef,undef,undef,undef,undef,undef,undef,undef,undef,undef,undef,undef,undef,undef,undef,undef,undef,undef,undef,undef,undef,undef],[]⟩∧DF w l0 l1 l2 l3 l4 l5 l6 l7 l8 l9 l10 x1 x2 x3 x4 x5 x6 x7 x8 x9 w') ?_ ?_ _ _ _ _ ?_ ?_)
  ·rintro l a w' ⟨l0,l1,l2,l3,l4,l5,l6,l7,l8,l9,l10,x1,x2,x3,x4,x5,x6,x7,x8,x9,rfl,rfl,hf⟩ hr
   have hn:∀ i:Nat,¬ (i ∈ ([]:List Nat)):=fun i h=>by cases h
   rw [← hr] at hn
   have h0:=hn 0
   have h1:=hn 1
   have h2:=hn 2
   have h7:=hn 7
   have h8:=hn 8
   simp [Region.ready,Region.binds] at h0 h1 h2 h7 h8
   subst h0 h1 h2 h7 h8
   have h3:=hn 3
   simp [Region.ready,Region.binds] at h3
   subst h3
   have h4:=hn 4
   simp [Region.ready,Region.binds] at h4
   subst h4
   have h5:=hn 5
   simp [Region.ready,Region.binds] at h5
   subst h5
   have h6:=hn 6
   have h9:=hn 9
   simp [Region.ready,Region.binds] at h6 h9
   subst h6 h9
   have h10:=hn 10
   simp [Region.ready,Region.binds] at h10
   subst h10
   have hl:=hf.last
   clear hn hr hf HP HR hmk
   dsimp only
   go_wp2_with fail
   go_meet
   case rel=>exact hl
  ·rintro l a w' i ⟨l0,l1,l2,l3,l4,l5,l6,l7,l8,l9,l10,x1,x2,x3,x4,x5,x6,x7,x8,x9,rfl,rfl,hf⟩ hi
   have hlt:i<11:=by unfold Region.ready at hi;exact List.mem_range.1 (List.mem_filter.1 hi).1
   have h11:i=0∨i=1∨i=2∨i=3∨i=4∨i=5∨i=6∨i=7∨i=8∨i=9∨i=10:=by omega
   have HF:Hid _:=hf
   clear hf hlt
   rcases h11 with rfl | rfl | rfl | rfl | rfl | rfl | rfl | rfl | rfl | rfl | rfl
   all_goals simp [Region.ready,Region.binds] at hi
   all_goals refine wpOp_step rfl ?_
   all_goals intro K hK
   all_goals have HK:Hid _:=hK
   all_goals clear hK
   ·subst hi
    go_simp
    refine (HP.out w').mono ?_
    rintro r w4 ⟨v4,rfl,hv4,hb4⟩
    exact HK.out _ _ ⟨true,l1,l2,l3,l4,l5,l6,l7,l8,l9,l10,x1,x2,x3,v4,x5,x6,x7,x8,x9,rfl,rfl,(HF.out.grow hb4).s0 hv4⟩
   ·subst hi
    go_simp
    exact HK.out _ _ ⟨l0,true,l2,l3,l4,l5,l6,l7,l8,l9,l10,x1,x2,x3,x4,_,x6,x7,x8,x9,rfl,rfl,(HF.out.grow (below_new _ _)).s1 ⟨_,rfl,zeros_made w'⟩⟩
   ·subst hi
    go_simp
    exact HK.out _ _ ⟨l0,l1,true,l3,l4,l5,l6,l7,l8,l9,l10,x1,x2,x3,x4,x5,_,x7,x8,x9,rfl,rfl,(HF.out.grow (below_new _ _)).s2 ⟨_,rfl,fives_made w'⟩⟩
   ·obtain ⟨rfl,rfl,rfl,rfl,-⟩:=hi
    rcases HF.out.mid with ⟨-,-,-,-,-,-,hB,hZ,hF⟩ | ⟨q,-⟩
    ·obtain ⟨k,rfl,hz⟩:=hZ rfl
     obtain ⟨m,rfl,hf⟩:=hF rfl
     have HB:Hid _:=hB rfl
     have HZ:Hid (_∧_):=⟨hz,hf⟩
     clear hB hZ hF hz hf
     go_simp
     refine (run_own w' _ k m (HR.out.below HF.out.bel) HB.out HZ.out.1 HZ.out.2).mono ?_
     rintro r w4 ⟨vb,vc,pad,pcap,rfl,hv4,hb4⟩
     exact HK.out _ _ ⟨true,true,true,true,l4,l5,l6,l7,l8,l9,l10,x1,x2,x3,x4,_,_,_,x8,x9,rfl,rfl,(HF.out.grow hb4).s3 hv4⟩
    ·cases q
   ·obtain ⟨rfl,rfl⟩:=hi
    go_simp
    exact HK.out _ _ ⟨l0,l1,l2,true,true,l5,l6,l7,l8,l9,l10,x1,x2,x7,x4,x5,x6,x7,x8,x9,rfl,rfl,HF.out.s4⟩
   ·obtain ⟨rfl,rfl⟩:=hi
    rcases HF.out.mid with ⟨-,q,-⟩ | ⟨rfl,-,-,-,vb,vc,pad,pcap,-,-,e4,-⟩
    ·cases q
    ·have e:=e4 rfl
     clear e4
     subst e
     go_simp
     exact HK.out _ _ ⟨l0,l1,l2,true,true,true,l6,l7,l8,l9,l10,x1,x2,_,x4,x5,x6,x7,_,x9,rfl,rfl,HF.out.s5 (fun y z h=>by cases h;rfl)⟩
   ·obtain ⟨rfl,rfl⟩:=hi
    rcases HF.out.mid with ⟨-,q,-⟩ | ⟨rfl,-,-,-,vb,vc,pad,pcap,-,-,e4,-⟩
    ·cases q
    ·have e:=e4 rfl
     clear e4
     subst e
     go_simp
     exact HK.out _ _ ⟨l0,l1,l2,true,true,l5,true,l7,l8,l9,l10,x1,x2,_,x4,x5,x6,x7,x8,_,rfl,rfl,HF.out.s6 (fun y z h=>by cases h;rfl)⟩
   ·subst hi
    go_simp
    exact HK.out _ _ ⟨l0,l1,l2,l3,l4,l5,l6,true,l8,l9,l10,_,x2,x3,x4,x5,x6,x7,x8,x9,rfl,rfl,(HF.out.grow (below_new _ _)).s7 ⟨_,rfl,HF.out.bel.size,heap_alloc_new w' _⟩⟩
   ·subst hi
    go_simp
    exact HK.out _ _ ⟨l0,l1,l2,l3,l4,l5,l6,l7,true,l9,l10,x1,_,x3,x4,x5,x6,x7,x8,x9,rfl,rfl,(HF.out.grow (below_new _ _)).s8 ⟨_,rfl,HF.out.bel.size,heap_alloc_new w' _⟩⟩
   ·obtain ⟨rfl,rfl,rfl,rfl,-⟩:=hi
    obtain ⟨vb,vc,pad,pcap,-,e8,-⟩:=HF.out.shape rfl
    have e8':=e8 rfl
    clear e8
    unfold endV at e8'
    subst e8'
    rcases HF.out.b3 with ⟨q,-⟩ | ⟨-,c0,c1,c2,⟨g,rfl,hg0,hg⟩,-⟩
    ·cases q
    ·obtain ⟨c,f,lt⟩:=cells_of (l:=[_,_,_]) hg
     have k0:=c 0 _ rfl
     have k1:=c 1 _ rfl
     have k2:=c 2 _ rfl
     have HG:Hid _:=hg
     clear c hg
     go_simp
     exact HK.out _ _ ⟨l0,l1,l2,true,l4,true,l6,true,l8,true,l10,_,x2,x3,x4,x5,x6,x7,_,x9,rfl,rfl,HF.out.s9 rfl hg0 HG.out rfl⟩
   ·obtain ⟨rfl,rfl,rfl,-,-,-,-,rfl,-⟩:=hi
    obtain ⟨vb,vc,pad,pcap,-,-,e9⟩:=HF.out.shape rfl
    have e9':=e9 rfl
    clear e9
    unfold okV at e9'
    subst e9'
    rcases HF.out.b2 with ⟨q,-⟩ | ⟨-,c0,c1,⟨g,rfl,hg0,hg⟩,-⟩
    ·cases q
    ·obtain ⟨c,f,lt⟩:=cells_of (l:=[_,_]) hg
     have k0:=c 0 _ rfl
     have k1:=c 1 _ rfl
     have HG:Hid _:=hg
     clear c hg
     go_simp
     exact HK.out _ _ ⟨l0,l1,l2,true,l4,l5,true,l7,true,l9,true,x1,_,x3,x4,x5,x6,x7,x8,_,rfl,rfl,HF.out.s10 rfl hg0 HG.out rfl⟩
  ·exact ⟨false,false,false,false,false,false,false,false,false,false,false,undef,undef,undef,undef,undef,undef,undef,undef,undef,rfl,rfl,⟨(Below.refl _ w).drew,.inl ⟨rfl,rfl,rfl,rfl,rfl,rfl,(fun h=>by cases h),(fun h=>by cases h),(fun h=>by cases h)⟩,.inl ⟨rfl,rfl⟩,.inl ⟨rfl,rfl⟩⟩⟩
  ·simp
 case rest =>
  obtain ⟨g,g',vb,vc,pad,pcap,rfl,rfl,HC,hg,hg'⟩:=hcut
  obtain ⟨c,f,lt⟩:=cells_of (l:=[_,_,_]) hg
  obtain ⟨c',f',lt'⟩:=cells_of (l:=[_,_]) hg'
  have k0:=c 0 _ rfl
  have k1:=c 1 _ rfl
  have k2:=c 2 _ rfl
  have q0:=c' 0 _ rfl
  have v0:wc.cell? ⟨vb,0,none⟩=some (.int .i64 15):=by
   obtain ⟨-,cs,h1,-,h3⟩:=HC.out.1.1
   unfold World.cell?
   rw [h1]
   exact h3 0 (by decide)
  clear c c' f f' hg hg' HP HR hmk
  go_wp2_with (go_at_call 41;refine (SameP_any _ doneMs.puts _ _ (by decide) ((PutSl.of_own HC.out.1.2.choose_spec).below (below_new _ _)) (puts_made wc)).mono ?_;rintro r w4 ⟨rfl,hb4⟩;have H4:Hid (Below w.heap.size w w4):=below_seq HC.out.2 (below_seq (below_new _ _) hb4);clear hb4)
  go_ret
  exact ⟨rfl,H4.out⟩
theorem mean_plain:meanOf plainT zeros8 fives4 0 0=((0,0),doneMs):=by kernel_rfl
theorem plain_body (w:World):Calls Tryd.prog 31 #[] w fun r w'=>∃ v,r = .returned v∧BodyAt w' v∧Below w.heap.size w w' :=
 (plain_any w).mono fun _ _ ⟨v,bl,h1,h2,h3,h4⟩=>⟨v,h1,⟨plainT,_,bl,⟨h2,h3,bulk_plain⟩,checkV_plain,mean_plain⟩,h4⟩
theorem does_any (w:World) (hr:Ready w):Calls Tryd.prog 37 #[] w fun r w'=>r = .returned (.bool true)∧Below w.heap.size w w':=does_b plain_body w hr
theorem imF_len (a:List St) (cx cy:Int):(imF a cx cy).2.length≤2000:=by
 unfold imF
 split
 ·split
  ·simp
  ·simp only;omega
 ·simp
theorem imF_plain:imF plainT 0 0=((0,0),imageL):=by first | kernel_rfl | rfl
theorem imF_bad {a:List St} {cx cy mx my:Int} {I:List Io} (h:imF a cx cy=((mx,my),I)) (h0:mx≠0):I=[]:=by
 unfold imF at h
 split at h
 ·split at h
  ·exact (congrArg Prod.snd h).symm
  ·exact absurd (congrArg (fun x=>x.1.1) h).symm h0
 ·exact (congrArg Prod.snd h).symm
theorem imF_good {a:List St} {cx cy my:Int} {I:List Io} (h:imF a cx cy=((0,my),I)):cx=0∧I=St.pcAll a 0∧(St.pcAll a 0).length≤2000:=by
 unfold imF at h
 split at h
 ·rename_i hc
  split at h
  ·exact absurd (congrArg (fun x=>x.1.1) h) (by simp)
  ·exact ⟨hc,(congrArg Prod.snd h).symm,by omega⟩
 ·rename_i hc
  exact absurd (congrArg (fun x=>x.1.1) h) hc
theorem Image_m (hall:∀ W,Ready W→ListOk W 1048576) (a:List St) (cx cy mx my:Int) (I:List Io) (w:World) (v:Value) (p:Nat→Prop) (bl:List Nat) (hr:Ready w∧EndsIn w∧CompsIn w) (h:St.SlQ p w a v bl∧bl.Nodup) (hN:St.bulkAll a≤1048576) (hx:checkV a = .agg #[.int .i64 cx,.int .i64 cy]∧imF a cx cy=((mx,my),I)):Calls Tryd.prog 30 #[v] w fun r w'=>∃ ad c,r = .returned (.tuple #[.slice ad I.length c,.agg #[.int .i64 mx,.int .i64 my]])∧Ow w' w.heap.size (.slice ad I.length c) I∧Below w.heap.size w w':=by
 have:=Image_any hall a cx cy w v p bl hr.1 hr.2.1 hr.2.2 ⟨h.1,h.2,hN⟩ hx.1
 rw [hx.2] at this
 refine this.mono ?_
 rintro r w' ⟨iv,rfl,ho,hb⟩
 obtain ⟨ad,c,rfl⟩:=owns_value ho
 exact ⟨ad,c,rfl,ho,hb⟩
theorem plain_m (hall:∀ W,Ready W→ListOk W 1048576) (w:World) (hr:Ready w∧EndsIn w∧CompsIn w):Calls Tryd.prog 31 #[] w fun r w'=>∃ v L,r = .returned v∧Hid (L=imageL∧(∀ W,Below w'.heap.size w' W→Calls Tryd.prog 30 #[v] W fun r W'=>∃ ad c,r = .returned (.tuple #[.slice ad L.length c,.agg #[.int .i64 0,.int .i64 0]])∧Ow W' W.heap.size (.slice ad L.length c) L∧Below W.heap.size W W'))∧L.length≤100∧Below w.heap.size w w':=by
 refine (plain_any w).mono ?_
 rintro r w' ⟨v,bl,rfl,h1,h2,h3⟩
 refine ⟨v,imageL,rfl,⟨rfl,fun W hW=>?_⟩,by decide,h3⟩
 have hb:=below_seq h3 hW
 exact Image_m hall plainT 0 0 0 0 imageL W v _ bl ⟨hr.1.below hb,hr.2.1.below hb,hr.2.2.below hb⟩ ⟨h1.move (fun b hb hl=>⟨hb,hW.block b hl⟩),h2⟩ bulk_plain ⟨checkV_plain,imF_plain⟩
theorem image_m (L:List Io) (h:L=imageL) (w:World):Calls Tryd.prog 20 #[] w fun r w'=>∃ ad c,r = .returned (.slice ad L.length c)∧InSl w' L (.slice ad L.length c)∧Below w.heap.size w w':=by
 subst h
 exact (image_any w).mono fun r w' ⟨b,h1,h2,h3⟩=>⟨_,_,h1,h2,h3⟩
theorem Mean_m (w:World) (v:Value) (a:List St) (va ia:Option Addr) (vc ic:Nat) (vs is:List Int) (p:Nat→Prop) (bl:List Nat) (c k:Int) (V:List Int) (Q:List (Int × Int)) (t:Nat) (hr:Ready w) (h:St.SlQ p w a v bl∧bl.Nodup) (hb:St.bulkAll a≤1048576) (hx:checkV a = .agg #[.int .i64 0,.int .i64 0]) (hv:IntSl w vs (.slice va vs.length vc)) (hi:IntSl w is (.slice ia is.length ic)) (hm:meanOf a vs is 0 0=((c,k),⟨V,Q,t⟩)) :
  Calls Tryd.prog 39 #[v,.slice va vs.length vc,.slice ia is.length ic] w fun r w'=>∃ ua un uc qa qn qc,r = .returned (.tuple #[.agg #[.slice ua un uc,.slice qa qn qc,.int .i64 t],.agg #[.int .i64 c,.int .i64 k]])∧(∀ W':World,(∀ k,w.heap.size≤k→k<w'.heap.size→W'.heap[k]?=w'.heap[k]?)→IntSl W' V (.slice ua un uc)∧PutSl W' Q (.slice qa qn qc))∧Below w.heap.size w w':=by
 have:=Run_is w v a va ia vs.length vc is.length ic vs is 0 0 p bl hr h.1 h.2 hb hx hv hi
 rw [hm] at this
 refine this.mono ?_
 rintro r w' ⟨vv,pv,B,rfl,hv,ho,hB,hb⟩
 have ho':∀ W':World,(∀ k,w.heap.size≤k→k<w'.heap.size→W'.heap[k]?=w'.heap[k]?)→PutSl W' Q pv:=fun W' hW=>PutSl.of_own (ownsRow_same ho fun k h1 h2=>hW k (Nat.le_trans hB h1) h2)
 obtain ⟨pad,pcap,rfl⟩:=owns_value ho
 rcases hv with ⟨rfl,h0⟩ | ⟨vb,vc,rfl,⟨hl8,cs,hc1,hc2⟩,hvb,hlt⟩
 ·dsimp only at h0
  exact ⟨_,_,_,_,_,_,rfl,fun W' hW=>⟨⟨_,_,by rw [h0];rfl,.inl h0⟩,ho' W' hW⟩,hb⟩
 ·exact ⟨_,_,_,_,_,_,rfl,fun W' hW=>⟨VarBlk.sl ⟨hl8,cs,(hW vb hvb (Array.getElem?_eq_some_iff.1 hc1).1).trans hc1,hc2⟩,ho' W' hW⟩,hb⟩
theorem Mach_m (w:World) (l:List Io) (iad:Option Addr) (c0:Nat) (va ia:Option Addr) (vc ic:Nat) (vs is:List Int) (c k:Int) (V:List Int) (Q:List (Int × Int)) (t:Int) (hk:KindsIn w) (h:InSl w l (.slice iad l.length c0)) (hnil:iad=none→l.length=0∧c0=0) (hv:IntSl w vs (.slice va vs.length vc)) (hi:IntSl w is (.slice ia is.length ic)) (hm:resF l vs is=((c,k),V,Q,t)) :
  Calls Tryd.prog 13 #[.slice iad l.length c0,.slice va vs.length vc,.slice ia is.length ic] w fun r w'=>∃ ua un uc qa qn qc,r = .returned (.tuple #[.agg #[.slice ua un uc,.slice qa qn qc,.int .i64 t],.agg #[.int .i64 c,.int .i64 k]])∧(IntSl w' V (.slice ua un uc)∧PutSl w' Q (.slice qa qn qc))∧Below w.heap.size w w':=by
 refine (Go.Proofs.YtnkgbkkakokciacDoor.Run_is w l iad c0 va ia vc ic vs is hk h hnil hv hi).mono ?_
 rintro r w' ⟨hb,u,q,rfl,h1,h2,-⟩
 rw [hm] at h1 h2 ⊢
 have i1:IntSl w' V u:=ints_of_own h1
 have i2:PutSl w' Q q:=Go.Proofs.YtnkgbkkakokciacDoor.PutSl.of_own h2
 obtain ⟨ua,uc,rfl⟩:=owns_value h1
 obtain ⟨qa,qc,rfl⟩:=owns_value h2
 exact ⟨_,_,_,_,_,_,rfl,⟨i1,i2⟩,hb⟩
theorem agree_c (a:List St) (vs is:List Int) (hx:checkV a = .agg #[.int .i64 0,.int .i64 0]) (hn:(St.pcAll a 0).length≤2000) :
  ∃ (c k:Int) (V:List Int) (Q:List (Int × Int)) (t:Nat) (c' k':Int) (V':List Int) (Q':List (Int × Int)) (t':Int),meanOf a vs is 0 0=((c,k),⟨V,Q,t⟩)∧resF (St.pcAll a 0) vs is=((c',k'),V',Q',t')∧(V.length≤8∧Q.length≤20000) ∧
   ((c=0∧c'=0∧V=V'∧Q=Q')∨(c=3∧c'=3)∨c=11∨(c=0∧c'=11)∨(c=3∧c'=11)):=by
 have h:=agree a vs is 0 hx hn
 have hl:=meanOf_puts a vs is 0 0
 have hc:(meanOf a vs is 0 0).1.1=0∨(meanOf a vs is 0 0).1.1=3∨(meanOf a vs is 0 0).1.1=11:=by
  unfold meanOf
  rw [if_neg (by simp)]
  split
  ·exact .inr (.inl rfl)
  ·split
   ·exact .inl rfl
   ·exact .inr (.inr rfl)
 rcases hm:meanOf a vs is 0 0 with ⟨⟨c,k⟩,⟨V,Q,t⟩⟩
 rcases hr:resF (St.pcAll a 0) vs is with ⟨⟨c',k'⟩,V',Q',t'⟩
 rw [hm,hr] at h
 rw [hm] at hl hc
 dsimp only at h hl hc
 refine ⟨c,k,V,Q,t,c',k',V',Q',t',rfl,rfl,⟨hl.1,hl.2.1⟩,?_⟩
 rcases h with ⟨h1,h2,h3,h4⟩ | ⟨h1,⟨h2,h3⟩ | h2 | h2⟩
 ·exact .inl ⟨h1,h2,h3,h4⟩
 ·exact .inr (.inl ⟨h2,h3⟩)
 ·exact .inr (.inr (.inl h2))
 ·rcases hc with h | h | h
  ·exact .inr (.inr (.inr (.inl ⟨h,h2⟩)))
  ·exact .inr (.inr (.inr (.inr ⟨h,h2⟩)))
  ·exact .inr (.inr (.inl h))
theorem Check_m (a:List St) (w:World) (iad:Option Addr) (ic:Nat) (hk:KindsIn w) (h:InSl w (St.pcAll a 0) (.slice iad (St.pcAll a 0).length ic)) (hx:checkV a = .agg #[.int .i64 0,.int .i64 0]) (hn:(St.pcAll a 0).length≤2000):Calls Tryd.prog 38 #[.slice iad (St.pcAll a 0).length ic] w fun r w'=>r = .returned (.agg #[.int .i64 0,.int .i64 0])∧Below w.heap.size w w' :=
 Check_all w _ iad ic hk h 0 0 (image_right a (checkV_fit hx) (checkV_lay hx).2.1 hn)
theorem Ow.set {w:World} {B g i:Nat} {v u:Value} {l:List Io} (h:Ow w B v l) (hg:g<B):Ow (w.setCell ⟨g,i,none⟩ u) B v l:=ownsRow_same h (fun k hk _=>Below.heap_setCell _ _ _ _ (show k≠g by omega))
theorem Ow.nilc {w:World} {B:Nat} {ad:Option Addr} {n c:Nat} {l:List Io} (h:Ow w B (.slice ad n c) l):ad=none→l.length=0∧c=0:=by
 rintro rfl
 obtain ⟨-,⟨e,he⟩ | ⟨g,cap,cur,e,-⟩⟩:=h
 ·cases e;exact ⟨he,rfl⟩
 ·cases e
end Go.Proofs.YtnkgbkkakokciacDoor.B
