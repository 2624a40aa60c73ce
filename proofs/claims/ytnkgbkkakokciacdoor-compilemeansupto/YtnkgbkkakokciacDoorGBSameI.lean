import Derived.Test.YtnkgbkkakokciacDoorGWorks
import Derived.Test.YtnkgbkkakokciacDoorGBRunD
namespace Go.Proofs.YtnkgbkkakokciacDoor.B
structure NR (l:List Io) (os:List Nat) (E:List Nat) (k e:Nat) (ws ws':List Int):Prop where
 run:nestScan l (l.drop k) k os ws=nestScan l (l.drop e) e os ws'
 le:k≤e∧e≤l.length
 len:ws'.length=ws.length
 out:∀ j,j<k∨e≤j→ws'.getD j 0=ws.getD j 0
 first:k<e→ws'.getD k 0=beginOf os.getLast?
 jump:∀ j,k≤j→j<e→(l.getD j in0).op=11∨(l.getD j in0).op=12→(j:Int)<(l.getD j in0).a∧(((l.getD j in0).a<e∧ws'.getD (l.getD j in0).a.toNat 0=ws'.getD j 0)∨(ws'.getD j 0=beginOf os.getLast?∧((l.getD j in0).a=e∨∃ t ∈ E,(l.getD j in0).a=(t:Int))))
theorem NR.refl {l:List Io} {os:List Nat} {E:List Nat} {k:Nat} {ws:List Int} (h:k≤l.length):NR l os E k k ws ws :=
 ⟨rfl,⟨Nat.le_refl _,h⟩,rfl,fun _ _=>rfl,fun h=>by omega,fun j h1 h2=>by omega⟩
theorem NR.trans {l:List Io} {os:List Nat} {E1 E2 E:List Nat} {k m e:Nat} {ws ws1 ws2:List Int} (h:NR l os E1 k m ws ws1) (h':NR l os E2 m e ws1 ws2) (g1:∀ t ∈ E1,t=m∨t=e∨t ∈ E) (g2:∀ t ∈ E2,t=e∨t ∈ E):NR l os E k e ws ws2 where
 run:=h.run.trans h'.run
 le:=⟨Nat.le_trans h.le.1 h'.le.1,h'.le.2⟩
 len:=h'.len.trans h.len
 out j hj:=by
  have:=h.le.1
  have:=h'.le.1
  rw [h'.out j (by omega),h.out j (by omega)]
 first hk:=by
  by_cases c:k<m
  ·rw [h'.out k (by omega)]
   exact h.first c
  ·have e1:k=m:=by have:=h.le.1;omega
   subst e1
   exact h'.first hk
 jump j h1 h2 hop:=by
  by_cases c:j<m
  ·obtain ⟨q1,q2⟩:=h.jump j h1 c hop
   refine ⟨q1,?_⟩
   have hm:=h'.le.1
   have hj:ws2.getD j 0=ws1.getD j 0:=h'.out j (by omega)
   have atm:(l.getD j in0).a=(m:Int)→ws1.getD j 0=beginOf os.getLast?→((l.getD j in0).a<e∧ws2.getD (l.getD j in0).a.toNat 0=ws2.getD j 0)∨(ws2.getD j 0=beginOf os.getLast?∧((l.getD j in0).a=e∨∃ t ∈ E,(l.getD j in0).a=(t:Int))):=fun ea eb=>by
    by_cases c2:m<e
    ·refine .inl ⟨by omega,?_⟩
     rw [ea,hj,eb,show ((m:Int)).toNat=m by omega]
     exact h'.first c2
    ·exact .inr ⟨hj.trans eb,.inl (by omega)⟩
   rcases q2 with ⟨q2,q3⟩ | ⟨q2,q3 | ⟨t,ht,q3⟩⟩
   ·refine .inl ⟨by omega,?_⟩
    rw [h'.out _ (by omega),q3,hj]
   ·exact atm q3 q2
   ·rcases g1 t ht with rfl | rfl | g
    ·exact atm q3 q2
    ·exact .inr ⟨hj.trans q2,.inl q3⟩
    ·exact .inr ⟨hj.trans q2,.inr ⟨t,g,q3⟩⟩
  ·obtain ⟨q1,q2⟩:=h'.jump j (by omega) h2 hop
   refine ⟨q1,?_⟩
   rcases q2 with q2 | ⟨q2,q3 | ⟨t,ht,q3⟩⟩
   ·exact .inl q2
   ·exact .inr ⟨q2,.inl q3⟩
   ·rcases g2 t ht with rfl | g
    ·exact .inr ⟨q2,.inl q3⟩
    ·exact .inr ⟨q2,.inr ⟨t,g,q3⟩⟩
theorem getD_set_same {ws:List Int} {k:Nat} {z:Int} (h:k<ws.length):(ws.set k z).getD k 0=z:=by simp [List.getD_eq_getElem?_getD,h]
theorem getD_set_other {ws:List Int} {j k:Nat} {z:Int} (h:j≠k):(ws.set k z).getD j 0=ws.getD j 0:=by simp only [List.getD_eq_getElem?_getD,List.getElem?_set_ne (Ne.symm h)]
theorem NR.one {l:List Io} {os:List Nat} {E:List Nat} {k:Nat} {ws:List Int} {x:Io} (h:k<l.length∧l.getD k in0=x) (hw:k<ws.length) (hn:nestOf l k x os=(0,os)) (hj:x.op=11∨x.op=12→(k:Int)<x.a∧∃ t ∈ E,x.a=(t:Int)):NR l os E k (k+1) ws (ws.set k (beginOf os.getLast?)) where
 run:=by rw [nestScan_at l h.1,h.2,hn];simp
 le:=by omega
 len:=by simp
 out j hj:=getD_set_other (by omega)
 first _:=getD_set_same hw
 jump j h1 h2 hop:=by
  have e:j=k:=by omega
  subst e
  rw [h.2] at hop ⊢
  obtain ⟨q1,q2⟩:=hj hop
  exact ⟨q1,.inr ⟨getD_set_same hw,.inr q2⟩⟩
def Calm (x:Io):Prop:=x.op≠11∧x.op≠12∧x.op≠13∧x.op≠14∧x.op≠15∧x.op≠16∧x.op≠17
theorem nestOf_calm {l:List Io} {k:Nat} {x:Io} {os:List Nat} (h:x.op≠13∧x.op≠14∧x.op≠15∧x.op≠16∧x.op≠17):nestOf l k x os=(0,os):=by
 unfold nestOf
 rw [if_neg (by omega),if_neg (by omega),if_neg (by omega),if_neg (by omega)]
theorem mvI_calm {x:Io} (d:Int) (h:Calm x):mvI d x=x:=by
 obtain ⟨h1,h2,h3,h4,-⟩:=h
 unfold mvI
 rw [if_neg (by omega),if_neg (by omega)]
theorem NR.calm {l:List Io} {os:List Nat} (q:Int):∀ (C:List Io) (k:Nat) (ws:List Int),AtR l k q C→(∀ x ∈ C,Calm x)→ws.length=l.length+1→∃ ws',NR l os [] k (k+C.length) ws ws'
 | [],k,ws,h,_,_=>⟨ws,NR.refl (by simpa using h.1)⟩
 | x::r,k,ws,h,hc,hw=>by
  obtain ⟨h1,h2⟩:=AtR.app (C:=[x]) (D:=r) h
  have hx:=hc x (by simp)
  have h1':=h1.one
  rw [mvI_calm q hx] at h1'
  have n1:NR l os [] k (k+1) ws (ws.set k (beginOf os.getLast?)):=NR.one h1' (by omega) (nestOf_calm ⟨hx.2.2.1,hx.2.2.2.1,hx.2.2.2.2.1,hx.2.2.2.2.2.1,hx.2.2.2.2.2.2⟩) (fun hh=>by have:=hx.1;have:=hx.2.1;omega)
  obtain ⟨ws',n2⟩:=NR.calm q r (k+1) (ws.set k (beginOf os.getLast?)) h2 (fun y hy=>hc y (List.mem_cons_of_mem _ hy)) (by simpa using hw)
  refine ⟨ws',?_⟩
  rw [List.length_cons,show k+(r.length+1)=k+1+r.length by omega]
  exact n1.trans n2 (by simp) (by simp)
theorem opens_app {l:List Io} {os:List Nat} {o:Nat} {op a:Int}:opens l (os++[o]) op a=(opens l os op a).or (if (l.getD o in0).op=op∧(l.getD o in0).a=a then some o else none):=by
 unfold opens
 rw [List.find?_append]
 congr 1
 by_cases h:(l.getD o in0).op=op∧(l.getD o in0).a=a
 ·rw [if_pos h,List.find?_cons_of_pos (by simpa using h)]
 ·rw [if_neg h,List.find?_cons_of_neg (by simpa using h)]
  rfl
theorem NR.region {l:List Io} {os:List Nat} {E:List Nat} {o e:Nat} {ws ws':List Int} {x y:Io} (hx:o<l.length∧l.getD o in0=x) (hy:e<l.length∧l.getD e in0=y) (hw:ws.length=l.length+1)
  (hox:nestOf l o x os=(0,os++[o])) (hoy:nestOf l e y (os++[o])=(0,os)) (hx1:x.op=13∨x.op=16) (hy1:y.op=14∨y.op=17) (h:NR l (os++[o]) [] (o+1) e (ws.set o (beginOf os.getLast?)) ws'):NR l os E o (e+1) ws (ws'.set e (beginOf (some o))) where
 run:=by
  rw [nestScan_at l hx.1,hx.2,hox]
  simp only [ne_eq,not_true_eq_false,if_false]
  rw [h.run,nestScan_at l hy.1,hy.2,hoy]
  simp
 le:=by have:=h.le.1;omega
 len:=by rw [List.length_set,h.len,List.length_set]
 out j hj:=by
  have:=h.le.1
  rw [getD_set_other (by omega),h.out j (by omega),getD_set_other (by omega)]
 first _:=by
  have:=h.le.1
  rw [getD_set_other (by omega),h.out o (by omega),getD_set_same (by omega)]
 jump j h1 h2 hop:=by
  have hle:=h.le.1
  have hl:=h.len
  rw [List.length_set] at hl
  by_cases c:j=o
  ·subst c;rw [hx.2] at hop;omega
  by_cases c2:j=e
  ·subst c2;rw [hy.2] at hop;omega
  obtain ⟨q1,q2⟩:=h.jump j (by omega) (by omega) hop
  refine ⟨q1,.inl ?_⟩
  rw [getD_set_other (j:=j) (by omega)]
  rcases q2 with ⟨q2,q3⟩ | ⟨q2,q3 | ⟨t,ht,-⟩⟩
  ·refine ⟨by omega,?_⟩
   rw [getD_set_other (by omega),q3]
  ·refine ⟨by omega,?_⟩
   rw [q3,show ((e:Int)).toNat=e by omega,getD_set_same (by omega),q2,List.getLast?_append]
   rfl
  ·cases ht
theorem calm_of {op a b:Int} (h:op≠11∧op≠12∧op≠13∧op≠14∧op≠15∧op≠16∧op≠17):∀ x ∈ [(⟨op,a,b⟩:Io)],Calm x:=fun x hx=>by
 have:x=⟨op,a,b⟩:=by simpa using hx
 subst this
 exact h
theorem calm_app {a b:List Io} (h:∀ x ∈ a,Calm x) (h':∀ x ∈ b,Calm x):∀ x ∈ a++b,Calm x:=fun x hx=>by
 rcases List.mem_append.1 hx with hx | hx
 ·exact h x hx
 ·exact h' x hx
mutual
theorem Ex.calm:∀ e:Ex,e.Fit→∀ x ∈ e.pc,Calm x
 | .mk k n a,h=>by
  rw [Ex.Fit] at h
  obtain ⟨hk,ha⟩:=h
  rw [Ex.pc]
  rcases hk with ⟨rfl,-⟩ | ⟨rfl,-⟩ | ⟨rfl,-⟩ | ⟨rfl,-⟩ | ⟨hk,-⟩
  ·simp only [true_or,if_true]
   exact calm_of (by decide)
  ·simp only [or_true,if_true]
   exact calm_of (by decide)
  ·simp only [show ¬ ((3:Int)=1∨(3:Int)=2) by decide,if_true,if_false]
   exact calm_of (by decide)
  ·simp only [show ¬ ((4:Int)=1∨(4:Int)=2) by decide,show ¬ ((4:Int)=3) by decide,if_true,if_false]
   exact calm_app (Ex.calmAll a ha) (calm_app (a:=[⟨1,0,0⟩]) (calm_of (by decide)) (calm_app (a:=[⟨1,1,0⟩]) (calm_of (by decide)) (calm_app (a:=[⟨5,0,0⟩]) (calm_of (by decide)) (calm_of (by decide)))))
  ·rw [if_neg (by omega),if_neg (by omega),if_neg (by omega)]
   exact calm_app (Ex.calmAll a ha) (calm_of (by omega))
theorem Ex.calmAll:∀ a:List Ex,Ex.FitAll a→∀ x ∈ Ex.pcAll a,Calm x
 | [],_=>fun x hx=>by cases hx
 | e::r,h=>by rw [Ex.FitAll] at h;rw [Ex.pcAll];exact calm_app (Ex.calm e h.1) (Ex.calmAll r h.2)
end
theorem cd_calm (ck:Int) (ca cb:Ex) (ha:ca.Fit) (hb:cb.Fit):∀ x ∈ cdP ck ca cb,Calm x:=by
 unfold cdP
 refine calm_app (calm_app (calm_app (Ex.calm ca ha) (Ex.calm cb hb)) (calm_of (by split <;> decide))) ?_
 split
 ·exact calm_app (a:=[⟨1,0,0⟩]) (calm_of (by decide)) (calm_of (by decide))
 ·exact fun x hx=>by cases hx
structure Env (l:List Io) (os:List Nat) (i:Nat) (ar:List (Int × Int)):Prop where
 loops:∀ j:Int,(i:Int)≤j→opens l os 13 j=none
 locks:∀ n:Int,(6,n) ∉ ar→opens l os 16 n=none
theorem Env.more {l:List Io} {os:List Nat} {i:Nat} {ar:List (Int × Int)} (h:Env l os i ar) (z:Int × Int):Env l os i (ar++[z]):=⟨h.loops,fun n hn=>h.locks n (fun hm=>hn (List.mem_append.2 (.inl hm)))⟩
theorem Env.loop {l:List Io} {os:List Nat} {i o:Nat} {ar:List (Int × Int)} (h:Env l os i ar) (z:Int × Int) {b:Int} (ho:l.getD o in0=⟨13,i,b⟩):Env l (os++[o]) (i+1) (ar++[z]) where
 loops j hj:=by
  rw [opens_app,h.loops j (by omega),ho,if_neg (by simp only;omega)]
  rfl
 locks n hn:=by
  rw [opens_app,h.locks n (fun hm=>hn (List.mem_append.2 (.inl hm))),ho,if_neg (by simp)]
  rfl
theorem Env.lock {l:List Io} {os:List Nat} {i o:Nat} {ar:List (Int × Int)} (h:Env l os i ar) {n b:Int} (ho:l.getD o in0=⟨16,n,b⟩):Env l (os++[o]) i (ar++[(6,n)]) where
 loops j hj:=by
  rw [opens_app,h.loops j hj,ho,if_neg (by simp)]
  rfl
 locks m hn:=by
  rw [opens_app,h.locks m (fun hm=>hn (List.mem_append.2 (.inl hm))),ho,if_neg (by
   simp only [true_and]
   rintro rfl
   exact hn (by simp))]
  rfl
theorem nest13 {l:List Io} {os:List Nat} {o:Nat} {a b:Int} (h:opens l os 13 a=none):nestOf l o ⟨13,a,b⟩ os=(0,os++[o]):=by
 simp [nestOf,h]
theorem nest16 {l:List Io} {os:List Nat} {o:Nat} {a b:Int} (h:opens l os 16 a=none):nestOf l o ⟨16,a,b⟩ os=(0,os++[o]):=by
 simp [nestOf,h]
theorem nest14 {l:List Io} {os:List Nat} {o e:Nat} {a b:Int} (h:opens l os 13 a=none) (ho:l.getD o in0=⟨13,a,b⟩):nestOf l e ⟨14,a,1+(o:Int)⟩ (os++[o])=(0,os):=by
 have h1:opens l (os++[o]) 13 a=some o:=by rw [opens_app,h,ho];simp
 have h2:(os++[o]).getLast?=some o:=by simp
 unfold nestOf
 rw [if_neg (by simp),if_pos rfl,h1,h2,if_neg]
 ·simp
 ·simp [beginOf]
  omega
theorem nest17 {l:List Io} {os:List Nat} {o e:Nat} {a b:Int} (h:opens l os 16 a=none) (ho:l.getD o in0=⟨16,a,b⟩):nestOf l e ⟨17,a,0⟩ (os++[o])=(0,os):=by
 have h1:opens l (os++[o]) 16 a=some o:=by rw [opens_app,h,ho];simp
 have h2:(os++[o]).getLast?=some o:=by simp
 unfold nestOf
 rw [if_neg (by simp),if_neg (by simp),if_pos rfl,h1,h2,if_neg]
 ·simp
 ·simp
theorem nest15 {l:List Io} {os:List Nat} {o e:Nat} {a b:Int} (h:opens l os 13 a=none) (ho:l.getD o in0=⟨13,a,b⟩):nestOf l e ⟨15,a,0⟩ (os++[o])=(0,os++[o]):=by
 have h1:opens l (os++[o]) 13 a=some o:=by rw [opens_app,h,ho];simp
 simp [nestOf,h1]
section
variable (l:List Io)
theorem NR.at' {l:List Io} {os:List Nat} {E:List Nat} {k e e':Nat} {ws ws':List Int} (h:NR l os E k e ws ws') (q:e=e'):NR l os E k e' ws ws':=q ▸ h
theorem cd12_nr (ck:Int) (ca cb:Ex) (ha:ca.Fit) (hb:cb.Fit) (os:List Nat) (p t:Nat) (q:Int) (a:Int) (ws:List Int) (h:AtR l p q (cdP ck ca cb++[⟨12,a,0⟩])) (hw:ws.length=l.length+1) (ht:a+q=t) (hlt:p+(cdP ck ca cb).length<t):∃ ws',NR l os [t] p (p+(cdP ck ca cb).length+1) ws ws':=by
 obtain ⟨h1,h2⟩:=h.app
 obtain ⟨ws1,n1⟩:=NR.calm (os:=os) q (cdP ck ca cb) p ws h1 (cd_calm ck ca cb ha hb) hw
 have h2':=h2.one
 rw [show mvI q ⟨12,a,0⟩=(⟨12,t,0⟩:Io) by simp [mvI,ht]] at h2'
 have n2:NR l os [t] _ _ ws1 _:=NR.one (E:=[t]) h2' (by rw [n1.len];omega) (nestOf_calm (by simp)) (fun _=>⟨by simp only;omega,t,by simp,rfl⟩)
 exact ⟨_,n1.trans n2 (by simp) (by simp)⟩
mutual
theorem St.nr:∀ (x:St) (ar:List (Int × Int)) (i:Nat) (os:List Nat) (p:Nat) (ws:List Int),x.Fit ar→Env l os i ar→AtR l p (p:Int) (x.pc i)→ws.length=l.length+1→∃ ws',NR l os [] p (p+(x.pc i).length) ws ws'
 | .mk k n e ck ca cb y lb,ar,i,os,p,ws,hf,hv,h,hw=>by
  rw [St.Fit] at hf
  obtain ⟨hk,h2,h3,h4,h5,h6,h7,-,hy,hl⟩:=hf
  rw [St.pc] at h ⊢
  have hi1:((i+1:Nat):Int)=(i:Int)+1:=by omega
  have hk':k=1∨k=2∨k=3∨k=4∨k=5∨k=6∨k=7:=by omega
  rcases hk' with rfl | rfl | rfl | rfl | rfl | rfl | rfl
  ·simp only [if_true] at h ⊢
   exact NR.calm p _ p ws h (calm_app (Ex.calm e (h3 (.inl rfl)).1) (calm_of (by decide))) hw
  ·simp only [show ¬ ((2:Int)=1) by decide,if_true,if_false] at h ⊢
   exact NR.calm p _ p ws h (calm_app (Ex.calm e (h3 (.inr rfl)).1) (calm_of (by decide))) hw
  ·simp only [show ¬ ((3:Int)=1) by decide,show ¬ ((3:Int)=2) by decide,if_true,if_false] at h ⊢
   obtain ⟨-,ha,hb⟩:=h4 (.inl rfl)
   by_cases hl0:lb.length=0
   ·rw [if_pos hl0] at h ⊢
    unfold ifP at h ⊢
    obtain ⟨h1,h2⟩:=AtR.jn h
    obtain ⟨ws1,n1⟩:=cd12_nr l ck ca cb ha.1 hb.1 os p (p+((cdP ck ca cb).length+1+(St.pcAll y i).length)) p _ ws h1 hw (by omega) (by omega)
    generalize cdP ck ca cb=C at *
    have hlen:(C++[(⟨12,(C.length:Int)+1+(St.pcAll y i).length,0⟩:Io)]).length=C.length+1:=by simp
    rw [hlen] at h2
    rw [jn_len,hlen]
    obtain ⟨ws2,n2⟩:=St.nrAll y _ i os (p+(C.length+1)) ws1 hy (hv.more _) h2 (by rw [n1.len];exact hw)
    refine ⟨ws2,?_⟩
    rw [show p+(C.length+1+(St.pcAll y i).length)=p+(C.length+1)+(St.pcAll y i).length by omega] at n1 ⊢
    exact n1.trans n2 (by simp) (by simp)
   ·rw [if_neg hl0] at h ⊢
    unfold elP at h ⊢
    obtain ⟨h12,h3⟩:=AtR.jn h
    obtain ⟨h12,h11⟩:=h12.app
    obtain ⟨h1,h2⟩:=AtR.jn h12
    obtain ⟨ws1,n1⟩:=cd12_nr l ck ca cb ha.1 hb.1 os p (p+((cdP ck ca cb).length+1+(St.pcAll y i).length+1)) p _ ws h1 hw (by omega) (by omega)
    generalize cdP ck ca cb=C at *
    have hlen:(C++[(⟨12,(C.length:Int)+1+(St.pcAll y i).length+1,0⟩:Io)]).length=C.length+1:=by simp
    simp only [jn_len,hlen,List.length_append,List.length_cons,List.length_nil] at h2 h3 h11 ⊢
    obtain ⟨ws2,n2⟩:=St.nrAll y _ i os (p+C.length+1) ws1 hy (hv.more _) (by simpa [Nat.add_assoc] using h2) (by rw [n1.len];exact hw)
    have h11':=h11.one
    rw [show ∀ z:Int,mvI (p:Int) ⟨11,z,0⟩=(⟨11,z+p,0⟩:Io) from fun z=>by simp [mvI]] at h11'
    have n3:NR l os [p+(C.length+1+(St.pcAll y i).length+1+(St.pcAll lb i).length)] _ _ ws2 _:=NR.one (E:=[p+(C.length+1+(St.pcAll y i).length+1+(St.pcAll lb i).length)]) h11' (by rw [n2.len,n1.len];have:=h11'.1;omega) (nestOf_calm (by simp)) (fun _=>⟨by simp only;omega,_,List.mem_singleton.2 rfl,by dsimp only;omega⟩)
    obtain ⟨ws4,n4⟩:=St.nrAll lb _ i os (p+(C.length+1+(St.pcAll y i).length+1)) _ hl (hv.more _) (by simpa [Nat.add_assoc] using h3) (by rw [n3.len,n2.len,n1.len];exact hw)
    refine ⟨ws4,?_⟩
    have e2:p+C.length+1+(St.pcAll y i).length=p+(C.length+1+(St.pcAll y i).length):=by omega
    rw [e2] at n2
    have n12:NR l os [p+(C.length+1+(St.pcAll y i).length+1)] p (p+(C.length+1+(St.pcAll y i).length)) ws ws2:=n1.trans n2 (by simp) (by simp)
    have n123:NR l os [p+(C.length+1+(St.pcAll y i).length+1+(St.pcAll lb i).length)] p (p+(C.length+1+(St.pcAll y i).length)+1) ws _:=n12.trans n3 (by simp;omega) (by simp)
    rw [show p+(C.length+1+(St.pcAll y i).length)+1=p+(C.length+1+(St.pcAll y i).length+1) by omega] at n123
    rw [show p+(C.length+1+(St.pcAll y i).length+1)+(St.pcAll lb i).length=p+(C.length+1+(St.pcAll y i).length+1+(St.pcAll lb i).length) by omega] at n4
    exact (n123.trans n4 (by simp) (by simp)).at' (by omega)
  ·simp only [show ¬ ((4:Int)=1) by decide,show ¬ ((4:Int)=2) by decide,show ¬ ((4:Int)=3) by decide,if_true,if_false] at h ⊢
   by_cases hn:n=0
   ·subst hn
    simp only [if_true] at h ⊢
    exact ⟨ws,NR.refl (by simpa using h.1)⟩
   ·rw [if_neg hn] at h ⊢
    unfold lpP at h ⊢
    obtain ⟨hJ,h14⟩:=h.app
    obtain ⟨h13,hA⟩:=AtR.jn hJ
    rw [← hi1] at hA h14 ⊢
    simp only [jn_len,List.length_append,List.length_cons,List.length_nil] at h14 hA ⊢
    have k13:=h13.one
    rw [show ∀ z b:Int,mvI (p:Int) ⟨13,z,b⟩=(⟨13,z,b⟩:Io) from fun z b=>by simp [mvI]] at k13
    have k14:=h14.one
    rw [show ∀ z b:Int,mvI (p:Int) ⟨14,z,b⟩=(⟨14,z,b+p⟩:Io) from fun z b=>by simp [mvI]] at k14
    obtain ⟨ws1,n1⟩:=St.nrAll y _ (i+1) (os++[p]) (p+1) (ws.set p (beginOf os.getLast?)) hy (hv.loop _ k13.2) (by simpa using hA) (by simpa using hw)
    have hop:=hv.loops i (Int.le_refl _)
    rw [show p+1+(St.pcAll y ((i+1:Nat):Int)).length=p+(0+1+(St.pcAll y ((i+1:Nat):Int)).length) by omega] at n1
    refine ⟨_,(NR.region k13 k14 hw (nest13 hop) (nest14 hop k13.2) (.inl rfl) (.inl rfl) n1).at' (by omega)⟩
  ·simp only [show ¬ ((5:Int)=1) by decide,show ¬ ((5:Int)=2) by decide,show ¬ ((5:Int)=3) by decide,show ¬ ((5:Int)=4) by decide,if_true,if_false] at h ⊢
   obtain ⟨-,ha,hb⟩:=h4 (.inr rfl)
   by_cases hn:n=0
   ·subst hn
    simp only [if_true] at h ⊢
    exact ⟨ws,NR.refl (by simpa using h.1)⟩
   ·rw [if_neg hn] at h ⊢
    unfold lpP at h ⊢
    obtain ⟨hJ,h14⟩:=h.app
    obtain ⟨h13,hW⟩:=AtR.jn hJ
    rw [← hi1] at hW h14 ⊢
    unfold whP at hW h14 ⊢
    obtain ⟨hW,hE⟩:=hW.app
    obtain ⟨h11,h15⟩:=AtR.app (C:=[(⟨11,_,0⟩:Io)]) hE
    obtain ⟨h1,hA⟩:=AtR.jn hW
    have k13:=h13.one
    rw [show ∀ z b:Int,mvI (p:Int) ⟨13,z,b⟩=(⟨13,z,b⟩:Io) from fun z b=>by simp [mvI]] at k13
    have hop:=hv.loops i (Int.le_refl _)
    obtain ⟨ws1,n1⟩:=cd12_nr l ck ca cb ha.1 hb.1 (os++[p]) (p+1) (p+1+((cdP ck ca cb).length+1+(St.pcAll y ((i+1:Nat):Int)).length+1)) ((p+1:Nat):Int) _ (ws.set p (beginOf os.getLast?)) h1 (by simpa using hw) (by omega) (by omega)
    generalize cdP ck ca cb=C at *
    simp only [jn_len,List.length_append,List.length_cons,List.length_nil] at h14 hA h11 h15 ⊢
    generalize hAA:St.pcAll y ((i+1:Nat):Int)=A at *
    obtain ⟨ws2,n2⟩:=St.nrAll y _ (i+1) (os++[p]) (p+1+C.length+1) ws1 hy (hv.loop _ k13.2) (by rw [hAA];simpa [Nat.add_assoc] using hA) (by rw [n1.len];simpa using hw)
    rw [hAA] at n2
    have k11:=h11.one
    rw [show ∀ z q:Int,mvI q ⟨11,z,0⟩=(⟨11,z+q,0⟩:Io) from fun z q=>by simp [mvI]] at k11
    have k15:=h15.one
    rw [show ∀ z q:Int,mvI q ⟨15,z,0⟩=(⟨15,z,0⟩:Io) from fun z q=>by simp [mvI]] at k15
    have k14:=h14.one
    rw [show ∀ z b:Int,mvI (p:Int) ⟨14,z,b⟩=(⟨14,z,b+p⟩:Io) from fun z b=>by simp [mvI]] at k14
    have e1:p+(0+1)+(C.length+(0+1)+A.length)=p+1+C.length+1+A.length:=by omega
    rw [e1] at k11
    have e2:p+(0+1)+(C.length+(0+1)+A.length)+(0+1)=p+1+C.length+1+A.length+1:=by omega
    rw [e2] at k15
    have n3:NR l (os++[p]) [p+1+C.length+1+A.length+1+1] _ _ ws2 _:=NR.one (E:=[p+1+C.length+1+A.length+1+1]) k11 (by rw [n2.len,n1.len,List.length_set];have:=k11.1;omega) (nestOf_calm (by simp)) (fun _=>⟨by simp only;omega,_,List.mem_singleton.2 rfl,by dsimp only;omega⟩)
    have n4:NR l (os++[p]) [] _ _ _ _:=NR.one (E:=[]) (ws:=ws2.set (p+1+C.length+1+A.length) (beginOf (os++[p]).getLast?)) k15 (by rw [List.length_set,n2.len,n1.len,List.length_set];have:=k15.1;omega) (nest15 hop k13.2) (fun hh=>by simp at hh)
    have n12:NR l (os++[p]) [p+1+C.length+1+A.length+1] (p+1) (p+1+C.length+1+A.length) (ws.set p (beginOf os.getLast?)) ws2:=n1.trans n2 (by simp;omega) (by simp)
    have n123:NR l (os++[p]) [p+1+C.length+1+A.length+1+1] (p+1) (p+1+C.length+1+A.length+1) (ws.set p (beginOf os.getLast?)) _:=n12.trans n3 (by simp) (by simp)
    have n1234:NR l (os++[p]) [] (p+1) (p+1+C.length+1+A.length+1+1) (ws.set p (beginOf os.getLast?)) _:=n123.trans n4 (by simp) (by simp)
    rw [show p+1+C.length+1+A.length+1+1=p+(0+1+(C.length+(0+1)+A.length+(0+1+1))) by omega] at n1234
    refine ⟨_,(NR.region k13 k14 hw (nest13 hop) (nest14 hop k13.2) (.inl rfl) (.inl rfl) n1234).at' (by omega)⟩
  ·simp only [show ¬ ((6:Int)=1) by decide,show ¬ ((6:Int)=2) by decide,show ¬ ((6:Int)=3) by decide,show ¬ ((6:Int)=4) by decide,show ¬ ((6:Int)=5) by decide,if_true,if_false] at h ⊢
   obtain ⟨hJ,h17⟩:=h.app
   obtain ⟨h16,hA⟩:=AtR.jn hJ
   simp only [jn_len,List.length_append,List.length_cons,List.length_nil] at h17 hA ⊢
   have k16:=h16.one
   rw [show mvI (p:Int) ⟨16,n,0⟩=(⟨16,n,0⟩:Io) by simp [mvI]] at k16
   have k17:=h17.one
   rw [show mvI (p:Int) ⟨17,n,0⟩=(⟨17,n,0⟩:Io) by simp [mvI]] at k17
   obtain ⟨ws1,n1⟩:=St.nrAll y _ i (os++[p]) (p+1) (ws.set p (beginOf os.getLast?)) hy (hv.lock k16.2) (by simpa using hA) (by simpa using hw)
   have hop:=hv.locks n (h6 rfl)
   rw [show p+1+(St.pcAll y i).length=p+(0+1+(St.pcAll y i).length) by omega] at n1
   refine ⟨_,(NR.region k16 k17 hw (nest16 hop) (nest17 hop k16.2) (.inr rfl) (.inr rfl) n1).at' (by omega)⟩
  ·simp only [show ¬ ((7:Int)=1) by decide,show ¬ ((7:Int)=2) by decide,show ¬ ((7:Int)=3) by decide,show ¬ ((7:Int)=4) by decide,show ¬ ((7:Int)=5) by decide,show ¬ ((7:Int)=6) by decide,if_false] at h ⊢
   exact NR.calm p _ p ws h (calm_of (by decide)) hw
theorem St.nrAll:∀ (a:List St) (ar:List (Int × Int)) (i:Nat) (os:List Nat) (p:Nat) (ws:List Int),St.FitAll a ar→Env l os i ar→AtR l p (p:Int) (St.pcAll a i)→ws.length=l.length+1→∃ ws',NR l os [] p (p+(St.pcAll a i).length) ws ws'
 | [],ar,i,os,p,ws,_,_,h,_=>⟨ws,NR.refl (by simpa [St.pcAll] using h.1)⟩
 | x::r,ar,i,os,p,ws,hf,hv,h,hw=>by
  rw [St.FitAll] at hf
  rw [St.pcAll] at h ⊢
  obtain ⟨h1,h2⟩:=AtR.jn h
  obtain ⟨ws1,n1⟩:=St.nr x ar i os p ws hf.1 hv h1 hw
  obtain ⟨ws2,n2⟩:=St.nrAll r ar i os (p+(x.pc i).length) ws1 hf.2 hv h2 (by rw [n1.len];exact hw)
  refine ⟨ws2,?_⟩
  rw [jn_len,← Nat.add_assoc]
  exact n1.trans n2 (by simp) (by simp)
end
end
theorem image_nest (a:List St) (h:St.FitAll a []):∃ ws,nestScan (St.pcAll a 0) (St.pcAll a 0) 0 [] (List.replicate ((St.pcAll a 0).length+1) 0) = .inr ([],ws)∧scan (jumpErr ws) (St.pcAll a 0) 0=none:=by
 obtain ⟨ws,n⟩:=St.nrAll (St.pcAll a 0) a [] 0 [] 0 (List.replicate ((St.pcAll a 0).length+1) 0) h ⟨fun _ _=>rfl,fun _ _=>rfl⟩ (AtR.self _) (by simp)
 rw [show ((0:Nat):Int)=0 from rfl,Nat.zero_add] at n
 refine ⟨ws,?_,?_⟩
 ·have:=n.run
  rw [List.drop_zero,List.drop_length] at this
  rw [this,nestScan]
 ·refine scan_none _ _ 0 (fun j hj=>?_)
  rw [Nat.zero_add]
  unfold jumpErr
  by_cases hop:((St.pcAll a 0).getD j in0).op≠11∧((St.pcAll a 0).getD j in0).op≠12
  ·rw [if_pos hop]
  ·rw [if_neg hop]
   obtain ⟨q1,q2⟩:=n.jump j (Nat.zero_le _) hj (by omega)
   have hl:=n.len
   rw [List.length_replicate] at hl
   rw [if_neg]
   rintro (c | c | c)
   ·omega
   ·rcases q2 with ⟨q2,-⟩ | ⟨-,q3 | ⟨t,ht,-⟩⟩
    ·omega
    ·omega
    ·cases ht
   ·rcases q2 with ⟨-,q3⟩ | ⟨q2,q3 | ⟨t,ht,-⟩⟩
    ·exact c q3
    ·refine c ?_
     rw [q2,q3,show (((St.pcAll a 0).length:Int)).toNat=(St.pcAll a 0).length by omega,n.out _ (by omega)]
     simp [beginOf,List.getD_eq_getElem?_getD]
    ·cases ht
end Go.Proofs.YtnkgbkkakokciacDoor.B
namespace Go.Proofs.YtnkgbkkakokciacDoor.B
open Go.ChangeShapes Go.WideShapes Go.ChangeAt Go.RowKit
def IntSl (w:World) (vs:List Int) (v:Value):Prop:=∃ ad c,v = .slice ad vs.length c∧(vs=[]∨∃ b o,ad=some ⟨b,o,none⟩∧∀ j,j<vs.length→w.cell? ⟨b,o+j,none⟩=some (.int .i64 (vs.getD j 0)))
theorem IntSl.below {w w':World} {vs:List Int} {v:Value} (h:IntSl w vs v) (hb:Below w.heap.size w w'):IntSl w' vs v:=by
 obtain ⟨ad,c,h1,h2⟩:=h
 refine ⟨ad,c,h1,?_⟩
 rcases h2 with h2 | ⟨b,o,h2,h3⟩
 ·exact .inl h2
 ·exact .inr ⟨b,o,h2,fun j hj=>below_cell hb (h3 j hj)⟩
set_option maxRecDepth 20000 in
set_option maxHeartbeats 4000000 in
theorem SameI_any (w:World) (vs:List Int) (v v':Value) (hl:vs.length≤4194304) (h:IntSl w vs v) (h':IntSl w vs v') :
  Calls Tryd.prog 40 #[v,v'] w fun r w'=>r = .returned (.bool true)∧Below w.heap.size w w':=by
 obtain ⟨ad,c,rfl,hc⟩:=h
 obtain ⟨ad',c',rfl,hc'⟩:=h'
 have HR:Hid ((vs=[]∨∃ b o,ad=some ⟨b,o,none⟩∧∀ j,j<vs.length→w.cell? ⟨b,o+j,none⟩=some (.int .i64 (vs.getD j 0)))∧(vs=[]∨∃ b o,ad'=some ⟨b,o,none⟩∧∀ j,j<vs.length→w.cell? ⟨b,o+j,none⟩=some (.int .i64 (vs.getD j 0)))):=⟨hc,hc'⟩
 clear hc hc'
 go_enter Tryd.func40,Tryd.ntmps40
 go_wp2_with fail
 go_loopw [13] (fun x wr=>∃ j:Nat,j≤vs.length∧x = .int .i64 j∧Below w.heap.size w wr) (fun x _=>vs.length - (intOf x).toNat)
 case atStart=>exact ⟨0,Nat.zero_le _,rfl,Below.refl _ _⟩
 case round =>
  obtain ⟨j,hj,rfl,hb⟩:=hrel
  by_cases hlt:j<vs.length
  ·rcases HR.out.1 with h | ⟨b,o,had,hrow⟩
   ·rw [h] at hlt;simp at hlt
   rcases HR.out.2 with h | ⟨b',o',had',hrow'⟩
   ·rw [h] at hlt;simp at hlt
   subst had had'
   have c0:=below_cell hb (hrow j hlt)
   have d0:=below_cell hb (hrow' j hlt)
   clear hrow hrow'
   generalize vs.getD j 0=z at *
   have HB:Hid (Below w.heap.size w wr):=hb
   clear hb
   go_wp2_with fail
   go_region
   go_wp2_with fail
   go_roundw
   case rel=>exact ⟨j+1,by omega,by go_num,HB.out.drew⟩
   case measure=>simp [intOf];omega
  ·have hje:j=vs.length:=by omega
   subst hje
   go_wp2_with fail
   go_ret
   exact ⟨rfl,hb⟩
end Go.Proofs.YtnkgbkkakokciacDoor.B
