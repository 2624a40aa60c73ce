import Derived.Test.YtnkgbkkakokciacDoorGEL
import Derived.Test.YtnkgbkkakokciacDoorGBCheckP
import Derived.Test.YtnkgbkkakokciacDoorGBNode
import Derived.Deep.DeepCutAuto
import Derived.Deep.CutRange
import Derived.Test.YtnkgbkkakokciacDoorGMDoD
import Derived.WalkSmall
namespace Go.Proofs.YtnkgbkkakokciacDoor.B
open Go.ChangeShapes Go.WideShapes Go.ChangeAt Go.RowKit
def checkV (a:List St):Value:=if 200<St.countAll a then .agg #[.int .i64 2,.int .i64 0] else .agg #[.int .i64 (firstErr (St.flatAll a 0 []) 0).1,.int .i64 (firstErr (St.flatAll a 0 []) 0).2]
theorem checkV_plain:checkV plainT = .agg #[.int .i64 0,.int .i64 0]:=by rfl
theorem bulk_plain:St.bulkAll plainT≤1048576:=by decide
theorem checkV_two (a:List St):∃ x y:Int,checkV a = .agg #[.int .i64 x,.int .i64 y]:=by
 unfold checkV
 split
 ·exact ⟨_,_,rfl⟩
 ·exact ⟨_,_,rfl⟩
end Go.Proofs.YtnkgbkkakokciacDoor.B
namespace Go.Proofs.YtnkgbkkakokciacDoor.B
open Go.ChangeShapes Go.WideShapes Go.ChangeAt Go.RowKit
def Ready (w:World):Prop:=ShapesIn w∧FormsIn w
theorem Ready.below {w w':World} (h:Ready w) (hb:Below w.heap.size w w'):Ready w' :=
 ⟨h.1.below (World.block_lt_of_cell? _ _ (h.1 1 (by omega) (by omega)).1) hb,h.2.below hb⟩
theorem Check_b (hall:∀ W,Ready W→ListOk W 1048576) (a:List St) (w:World) (v:Value) (p:Nat→Prop) (bl:List Nat) (hr:Ready w) (hsl:St.SlQ p w a v bl) (hnd:bl.Nodup) (hN:St.bulkAll a≤1048576) :
  Calls Tryd.prog 59 #[v] w fun r w'=>r = .returned (checkV a)∧Below w.heap.size w w' :=
 Check_of_list a w v p bl hsl hnd hN (hall w hr)
theorem Check_a (hall:∀ W,Ready W→ListOk W 1048576) (a:List St) (cx cy:Int) (w:World) (v:Value) (p:Nat→Prop) (bl:List Nat) (hr:Ready w) (h:St.SlQ p w a v bl∧bl.Nodup∧St.bulkAll a≤1048576) (hx:checkV a = .agg #[.int .i64 cx,.int .i64 cy]) :
  Calls Tryd.prog 59 #[v] w fun r w'=>r = .returned (.agg #[.int .i64 cx,.int .i64 cy])∧Below w.heap.size w w':=by
 have:=Check_b hall a w v p bl hr h.1 h.2.1 h.2.2
 rw [hx] at this
 exact this
theorem claims_b (a:List St) (w:World) (v:Value) (c:Bool) (hN:St.bulkAll a≤1048576) (hin:St.Sl w a v) (hc:(decide (St.deepAll 0 a≤300)&&decide ((St.countAll a:Int)≤2000))=c) :
  Calls Tryd.prog 33 #[v] w fun r w'=>r = .returned (.bool c)∧Below w.heap.size w w':=by
 have:=claims_any a w v hN hin
 rw [hc] at this
 exact this
theorem count_pos:∀ x:St,1≤x.count
 | .mk k n e ck ca cb b l=>by unfold St.count;omega
theorem Sub.le {L:List Nd} {a:List St} {at_:Nat} (h:Sub L a at_):at_+St.countAll a≤L.length:=by
 obtain ⟨L1,L2,rfl,rfl⟩:=h
 simp [St.numAll_length]
theorem Here.nl {w0 w:World} {rb vb B vc nb nc:Nat} {iv pv:Value} {L:List Nd} {is:List Int} {s:Ms} (h:Here w0 w rb vb B vc nb nc iv pv L is s):nb<w.heap.size:=Nat.lt_of_lt_of_le h.nB h.rn.le
theorem Sub.head {L:List Nd} {r:List St}:∀ {x:St} {A:Nat},Sub L (x::r) A→∃ o,AtNd L ⟨x,o,A+x.count⟩ A
 | .mk k n e ck ca cb b l,A,h=>⟨A+1+St.countAll b,by
   have:=h.parts.1
   rw [show A+(St.mk k n e ck ca cb b l).count=A+1+St.countAll b+St.countAll l by simp only [St.count];omega]
   exact this⟩
set_option maxRecDepth 20000 in
set_option maxHeartbeats 4000000 in
theorem listp_of_step (w0:World) (rb vb B vc nb nc:Nat) (iv:Value) (L:List Nd) (is:List Int) (N:Nat) (hst:StepP w0 rb vb B vc nb nc iv L is N):ListP w0 rb vb B vc nb nc iv L is N:=by
 intro a w pv s at_ hb hok hsub hh
 have hle:=hsub.le
 have HR:Hid (St.OkAll a∧Sub L a at_∧Here w0 w rb vb B vc nb nc iv pv L is s∧StepP w0 rb vb B vc nb nc iv L is N):=⟨hok,hsub,hh,hst⟩
 clear hok hsub hh hst
 obtain ⟨T0,hT0⟩:∃ T0,T0=at_+St.countAll a:=⟨_,rfl⟩
 rw [← hT0]
 rw [← hT0] at hle
 have HT:Hid (T0=at_+St.countAll a):=hT0
 clear hT0
 go_enter Tryd.func108,Tryd.ntmps108
 go_wp2_with fail
 go_loopw [6] (fun x wr=>∃ (j:Nat) (pv':Value) (s':Ms),j≤a.length∧x = .int .i64 ((at_+St.countAll (a.take j):Nat):Int)∧Here w0 wr rb vb B vc nb nc iv pv' L is s'∧RR rb vb w wr pv pv'∧listRest is (a.drop j) (at_+St.countAll (a.take j)) (s',none)=St.runAll is a at_ s) (fun x _=>T0 - (intOf x).toNat)
 case atStart=>exact ⟨0,pv,s,Nat.zero_le _,by simp [St.countAll],HR.out.2.2.1,RR.refl _ _ _ _,by simp [St.countAll,listRest]⟩
 case round =>
  obtain ⟨j,pv',s',hj,rfl,hh,hrr,hrest⟩:=hrel
  by_cases hlt:j<a.length
  ·have hta:=countAll_take a j hlt
   have htl:=countAll_take_le a (j+1)
   have hcp:=count_pos a[j]
   have hsb:=HR.out.2.1.drop j
   rw [List.drop_eq_getElem_cons hlt] at hsb
   have hbj:=bulkAll_at a j a[j] (by simp [hlt])
   have hokj:=StOkAll_at a j hlt HR.out.1
   have hstep:=listRest_step (is:=is) (at_:=at_+St.countAll (a.take j)) (s:=s') hlt
   have hT:=HT.out
   obtain ⟨A,hA⟩:∃ A,A=at_+St.countAll (a.take j):=⟨_,rfl⟩
   have hA1:A+(a[j]).count=at_+St.countAll (a.take (j+1)):=by omega
   have hA2:A<T0:=by omega
   rw [← hA] at hsb hrest hstep ⊢
   rw [hA1] at hstep
   obtain ⟨oo,hAT⟩:=hsb.head
   have hALt:=hAT.lt
   rcases hz:St.run is a[j] A s' with ⟨s3,_ | z⟩
   ·have hkp:=St.run_keep is a[j] A s' hh.rn.vars.1
    have hpp:=St.run_puts is a[j] A s' hh.pt
    rw [hz] at hkp hpp hstep
    have HX:Hid (Here w0 wr rb vb B vc nb nc iv pv' L is s'∧RR rb vb w wr pv pv'∧Sub L (a[j]::a.drop (j+1)) A∧(a[j]).Ok∧AtNd L ⟨a[j],oo,A+(a[j]).count⟩ A∧St.run is a[j] A s'=(s3,none)∧(s3.steps≤20000∧s3.puts.length≤s3.steps)∧listRest is (a.drop (j+1)) (at_+St.countAll (a.take (j+1))) (s3,none)=St.runAll is a at_ s∧A+(a[j]).count=at_+St.countAll (a.take (j+1))):=⟨hh,hrr,hsb,hokj,hAT,hz,⟨hkp.2.1 hh.st,hpp⟩,hstep.symm.trans hrest,hA1⟩
    clear hh hrr hsb hokj hAT hz hkp hpp hstep hrest hA1 hA hta hT
    go_wp2_with (go_at_call 134;refine (HR.out.2.2.2 a[j] (a.drop (j+1)) _ pv' s' A (by omega) HX.out.2.2.2.1 HX.out.2.2.1 HX.out.1).mono ?_;intro r w3 hpost;unfold RunPost at hpost;rw [HX.out.2.2.2.2.2.1] at hpost;obtain ⟨rfl,pv3,hk3,hr3⟩:=hpost;have hh3:=HX.out.1.next hk3 hr3 HX.out.2.2.2.2.2.2.1.1 HX.out.2.2.2.2.2.2.1.2 HX.out.1.nl;obtain ⟨-,-,-,-,k4,-,-⟩:=hh3.rn.cells;obtain ⟨-,-,-,-,k15⟩:=hh3.tab.at HX.out.2.2.2.2.1;have H3:Hid (_∧_):=⟨hh3,hr3⟩;clear hk3 hr3 hh3)
    go_roundw
    case rel=>exact ⟨j+1,pv3,s3,by omega,congrArg (Value.int .i64) (by have:=HX.out.2.2.2.2.2.2.2.2;omega),H3.out.1,HX.out.2.1.trans H3.out.2,HX.out.2.2.2.2.2.2.2.1⟩
    case measure=>simp [intOf];omega
   ·rw [hz] at hstep
    have HX:Hid (Here w0 wr rb vb B vc nb nc iv pv' L is s'∧RR rb vb w wr pv pv'∧Sub L (a[j]::a.drop (j+1)) A∧(a[j]).Ok∧St.run is a[j] A s'=(s3,some z)∧(s3,some z)=St.runAll is a at_ s):=⟨hh,hrr,hsb,hokj,hz,hstep.symm.trans hrest⟩
    clear hh hrr hsb hokj hAT hz hstep hrest hA1 hA hta hT
    go_wp2_with (go_at_call 134;refine (HR.out.2.2.2 a[j] (a.drop (j+1)) _ pv' s' A (by omega) HX.out.2.2.2.1 HX.out.2.2.1 HX.out.1).mono ?_;intro r w3 hpost;unfold RunPost at hpost;rw [HX.out.2.2.2.2.1] at hpost;obtain ⟨rfl,pv3,hr3⟩:=hpost;have H3:Hid _:=hr3;clear hr3)
    refine ⟨rfl,?_⟩
    rw [← HX.out.2.2.2.2.2]
    exact ⟨rfl,pv3,HX.out.2.1.trans H3.out⟩
  ·have hje:j=a.length:=by omega
   subst hje
   rw [List.take_length,List.drop_length] at hrest
   rw [List.take_length,← HT.out]
   have HX:Hid (Here w0 wr rb vb B vc nb nc iv pv' L is s'∧RR rb vb w wr pv pv'∧(s',none)=St.runAll is a at_ s):=⟨hh,hrr,by rw [← hrest,listRest,St.runAll]⟩
   clear hh hrr hrest
   go_wp2_with fail
   go_end0
   rw [← HX.out.2.2]
   exact ⟨rfl,pv',HX.out.1.rn,HX.out.2.1⟩
theorem cell_set' {w:World} {p o:Nat} {a:Addr} {u x:Value} (h:p≠a.block) (hc:w.cell? ⟨p,o,none⟩=some x):(w.setCell a u).cell? ⟨p,o,none⟩=some x :=
 (World.cell?_of_block (Below.heap_setCell _ _ _ _ h)).trans hc
set_option maxRecDepth 20000 in
set_option maxHeartbeats 4000000 in
theorem step_bad (w0 w:World) (rb vb B vc nb nc:Nat) (iv pv:Value) (L:List Nd) (is:List Int) (s:Ms) (at_:Nat) (hh:Here w0 w rb vb B vc nb nc iv pv L is s) (hst:s.steps=20000) :
  Calls Tryd.prog 134 #[.pointer (some ⟨rb,0,none⟩),.int .i64 at_] w (RunPost rb vb B vc iv (.slice (some ⟨nb,0,none⟩) L.length nc) w pv (s,some at_)):=by
 obtain ⟨r0,r1,r2,r3,r4,rf,rl⟩:=hh.rn.cells
 have hd:((s.steps:Int) == 20000)=true:=by simp;omega
 clear hh hst
 go_enter Tryd.func134,Tryd.ntmps134
 go_wp2_with fail
 refine ⟨rfl,?_⟩
 exact ⟨rfl,pv,RR.refl _ _ _ _⟩
set_option maxRecDepth 20000 in
set_option maxHeartbeats 4000000 in
theorem step_7 (w0 w:World) (rb vb B vc nb nc:Nat) (iv pv:Value) (L:List Nd) (is:List Int) (s:Ms) (at_:Nat) (hh:Here w0 w rb vb B vc nb nc iv pv L is s) (hst:s.steps<20000) (hA:at_<L.length) (_:L.length≤2097152)
  (c0:w.cell? ⟨nb,at_*16,none⟩=some (.int .i64 7)) :
  Calls Tryd.prog 134 #[.pointer (some ⟨rb,0,none⟩),.int .i64 at_] w (RunPost rb vb B vc iv (.slice (some ⟨nb,0,none⟩) L.length nc) w pv ({ s with steps:=s.steps+1 },none)):=by
 obtain ⟨r0,r1,r2,r3,r4,rf,rl⟩:=hh.rn.cells
 have hd:((s.steps:Int) == 20000)=false:=by simp;omega
 have hnr:nb≠rb:=hh.nr
 have hE:=hh.rn.stepped (s.steps+1)
 have HE:Hid (Here w0 (w.setCell ⟨rb,2,none⟩ (.int .i64 ((s.steps:Int)+1))) rb vb B vc nb nc iv pv L is { s with steps:=s.steps+1 }∧RR rb vb w (w.setCell ⟨rb,2,none⟩ (.int .i64 ((s.steps:Int)+1))) pv pv):=⟨hh.next hE.1 hE.2 (by simp only;omega) (by have:=hh.pt;simp only;omega) hh.nl,hE.2⟩
 obtain ⟨q0,q1,-,q3,q4,qf,ql⟩:=HE.out.1.rn.cells
 have e0:=cell_set' (u:=.int .i64 ((s.steps:Int)+1)) (a:=⟨rb,2,none⟩) hnr c0
 have HN:Hid (nb<w.heap.size):=hh.nl
 clear hE hh c0
 go_enter Tryd.func134,Tryd.ntmps134
 go_wp2_with fail
 go_end0
 exact ⟨rfl,pv,HE.out.1.rn,HE.out.2⟩
set_option maxRecDepth 20000 in
set_option maxHeartbeats 4000000 in
theorem step_6 (w0 w:World) (rb vb B vc nb nc:Nat) (iv pv:Value) (L:List Nd) (is:List Int) (s:Ms) (at_:Nat) (hh:Here w0 w rb vb B vc nb nc iv pv L is s) (hst:s.steps<20000) (hA:at_<L.length) (hL:L.length≤2097152) (nn:Nat) (N:Nat) (hP:ListP w0 rb vb B vc nb nc iv L is N) (b:List St) (hbN:St.bulkAll b≤N) (hok:St.OkAll b) (hsub:Sub L b (at_+1)) (hnn:nn=at_+1+St.countAll b)
  (c0:w.cell? ⟨nb,at_*16,none⟩=some (.int .i64 6)) (c15:w.cell? ⟨nb,at_*16+15,none⟩=some (.int .i64 (nn:Nat))) :
  Calls Tryd.prog 134 #[.pointer (some ⟨rb,0,none⟩),.int .i64 at_] w (RunPost rb vb B vc iv (.slice (some ⟨nb,0,none⟩) L.length nc) w pv (St.runAll is b (at_+1) { s with steps:=s.steps+1 })):=by
 obtain ⟨r0,r1,r2,r3,r4,rf,rl⟩:=hh.rn.cells
 have hd:((s.steps:Int) == 20000)=false:=by simp;omega
 have hnr:nb≠rb:=hh.nr
 have hE:=hh.rn.stepped (s.steps+1)
 have HE:Hid (Here w0 (w.setCell ⟨rb,2,none⟩ (.int .i64 ((s.steps:Int)+1))) rb vb B vc nb nc iv pv L is { s with steps:=s.steps+1 }∧RR rb vb w (w.setCell ⟨rb,2,none⟩ (.int .i64 ((s.steps:Int)+1))) pv pv):=⟨hh.next hE.1 hE.2 (by simp only;omega) (by have:=hh.pt;simp only;omega) hh.nl,hE.2⟩
 obtain ⟨q0,q1,-,q3,q4,qf,ql⟩:=HE.out.1.rn.cells
 have e0:=cell_set' (u:=.int .i64 ((s.steps:Int)+1)) (a:=⟨rb,2,none⟩) hnr c0
 have e15:=cell_set' (u:=.int .i64 ((s.steps:Int)+1)) (a:=⟨rb,2,none⟩) hnr c15
 have HN:Hid (nb<w.heap.size):=hh.nl
 clear hE hh c0 c15
 subst hnn
 have HP:Hid (ListP w0 rb vb B vc nb nc iv L is N∧St.OkAll b∧Sub L b (at_+1)):=⟨hP,hok,hsub⟩
 have hsl:=hsub.le
 clear hP hok hsub
 go_enter Tryd.func134,Tryd.ntmps134
 rcases hz:St.runAll is b (at_+1) { s with steps:=s.steps+1 } with ⟨s3,_ | z⟩
 ·have HZ:Hid (_=_):=hz
  clear hz
  go_wp2_with (go_at_call 108;refine (HP.out.1 b _ pv { s with steps:=s.steps+1 } (at_+1) hbN HP.out.2.1 HP.out.2.2 HE.out.1).mono ?_;intro r w3 hpost;unfold RunPost at hpost;rw [HZ.out] at hpost;obtain ⟨rfl,pv3,hk3,hr3⟩:=hpost;have H3:Hid (_∧_):=⟨hk3,hr3⟩;clear hk3 hr3)
  go_end0
  exact ⟨rfl,pv3,H3.out.1,HE.out.2.trans H3.out.2⟩
 ·have HZ:Hid (_=_):=hz
  clear hz
  go_wp2_with (go_at_call 108;refine (HP.out.1 b _ pv { s with steps:=s.steps+1 } (at_+1) hbN HP.out.2.1 HP.out.2.2 HE.out.1).mono ?_;intro r w3 hpost;unfold RunPost at hpost;rw [HZ.out] at hpost;obtain ⟨rfl,pv3,hr3⟩:=hpost;have H3:Hid _:=hr3;clear hr3)
  refine ⟨rfl,?_⟩
  exact ⟨rfl,pv3,HE.out.2.trans H3.out⟩
end Go.Proofs.YtnkgbkkakokciacDoor.B
