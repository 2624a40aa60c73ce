import Derived.Test.YtccoobcggbbcialGreatDoorGQD9
import Derived.Test.YtccoobcggbbcialGreatDoorGHU0
import Derived.Test.YtccoobcggbbcialGreatDoorGLN0
import Derived.Test.YtccoobcggbbcialGreatDoorGXR
import Derived.LaidMore
import Derived.ChangeArms
import Derived.OpenShut
namespace Go.Proofs.YtccoobcggbbcialGreatDoor
open Go.ChangeShapes Go.WideShapes Go.ChangeAt Go.RowKit
theorem tqGAP5{P:Program}{md:Region.Mode}{ops:Array Oper}{Q:Exit→Act→World→Prop}{S:World→Prop}{i n:Nat}{oi:Oper}{v:Value}{fuel:Nat}{listed:Array Bool}{l:List Value}{ds:List Deferred}{w:World}
  (hy:∀w,S w→(execOp (Act.eval ⟨l.toArray,ds⟩) oi).run P w = .ok (.value v) w) (h:wpAnyH P md ops Q S fuel (listed.setIfInBounds i true) ⟨(l.set n v).toArray,ds⟩ w)
  (hi:ops[i]?=some oi:=by rfl) (hd:oi.dst=some n:=by rfl) (hs:(Region.noSelect ops && Region.free md ops listed i && (Region.ready md ops listed).contains i)=true:=by kernel_rfl)
  (hQ:∀c a w,Q (.panic c) (a.put oi.dst v) w→Q (.panic c) a w:=by exact fun _ _ _ h=>h) (hg:Region.wanted oi (yielded ops l.toArray)=true:=by rfl) (hS:S w:=by assumption):wpAnyH P md ops Q S (fuel+1) listed ⟨l.toArray,ds⟩ w:=by
 simp only[Bool.and_eq_true]at hs
 exact take_at hi hd hs.1.1 hs.1.2 hs.2 hQ (.inl ⟨hg,hy⟩) hS h
end Go.Proofs.YtccoobcggbbcialGreatDoor
namespace Go.Proofs.YtccoobcggbbcialGreatDoor
open Go.ChangeShapes Go.WideShapes Go.ChangeAt Go.RowKit
def noP:Pa:=⟨0,0,0,-9,0,0,0⟩
def noO:Co:=⟨-9,0⟩
structure PLL (w W:World) (l:List Pa) (cs:List Co) (tk:List Int) (o1 o2 o3:Value):Prop where
 bel:Below w.heap.size w W
 l1:Lent Pa.vals W l noP o1
 l2:Lent Co.vals W cs noO o2
 l3:Lent nuV W tk (-9) o3
theorem PLL.grow{w W W':World}{l:List Pa}{cs:List Co}{tk:List Int}{o1 o2 o3:Value}(h:PLL w W l cs tk o1 o2 o3)(hb:Below W.heap.size W W'):PLL w W' l cs tk o1 o2 o3 :=
 ⟨below_seq h.bel hb,h.l1.below hb,h.l2.below hb,h.l3.below hb⟩
theorem lent_after{α:Type}{f:α→List Value}{w W:World}{l:List α}{m:α}{v:Value}{B:Nat}(h:Lent f w l m v)(hb:Below B w W)(hlt:∀q,v.ownBlock=some q→q<B):Lent f W l m v:=by
 obtain⟨b,o,cap,rfl,hc,hr⟩:=h
 exact⟨b,o,cap,rfl,hc,fun q u hq=>by
  have h9:=hr q u hq
  have e:W.cell? ⟨b,o+q,none⟩=w.cell? ⟨b,o+q,none⟩:=by
   unfold World.cell?
   rw[show W.heap[b]?=w.heap[b]? from hb.block b (hlt b rfl)]
  exact e.trans h9⟩
theorem lent_lt{α:Type}{f:α→List Value}{n:Nat}(hn:∀x,(f x).length=n)(h0:0<n){w:World}{l:List α}{m:α}{v:Value}(h:Lent f w l m v):∀q,v.ownBlock=some q→q<w.heap.size:=by
 obtain⟨b,o,cap,rfl,hc,hr⟩:=h
 intro q hq
 cases hq
 have hl:0<((l++[m,m,m]).flatMap f).length:=by rw[flat_length f n hn];simp;exact h0
 obtain⟨u,hu⟩:∃u,((l++[m,m,m]).flatMap f)[0]?=some u:=⟨_,List.getElem?_eq_getElem hl⟩
 exact World.block_lt_of_cell? _ _ (hr 0 u hu)
theorem PLL.after{w w1 W W':World}{l:List Pa}{cs:List Co}{tk:List Int}{o1 o2 o3:Value}(h0:PLL w w1 l cs tk o1 o2 o3)(h:PLL w W l cs tk o1 o2 o3)(hs:w.heap.size≤w1.heap.size)(hb:Below w1.heap.size W W'):PLL w W' l cs tk o1 o2 o3 :=
 ⟨h.bel.trans (hb.mono hs),lent_after h.l1 hb (lent_lt Pa.len (by decide) h0.l1),lent_after h.l2 hb (lent_lt Co.len (by decide) h0.l2),lent_after h.l3 hb (lent_lt nuV_len (by decide) h0.l3)⟩
set_option maxRecDepth 20000 in
set_option maxHeartbeats 8000000 in
theorem cp_walk(w:World)(l:List Pa)(cs:List Co)(tk:List Int)(n:Int)(v vc vt:Value)(hg0:PaAt7 w 0 0 noP)(hg1:CoAt w 1 0 noO)(hv:RowSl Pa.vals w l v)(hc:RowSl Co.vals w cs vc)(ht:RowSl nuV w tk vt) :
  Calls Tryz.prog 4 #[v,vc,vt,.int .i64 n] w fun r w'=>r = .returned (.bool true)∧Below w.heap.size w w':=by
 obtain⟨ad,ac,rfl⟩:=hv.len
 obtain⟨bd,bc,rfl⟩:=hc.len
 obtain⟨td,tc,rfl⟩:=ht.len
 have HV:Hid (RowSl Pa.vals w l (.slice ad l.length ac)∧RowSl Co.vals w cs (.slice bd cs.length bc)∧RowSl nuV w tk (.slice td tk.length tc)):=⟨hv,hc,ht⟩
 have HG:Hid (∀w':World,Below w.heap.size w w'→w'.cell? ⟨0,0,none⟩=some (.int .i64 noP.co)∧w'.cell? ⟨0,1,none⟩=some (.int .i64 noP.fr)∧w'.cell? ⟨0,2,none⟩=some (.int .i64 noP.se)∧w'.cell? ⟨0,3,none⟩=some (.int .i64 noP.c)∧w'.cell? ⟨0,4,none⟩=some (.int .i64 noP.t)∧w'.cell? ⟨0,5,none⟩=some (.int .i64 noP.d)∧w'.cell? ⟨0,6,none⟩=some (.int .i64 noP.p)∧w'.cell? ⟨1,0,none⟩=some (.int .i64 noO.k)∧w'.cell? ⟨1,1,none⟩=some (.int .i64 noO.a)):=by
  obtain⟨g0,g1,g2,g3,g4,g5,g6⟩:=hg0
  obtain⟨g7,g8⟩:=hg1
  have e:∀w':World,Below w.heap.size w w'→w'.cell? ⟨0,0,none⟩=some (.int .i64 noP.co)∧w'.cell? ⟨0,1,none⟩=some (.int .i64 noP.fr)∧w'.cell? ⟨0,2,none⟩=some (.int .i64 noP.se)∧w'.cell? ⟨0,3,none⟩=some (.int .i64 noP.c)∧w'.cell? ⟨0,4,none⟩=some (.int .i64 noP.t)∧w'.cell? ⟨0,5,none⟩=some (.int .i64 noP.d)∧w'.cell? ⟨0,6,none⟩=some (.int .i64 noP.p)∧w'.cell? ⟨1,0,none⟩=some (.int .i64 noO.k)∧w'.cell? ⟨1,1,none⟩=some (.int .i64 noO.a):=fun w' hb=>⟨below_cell hb g0,below_cell hb g1,below_cell hb g2,below_cell hb g3,below_cell hb g4,below_cell hb g5,below_cell hb g6,below_cell hb g7,below_cell hb g8⟩
  exact e
 clear hv hc ht hg0 hg1
 have HL1:=LendPa_any
 have HT1:=StillPa_any
 have HL2:=LendC_any
 have HT2:=StillC_any
 unfold Pa.val at HL1 HT1
 unfold Co.val at HL2 HT2
 go_enter Tryz.func4,Tryz.ntmps4
 go_wp2_with (go_at_call 16;refine(chained_any w).mono ?_;rintro r w1 ⟨rfl,hb1⟩;have H1:Hid (Below w.heap.size w w1):=hb1;clear hb1)
 by_cases hl1:l.length≤5000
 rotate_left 1
 ·have hl1':decide ((l.length:Int)≤5000)=false:=by simp;omega
  have hl2':True:=trivial
  have hl3':True:=trivial
  go_wp2_with (go_at_call 17;refine(few_any _ _).mono ?_;rintro r w6 ⟨rfl,hw6⟩;have hw7:=hw6.symm;subst hw7;clear hw6;first|rw[hl1']|rw[hl2']|rw[hl3'])
  go_ret
  exact⟨rfl,H1.out⟩
 have hl1':decide ((l.length:Int)≤5000)=true:=by simp;omega
 by_cases hl2:cs.length≤5000
 rotate_left 1
 ·have hl2':decide ((cs.length:Int)≤5000)=false:=by simp;omega
  have hl3':True:=trivial
  go_wp2_with (go_at_call 17;refine(few_any _ _).mono ?_;rintro r w6 ⟨rfl,hw6⟩;have hw7:=hw6.symm;subst hw7;clear hw6;first|rw[hl1']|rw[hl2']|rw[hl3'])
  go_ret
  exact⟨rfl,H1.out⟩
 have hl2':decide ((cs.length:Int)≤5000)=true:=by simp;omega
 by_cases hl3:tk.length≤5000
 rotate_left 1
 ·have hl3':decide ((tk.length:Int)≤5000)=false:=by simp;omega
  go_wp2_with (go_at_call 17;refine(few_any _ _).mono ?_;rintro r w6 ⟨rfl,hw6⟩;have hw7:=hw6.symm;subst hw7;clear hw6;first|rw[hl1']|rw[hl2']|rw[hl3'])
  go_ret
  exact⟨rfl,H1.out⟩
 have hl3':decide ((tk.length:Int)≤5000)=true:=by simp;omega
 by_cases hs:smallB (cs.length:Int) n=true
 rotate_left 1
 ·have hs':smallB (cs.length:Int) n=false:=by simpa using hs
  go_wp2_with (first|(go_at_call 17;refine(few_any _ _).mono ?_;rintro r w6 ⟨rfl,hw6⟩;have hw7:=hw6.symm;subst hw7;clear hw6;first|rw[hl1']|rw[hl2']|rw[hl3'])|(go_at_call 18;refine(small_any _ _ _).mono ?_;rintro r w6 ⟨rfl,hw6⟩;have hw7:=hw6.symm;subst hw7;clear hw6;rw[hs']))
  go_ret
  exact⟨rfl,H1.out⟩
 have HM:Hid ((chkPl l cs tk n).1=0→cs.length≤300):=fun h0=>small_few hs h0
 obtain⟨z1,hz1⟩:∃z1,(chkPl l cs tk n).1=z1:=⟨_,rfl⟩
 obtain⟨z2,hz2⟩:∃z2,(chkPl l cs tk n).2=z2:=⟨_,rfl⟩
 have HE:Hid ((endsP l cs tk n).length≤5000∧∀x∈endsP l cs tk n,x.length≤8):=endsP_few l cs tk n
 have HP1:=fun W v vc vt (h1:RowSl Pa.vals W l v) (h2:RowSl Co.vals W cs vc) (h3:RowSl nuV W tk vt)=>PlayP_res W l cs tk n v vc vt h1 h2 h3 (by omega) (by omega) HM.out
 have HP2:=fun W v vc vt (h1:RowSl Pa.vals W l v) (h2:RowSl Co.vals W cs vc) (h3:RowSl nuV W tk vt)=>PlayD_res W l cs tk n v vc vt (PlayD_any W l cs tk n v vc vt h1 h2 h3 (by omega) (by omega))
 unfold PlPost at HP1 HP2
 rw[hz1,hz2]at HP1 HP2
 generalize endsP l cs tk n=es at *
 clear hz1 hz2 HM
 go_upto_region 5 with (first|(go_at_call 17;refine(few_any _ _).mono ?_;rintro r w6 ⟨rfl,hw6⟩;have hw7:=hw6.symm;subst hw7;clear hw6;first|rw[hl1']|rw[hl2']|rw[hl3'])|(go_at_call 18;refine(small_any _ _ _).mono ?_;rintro r w6 ⟨rfl,hw6⟩;have hw7:=hw6.symm;subst hw7;clear hw6;rw[hs]))
 refine wp_region_noPanic ?_
 refine wp_region_held_drew (S:=fun w'=>w'.cell? ⟨0,0,none⟩=some (.int .i64 noP.co)∧w'.cell? ⟨0,1,none⟩=some (.int .i64 noP.fr)∧w'.cell? ⟨0,2,none⟩=some (.int .i64 noP.se)∧w'.cell? ⟨0,3,none⟩=some (.int .i64 noP.c)∧w'.cell? ⟨0,4,none⟩=some (.int .i64 noP.t)∧w'.cell? ⟨0,5,none⟩=some (.int .i64 noP.d)∧w'.cell? ⟨0,6,none⟩=some (.int .i64 noP.p)∧w'.cell? ⟨1,0,none⟩=some (.int .i64 noO.k)∧w'.cell? ⟨1,1,none⟩=some (.int .i64 noO.a)) (by kernel_rfl) (HG.out _ H1.out.drew) (fun hHeld=>?_)
 refine tqGAP5 (i:=0) (n:=41) (v:=?_) ?_ ?_
 rotate_left 1
 ·intro wz hSw
  obtain⟨s0,s1,s2,s3,s4,s5,s6,s7,s8⟩:=hSw
  first|(go_simp;done)|(go_simp;with_reducible rfl)
 simp only[ls0,ls1]
 refine tqGAP5 (i:=1) (n:=42) (v:=?_) ?_ ?_
 rotate_left 1
 ·intro wz hSw
  obtain⟨s0,s1,s2,s3,s4,s5,s6,s7,s8⟩:=hSw
  first|(go_simp;done)|(go_simp;with_reducible rfl)
 simp only[ls0,ls1]
 refine tqGAP5 (i:=3) (n:=44) (v:=?_) ?_ ?_
 rotate_left 1
 ·intro wz hSw
  obtain⟨s0,s1,s2,s3,s4,s5,s6,s7,s8⟩:=hSw
  first|(go_simp;done)|(go_simp;with_reducible rfl)
 simp only[ls0,ls1]
 refine tqGAP5 (i:=4) (n:=45) (v:=?_) ?_ ?_
 rotate_left 1
 ·intro wz hSw
  obtain⟨s0,s1,s2,s3,s4,s5,s6,s7,s8⟩:=hSw
  first|(go_simp;done)|(go_simp;with_reducible rfl)
 simp only[ls0,ls1]
 refine tqGAP5 (i:=6) (n:=47) (v:=?_) ?_ ?_
 rotate_left 1
 ·intro wz hSw
  obtain⟨s0,s1,s2,s3,s4,s5,s6,s7,s8⟩:=hSw
  first|(go_simp;done)|(go_simp;with_reducible rfl)
 simp only[ls0,ls1]
 refine wpAnyH_ready (rs:=[2]) (by kernel_rfl) (by simp) ?_
 refine AllReadyH.cons rfl (fun K hK=>?_) AllReadyH.nil
 go_simp
 go_wp2_with (go_at_call 19;refine(HL1 _ l noP _ (by omega) (HV.out.1.below H1.out.drew)).mono ?_;rintro r wa ⟨o1,rfl,hl9,hb9⟩;obtain⟨p1,p2,p3,rfl,-⟩:=id hl9;have Ha:Hid (Below w.heap.size w wa∧Lent Pa.vals wa l noP (.slice (some ⟨p1,p2,none⟩) l.length p3)):=⟨below_seq H1.out.drew hb9,hl9⟩;clear hl9 hb9)
 refine hK.out _ _ (HG.out _ Ha.out.1) (fun hHeld=>?_)
 clear hK K
 try simp only[ls0,ls1]
 refine wpAnyH_ready (rs:=[5]) (by kernel_rfl) (by simp) ?_
 refine AllReadyH.cons rfl (fun K hK=>?_) AllReadyH.nil
 go_simp
 go_wp2_with (go_at_call 20;refine(HL2 _ cs noO _ (by omega) (HV.out.2.1.below Ha.out.1)).mono ?_;rintro r wb ⟨o2,rfl,hl9,hb9⟩;obtain⟨q1,q2,q3,rfl,-⟩:=id hl9;have Hb:Hid (Below w.heap.size w wb∧Lent Pa.vals wb l noP (.slice (some ⟨p1,p2,none⟩) l.length p3)∧Lent Co.vals wb cs noO (.slice (some ⟨q1,q2,none⟩) cs.length q3)):=⟨below_seq Ha.out.1 hb9,Ha.out.2.below hb9,hl9⟩;clear hl9 hb9)
 refine hK.out _ _ (HG.out _ Hb.out.1) (fun hHeld=>?_)
 clear hK K
 try simp only[ls0,ls1]
 refine wpAnyH_ready (rs:=[7]) (by kernel_rfl) (by simp) ?_
 refine AllReadyH.cons rfl (fun K hK=>?_) AllReadyH.nil
 go_simp
 go_wp2_with (go_at_call 21;refine(LendN_any _ tk (-9) _ (by omega) (HV.out.2.2.below Hb.out.1)).mono ?_;rintro r wc ⟨o3,rfl,hl9,hb9⟩;obtain⟨r1,r2,r3,rfl,-⟩:=id hl9;have Hc:Hid (Below w.heap.size w wc∧Lent Pa.vals wc l noP (.slice (some ⟨p1,p2,none⟩) l.length p3)∧Lent Co.vals wc cs noO (.slice (some ⟨q1,q2,none⟩) cs.length q3)∧Lent nuV wc tk (-9) (.slice (some ⟨r1,r2,none⟩) tk.length r3)):=⟨below_seq Hb.out.1 hb9,Hb.out.2.1.below hb9,Hb.out.2.2.below hb9,hl9⟩;clear hl9 hb9)
 refine hK.out _ _ (HG.out _ Hc.out.1) (fun hHeld=>?_)
 clear hK K
 try simp only[ls0,ls1]
 refine tqGAP5 (i:=8) (n:=9) (v:=?_) ?_ ?_
 rotate_left 1
 ·intro wz hSw
  obtain⟨s0,s1,s2,s3,s4,s5,s6,s7,s8⟩:=hSw
  first|(go_simp;done)|(go_simp;with_reducible rfl)
 simp only[ls0,ls1]
 refine tqGAP5 (i:=9) (n:=10) (v:=?_) ?_ ?_
 rotate_left 1
 ·intro wz hSw
  obtain⟨s0,s1,s2,s3,s4,s5,s6,s7,s8⟩:=hSw
  first|(go_simp;done)|(go_simp;with_reducible rfl)
 simp only[ls0,ls1]
 refine tqGAP5 (i:=10) (n:=11) (v:=?_) ?_ ?_
 rotate_left 1
 ·intro wz hSw
  obtain⟨s0,s1,s2,s3,s4,s5,s6,s7,s8⟩:=hSw
  first|(go_simp;done)|(go_simp;with_reducible rfl)
 simp only[ls0,ls1]
 refine wpAnyH_done (by kernel_rfl) ?_ _
 refine NoPanic.normal ?_
 clear hHeld
 have H5:Hid (PLL w wc l cs tk (.slice (some ⟨p1,p2,none⟩) l.length p3) (.slice (some ⟨q1,q2,none⟩) cs.length q3) (.slice (some ⟨r1,r2,none⟩) tk.length r3)):=⟨Hc.out.1,Hc.out.2.1,Hc.out.2.2.1,Hc.out.2.2.2⟩
 clear Ha Hb Hc H1 HL1 HL2 hs
 go_upto_region 7 with (go_at_call 22;refine(HP1 wc _ _ _ H5.out.l1.plain H5.out.l2.plain H5.out.l3.plain).mono ?_;rintro r w2 ⟨va,rfl,ha,hap,hb2⟩;obtain⟨a1,c1,rfl⟩:=ha.len;have H6:Hid (PLL w (w2.alloc (.cells #[.int .i64 z1,.int .i64 z2] 33)) l cs tk (.slice (some ⟨p1,p2,none⟩) l.length p3) (.slice (some ⟨q1,q2,none⟩) cs.length q3) (.slice (some ⟨r1,r2,none⟩) tk.length r3)∧Ans (w2.alloc (.cells #[.int .i64 z1,.int .i64 z2] 33)) es (.slice a1 es.length c1)∧ApOk wc.heap.size (w2.alloc (.cells #[.int .i64 z1,.int .i64 z2] 33)) (.slice a1 es.length c1)∧FL (w2.alloc (.cells #[.int .i64 z1,.int .i64 z2] 33)) w2.heap.size z1 z2∧Below wc.heap.size wc (w2.alloc (.cells #[.int .i64 z1,.int .i64 z2] 33))):=⟨H5.out.grow (below_seq hb2 (below_new _ _)),ha.grow (below_new _ _),(hap (by trivial)).grow (below_new _ _),FL.new _ _ _,below_seq hb2 (below_new _ _)⟩;clear ha hap hb2 HP1)
 generalize (w2.alloc (.cells #[.int .i64 z1,.int .i64 z2] 33))=w3 at *
 generalize w2.heap.size=G at *
 go_upto_region 8 with (go_at_call 23;refine(HP2 w3 _ _ _ (HV.out.1.below H6.out.1.bel) (HV.out.2.1.below H6.out.1.bel) (HV.out.2.2.below H6.out.1.bel)).mono ?_;rintro r w4 ⟨vb,rfl,ha,-,hb4⟩;obtain⟨a2,c2,rfl⟩:=ha.len;have hb5:=below_seq hb4 (below_new w4 (.cells #[.int .i64 z1,.int .i64 z2] 33));have H7:Hid (PLL w (w4.alloc (.cells #[.int .i64 z1,.int .i64 z2] 33)) l cs tk (.slice (some ⟨p1,p2,none⟩) l.length p3) (.slice (some ⟨q1,q2,none⟩) cs.length q3) (.slice (some ⟨r1,r2,none⟩) tk.length r3)∧Ans (w4.alloc (.cells #[.int .i64 z1,.int .i64 z2] 33)) es (.slice a1 es.length c1)∧ApOk wc.heap.size (w4.alloc (.cells #[.int .i64 z1,.int .i64 z2] 33)) (.slice a1 es.length c1)∧FL (w4.alloc (.cells #[.int .i64 z1,.int .i64 z2] 33)) G z1 z2∧Below wc.heap.size wc (w4.alloc (.cells #[.int .i64 z1,.int .i64 z2] 33))∧Ans (w4.alloc (.cells #[.int .i64 z1,.int .i64 z2] 33)) es (.slice a2 es.length c2)∧FL (w4.alloc (.cells #[.int .i64 z1,.int .i64 z2] 33)) w4.heap.size z1 z2):=⟨H6.out.1.grow hb5,H6.out.2.1.grow hb5,H6.out.2.2.1.grow hb5,H6.out.2.2.2.1.grow hb5,below_seq H6.out.2.2.2.2 hb5,ha.grow (below_new _ _),FL.new _ _ _⟩;clear ha hb4 hb5 H6 HP2)
 generalize (w4.alloc (.cells #[.int .i64 z1,.int .i64 z2] 33))=w5 at *
 generalize w4.heap.size=G2 at *
 obtain⟨x0,x1,x2⟩:=H7.out.2.2.2.1.cells
 obtain⟨y0,y1,y2⟩:=H7.out.2.2.2.2.2.2.cells
 have S1:=Tables_ans H7.out.2.1 H7.out.2.2.2.2.2.1 HE.out.1 HE.out.2
 go_wp2_with (go_at_call 24;refine S1.mono ?_;rintro r w8 ⟨rfl,hb8⟩;have H8:Hid (PLL w w8 l cs tk (.slice (some ⟨p1,p2,none⟩) l.length p3) (.slice (some ⟨q1,q2,none⟩) cs.length q3) (.slice (some ⟨r1,r2,none⟩) tk.length r3)∧ApOk wc.heap.size w8 (.slice a1 es.length c1)∧Below wc.heap.size wc w8):=⟨H7.out.1.grow hb8,H7.out.2.2.1.grow hb8,below_seq H7.out.2.2.2.2.1 hb8⟩;clear hb8 H7 S1 x0 x1 x2 y0 y1 y2)
 go_wp2_with (go_at_call 25;refine(Apart_ok H8.out.2.1 H8.out.2.2.size).mono ?_;rintro r w9 ⟨rfl,hb9⟩;have H9:Hid (PLL w w9 l cs tk (.slice (some ⟨p1,p2,none⟩) l.length p3) (.slice (some ⟨q1,q2,none⟩) cs.length q3) (.slice (some ⟨r1,r2,none⟩) tk.length r3)):=H5.out.after H8.out.1 H5.out.bel.size hb9;clear hb9 H8;obtain⟨k0,k1,k2,k3,k4,k5,k6,k7,k8⟩:=HG.out _ H9.out.bel)
 go_wp2_with (go_at_call 26;refine(HT1 _ l noP _ _ (by omega) H9.out.l1 (HV.out.1.below H9.out.bel)).mono ?_;rintro r wx ⟨rfl,hbx⟩;have Hx:Hid (PLL w wx l cs tk (.slice (some ⟨p1,p2,none⟩) l.length p3) (.slice (some ⟨q1,q2,none⟩) cs.length q3) (.slice (some ⟨r1,r2,none⟩) tk.length r3)):=H9.out.grow hbx;obtain⟨-,-,-,-,-,-,-,x7,x8⟩:=HG.out _ Hx.out.bel;clear hbx k0 k1 k2 k3 k4 k5 k6 k7 k8 HT1)
 go_wp2_with (go_at_call 27;refine(HT2 _ cs noO _ _ (by omega) Hx.out.l2 (HV.out.2.1.below Hx.out.bel)).mono ?_;rintro r wy ⟨rfl,hby⟩;have Hy:Hid (PLL w wy l cs tk (.slice (some ⟨p1,p2,none⟩) l.length p3) (.slice (some ⟨q1,q2,none⟩) cs.length q3) (.slice (some ⟨r1,r2,none⟩) tk.length r3)):=Hx.out.grow hby;clear hby x7 x8 HT2)
 go_wp2_with (go_at_call 28;refine(StillN_any _ tk (-9) _ _ (by omega) Hy.out.l3 (HV.out.2.2.below Hy.out.bel)).mono ?_;rintro r wz ⟨rfl,hbz⟩;have Hz:Hid (PLL w wz l cs tk (.slice (some ⟨p1,p2,none⟩) l.length p3) (.slice (some ⟨q1,q2,none⟩) cs.length q3) (.slice (some ⟨r1,r2,none⟩) tk.length r3)):=Hy.out.grow hbz;clear hbz)
 go_ret
 exact⟨rfl,Hz.out.bel⟩
theorem cellsI:Tryz.prog.cellsOf 3=1:=by kernel_rfl
section
variable {H:Type} {enc:TypeId × Value→H} {w:World} {sp:Nat→Bool} {held:Bool}
theorem plain_addr{w:World}{a:Addr}{v:Value}(h:w.cell? a=some v):a=⟨a.block,a.off,none⟩:=by
 obtain⟨b,o,s⟩:=a
 cases s with
 | none=>rfl
 | some x =>
  exfalso
  unfold World.cell? at h
  simp at h
  split at h<;>simp_all
theorem add_plain'(g o n:Nat):(⟨g,o,none⟩:Addr).add n=⟨g,o+n,none⟩:=by
 unfold Addr.add
 by_cases h:n=0
 ·subst h;rfl
 ·simp[h]
theorem cells_at{g o n:Nat}{cs:List Value}(h:w.cells? 0 ⟨g,o,none⟩ n=some cs):cs.length=n∧∀i,i<n→w.cell? ⟨g,o+i,none⟩=cs[i]?:=by
 obtain⟨-,h1,h2⟩:=World.cells?_some h
 refine⟨h1,fun i hi=>?_⟩
 rw[← h2 i hi,add_plain']
theorem cellsPa:Tryz.prog.cellsOf 66=7:=by kernel_rfl
theorem pa_one{n:Nat}{cs:List Value}{y:DataW H × List MemPlace}(hl:cs.length=7)(h:DataW.trod enc Tryz.prog w 0 sp held n 66 cs=some y):∃x:Pa,cs=x.vals∧y.1 = .agg [.lit (.int .i64 x.co),.lit (.int .i64 x.fr),.lit (.int .i64 x.se),.lit (.int .i64 x.c),.lit (.int .i64 x.t),.lit (.int .i64 x.d),.lit (.int .i64 x.p)]:=by
 match cs,hl with
 | [c0,c1,c2,c3,c4,c5,c6],_ =>
  obtain⟨xs,n1,rfl,hy,-,hlen,hf⟩:=DataW.trod_struct Tryz.underlying66 h
  match xs,hlen with
  | [y0,y1,y2,y3,y4,y5,y6],_ =>
   have f0:DataW.trod enc Tryz.prog w 0 sp held n1 3 ((([c0,c1,c2,c3,c4,c5,c6]:List Value).drop 0).take (Tryz.prog.cellsOf 3))=some y0:=hf 0 _ rfl
   have f1:DataW.trod enc Tryz.prog w 0 sp held n1 3 ((([c0,c1,c2,c3,c4,c5,c6]:List Value).drop 1).take (Tryz.prog.cellsOf 3))=some y1:=hf 1 _ rfl
   have f2:DataW.trod enc Tryz.prog w 0 sp held n1 3 ((([c0,c1,c2,c3,c4,c5,c6]:List Value).drop 2).take (Tryz.prog.cellsOf 3))=some y2:=hf 2 _ rfl
   have f3:DataW.trod enc Tryz.prog w 0 sp held n1 3 ((([c0,c1,c2,c3,c4,c5,c6]:List Value).drop 3).take (Tryz.prog.cellsOf 3))=some y3:=hf 3 _ rfl
   have f4:DataW.trod enc Tryz.prog w 0 sp held n1 3 ((([c0,c1,c2,c3,c4,c5,c6]:List Value).drop 4).take (Tryz.prog.cellsOf 3))=some y4:=hf 4 _ rfl
   have f5:DataW.trod enc Tryz.prog w 0 sp held n1 3 ((([c0,c1,c2,c3,c4,c5,c6]:List Value).drop 5).take (Tryz.prog.cellsOf 3))=some y5:=hf 5 _ rfl
   have f6:DataW.trod enc Tryz.prog w 0 sp held n1 3 ((([c0,c1,c2,c3,c4,c5,c6]:List Value).drop 6).take (Tryz.prog.cellsOf 3))=some y6:=hf 6 _ rfl
   rw[cellsI]at f0 f1 f2 f3 f4 f5 f6
   obtain⟨k0,e0,g0,-⟩:=DataW.trod_int Tryz.underlying3 (show DataW.trod enc Tryz.prog w 0 sp held n1 3 [c0]=some y0 from f0)
   obtain⟨k1,e1,g1,-⟩:=DataW.trod_int Tryz.underlying3 (show DataW.trod enc Tryz.prog w 0 sp held n1 3 [c1]=some y1 from f1)
   obtain⟨k2,e2,g2,-⟩:=DataW.trod_int Tryz.underlying3 (show DataW.trod enc Tryz.prog w 0 sp held n1 3 [c2]=some y2 from f2)
   obtain⟨k3,e3,g3,-⟩:=DataW.trod_int Tryz.underlying3 (show DataW.trod enc Tryz.prog w 0 sp held n1 3 [c3]=some y3 from f3)
   obtain⟨k4,e4,g4,-⟩:=DataW.trod_int Tryz.underlying3 (show DataW.trod enc Tryz.prog w 0 sp held n1 3 [c4]=some y4 from f4)
   obtain⟨k5,e5,g5,-⟩:=DataW.trod_int Tryz.underlying3 (show DataW.trod enc Tryz.prog w 0 sp held n1 3 [c5]=some y5 from f5)
   obtain⟨k6,e6,g6,-⟩:=DataW.trod_int Tryz.underlying3 (show DataW.trod enc Tryz.prog w 0 sp held n1 3 [c6]=some y6 from f6)
   simp only[List.cons.injEq,and_true]at e0 e1 e2 e3 e4 e5 e6
   refine⟨⟨k0,k1,k2,k3,k4,k5,k6⟩,by rw[e0,e1,e2,e3,e4,e5,e6];rfl,?_⟩
   rw[hy,g0,g1,g2,g3,g4,g5,g6]
   rfl
theorem pa_row{n:Nat}(g:Nat):∀(elems:List (DataW H × List MemPlace)) (o:Nat),
  (∀i,i<elems.length→(w.cells? 0 ⟨g,o+i*7,none⟩ 7).bind (DataW.trod enc Tryz.prog w 0 sp held n 66)=elems[i]?) →
  ∃l:List Pa,l.length=elems.length∧∀q u,(l.flatMap Pa.vals)[q]?=some u→w.cell? ⟨g,o+q,none⟩=some u
 | [],o,_=>⟨[],rfl,fun q u hq=>by simp at hq⟩
 | y::r,o,h=>by
  have h0:=h 0 (by simp)
  simp only[Nat.zero_mul,Nat.add_zero,List.getElem?_cons_zero]at h0
  obtain⟨cs,hc,ht⟩:=Option.bind_eq_some_iff.1 h0
  obtain⟨hlen,hcell⟩:=cells_at hc
  obtain⟨x,rfl,-⟩:=pa_one hlen ht
  obtain⟨l,hl,hrow⟩:=pa_row g r (o+7) (fun i hi=>by
   have:=h (i+1) (by simp;omega)
   rw[show o+(i+1)*7=o+7+i*7 by omega]at this
   simpa using this)
  refine⟨x::l,by simp[hl],fun q u hq=>?_⟩
  ·rw[List.flatMap_cons]at hq
   by_cases h7:q<7
   ·rw[List.getElem?_append_left (by rw[Pa.len];exact h7)]at hq
    rw[hcell q h7]
    exact hq
   ·rw[List.getElem?_append_right (by rw[Pa.len];omega),Pa.len]at hq
    have:=hrow (q-7) u hq
    rw[show o+7+(q-7)=o+q by omega]at this
    exact this
theorem paSl_of_trod{ad:Option Addr}{n c:Nat}{d:DataW H}{ps:List MemPlace}(h:DataW.Trod enc Tryz.prog w 0 sp held 61 (.slice ad n c) d ps):∃l:List Pa,n=l.length∧RowSl Pa.vals w l (.slice ad n c):=by
 obtain⟨q,hq⟩:=h
 have hcs:(Value.slice ad n c).cells.toList=[.slice ad n c]:=rfl
 rw[hcs]at hq
 rcases DataW.trod_slice Tryz.underlying61 hq with ⟨h1,-⟩|⟨a,len,cap,elems,rest,n2,-,h1,-,-,hlc,-,hle,hel,-,-⟩
 ·simp only[List.cons.injEq,and_true,Value.slice.injEq]at h1
  obtain⟨rfl,rfl,rfl⟩:=h1
  exact⟨[],rfl,RowSl.nil _ _⟩
 ·simp only[List.cons.injEq,and_true,Value.slice.injEq]at h1
  obtain⟨rfl,rfl,rfl⟩:=h1
  subst hle
  simp only[cellsPa]at hel
  cases elems with
  | nil=>exact⟨[],rfl,⟨_,_,rfl,(fun e=>by cases e),Nat.zero_le _,.inl rfl⟩⟩
  | cons z r =>
   have hz:=hel 0 (by simp)
   obtain⟨cs0,hc0,ht0⟩:=Option.bind_eq_some_iff.1 hz
   obtain⟨-,hlen0,hpl⟩:=World.cells?_some hc0
   obtain⟨x,rfl,-⟩:=pa_one hlen0 (by simpa using ht0)
   have hpa:=plain_addr (w:=w) (a:=a) (v:=.int .i64 x.co) (by simpa[Addr.add,Pa.vals] using hpl 0 (by omega))
   obtain⟨l,hl,hrow⟩:=pa_row (n:=n2) a.block (z::r) a.off (fun i hi=>by
    have:=hel i hi
    rw[hpa,add_plain']at this
    exact this)
   exact⟨l,hl.symm,⟨some a,c,by rw[hl],(fun e=>by cases e),by omega,.inr ⟨a.block,a.off,by rw[← hpa],hrow⟩⟩⟩
theorem cellsCo:Tryz.prog.cellsOf 49=2:=by kernel_rfl
theorem co_one{n:Nat}{cs:List Value}{y:DataW H × List MemPlace}(hl:cs.length=2)(h:DataW.trod enc Tryz.prog w 0 sp held n 49 cs=some y):∃x:Co,cs=x.vals∧y.1 = .agg [.lit (.int .i64 x.k),.lit (.int .i64 x.a)]:=by
 match cs,hl with
 | [c0,c1],_ =>
  obtain⟨xs,n1,rfl,hy,-,hlen,hf⟩:=DataW.trod_struct Tryz.underlying49 h
  match xs,hlen with
  | [y0,y1],_ =>
   have f0:DataW.trod enc Tryz.prog w 0 sp held n1 3 ((([c0,c1]:List Value).drop 0).take (Tryz.prog.cellsOf 3))=some y0:=hf 0 _ rfl
   have f1:DataW.trod enc Tryz.prog w 0 sp held n1 3 ((([c0,c1]:List Value).drop 1).take (Tryz.prog.cellsOf 3))=some y1:=hf 1 _ rfl
   rw[cellsI]at f0 f1
   obtain⟨k0,e0,g0,-⟩:=DataW.trod_int Tryz.underlying3 (show DataW.trod enc Tryz.prog w 0 sp held n1 3 [c0]=some y0 from f0)
   obtain⟨k1,e1,g1,-⟩:=DataW.trod_int Tryz.underlying3 (show DataW.trod enc Tryz.prog w 0 sp held n1 3 [c1]=some y1 from f1)
   simp only[List.cons.injEq,and_true]at e0 e1
   refine⟨⟨k0,k1⟩,by rw[e0,e1];rfl,?_⟩
   rw[hy,g0,g1]
   rfl
theorem co_row{n:Nat}(g:Nat):∀(elems:List (DataW H × List MemPlace)) (o:Nat),
  (∀i,i<elems.length→(w.cells? 0 ⟨g,o+i*2,none⟩ 2).bind (DataW.trod enc Tryz.prog w 0 sp held n 49)=elems[i]?) →
  ∃l:List Co,l.length=elems.length∧∀q u,(l.flatMap Co.vals)[q]?=some u→w.cell? ⟨g,o+q,none⟩=some u
 | [],o,_=>⟨[],rfl,fun q u hq=>by simp at hq⟩
 | y::r,o,h=>by
  have h0:=h 0 (by simp)
  simp only[Nat.zero_mul,Nat.add_zero,List.getElem?_cons_zero]at h0
  obtain⟨cs,hc,ht⟩:=Option.bind_eq_some_iff.1 h0
  obtain⟨hlen,hcell⟩:=cells_at hc
  obtain⟨x,rfl,-⟩:=co_one hlen ht
  obtain⟨l,hl,hrow⟩:=co_row g r (o+2) (fun i hi=>by
   have:=h (i+1) (by simp;omega)
   rw[show o+(i+1)*2=o+2+i*2 by omega]at this
   simpa using this)
  refine⟨x::l,by simp[hl],fun q u hq=>?_⟩
  ·rw[List.flatMap_cons]at hq
   by_cases h7:q<2
   ·rw[List.getElem?_append_left (by rw[Co.len];exact h7)]at hq
    rw[hcell q h7]
    exact hq
   ·rw[List.getElem?_append_right (by rw[Co.len];omega),Co.len]at hq
    have:=hrow (q-2) u hq
    rw[show o+2+(q-2)=o+q by omega]at this
    exact this
theorem coSl_of_trod{ad:Option Addr}{n c:Nat}{d:DataW H}{ps:List MemPlace}(h:DataW.Trod enc Tryz.prog w 0 sp held 24 (.slice ad n c) d ps):∃l:List Co,n=l.length∧RowSl Co.vals w l (.slice ad n c):=by
 obtain⟨q,hq⟩:=h
 have hcs:(Value.slice ad n c).cells.toList=[.slice ad n c]:=rfl
 rw[hcs]at hq
 rcases DataW.trod_slice Tryz.underlying24 hq with ⟨h1,-⟩|⟨a,len,cap,elems,rest,n2,-,h1,-,-,hlc,-,hle,hel,-,-⟩
 ·simp only[List.cons.injEq,and_true,Value.slice.injEq]at h1
  obtain⟨rfl,rfl,rfl⟩:=h1
  exact⟨[],rfl,RowSl.nil _ _⟩
 ·simp only[List.cons.injEq,and_true,Value.slice.injEq]at h1
  obtain⟨rfl,rfl,rfl⟩:=h1
  subst hle
  simp only[cellsCo]at hel
  cases elems with
  | nil=>exact⟨[],rfl,⟨_,_,rfl,(fun e=>by cases e),Nat.zero_le _,.inl rfl⟩⟩
  | cons z r =>
   have hz:=hel 0 (by simp)
   obtain⟨cs0,hc0,ht0⟩:=Option.bind_eq_some_iff.1 hz
   obtain⟨-,hlen0,hpl⟩:=World.cells?_some hc0
   obtain⟨x,rfl,-⟩:=co_one hlen0 (by simpa using ht0)
   have hpa:=plain_addr (w:=w) (a:=a) (v:=.int .i64 x.k) (by simpa[Addr.add,Co.vals] using hpl 0 (by omega))
   obtain⟨l,hl,hrow⟩:=co_row (n:=n2) a.block (z::r) a.off (fun i hi=>by
    have:=hel i hi
    rw[hpa,add_plain']at this
    exact this)
   exact⟨l,hl.symm,⟨some a,c,by rw[hl],(fun e=>by cases e),by omega,.inr ⟨a.block,a.off,by rw[← hpa],hrow⟩⟩⟩
theorem nuR_one{n:Nat}{cs:List Value}{y:DataW H × List MemPlace}(h:DataW.trod enc Tryz.prog w 0 sp held n 3 cs=some y):∃x:Int,cs=nuV x:=by
 obtain⟨k0,e0,-,-⟩:=DataW.trod_int Tryz.underlying3 h
 exact⟨k0,e0⟩
theorem nuR_row{n:Nat}(g:Nat):∀(elems:List (DataW H × List MemPlace)) (o:Nat),
  (∀i,i<elems.length→(w.cells? 0 ⟨g,o+i*1,none⟩ 1).bind (DataW.trod enc Tryz.prog w 0 sp held n 3)=elems[i]?) →
  ∃l:List Int,l.length=elems.length∧∀q u,(l.flatMap nuV)[q]?=some u→w.cell? ⟨g,o+q,none⟩=some u
 | [],o,_=>⟨[],rfl,fun q u hq=>by simp at hq⟩
 | y::r,o,h=>by
  have h0:=h 0 (by simp)
  simp only[Nat.zero_mul,Nat.add_zero,List.getElem?_cons_zero]at h0
  obtain⟨cs,hc,ht⟩:=Option.bind_eq_some_iff.1 h0
  obtain⟨hlen,hcell⟩:=cells_at hc
  obtain⟨x,rfl⟩:=nuR_one ht
  obtain⟨l,hl,hrow⟩:=nuR_row g r (o+1) (fun i hi=>by
   have:=h (i+1) (by simp;omega)
   rw[show o+(i+1)*1=o+1+i*1 by omega]at this
   simpa using this)
  refine⟨x::l,by simp[hl],fun q u hq=>?_⟩
  ·rw[List.flatMap_cons]at hq
   by_cases h7:q<1
   ·rw[List.getElem?_append_left (by rw[nuV_len];exact h7)]at hq
    rw[hcell q h7]
    exact hq
   ·rw[List.getElem?_append_right (by rw[nuV_len];omega),nuV_len]at hq
    have:=hrow (q-1) u hq
    rw[show o+1+(q-1)=o+q by omega]at this
    exact this
theorem nuSl_of_trod{ad:Option Addr}{n c:Nat}{d:DataW H}{ps:List MemPlace}(h:DataW.Trod enc Tryz.prog w 0 sp held 25 (.slice ad n c) d ps):∃l:List Int,n=l.length∧RowSl nuV w l (.slice ad n c):=by
 obtain⟨q,hq⟩:=h
 have hcs:(Value.slice ad n c).cells.toList=[.slice ad n c]:=rfl
 rw[hcs]at hq
 rcases DataW.trod_slice Tryz.underlying25 hq with ⟨h1,-⟩|⟨a,len,cap,elems,rest,n2,-,h1,-,-,hlc,-,hle,hel,-,-⟩
 ·simp only[List.cons.injEq,and_true,Value.slice.injEq]at h1
  obtain⟨rfl,rfl,rfl⟩:=h1
  exact⟨[],rfl,RowSl.nil _ _⟩
 ·simp only[List.cons.injEq,and_true,Value.slice.injEq]at h1
  obtain⟨rfl,rfl,rfl⟩:=h1
  subst hle
  simp only[cellsI]at hel
  cases elems with
  | nil=>exact⟨[],rfl,⟨_,_,rfl,(fun e=>by cases e),Nat.zero_le _,.inl rfl⟩⟩
  | cons z r =>
   have hz:=hel 0 (by simp)
   obtain⟨cs0,hc0,ht0⟩:=Option.bind_eq_some_iff.1 hz
   obtain⟨-,hlen0,hpl⟩:=World.cells?_some hc0
   obtain⟨x,rfl⟩:=nuR_one (by simpa using ht0)
   have hpa:=plain_addr (w:=w) (a:=a) (v:=.int .i64 x) (by simpa[Addr.add,nuV] using hpl 0 (by omega))
   obtain⟨l,hl,hrow⟩:=nuR_row (n:=n2) a.block (z::r) a.off (fun i hi=>by
    have:=hel i hi
    rw[hpa,add_plain']at this
    exact this)
   exact⟨l,hl.symm,⟨some a,c,by rw[hl],(fun e=>by cases e),by omega,.inr ⟨a.block,a.off,by rw[← hpa],hrow⟩⟩⟩
end
theorem pavals_of{x y:Pa}(h:(DataW.agg [.lit (.int .i64 x.co),.lit (.int .i64 x.fr),.lit (.int .i64 x.se),.lit (.int .i64 x.c),.lit (.int .i64 x.t),.lit (.int .i64 x.d),.lit (.int .i64 x.p)]:DataW Unit) = .agg [.lit (.int .i64 y.co),.lit (.int .i64 y.fr),.lit (.int .i64 y.se),.lit (.int .i64 y.c),.lit (.int .i64 y.t),.lit (.int .i64 y.d),.lit (.int .i64 y.p)]):x=y:=by
 obtain⟨x0,x1,x2,x3,x4,x5,x6⟩:=x
 obtain⟨y0,y1,y2,y3,y4,y5,y6⟩:=y
 simp only[DataW.agg.injEq,List.cons.injEq,DataW.lit.injEq,Lit.int.injEq,true_and,and_true]at h
 obtain⟨rfl,rfl,rfl,rfl,rfl,rfl,rfl⟩:=h
 rfl
theorem covals_of{x y:Co}(h:(DataW.agg [.lit (.int .i64 x.k),.lit (.int .i64 x.a)]:DataW Unit) = .agg [.lit (.int .i64 y.k),.lit (.int .i64 y.a)]):x=y:=by
 obtain⟨x0,x1⟩:=x
 obtain⟨y0,y1⟩:=y
 simp only[DataW.agg.injEq,List.cons.injEq,DataW.lit.injEq,Lit.int.injEq,true_and,and_true]at h
 obtain⟨rfl,rfl⟩:=h
 rfl
end Go.Proofs.YtccoobcggbbcialGreatDoor
