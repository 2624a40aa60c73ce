import Derived.Test.YtnkgbkkakokciacDoorGMNewOk
import Derived.Test.YtnkgbkkakokciacDoorGCW
import Derived.Deep.CutRange
namespace Go.Proofs.YtnkgbkkakokciacDoor.B
def FormP (x:Io):Prop:=(x.op≠11→x.op≠12→x.op≠14→formErr x=0)∧(x.op=11∨x.op=12→x.b=0)∧(x.op=14→0≤x.a∧x.a≤7)
def FormL (l:List Io):Prop:=∀ x ∈ l,FormP x
theorem FormP.mv {x:Io} {d:Int} (h:FormP x):FormP (mvI d x):=by
 obtain ⟨h1,h2,h3⟩:=h
 unfold mvI
 by_cases c1:x.op=11∨x.op=12
 ·rw [if_pos c1]
  exact ⟨fun a b _=>by dsimp only at a b;omega,fun _=>h2 c1,fun a=>by dsimp only at a;omega⟩
 ·rw [if_neg c1]
  by_cases c2:x.op=14
  ·rw [if_pos c2]
   exact ⟨fun _ _ a=>absurd c2 a,fun a=>absurd a c1,fun _=>h3 c2⟩
  ·rw [if_neg c2]
   exact ⟨h1,h2,h3⟩
theorem FormL.mv {l:List Io} {d:Int} (h:FormL l):FormL (mv d l):=fun x hx=>by
 obtain ⟨y,hy,rfl⟩:=List.mem_map.1 hx
 exact (h y hy).mv
theorem FormL.append {a b:List Io} (h:FormL a) (h':FormL b):FormL (a++b):=fun x hx=>by
 rcases List.mem_append.1 hx with hx | hx
 ·exact h x hx
 ·exact h' x hx
theorem FormL.join {a b:List Io} (h:FormL a) (h':FormL b):FormL (jn a b):=h.append h'.mv
theorem FormL.nil:FormL []:=fun x hx=>by cases hx
theorem FormL.one {op a b:Int} (h:FormP ⟨op,a,b⟩):FormL [⟨op,a,b⟩]:=fun x hx=>by
 have:x=⟨op,a,b⟩:=by simpa using hx
 subst this
 exact h
theorem formP_plain {op a b:Int} (h:formErr ⟨op,a,b⟩=0) (h1:op≠11) (h2:op≠12) (h3:op≠14):FormP ⟨op,a,b⟩:=⟨fun _ _ _=>h,fun a=>by dsimp only at a;omega,fun a=>by dsimp only at a;omega⟩
theorem formP_go {op a:Int} (h:op=11∨op=12):FormP ⟨op,a,0⟩:=⟨fun a b _=>by dsimp only at a b;omega,fun _=>rfl,fun a=>by dsimp only at a;omega⟩
theorem formP_14 {a b:Int} (h:0≤a∧a≤7):FormP ⟨14,a,b⟩:=⟨fun _ _ c=>absurd rfl c,fun c=>by dsimp only at c;omega,fun _=>h⟩
theorem fe1 {n:Int} (h:0≤n∧n≤999999999):formErr ⟨1,n,0⟩=0:=by simp [formErr,lowA,highA,highB];omega
theorem fe2 {n:Int} (h:0≤n∧n≤7):formErr ⟨2,n,0⟩=0:=by simp [formErr,lowA,highA,highB];omega
theorem fe3 {n:Int} (h:0≤n∧n≤7):formErr ⟨3,n,0⟩=0:=by simp [formErr,lowA,highA,highB];omega
theorem fe9 {n:Int} (h:0≤n∧n≤3):formErr ⟨9,n,0⟩=0:=by simp [formErr,lowA,highA,highB];omega
theorem fe10 {n:Int} (h:0≤n∧n≤3):formErr ⟨10,n,0⟩=0:=by simp [formErr,lowA,highA,highB];omega
theorem fe13 {n b:Int} (h:0≤n∧n≤7) (h':0≤b∧b≤1000):formErr ⟨13,n,b⟩=0:=by simp [formErr,lowA,highA,highB];omega
theorem fe15 {n:Int} (h:0≤n∧n≤7):formErr ⟨15,n,0⟩=0:=by simp [formErr,lowA,highA,highB];omega
theorem fe16 {n:Int} (h:0≤n∧n≤3):formErr ⟨16,n,0⟩=0:=by simp [formErr,lowA,highA,highB];omega
theorem fe17 {n:Int} (h:0≤n∧n≤3):formErr ⟨17,n,0⟩=0:=by simp [formErr,lowA,highA,highB];omega
theorem fe18 {n:Int} (h:1≤n∧n≤1000):formErr ⟨18,n,0⟩=0:=by simp [formErr,lowA,highA,highB];omega
theorem feBin {o:Int} (h:4≤o∧o≤8):formErr ⟨o,0,0⟩=0:=by
 have:o=4∨o=5∨o=6∨o=7∨o=8:=by omega
 rcases this with rfl | rfl | rfl | rfl | rfl <;> simp [formErr,lowA,highA,highB]
mutual
theorem Ex.form:∀ e:Ex,e.Fit→FormL e.pc
 | .mk k n a,h=>by
  rw [Ex.Fit] at h
  obtain ⟨hk,ha⟩:=h
  rw [Ex.pc]
  rcases hk with ⟨rfl,h1,h2,-⟩ | ⟨rfl,h1,h2,-⟩ | ⟨rfl,h1,h2,-⟩ | ⟨rfl,-⟩ | ⟨hk,-⟩
  ·simp only [true_or,if_true]
   exact FormL.one (formP_plain (fe1 ⟨h1,h2⟩) (by decide) (by decide) (by decide))
  ·simp only [or_true,if_true]
   exact FormL.one (formP_plain (fe2 ⟨h1,h2⟩) (by decide) (by decide) (by decide))
  ·simp only [show ¬ ((3:Int)=1∨(3:Int)=2) by decide,if_true,if_false]
   exact FormL.one (formP_plain (fe9 ⟨h1,h2⟩) (by decide) (by decide) (by decide))
  ·simp only [show ¬ ((4:Int)=1∨(4:Int)=2) by decide,show ¬ ((4:Int)=3) by decide,if_true,if_false]
   refine (Ex.formAll a ha).append ?_
   refine FormL.append (a:=[⟨1,0,0⟩]) (FormL.one (formP_plain (fe1 (by decide)) (by decide) (by decide) (by decide))) (FormL.append (a:=[⟨1,1,0⟩]) (FormL.one (formP_plain (fe1 (by decide)) (by decide) (by decide) (by decide))) (FormL.append (a:=[⟨5,0,0⟩]) (FormL.one (formP_plain (feBin (by decide)) (by decide) (by decide) (by decide))) (FormL.one (formP_plain (feBin (by decide)) (by decide) (by decide) (by decide)))))
  ·rw [if_neg (by omega),if_neg (by omega),if_neg (by omega)]
   exact (Ex.formAll a ha).append (FormL.one (formP_plain (feBin (by omega)) (by omega) (by omega) (by omega)))
theorem Ex.formAll:∀ a:List Ex,Ex.FitAll a→FormL (Ex.pcAll a)
 | [],_=>FormL.nil
 | e::r,h=>by rw [Ex.FitAll] at h;rw [Ex.pcAll];exact (Ex.form e h.1).append (Ex.formAll r h.2)
end
theorem cd_form (ck:Int) (ca cb:Ex) (ha:ca.Fit) (hb:cb.Fit):FormL (cdP ck ca cb):=by
 unfold cdP
 refine (((Ex.form ca ha).append (Ex.form cb hb)).append (FormL.one (formP_plain (feBin (by split <;> decide)) (by split <;> decide) (by split <;> decide) (by split <;> decide)))).append ?_
 split
 ·exact FormL.append (a:=[⟨1,0,0⟩]) (FormL.one (formP_plain (fe1 (by decide)) (by decide) (by decide) (by decide))) (FormL.one (formP_plain (feBin (by decide)) (by decide) (by decide) (by decide)))
 ·exact FormL.nil
mutual
theorem St.form:∀ (x:St) (ar:List (Int × Int)) (i:Int),x.Fit ar→0≤i∧i≤ar.length→FormL (x.pc i)
 | .mk k n e ck ca cb y l,ar,i,h,hi=>by
  rw [St.Fit] at h
  obtain ⟨h1,h2,h3,h4,h5,-,-,-,hy,hl⟩:=h
  have fy:=St.formAll y _ i hy (by simp;omega)
  have fy1:=St.formAll y _ (i+1) hy (by simp;omega)
  have fl:=St.formAll l _ i hl (by simp;omega)
  rw [St.pc]
  have hk':k=1∨k=2∨k=3∨k=4∨k=5∨k=6∨k=7:=by omega
  rcases hk' with rfl | rfl | rfl | rfl | rfl | rfl | rfl
  ·simp only [if_true]
   simp [lowN,highN] at h2
   exact (Ex.form e (h3 (.inl rfl)).1).append (FormL.one (formP_plain (fe3 h2) (by decide) (by decide) (by decide)))
  ·simp only [show ¬ ((2:Int)=1) by decide,if_true,if_false]
   simp [lowN,highN] at h2
   exact (Ex.form e (h3 (.inr rfl)).1).append (FormL.one (formP_plain (fe10 h2) (by decide) (by decide) (by decide)))
  ·simp only [show ¬ ((3:Int)=1) by decide,show ¬ ((3:Int)=2) by decide,if_true,if_false]
   obtain ⟨-,ha,hb⟩:=h4 (.inl rfl)
   have hc:=cd_form ck ca cb ha.1 hb.1
   split
   ·exact (hc.append (FormL.one (formP_go (.inr rfl)))).join fy
   ·exact (((hc.append (FormL.one (formP_go (.inr rfl)))).join fy).append (FormL.one (formP_go (.inl rfl)))).join fl
  ·simp only [show ¬ ((4:Int)=1) by decide,show ¬ ((4:Int)=2) by decide,show ¬ ((4:Int)=3) by decide,if_true,if_false]
   simp [lowN,highN] at h2
   have:=h5 (by decide)
   split
   ·exact FormL.nil
   ·exact ((FormL.one (formP_plain (fe13 (by omega) (by omega)) (by decide) (by decide) (by decide))).join fy1).append (FormL.one (formP_14 (by omega)))
  ·simp only [show ¬ ((5:Int)=1) by decide,show ¬ ((5:Int)=2) by decide,show ¬ ((5:Int)=3) by decide,show ¬ ((5:Int)=4) by decide,if_true,if_false]
   simp [lowN,highN] at h2
   have:=h5 (by decide)
   obtain ⟨-,ha,hb⟩:=h4 (.inr rfl)
   have hc:=cd_form ck ca cb ha.1 hb.1
   split
   ·exact FormL.nil
   ·refine ((FormL.one (formP_plain (fe13 (by omega) (by omega)) (by decide) (by decide) (by decide))).join ?_).append (FormL.one (formP_14 (by omega)))
    exact (((hc.append (FormL.one (formP_go (.inr rfl)))).join fy1).append (FormL.append (a:=[⟨11,_,0⟩]) (FormL.one (formP_go (.inl rfl))) (FormL.one (formP_plain (fe15 (by omega)) (by decide) (by decide) (by decide)))))
  ·simp only [show ¬ ((6:Int)=1) by decide,show ¬ ((6:Int)=2) by decide,show ¬ ((6:Int)=3) by decide,show ¬ ((6:Int)=4) by decide,show ¬ ((6:Int)=5) by decide,if_true,if_false]
   simp [lowN,highN] at h2
   exact ((FormL.one (formP_plain (fe16 h2) (by decide) (by decide) (by decide))).join fy).append (FormL.one (formP_plain (fe17 h2) (by decide) (by decide) (by decide)))
  ·simp only [show ¬ ((7:Int)=1) by decide,show ¬ ((7:Int)=2) by decide,show ¬ ((7:Int)=3) by decide,show ¬ ((7:Int)=4) by decide,show ¬ ((7:Int)=5) by decide,show ¬ ((7:Int)=6) by decide,if_false]
   simp [lowN,highN] at h2
   exact FormL.one (formP_plain (fe18 h2) (by decide) (by decide) (by decide))
theorem St.formAll:∀ (a:List St) (ar:List (Int × Int)) (i:Int),St.FitAll a ar→0≤i∧i≤ar.length→FormL (St.pcAll a i)
 | [],_,_,_,_=>FormL.nil
 | x::r,ar,i,h,hi=>by rw [St.FitAll] at h;rw [St.pcAll];exact (St.form x ar i h.1 hi).join (St.formAll r ar i h.2 hi)
end
theorem scan_none (f:Nat→Io→Int):∀ (l:List Io) (k:Nat),(∀ j,j<l.length→f (k+j) (l.getD j in0)=0)→scan f l k=none
 | [],_,_=>rfl
 | x::r,k,h=>by
  have h0:f k x=0:=by simpa using h 0 (by simp)
  rw [scan,if_neg (by simpa using h0)]
  refine scan_none f r (k+1) (fun j hj=>?_)
  have:=h (j+1) (by simp;omega)
  rw [show k+1+j=k+(j+1) by omega]
  simpa using this
theorem image_form (a:List St) (h:St.FitAll a []) (hl:St.LayAll a) (hn:(St.pcAll a 0).length≤2000):∀ x ∈ St.pcAll a 0,formErr x=0:=by
 intro x hx
 have hf:=St.formAll a [] 0 h (by simp) x hx
 have hj:=St.pcAll_jb a 0 hl x hx
 by_cases c1:x.op=11∨x.op=12
 ·have hb:=hf.2.1 c1
  have ha:=hj.1 c1
  obtain ⟨op,xa,xb⟩:=x
  simp only at *
  subst hb
  rcases c1 with rfl | rfl <;> (simp [formErr,lowA,highA,highB];omega)
 by_cases c2:x.op=14
 ·have ha:=hf.2.2 c2
  have hb:=hj.2 c2
  obtain ⟨op,xa,xb⟩:=x
  simp only at *
  subst c2
  simp [formErr,lowA,highA,highB]
  omega
 exact hf.1 (by omega) (by omega) c2
end Go.Proofs.YtnkgbkkakokciacDoor.B
namespace Go.Proofs.YtnkgbkkakokciacDoor
open Go.ChangeShapes Go.WideShapes Go.ChangeAt Go.RowKit
set_option maxRecDepth 20000 in
set_option maxHeartbeats 4000000 in
theorem works_b (hplain:∀ w:World,Calls Tryd.prog 20 #[] w fun r w'=>∃ v,r = .returned v∧BodyAt w' v∧Below w.heap.size w w') (w:World) (hr:KindsIn w) :
  Calls Tryd.prog 9 #[] w fun r w'=>r = .returned (.bool true)∧Below w.heap.size w w':=by
 have HP:Hid _:=hplain
 have HR:Hid (KindsIn w):=hr
 clear hplain hr
 obtain ⟨i0,hi0,hz0,hz1,hz2⟩:=info_parts info3
 have hmk:∀ W:World,(Instr.makeSlice 23 (.int .i64 8) (.int .i64 8)).run Tryd.prog W = .ok (.slice (some ⟨W.heap.size,0,none⟩) 8 8) (W.alloc (.cells #[.int .i64 0,.int .i64 0,.int .i64 0,.int .i64 0,.int .i64 0,.int .i64 0,.int .i64 0,.int .i64 0] 3)):=by
  intro W
  have h:=run_make (P:=Tryd.prog) W 23 3 i0 _ Tryd.underlying23 hi0 hz0 .i64 .i64 8 8 (by decide) (by decide) (by rw [hz2];decide) (by decide)
  rw [hz1] at h
  have e:madeCells (Value.int .i64 0).cells (Int.toNat 8*1)=#[.int .i64 0,.int .i64 0,.int .i64 0,.int .i64 0,.int .i64 0,.int .i64 0,.int .i64 0,.int .i64 0]:=by kernel_rfl
  rw [e] at h
  exact h
 clear hi0 hz0 hz1 hz2
 go_enter Tryd.func9,Tryd.ntmps9
 go_wp2_with fail
 go_cut [1,2] from 1 to 1 (fun x y wc=>∃ g g' vb vc pad pcap,x = .pointer (some ⟨g,0,none⟩)∧y = .pointer (some ⟨g',0,none⟩)∧Hid (RanAt wc vb vc pad pcap∧Below w.heap.size w wc)∧wc.heap[g]?=some (.cells #[.slice (some ⟨vb,0,none⟩) 8 vc,.slice pad 1 pcap,.int .i64 28] 27 (0,0))∧wc.heap[g']?=some (.cells #[.int .i64 0,.int .i64 0] 30 (0,0)))
 case first =>
  refine wp_region_any (by kernel_rfl) (wpAny_inv (fun l a w'=>∃ l0 l1 l2 l3 l4 l5 l6 l7 l8 l9 l10:Bool,∃ x1 x2 x3 x4 x5 x6 x7 x8 x9:Value,l=#[l0,l1,l2,l3,l4,l5,l6,l7,l8,l9,l10]∧a=⟨#[.bool false,x1,x2,x3,x4,x5,x6,x7,x8,x9,undef,undef,undef,undef,undef,undef,undef,undef,undef,undef,undef,undef,undef,undef,undef,undef,undef,undef,undef,undef,undef,undef,undef,undef,undef,undef,undef,undef],[]⟩∧DF w l0 l1 l2 l3 l4 l5 l6 l7 l8 l9 l10 x1 x2 x3 x4 x5 x6 x7 x8 x9 w') ?_ ?_ _ _ _ _ ?_ ?_)
  ·rintro l a w' ⟨l0,l1,l2,l3,l4,l5,l6,l7,l8,l9,l10,x1,x2,x3,x4,x5,x6,x7,x8,x9,rfl,rfl,hf⟩ hr
   have hn:∀ i:Nat,¬ (i ∈ ([]:List Nat)):=fun i h=>by cases h
   rw [← hr] at hn
   have h0:=hn 0
   have h1:=hn 1
   have h2:=hn 2
   have h7:=hn 7
   have h8:=hn 8
   simp [Region.ready,Region.binds] at h0 h1 h2 h7 h8
   subst h0 h1 h2 h7 h8
   have h3:=hn 3
   simp [Region.ready,Region.binds] at h3
   subst h3
   have h4:=hn 4
   simp [Region.ready,Region.binds] at h4
   subst h4
   have h5:=hn 5
   simp [Region.ready,Region.binds] at h5
   subst h5
   have h6:=hn 6
   have h9:=hn 9
   simp [Region.ready,Region.binds] at h6 h9
   subst h6 h9
   have h10:=hn 10
   simp [Region.ready,Region.binds] at h10
   subst h10
   have hl:=hf.last
   clear hn hr hf HP HR hmk
   dsimp only
   go_wp2_with fail
   go_meet
   case rel=>exact hl
  ·rintro l a w' i ⟨l0,l1,l2,l3,l4,l5,l6,l7,l8,l9,l10,x1,x2,x3,x4,x5,x6,x7,x8,x9,rfl,rfl,hf⟩ hi
   have hlt:i<11:=by unfold Region.ready at hi;exact List.mem_range.1 (List.mem_filter.1 hi).1
   have h11:i=0∨i=1∨i=2∨i=3∨i=4∨i=5∨i=6∨i=7∨i=8∨i=9∨i=10:=by omega
   have HF:Hid _:=hf
   clear hf hlt
   rcases h11 with rfl | rfl | rfl | rfl | rfl | rfl | rfl | rfl | rfl | rfl | rfl
   all_goals simp [Region.ready,Region.binds] at hi
   all_goals refine wpOp_step rfl ?_
   all_goals intro K hK
   all_goals have HK:Hid _:=hK
   all_goals clear hK
   ·subst hi
    go_simp
    refine (HP.out w').mono ?_
    rintro r w4 ⟨v4,rfl,hv4,hb4⟩
    exact HK.out _ _ ⟨true,l1,l2,l3,l4,l5,l6,l7,l8,l9,l10,x1,x2,x3,v4,x5,x6,x7,x8,x9,rfl,rfl,(HF.out.grow hb4).s0 hv4⟩
   ·subst hi
    go_simp
    exact HK.out _ _ ⟨l0,true,l2,l3,l4,l5,l6,l7,l8,l9,l10,x1,x2,x3,x4,_,x6,x7,x8,x9,rfl,rfl,(HF.out.grow (below_new _ _)).s1 ⟨_,rfl,zeros_made w'⟩⟩
   ·subst hi
    go_simp
    exact HK.out _ _ ⟨l0,l1,true,l3,l4,l5,l6,l7,l8,l9,l10,x1,x2,x3,x4,x5,_,x7,x8,x9,rfl,rfl,(HF.out.grow (below_new _ _)).s2 ⟨_,rfl,fives_made w'⟩⟩
   ·obtain ⟨rfl,rfl,rfl,rfl,-⟩:=hi
    rcases HF.out.mid with ⟨-,-,-,-,-,-,hB,hZ,hF⟩ | ⟨q,-⟩
    ·obtain ⟨k,rfl,hz⟩:=hZ rfl
     obtain ⟨m,rfl,hf⟩:=hF rfl
     have HB:Hid _:=hB rfl
     have HZ:Hid (_∧_):=⟨hz,hf⟩
     clear hB hZ hF hz hf
     go_simp
     refine (run_own w' _ k m (HR.out.below HF.out.bel) HB.out HZ.out.1 HZ.out.2).mono ?_
     rintro r w4 ⟨vb,vc,pad,pcap,rfl,hv4,hb4⟩
     exact HK.out _ _ ⟨true,true,true,true,l4,l5,l6,l7,l8,l9,l10,x1,x2,x3,x4,_,_,_,x8,x9,rfl,rfl,(HF.out.grow hb4).s3 hv4⟩
    ·cases q
   ·obtain ⟨rfl,rfl⟩:=hi
    go_simp
    exact HK.out _ _ ⟨l0,l1,l2,true,true,l5,l6,l7,l8,l9,l10,x1,x2,x7,x4,x5,x6,x7,x8,x9,rfl,rfl,HF.out.s4⟩
   ·obtain ⟨rfl,rfl⟩:=hi
    rcases HF.out.mid with ⟨-,q,-⟩ | ⟨rfl,-,-,-,vb,vc,pad,pcap,-,-,e4,-⟩
    ·cases q
    ·have e:=e4 rfl
     clear e4
     subst e
     go_simp
     exact HK.out _ _ ⟨l0,l1,l2,true,true,true,l6,l7,l8,l9,l10,x1,x2,_,x4,x5,x6,x7,_,x9,rfl,rfl,HF.out.s5 (fun y z h=>by cases h;rfl)⟩
   ·obtain ⟨rfl,rfl⟩:=hi
    rcases HF.out.mid with ⟨-,q,-⟩ | ⟨rfl,-,-,-,vb,vc,pad,pcap,-,-,e4,-⟩
    ·cases q
    ·have e:=e4 rfl
     clear e4
     subst e
     go_simp
     exact HK.out _ _ ⟨l0,l1,l2,true,true,l5,true,l7,l8,l9,l10,x1,x2,_,x4,x5,x6,x7,x8,_,rfl,rfl,HF.out.s6 (fun y z h=>by cases h;rfl)⟩
   ·subst hi
    go_simp
    exact HK.out _ _ ⟨l0,l1,l2,l3,l4,l5,l6,true,l8,l9,l10,_,x2,x3,x4,x5,x6,x7,x8,x9,rfl,rfl,(HF.out.grow (below_new _ _)).s7 ⟨_,rfl,HF.out.bel.size,heap_alloc_new w' _⟩⟩
   ·subst hi
    go_simp
    exact HK.out _ _ ⟨l0,l1,l2,l3,l4,l5,l6,l7,true,l9,l10,x1,_,x3,x4,x5,x6,x7,x8,x9,rfl,rfl,(HF.out.grow (below_new _ _)).s8 ⟨_,rfl,HF.out.bel.size,heap_alloc_new w' _⟩⟩
   ·obtain ⟨rfl,rfl,rfl,rfl,-⟩:=hi
    obtain ⟨vb,vc,pad,pcap,-,e8,-⟩:=HF.out.shape rfl
    have e8':=e8 rfl
    clear e8
    unfold endV at e8'
    subst e8'
    rcases HF.out.b3 with ⟨q,-⟩ | ⟨-,c0,c1,c2,⟨g,rfl,hg0,hg⟩,-⟩
    ·cases q
    ·obtain ⟨c,f,lt⟩:=cells_of (l:=[_,_,_]) hg
     have k0:=c 0 _ rfl
     have k1:=c 1 _ rfl
     have k2:=c 2 _ rfl
     have HG:Hid _:=hg
     clear c hg
     go_simp
     exact HK.out _ _ ⟨l0,l1,l2,true,l4,true,l6,true,l8,true,l10,_,x2,x3,x4,x5,x6,x7,_,x9,rfl,rfl,HF.out.s9 rfl hg0 HG.out rfl⟩
   ·obtain ⟨rfl,rfl,rfl,-,-,-,-,rfl,-⟩:=hi
    obtain ⟨vb,vc,pad,pcap,-,-,e9⟩:=HF.out.shape rfl
    have e9':=e9 rfl
    clear e9
    unfold okV at e9'
    subst e9'
    rcases HF.out.b2 with ⟨q,-⟩ | ⟨-,c0,c1,⟨g,rfl,hg0,hg⟩,-⟩
    ·cases q
    ·obtain ⟨c,f,lt⟩:=cells_of (l:=[_,_]) hg
     have k0:=c 0 _ rfl
     have k1:=c 1 _ rfl
     have HG:Hid _:=hg
     clear c hg
     go_simp
     exact HK.out _ _ ⟨l0,l1,l2,true,l4,l5,true,l7,true,l9,true,x1,_,x3,x4,x5,x6,x7,x8,_,rfl,rfl,HF.out.s10 rfl hg0 HG.out rfl⟩
  ·exact ⟨false,false,false,false,false,false,false,false,false,false,false,undef,undef,undef,undef,undef,undef,undef,undef,undef,rfl,rfl,⟨(Below.refl _ w).drew,.inl ⟨rfl,rfl,rfl,rfl,rfl,rfl,(fun h=>by cases h),(fun h=>by cases h),(fun h=>by cases h)⟩,.inl ⟨rfl,rfl⟩,.inl ⟨rfl,rfl⟩⟩⟩
  ·simp
 case rest =>
  obtain ⟨g,g',vb,vc,pad,pcap,rfl,rfl,HC,hg,hg'⟩:=hcut
  obtain ⟨c,f,lt⟩:=cells_of (l:=[_,_,_]) hg
  obtain ⟨c',f',lt'⟩:=cells_of (l:=[_,_]) hg'
  have k0:=c 0 _ rfl
  have k1:=c 1 _ rfl
  have k2:=c 2 _ rfl
  have q0:=c' 0 _ rfl
  have v0:wc.cell? ⟨vb,0,none⟩=some (.int .i64 15):=by
   obtain ⟨-,cs,h1,-,h3⟩:=HC.out.1.1
   unfold World.cell?
   rw [h1]
   exact h3 0 (by decide)
  clear c c' f f' hg hg' HP HR hmk
  go_wp2_with (go_at_call 41;refine (SameP_any _ doneP _ _ (by decide) ((PutSl.of_own HC.out.1.2.choose_spec).below (below_new _ _)) (puts_made wc)).mono ?_;rintro r w4 ⟨rfl,hb4⟩;have H4:Hid (Below w.heap.size w w4):=below_seq HC.out.2 (below_seq (below_new _ _) hb4);clear hb4)
  go_ret
  exact ⟨rfl,H4.out⟩
theorem image_body (w:World):Calls Tryd.prog 20 #[] w fun r w'=>∃ v,r = .returned v∧BodyAt w' v∧Below w.heap.size w w' :=
 (imageW_any w).mono fun _ _ ⟨⟨ad,c,h1,h2,h3⟩,h4⟩=>⟨_,h1,⟨ad,c,rfl,h2,h3⟩,h4⟩
theorem works_any (w:World) (hr:KindsIn w):Calls Tryd.prog 9 #[] w fun r w'=>r = .returned (.bool true)∧Below w.heap.size w w':=works_b image_body w hr
end Go.Proofs.YtnkgbkkakokciacDoor
