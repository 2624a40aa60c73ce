import Derived.Test.YtnkgbkkakokciacDoorGBWs
import Derived.Test.YtnkgbkkakokciacDoorGMRun1
import Derived.Test.YtnkgbkkakokciacDoorGRB
import Derived.Test.YtnkgbkkakokciacDoorGKinds
namespace Go.Proofs.YtnkgbkkakokciacDoor.B
mutual
def Ex.Fit:Ex→Prop
 | .mk k n a=>((k=1∧0≤n∧n≤999999999∧a=[])∨(k=2∧0≤n∧n≤7∧a=[])∨(k=3∧0≤n∧n≤3∧a=[])∨(k=4∧a.length=1)∨((k=5∨k=6∨k=7)∧a.length=2))∧Ex.FitAll a
def Ex.FitAll:List Ex→Prop
 | []=>True
 | e::r=>e.Fit∧Ex.FitAll r
end
mutual
def St.Fit:St→List (Int × Int)→Prop
 | .mk k n e ck ca cb b l,ar=>(1≤k∧k≤7)∧(lowN k≤n∧n≤highN k)∧(k=1∨k=2→e.Fit∧e.nodes≤30)∧(k=3∨k=5→(1≤ck∧ck≤4)∧(ca.Fit∧ca.nodes≤30)∧cb.Fit∧cb.nodes≤30)∧(3≤k∧k≤6→ar.length<6)∧(k=6→(6,n) ∉ ar)∧(k≠3→l=[])∧(¬ (3≤k∧k≤6)→b=[])∧St.FitAll b (ar++[(k,n)])∧St.FitAll l (ar++[(k,n)])
def St.FitAll:List St→List (Int × Int)→Prop
 | [],_=>True
 | s::r,ar=>s.Fit ar∧St.FitAll r ar
end
theorem err_fit (k n:Int) (a:List Ex) (h:(Ex.mk k n a).err=0):(k=1∧0≤n∧n≤999999999∧a=[])∨(k=2∧0≤n∧n≤7∧a=[])∨(k=3∧0≤n∧n≤3∧a=[])∨(k=4∧a.length=1)∨((k=5∨k=6∨k=7)∧a.length=2):=by
 unfold Ex.err at h
 by_cases h1:((Ex.mk k n a).a.length:Int)≠arity (Ex.mk k n a).k
 ·rw [if_pos h1] at h;omega
 rw [if_neg h1] at h
 by_cases h2:(Ex.mk k n a).n<0∨(Ex.mk k n a).n > mostN (Ex.mk k n a).k
 ·rw [if_pos h2] at h;omega
 have h1':(a.length:Int)=arity k:=by simpa [Ex.a,Ex.k] using h1
 have h2':¬ (n<0∨n > mostN k):=h2
 unfold arity at h1'
 unfold mostN at h2'
 by_cases k1:k=1∨k=2∨k=3
 ·rw [if_pos k1] at h1'
  have ha:a=[]:=by simpa using h1'
  rcases k1 with rfl | rfl | rfl
  ·exact .inl ⟨rfl,by simp at h2';omega,by simp at h2';omega,ha⟩
  ·exact .inr (.inl ⟨rfl,by simp at h2';omega,by simp at h2';omega,ha⟩)
  ·exact .inr (.inr (.inl ⟨rfl,by simp at h2';omega,by simp at h2';omega,ha⟩))
 rw [if_neg k1] at h1'
 by_cases k4:k=4
 ·rw [if_pos k4] at h1'
  exact .inr (.inr (.inr (.inl ⟨k4,by omega⟩)))
 rw [if_neg k4] at h1'
 by_cases k5:k=5∨k=6∨k=7
 ·rw [if_pos k5] at h1'
  exact .inr (.inr (.inr (.inr ⟨k5,by omega⟩)))
 ·rw [if_neg k5] at h1'
  omega
mutual
theorem Ex.node_fit:∀ (e:Ex) (c:Nat),(e.node c).1=0→e.Fit
 | .mk k n a,c,h=>by
  unfold Ex.node at h
  by_cases h30:30<c+1
  ·rw [if_pos h30] at h;simp at h
  rw [if_neg h30] at h
  by_cases hE:(Ex.mk k n a).err≠0
  ·rw [if_pos hE] at h;exact absurd h hE
  rw [if_neg hE] at h
  rw [Ex.Fit]
  exact ⟨err_fit k n a (by simpa using hE),Ex.nodeAll_fit a (c+1) h⟩
theorem Ex.nodeAll_fit:∀ (a:List Ex) (c:Nat),(Ex.nodeAll a c).1=0→Ex.FitAll a
 | [],c,_=>trivial
 | x::r,c,h=>by
  unfold Ex.nodeAll at h
  by_cases hx:(x.node c).1≠0
  ·rw [if_pos hx] at h;exact absurd h hx
  rw [if_neg hx] at h
  exact ⟨Ex.node_fit x c (by simpa using hx),Ex.nodeAll_fit r _ h⟩
end
theorem node_fits {e:Ex} (h:(e.node 0).1=0):e.Fit∧e.nodes≤30:=⟨Ex.node_fit e 0 h,(node_small h).2⟩
theorem cond_fit (ck:Int) (ca cb:Ex) (h:condErr ck ca cb=0):(1≤ck∧ck≤4)∧(ca.Fit∧ca.nodes≤30)∧cb.Fit∧cb.nodes≤30:=by
 unfold condErr at h
 by_cases h1:ck<1∨4<ck
 ·rw [if_pos h1] at h;omega
 rw [if_neg h1] at h
 by_cases h2:(ca.node 0).1≠0
 ·rw [if_pos h2] at h;exact absurd h h2
 rw [if_neg h2] at h
 exact ⟨by omega,node_fits (e:=ca) (by simpa using h2),node_fits (e:=cb) h⟩
theorem prog_fit (k n:Int) (eN:Bool) (nE ck:Int) (aN bN:Bool) (nC:Int) (ly ll:Nat) (d:Int) (lk:Bool) (h:progErr k n eN nE ck aN bN nC ly ll d lk=0) :
  (innK k=true→d<6)∧(k=6→lk=false)∧(innK k=false→ly=0)∧(othK k=false→ll=0):=by
 unfold progErr at h
 by_cases h1:k<1∨8≤k
 ·rw [if_pos h1] at h;omega
 rw [if_neg h1] at h
 by_cases h2:¬ (lowN k≤n∧n≤highN k)
 ·rw [if_pos h2] at h;omega
 rw [if_neg h2] at h
 by_cases h3:moreS (valK k) (conK k) (innK k) (othK k) eN ck aN bN ly ll=true
 ·rw [if_pos h3] at h;omega
 rw [if_neg h3] at h
 by_cases h4:valK k=true∧nE≠0
 ·rw [if_pos h4] at h;exact absurd h h4.2
 rw [if_neg h4] at h
 by_cases h5:conK k=true∧nC≠0
 ·rw [if_pos h5] at h;exact absurd h h5.2
 rw [if_neg h5] at h
 by_cases h6:innK k=true∧¬ d<6
 ·rw [if_pos h6] at h;omega
 rw [if_neg h6] at h
 by_cases h7:k=6∧lk=true
 ·rw [if_pos h7] at h;omega
 refine ⟨fun hi=>?_,fun hk=>?_,fun hi=>?_,fun ho=>?_⟩
 ·by_cases hd:d<6
  ·exact hd
  ·exact absurd ⟨hi,hd⟩ h6
 ·cases lk
  ·rfl
  ·exact absurd ⟨hk,rfl⟩ h7
 ·unfold moreS at h3
  rw [hi] at h3
  simp at h3
  omega
 ·unfold moreS at h3
  rw [ho] at h3
  simp at h3
  omega
mutual
theorem St.chk_fit:∀ (x:St) (ar:List (Int × Int)) (i:Int),(x.chk ar i).1=0→x.Fit ar
 | .mk k n e ck ca cb b l,ar,i,h=>by
  unfold St.chk at h
  by_cases h1:(St.mk k n e ck ca cb b l).perr ar≠0
  ·rw [if_pos h1] at h;exact absurd h h1
  rw [if_neg h1] at h
  by_cases h2:(St.chkAll b (ar++[(k,n)]) (i+1)).1≠0
  ·rw [if_pos h2] at h;exact absurd h h2
  rw [if_neg h2] at h
  have hp:progErr k n (exNone e.k e.n e.a.length) (e.node 0).1 ck (exNone ca.k ca.n ca.a.length) (exNone cb.k cb.n cb.a.length) (condErr ck ca cb) b.length l.length ar.length (decide ((6,n) ∈ ar))=0:=by simpa [St.perr] using h1
  obtain ⟨g1,g2,g3,g4,-,-⟩:=prog_lay _ _ _ _ _ _ _ _ _ _ _ _ hp
  obtain ⟨f1,f2,f3,f4⟩:=prog_fit _ _ _ _ _ _ _ _ _ _ _ _ hp
  have hb:=St.chkAll_fit b _ _ (by simpa using h2)
  have hl:=St.chkAll_fit l _ _ h
  rw [St.Fit]
  refine ⟨g1,g2,fun hk=>node_fits (g3 (by simpa [valK] using hk)),fun hk=>cond_fit ck ca cb (g4 (by simpa [conK] using hk)),fun hk=>?_,fun hk=>by simpa using f2 hk,fun hk=>?_,fun hk=>?_,hb,hl⟩
  ·have:=f1 (by simpa [innK] using hk)
   omega
  ·exact List.eq_nil_of_length_eq_zero (f4 (by simpa [othK] using hk))
  ·exact List.eq_nil_of_length_eq_zero (f3 (by simp [innK];omega))
theorem St.chkAll_fit:∀ (a:List St) (ar:List (Int × Int)) (i:Int),(St.chkAll a ar i).1=0→St.FitAll a ar
 | [],ar,i,_=>trivial
 | x::r,ar,i,h=>by
  unfold St.chkAll at h
  by_cases hx:(x.chk ar i).1≠0
  ·rw [if_pos hx] at h;exact absurd h hx
  rw [if_neg hx] at h
  exact ⟨St.chk_fit x ar i (by simpa using hx),St.chkAll_fit r _ _ h⟩
end
theorem checkV_fit {a:List St} {cy:Int} (h:checkV a = .agg #[.int .i64 0,.int .i64 cy]):St.FitAll a []:=by
 unfold checkV at h
 by_cases hn:200<St.countAll a
 ·rw [if_pos hn] at h
  simp at h
 ·rw [if_neg hn] at h
  simp at h
  obtain ⟨h1,-⟩:=h
  rw [chk_body] at h1
  by_cases hx:(St.chkAll a [] (-1)).1≠0
  ·rw [if_pos hx] at h1;exact absurd h1 hx
  ·exact St.chkAll_fit a [] (-1) (by simpa using hx)
mutual
theorem Ex.Fit.ok:∀ e:Ex,e.Fit→e.Ok
 | .mk k n a,h=>by
  rw [Ex.Fit] at h
  rw [Ex.Ok]
  refine ⟨Ex.FitAll.ok a h.2,?_⟩
  rcases h.1 with ⟨h1,-,-,h2⟩ | h | h | h | h
  ·exact .inl ⟨h1,h2⟩
  ·exact .inr (.inl h)
  ·exact .inr (.inr (.inl h))
  ·exact .inr (.inr (.inr (.inl h)))
  ·exact .inr (.inr (.inr (.inr h)))
theorem Ex.FitAll.ok:∀ a:List Ex,Ex.FitAll a→Ex.OkAll a
 | [],_=>by rw [Ex.OkAll];trivial
 | e::r,h=>by rw [Ex.FitAll] at h;rw [Ex.OkAll];exact ⟨Ex.Fit.ok e h.1,Ex.FitAll.ok r h.2⟩
end
mutual
theorem St.Fit.ok:∀ (x:St) (ar:List (Int × Int)),x.Fit ar→x.Ok∧(ar.length≤6→ar.length+x.lpd≤6)
 | .mk k n e ck ca cb b l,ar,h=>by
  rw [St.Fit] at h
  obtain ⟨h1,h2,h3,h4,h5,-,h7,h8,h9,h10⟩:=h
  obtain ⟨b1,b2⟩:=St.FitAll.ok b _ h9
  obtain ⟨l1,l2⟩:=St.FitAll.ok l _ h10
  rw [List.length_append,List.length_cons,List.length_nil] at b2 l2
  rw [St.Ok,St.lpd]
  refine ⟨⟨h1,fun hk=>?_,fun hk=>Ex.Fit.ok _ (h3 (.inr hk)).1,fun hk=>?_,fun hk=>?_,h7,b1,l1⟩,fun ha=>?_⟩
  ·subst hk
   simp [lowN,highN] at h2
   exact ⟨h2.1,h2.2,Ex.Fit.ok _ (h3 (.inl rfl)).1⟩
  ·obtain ⟨c1,c2,c3⟩:=h4 hk
   exact ⟨c1,Ex.Fit.ok _ c2.1,Ex.Fit.ok _ c3.1⟩
  ·rcases hk with rfl | rfl <;> (simp [lowN,highN] at h2;exact h2)
  ·by_cases hi:3≤k∧k≤6
   ·have:=h5 hi
    have:=b2 (by omega)
    have:=l2 (by omega)
    split <;> omega
   ·have hb:=h8 hi
    have hl:=h7 (by omega)
    subst hb hl
    rw [if_neg (by omega)]
    simp [St.lpdAll]
    omega
theorem St.FitAll.ok:∀ (a:List St) (ar:List (Int × Int)),St.FitAll a ar→St.OkAll a∧(ar.length≤6→ar.length+St.lpdAll a≤6)
 | [],ar,_=>by rw [St.OkAll,St.lpdAll];exact ⟨trivial,fun h=>h⟩
 | x::r,ar,h=>by
  rw [St.FitAll] at h
  obtain ⟨x1,x2⟩:=St.Fit.ok x ar h.1
  obtain ⟨r1,r2⟩:=St.FitAll.ok r ar h.2
  rw [St.OkAll,St.lpdAll]
  exact ⟨⟨x1,r1⟩,fun ha=>by have:=x2 ha;have:=r2 ha;omega⟩
end
end Go.Proofs.YtnkgbkkakokciacDoor.B
namespace Go.Proofs.YtnkgbkkakokciacDoor.B
open Go.ChangeShapes Go.WideShapes Go.ChangeAt Go.RowKit
theorem Im_ends {w:World} {g:Nat} {v c k:Value} {a:Act} (h7:w.heap[g]?=some (.cells #[c,k] 30 (0,0))) (h2:a.tmps[2]?.getD undef=v) (h3:a.tmps[3]?.getD undef = .pointer (some ⟨g,0,none⟩)) :
  (results Tryd.f30 a.tmps).run Tryd.prog w = .ok (.tuple #[v,.agg #[c,k]]) w:=by
 obtain ⟨d1,e1,m1⟩:=cells_of (l:=[_,_]) h7
 have d10:=d1 0 _ rfl
 have d11:=d1 1 _ rfl
 simp [results,Tryd.results30,go_sem,h2,h3,d10,d11]
def ImP (m:(Int × Int) × List Io) (w:World) (r:Ending) (w':World):Prop:=∃ iv,r = .returned (.tuple #[iv,.agg #[.int .i64 m.1.1,.int .i64 m.1.2]])∧w'.ownsRow w.heap.size 35 3 iv m.2.length (insVs m.2)∧Below w.heap.size w w'
theorem owns_low {w:World} {B B' n:Nat} {v:Value} {xs:List Value} {e:TypeId} {s:Nat} (h:w.ownsRow B e s v n xs) (hb:B'≤B):w.ownsRow B' e s v n xs:=by
 obtain ⟨h1,h2 | ⟨g,cap,cur,q1,q2,q3⟩⟩:=h
 ·exact ⟨h1,.inl h2⟩
 ·exact ⟨h1,.inr ⟨g,cap,cur,q1,by omega,q3⟩⟩
theorem set_two' {w:World} {g:Nat} {a b c d:Value} {T:TypeId} (h:w.heap[g]?=some (.cells #[a,b] T (0,0))):((w.setCell ⟨g,0,none⟩ c).setCell ⟨g,1,none⟩ d).heap[g]?=some (.cells #[c,d] T (0,0)):=by
 rw [setCell_at (setCell_at h)]
 simp
set_option maxRecDepth 20000 in
set_option maxHeartbeats 400000 in
theorem Image_bad (hall:∀ W,Ready W→ListOk W 1048576) (a:List St) (cx cy:Int) (w:World) (v:Value) (p:Nat→Prop) (bl:List Nat) (hr:Ready w) (h:St.SlQ p w a v bl∧bl.Nodup∧St.bulkAll a≤1048576) (hx:checkV a = .agg #[.int .i64 cx,.int .i64 cy]) (h0:¬ cx=0):Calls Tryd.prog 30 #[v] w (ImP (imF a cx cy) w):=by
 have hB:=below_new w (.cells #[.int .i64 0,.int .i64 0] 30)
 have HC:=Check_a hall a cx cy (w.alloc (.cells #[.int .i64 0,.int .i64 0] 30)) v p bl (hr.below hB) ⟨h.1.move (fun b hb hl=>⟨hb,hB.block b hl⟩),h.2⟩ hx
 have HB:Hid (Below w.heap.size w (w.alloc (.cells #[.int .i64 0,.int .i64 0] 30))∧(w.alloc (.cells #[.int .i64 0,.int .i64 0] 30)).heap[w.heap.size]?=some (.cells #[.int .i64 0,.int .i64 0] 30 (0,0))):=⟨hB,heap_alloc_new _ _⟩
 have hcb:(cx != 0)=true:=by simpa using h0
 obtain ⟨ad,c,hv,-⟩:=h.1.plain
 subst hv
 unfold imF
 rw [if_neg h0]
 clear hB h hr hx
 go_enter Tryd.func30,Tryd.ntmps30
 go_wp2_with (go_at_call 59;refine HC.mono ?_;rintro r w1 ⟨rfl,hb1⟩;have H1:Hid (Below w.heap.size w w1∧w1.heap[w.heap.size]?=some (.cells #[.int .i64 0,.int .i64 0] 30 (0,0))):=⟨below_seq HB.out.1 hb1,(hb1.block w.heap.size (by simp)).trans HB.out.2⟩;obtain ⟨d1,e1,m1⟩:=cells_of (l:=[_,_]) H1.out.2;have d10:=d1 0 _ rfl;have d11:=d1 1 _ rfl;have e10:=e1 0;have e11:=e1 1;clear hb1 HC d1 e1)
 go_region
 all_goals go_wp2_with fail
 all_goals
  refine bodyPost_ret (Im_ends (g:=w.heap.size) (v:=.slice none 0 0) (c:=.int .i64 cx) (k:=.int .i64 cy) (((below_new _ _).block w.heap.size (by simp;omega)).trans (set_two' H1.out.2)) rfl rfl) rfl ?_
  exact ⟨_,rfl,World.ownsRow_nil _ _ _ _,(((H1.out.1.setCell (Nat.le_refl _) _).setCell (Nat.le_refl _) _).alloc (by have:=H1.out.1.size;simp;omega) _).drew⟩
set_option maxRecDepth 20000 in
set_option maxHeartbeats 400000 in
theorem Image_good (hall:∀ W,Ready W→ListOk W 1048576) (a:List St) (cy:Int) (w:World) (v:Value) (p:Nat→Prop) (bl:List Nat) (hr:Ready w) (hE:EndsIn w) (hK:CompsIn w) (h:St.SlQ p w a v bl∧bl.Nodup∧St.bulkAll a≤1048576) (hx:checkV a = .agg #[.int .i64 0,.int .i64 cy]):Calls Tryd.prog 30 #[v] w (ImP (imF a 0 cy) w):=by
 have hB:=below_new w (.cells #[.int .i64 0,.int .i64 0] 30)
 have HC:=Check_a hall a 0 cy (w.alloc (.cells #[.int .i64 0,.int .i64 0] 30)) v p bl (hr.below hB) ⟨h.1.move (fun b hb hl=>⟨hb,hB.block b hl⟩),h.2⟩ hx
 have HB:Hid (Below w.heap.size w (w.alloc (.cells #[.int .i64 0,.int .i64 0] 30))∧(w.alloc (.cells #[.int .i64 0,.int .i64 0] 30)).heap[w.heap.size]?=some (.cells #[.int .i64 0,.int .i64 0] 30 (0,0))):=⟨hB,heap_alloc_new _ _⟩
 obtain ⟨-,hlay,hblk⟩:=checkV_lay hx
 have hsl:=h.1.plain
 obtain ⟨ad,c,hv,-⟩:=h.1.plain
 subst hv
 have HI:Hid (St.Sl w a (.slice ad a.length c)∧St.LayAll a∧EndsIn w∧CompsIn w):=⟨hsl,hlay,hE,hK⟩
 have hpl:=St.pcAll_len a 0
 clear hB h hr hx hsl hlay hE hK
 go_enter Tryd.func30,Tryd.ntmps30
 go_wp2_with (go_at_call 59;refine HC.mono ?_;rintro r w1 ⟨rfl,hb1⟩;have H1:Hid (Below w.heap.size w w1∧w1.heap[w.heap.size]?=some (.cells #[.int .i64 0,.int .i64 0] 30 (0,0))):=⟨below_seq HB.out.1 hb1,(hb1.block w.heap.size (by simp)).trans HB.out.2⟩;clear hb1 HC)
 have hb0:Below w1.heap.size w1 (w1.alloc (.cells #[.int .i64 0,.int .i64 cy] 30)):=below_new _ _
 have hBW:BW (w1.alloc (.cells #[.int .i64 0,.int .i64 cy] 30)) ((w1.alloc (.cells #[.int .i64 0,.int .i64 cy] 30)).alloc (.cells #[.slice none 0 0,.int .i64 0] 115)) (w1.heap.size+1) [] 0 (.slice none 0 0):=⟨below_new _ _,by simp,by have:=heap_alloc_new (w1.alloc (.cells #[.int .i64 0,.int .i64 cy] 30)) (.cells #[.slice none 0 0,.int .i64 0] 115);rw [World.size_alloc] at this;exact this,World.ownsRow_nil _ _ _ _⟩
 have HC2:=all_listC (w1.alloc (.cells #[.int .i64 0,.int .i64 cy] 30)) (w1.heap.size+1) (HI.out.2.2.1.below (below_seq H1.out.1 hb0)) (HI.out.2.2.2.below (below_seq H1.out.1 hb0)) 18200 a ((w1.alloc (.cells #[.int .i64 0,.int .i64 cy] 30)).alloc (.cells #[.slice none 0 0,.int .i64 0] 115)) _ [] 0 _ hblk (HI.out.1.below (below_seq H1.out.1 hb0)) HI.out.2.1 hBW (by simp;omega) (by omega)
 rw [List.nil_append,show (([]:List Io).length:Int)=0 from rfl,mv_zero] at HC2
 have HB0:Hid (Below w1.heap.size w1 (w1.alloc (.cells #[.int .i64 0,.int .i64 cy] 30))):=hb0
 clear hb0 hBW
 obtain ⟨I,hI⟩:∃ I,St.pcAll a 0=I:=⟨_,rfl⟩
 rw [hI] at HC2 hpl
 have HII:Hid (St.pcAll a 0=I):=hI
 clear hI
 by_cases hbig:2000<I.length
 ·have hbi:(2000:Int)<(I.length:Int):=by omega
  go_wp2_with (go_at_call 60;refine HC2.mono ?_;rintro r w3 ⟨rfl,iv3,hw3,-⟩;obtain ⟨ad3,c3,rfl⟩:=hw3.shape;obtain ⟨z0,z1,zf,zl⟩:=hw3.cells;have hbw:Below w.heap.size w w3:=below_seq H1.out.1 (below_seq HB0.out hw3.bel);have k3:w3.heap[w.heap.size]?=some (.cells #[.int .i64 0,.int .i64 0] 30 (0,0)):=((below_seq HB0.out hw3.bel).block w.heap.size (Array.getElem?_eq_some_iff.1 H1.out.2).1).trans H1.out.2;obtain ⟨d1,e1,m1⟩:=cells_of (l:=[_,_]) k3;have d10:=d1 0 _ rfl;have d11:=d1 1 _ rfl;have e10:=e1 0;have e11:=e1 1;have lw:w.heap.size+1≤w1.heap.size:=(Array.getElem?_eq_some_iff.1 H1.out.2).1;have H3:Hid (w3.ownsRow (w1.heap.size+1+1) 35 3 (.slice ad3 I.length c3) I.length (insVs I)∧Below w.heap.size w w3∧w3.heap[w.heap.size]?=some (.cells #[.int .i64 0,.int .i64 0] 30 (0,0))∧w.heap.size+1≤w1.heap.size):=⟨hw3.own,hbw,k3,lw⟩;clear hw3 hbw k3 HC2 zf d1 e1 lw)
  refine bodyPost_ret (Im_ends (g:=w.heap.size) (v:=.slice none 0 0) (c:=.int .i64 2) (k:=.int .i64 0) (set_two' H3.out.2.2.1) rfl rfl) rfl ?_
  have e:imF a 0 cy=((2,0),[]):=by unfold imF;rw [if_pos rfl,HII.out,if_pos hbig]
  rw [e]
  exact ⟨_,rfl,World.ownsRow_nil _ _ _ _,(H3.out.2.1.setCell (Nat.le_refl _) _).setCell (Nat.le_refl _) _⟩
 ·have hbi:¬ (2000:Int)<(I.length:Int):=by omega
  go_wp2_with (go_at_call 60;refine HC2.mono ?_;rintro r w3 ⟨rfl,iv3,hw3,-⟩;obtain ⟨ad3,c3,rfl⟩:=hw3.shape;obtain ⟨z0,z1,zf,zl⟩:=hw3.cells;have hbw:Below w.heap.size w w3:=below_seq H1.out.1 (below_seq HB0.out hw3.bel);have k3:w3.heap[w.heap.size]?=some (.cells #[.int .i64 0,.int .i64 0] 30 (0,0)):=((below_seq HB0.out hw3.bel).block w.heap.size (Array.getElem?_eq_some_iff.1 H1.out.2).1).trans H1.out.2;obtain ⟨d1,e1,m1⟩:=cells_of (l:=[_,_]) k3;have d10:=d1 0 _ rfl;have d11:=d1 1 _ rfl;have e10:=e1 0;have e11:=e1 1;have lw:w.heap.size+1≤w1.heap.size:=(Array.getElem?_eq_some_iff.1 H1.out.2).1;have H3:Hid (w3.ownsRow (w1.heap.size+1+1) 35 3 (.slice ad3 I.length c3) I.length (insVs I)∧Below w.heap.size w w3∧w3.heap[w.heap.size]?=some (.cells #[.int .i64 0,.int .i64 0] 30 (0,0))∧w.heap.size+1≤w1.heap.size):=⟨hw3.own,hbw,k3,lw⟩;clear hw3 hbw k3 HC2 zf d1 e1 lw)
  refine bodyPost_ret (Im_ends (g:=w.heap.size) (v:=.slice ad3 I.length c3) (c:=.int .i64 0) (k:=.int .i64 0) (set_two' H3.out.2.2.1) rfl rfl) rfl ?_
  have e:imF a 0 cy=((0,0),I):=by unfold imF;rw [if_pos rfl,HII.out,if_neg hbig]
  rw [e]
  have hs:=H3.out.2.2.2
  refine ⟨_,rfl,?_,(H3.out.2.1.setCell (Nat.le_refl _) _).setCell (Nat.le_refl _) _⟩
  have ho:((w3.setCell ⟨w.heap.size,0,none⟩ (.int .i64 0)).setCell ⟨w.heap.size,1,none⟩ (.int .i64 0)).ownsRow (w1.heap.size+1+1) 35 3 (.slice ad3 I.length c3) I.length (insVs I):=ownsRow_same (ownsRow_same H3.out.1 (fun k hk1 _=>Below.heap_setCell _ _ _ _ (by show k≠w.heap.size;omega))) (fun k hk1 _=>Below.heap_setCell _ _ _ _ (by show k≠w.heap.size;omega))
  exact owns_low ho (by omega)
theorem Image_any (hall:∀ W,Ready W→ListOk W 1048576) (a:List St) (cx cy:Int) (w:World) (v:Value) (p:Nat→Prop) (bl:List Nat) (hr:Ready w) (hE:EndsIn w) (hK:CompsIn w) (h:St.SlQ p w a v bl∧bl.Nodup∧St.bulkAll a≤1048576) (hx:checkV a = .agg #[.int .i64 cx,.int .i64 cy]):Calls Tryd.prog 30 #[v] w (ImP (imF a cx cy) w):=by
 by_cases h0:cx=0
 ·subst h0
  exact Image_good hall a cy w v p bl hr hE hK h hx
 ·exact Image_bad hall a cx cy w v p bl hr h hx h0
end Go.Proofs.YtnkgbkkakokciacDoor.B
namespace Go.Proofs.YtnkgbkkakokciacDoor
open Go.ChangeShapes Go.WideShapes Go.ChangeAt Go.RowKit
theorem New_ends {w:World} {g:Nat} {c k p:Value} {a:Act} (h:w.heap[g]?=some (.cells #[c,k] 30 (0,0))) (h2:a.tmps[6]?.getD undef=p) (h3:a.tmps[7]?.getD undef = .pointer (some ⟨g,0,none⟩)) :
  (results Tryd.f19 a.tmps).run Tryd.prog w = .ok (.tuple #[p,.agg #[c,k]]) w:=by
 obtain ⟨c1,f1,l1⟩:=cells_of (l:=[_,_]) h
 have c10:=c1 0 _ rfl
 have c11:=c1 1 _ rfl
 subst h2
 simp [results,Tryd.results19,go_sem,h3,c10,c11]
structure FB (w W:World) (g:Nat):Prop where
 bel:Below w.heap.size w W
 res:W.heap[g]?=some (.cells #[.int .i64 0,.int .i64 0] 30 (0,0))
 low:w.heap.size≤g
theorem FB.grow {w W W':World} {g:Nat} (h:FB w W g) (hb:Below W.heap.size W W'):FB w W' g :=
 ⟨below_seq h.bel hb,(hb.block g (Array.getElem?_eq_some_iff.1 h.res).1).trans h.res,h.low⟩
theorem FB.start (w:World):FB w (w.alloc (.cells #[.int .i64 0,.int .i64 0] 30)) w.heap.size:=⟨below_new _ _,heap_alloc_new _ _,Nat.le_refl _⟩
set_option maxRecDepth 20000 in
set_option maxHeartbeats 4000000 in
theorem New_bad (w:World) (l:List In) (iad:Option Addr) (ic:Nat) (vv iv2:Value) (hkk:KindsIn w) (h:InSl w l (.slice iad l.length ic)) (c k:Int) (hc:checkI l=(c,k)) (h0:c≠0) :
  Calls Tryd.prog 19 #[.slice iad l.length ic,vv,iv2] w fun r w'=>r = .returned (.tuple #[.pointer none,.agg #[.int .i64 c,.int .i64 k]])∧Below w.heap.size w w':=by
 have hcb:(c != 0)=true:=by simpa using h0
 have HK:Hid (KindsIn w∧InSl w l (.slice iad l.length ic)∧checkI l=(c,k)):=⟨hkk,h,hc⟩
 clear hkk h hc
 go_enter Tryd.func19,Tryd.ntmps19
 go_wp2_with (go_at_call 38;refine (Check_all _ l _ _ (HK.out.1.below (below_new _ _)) (HK.out.2.1.below (below_new _ _)) c k HK.out.2.2).mono ?_;rintro r w9 ⟨rfl,hb9⟩;have H9:Hid (FB w w9 w.heap.size):=(FB.start w).grow hb9;obtain ⟨rs9,rf9,rl9⟩:=cells_of (l:=[_,_]) H9.out.res;have r90:=rs9 0 _ rfl;have r91:=rs9 1 _ rfl;clear hb9 rs9)
 go_region
 all_goals go_wp2_with fail
 all_goals
  refine bodyPost_ret (v:=.tuple #[.pointer none,.agg #[.int .i64 c,.int .i64 k]]) (New_ends (set_alloc H9.out.res) rfl rfl) rfl ?_
  exact ⟨rfl,(((H9.out.bel.setCell (Nat.le_refl _) _).setCell (Nat.le_refl _) _).alloc (by have:=H9.out.bel.size;simp;omega) _).drew⟩
set_option maxRecDepth 20000 in
set_option maxHeartbeats 4000000 in
theorem New_range (w:World) (l:List In) (iad:Option Addr) (ic:Nat) (vad nad:Option Addr) (n m vc nc:Nat) (hkk:KindsIn w) (h:InSl w l (.slice iad l.length ic)) (k:Int) (hc:checkI l=(0,k)) (hnm:n≠8∨m≠4) :
  Calls Tryd.prog 19 #[.slice iad l.length ic,.slice vad n vc,.slice nad m nc] w fun r w'=>r = .returned (.tuple #[.pointer none,.agg #[.int .i64 3,.int .i64 0]])∧Below w.heap.size w w':=by
 have HK:Hid (KindsIn w∧InSl w l (.slice iad l.length ic)∧checkI l=(0,k)):=⟨hkk,h,hc⟩
 clear hkk h hc
 by_cases hn:n=8
 ·subst hn
  have hm:¬ ((m:Int)=4):=by omega
  have hmb:((m:Int) != 4)=true:=by simpa using hm
  go_enter Tryd.func19,Tryd.ntmps19
  go_wp2_with (go_at_call 38;refine (Check_all _ l _ _ (HK.out.1.below (below_new _ _)) (HK.out.2.1.below (below_new _ _)) 0 k HK.out.2.2).mono ?_;rintro r w9 ⟨rfl,hb9⟩;have H9:Hid (FB w w9 w.heap.size):=(FB.start w).grow hb9;obtain ⟨rs9,rf9,rl9⟩:=cells_of (l:=[_,_]) H9.out.res;have r90:=rs9 0 _ rfl;have r91:=rs9 1 _ rfl;clear hb9 rs9)
  refine bodyPost_ret (v:=.tuple #[.pointer none,.agg #[.int .i64 3,.int .i64 0]]) (New_ends (set_alloc H9.out.res) rfl rfl) rfl ?_
  exact ⟨rfl,(((H9.out.bel.setCell (Nat.le_refl _) _).setCell (Nat.le_refl _) _).alloc (by have:=H9.out.bel.size;simp;omega) _)⟩
 ·have hm:¬ ((n:Int)=8):=by omega
  have hmb:((n:Int) != 8)=true:=by simpa using hm
  go_enter Tryd.func19,Tryd.ntmps19
  go_wp2_with (go_at_call 38;refine (Check_all _ l _ _ (HK.out.1.below (below_new _ _)) (HK.out.2.1.below (below_new _ _)) 0 k HK.out.2.2).mono ?_;rintro r w9 ⟨rfl,hb9⟩;have H9:Hid (FB w w9 w.heap.size):=(FB.start w).grow hb9;obtain ⟨rs9,rf9,rl9⟩:=cells_of (l:=[_,_]) H9.out.res;have r90:=rs9 0 _ rfl;have r91:=rs9 1 _ rfl;clear hb9 rs9)
  refine bodyPost_ret (v:=.tuple #[.pointer none,.agg #[.int .i64 3,.int .i64 0]]) (New_ends (set_alloc H9.out.res) rfl rfl) rfl ?_
  exact ⟨rfl,(((H9.out.bel.setCell (Nat.le_refl _) _).setCell (Nat.le_refl _) _).alloc (by have:=H9.out.bel.size;simp;omega) _)⟩
theorem eight_of {vs:List Int} (h:vs.length=8):∃ v0 v1 v2 v3 v4 v5 v6 v7,vs=[v0,v1,v2,v3,v4,v5,v6,v7]:=by
 match vs,h with
 | [a,b,c,d,e,f,g,i],_=>exact ⟨a,b,c,d,e,f,g,i,rfl⟩
theorem four_of {vs:List Int} (h:vs.length=4):∃ i0 i1 i2 i3,vs=[i0,i1,i2,i3]:=by
 match vs,h with
 | [a,b,c,d],_=>exact ⟨a,b,c,d,rfl⟩
theorem MM.made {w:World} {l:List In} {iv ov:Value} {vs ins:List Int} (hv:vs.length=8) (hi:ins.length=4) (himg:ImgAt w w.heap.size l iv) (hops:OpsAt w w.heap.size ov) :
  MM (w.alloc (.cells (machVs iv vs ins [0,0,0,0,0,0,0,0] (.slice none 0 0) (.slice none 0 0) 0 0 ov).toArray 92)) w.heap.size (w.heap.size+1) l iv ov ins 0 (ms0 vs) (.slice none 0 0) (.slice none 0 0):=by
 refine ⟨heap_alloc_new _ _,⟨rfl,.inl ⟨rfl,rfl⟩⟩,⟨rfl,.inl ⟨rfl,rfl⟩⟩,(fun k hk=>by cases hk),hv,hi,rfl,Nat.lt_succ_self _,by simp,himg.keep (fun k hk=>(below_new w _).block k hk),hops.keep (fun k hk=>(below_new w _).block k hk)⟩
theorem arr8 (w:World) (b o c:Nat):(Instr.arrayAt 88 (.slice (some ⟨b,o,none⟩) 8 c)).run Tryd.prog w = .ok (.pointer (some ⟨b,o,none⟩)) w:=by
 simp [Instr.arrayAt,run_underlying Tryd.underlying88,Result.andThen]
theorem arr4 (w:World) (b o c:Nat):(Instr.arrayAt 89 (.slice (some ⟨b,o,none⟩) 4 c)).run Tryd.prog w = .ok (.pointer (some ⟨b,o,none⟩)) w:=by
 simp [Instr.arrayAt,run_underlying Tryd.underlying89,Result.andThen]
theorem MM.same {w w':World} {mb B:Nat} {l:List In} {iv ov:Value} {ins:List Int} {sp:Int} {s:MS} {sv pv:Value} (h:MM w mb B l iv ov ins sp s sv pv) (hh:∀ k:Nat,w'.heap[k]?=w.heap[k]?) (hz:w'.heap.size=w.heap.size):MM w' mb B l iv ov ins sp s sv pv :=
 ⟨(hh mb).trans h.blk,ownsRow_same h.stk (fun k _ _=>hh k),ownsRow_same h.pts (fun k _ _=>hh k),h.apt,h.lv,h.li,h.lc,h.nmb,by rw [hz];exact h.bas,h.img.keep (fun k _=>hh k),h.ops.keep (fun k _=>hh k)⟩
theorem no_fault {w:World} {g:Nat} (h:w.heap[g]?=some (.cells #[.int .i64 0,.int .i64 0] 30 (0,0))) (k:Nat):((w.setCell ⟨g,0,none⟩ (.int .i64 0)).setCell ⟨g,1,none⟩ (.int .i64 0)).heap[k]?=w.heap[k]?:=by
 by_cases e:k=g
 ·subst e
  rw [setCell_at (setCell_at h),h]
  rfl
 ·rw [Below.heap_setCell _ _ _ _ (by show k≠g;exact e),Below.heap_setCell _ _ _ _ (by show k≠g;exact e)]
abbrev KV (W:World) (b o b' o':Nat) (v0 v1 v2 v3 v4 v5 v6 v7 i0 i1 i2 i3:Int):Prop:=(W.cell? ⟨b,o,none⟩=some (.int .i64 v0)∧W.cell? ⟨b,o+1,none⟩=some (.int .i64 v1)∧W.cell? ⟨b,o+2,none⟩=some (.int .i64 v2)∧W.cell? ⟨b,o+3,none⟩=some (.int .i64 v3)∧W.cell? ⟨b,o+4,none⟩=some (.int .i64 v4)∧W.cell? ⟨b,o+5,none⟩=some (.int .i64 v5)∧W.cell? ⟨b,o+6,none⟩=some (.int .i64 v6)∧W.cell? ⟨b,o+7,none⟩=some (.int .i64 v7))∧W.cell? ⟨b',o',none⟩=some (.int .i64 i0)∧W.cell? ⟨b',o'+1,none⟩=some (.int .i64 i1)∧W.cell? ⟨b',o'+2,none⟩=some (.int .i64 i2)∧W.cell? ⟨b',o'+3,none⟩=some (.int .i64 i3)
theorem KV.below {W W':World} {b o b' o':Nat} {v0 v1 v2 v3 v4 v5 v6 v7 i0 i1 i2 i3:Int} (h:KV W b o b' o' v0 v1 v2 v3 v4 v5 v6 v7 i0 i1 i2 i3) (hb:Below W.heap.size W W'):KV W' b o b' o' v0 v1 v2 v3 v4 v5 v6 v7 i0 i1 i2 i3 :=
 ⟨⟨below_cell hb h.1.1,below_cell hb h.1.2.1,below_cell hb h.1.2.2.1,below_cell hb h.1.2.2.2.1,below_cell hb h.1.2.2.2.2.1,below_cell hb h.1.2.2.2.2.2.1,below_cell hb h.1.2.2.2.2.2.2.1,below_cell hb h.1.2.2.2.2.2.2.2⟩,below_cell hb h.2.1,below_cell hb h.2.2.1,below_cell hb h.2.2.2.1,below_cell hb h.2.2.2.2⟩
set_option maxRecDepth 20000 in
set_option maxHeartbeats 4000000 in
theorem New_ok (w:World) (l:List In) (iad:Option Addr) (ic:Nat) (vad nad:Option Addr) (vc nc:Nat) (vs ins:List Int) (hkk:KindsIn w) (h:InSl w l (.slice iad l.length ic)) (hnil:iad=none→l.length=0∧ic=0) (k:Int) (hc:checkI l=(0,k)) (hl:l.length≤100000) (hv:vs.length=8) (hi:ins.length=4) (hvs:IntSl w vs (.slice vad vs.length vc)) (hins:IntSl w ins (.slice nad ins.length nc)) :
  Calls Tryd.prog 19 #[.slice iad l.length ic,.slice vad 8 vc,.slice nad 4 nc] w fun r w'=>∃ mb iv ov,r = .returned (.tuple #[.pointer (some ⟨mb,0,none⟩),.agg #[.int .i64 0,.int .i64 0]])∧w.heap.size≤mb∧MM w' mb (mb+1) l iv ov ins 0 (ms0 vs) (.slice none 0 0) (.slice none 0 0)∧Below w.heap.size w w':=by
 obtain ⟨vb,vo,rfl,hvr⟩:∃ b o,vad=some ⟨b,o,none⟩∧∀ j,j<vs.length→w.cell? ⟨b,o+j,none⟩=some (.int .i64 (vs.getD j 0)):=by
  obtain ⟨ad,c,e,h0 | ⟨b,o,e2,h2⟩⟩:=hvs
  ·rw [h0] at hv;simp at hv
  ·cases e;exact ⟨b,o,e2,h2⟩
 obtain ⟨nb,no,rfl,hnr⟩:∃ b o,nad=some ⟨b,o,none⟩∧∀ j,j<ins.length→w.cell? ⟨b,o+j,none⟩=some (.int .i64 (ins.getD j 0)):=by
  obtain ⟨ad,c,e,h0 | ⟨b,o,e2,h2⟩⟩:=hins
  ·rw [h0] at hi;simp at hi
  ·cases e;exact ⟨b,o,e2,h2⟩
 obtain ⟨v0,v1,v2,v3,v4,v5,v6,v7,rfl⟩:=eight_of hv
 obtain ⟨i0,i1,i2,i3,rfl⟩:=four_of hi
 have hkv:KV w vb vo nb no v0 v1 v2 v3 v4 v5 v6 v7 i0 i1 i2 i3:=⟨⟨hvr 0 (by simp),hvr 1 (by simp),hvr 2 (by simp),hvr 3 (by simp),hvr 4 (by simp),hvr 5 (by simp),hvr 6 (by simp),hvr 7 (by simp)⟩,hnr 0 (by simp),hnr 1 (by simp),hnr 2 (by simp),hnr 3 (by simp)⟩
 have HK:Hid (KindsIn w∧(InSl w l (.slice iad l.length ic)∧(iad=none→l.length=0∧ic=0))∧checkI l=(0,k)∧KV w vb vo nb no v0 v1 v2 v3 v4 v5 v6 v7 i0 i1 i2 i3):=⟨hkk,⟨h,hnil⟩,hc,hkv⟩
 clear hkk h hc hvs hins hvr hnr hnil hkv
 have ha8:=fun W=>arr8 W vb vo vc
 have ha4:=fun W=>arr4 W nb no nc
 go_enter Tryd.func19,Tryd.ntmps19
 go_wp2_with (go_at_call 38;refine (Check_all _ l _ _ (HK.out.1.below (below_new _ _)) (HK.out.2.1.1.below (below_new _ _)) 0 k HK.out.2.2.1).mono ?_;rintro r w9 ⟨rfl,hb9⟩;have H9:Hid (FB w w9 w.heap.size):=(FB.start w).grow hb9;obtain ⟨rs9,rf9,rl9⟩:=cells_of (l:=[_,_]) H9.out.res;have r90:=rs9 0 _ rfl;have r91:=rs9 1 _ rfl;clear hb9 rs9)
 have H10:Hid (FB w (w9.alloc (.cells #[.int .i64 0,.int .i64 k] 30)) w.heap.size):=H9.out.grow (below_new _ _)
 generalize hw1:(w9.alloc (.cells #[.int .i64 0,.int .i64 k] 30))=w1 at *
 clear hw1 H9 r90 r91 rf9 rl9
 have hS0:KV w1.drew vb vo nb no v0 v1 v2 v3 v4 v5 v6 v7 i0 i1 i2 i3:=HK.out.2.2.2.below (below_seq H10.out.bel (Below.refl _ _).drew)
 refine wp_region_noPanic ?_
 refine wp_region_held_drew (S:=fun w'=>KV w' vb vo nb no v0 v1 v2 v3 v4 v5 v6 v7 i0 i1 i2 i3) (by kernel_rfl) hS0 (fun hHeld=>?_)
 refine tk (i:=0) (n:=24) (v:=?_) ?_ ?_
 rotate_left 1
 ·intro wz hSw
  first | (go_simp;done) | (go_simp;with_reducible rfl)
 simp only [ls0,ls1]
 refine tk (i:=2) (n:=26) (v:=?_) ?_ ?_
 rotate_left 1
 ·intro wz hSw
  first | (go_simp;done) | (go_simp;with_reducible rfl)
 simp only [ls0,ls1]
 refine tk (i:=3) (n:=27) (v:=?_) ?_ ?_
 rotate_left 1
 ·intro wz hSw
  first | (go_simp;done) | (go_simp;with_reducible rfl)
 simp only [ls0,ls1]
 refine tk (i:=4) (n:=28) (v:=?_) ?_ ?_
 rotate_left 1
 ·intro wz hSw
  first | (go_simp;done) | (go_simp;with_reducible rfl)
 simp only [ls0,ls1]
 refine tk (i:=5) (n:=29) (v:=?_) ?_ ?_
 rotate_left 1
 ·intro wz hSw
  first | (go_simp;done) | (go_simp;with_reducible rfl)
 simp only [ls0,ls1]
 refine tk (i:=6) (n:=30) (v:=?_) ?_ ?_
 rotate_left 1
 ·intro wz hSw
  first | (go_simp;done) | (go_simp;with_reducible rfl)
 simp only [ls0,ls1]
 refine tk (i:=7) (n:=31) (v:=?_) ?_ ?_
 rotate_left 1
 ·intro wz hSw
  first | (go_simp;done) | (go_simp;with_reducible rfl)
 simp only [ls0,ls1]
 refine tk (i:=11) (n:=35) (v:=?_) ?_ ?_
 rotate_left 1
 ·intro wz hSw
  first | (go_simp;done) | (go_simp;with_reducible rfl)
 simp only [ls0,ls1]
 refine wpAnyH_ready (rs:=[1]) (by kernel_rfl) (by simp) ?_
 refine AllReadyH.cons rfl (fun K hK=>?_) AllReadyH.nil
 go_simp
 go_wp2_with (go_at_call 52;refine (cloneI_any _ l iad ic hl (HK.out.2.1.1.below (below_seq H10.out.bel (Below.refl _ _).drew)) HK.out.2.1.2).mono ?_;rintro r w2 ⟨iv,rfl,himg,hb2⟩;obtain ⟨ja,jc,e2⟩:∃ a c,iv = .slice a l.length c:=(by obtain ⟨⟨a,c,e,-⟩,-⟩:=himg;exact ⟨a,c,e⟩);subst e2;have H2:Hid (FB w w2 w.heap.size∧InSl w2 l (.slice ja l.length jc)∧∀ ad n c,Value.slice ja l.length jc = .slice (some ad) n c→ad.block<w2.heap.size):=⟨H10.out.grow (below_seq (Below.refl _ _).drew hb2),himg.1,fun ad n c e=>(himg.2 ad n c e).2⟩;have hS2:=hS0.below hb2;clear himg hb2)
 refine hK.out _ _ hS2 (fun hHeld=>?_)
 clear hK K
 refine wpAnyH_ready (rs:=[8]) (by kernel_rfl) (by simp) ?_
 refine AllReadyH.cons rfl (fun K hK=>?_) AllReadyH.nil
 go_simp
 go_wp2_with (go_at_call 53;refine (operators_any _).mono ?_;rintro r w3 ⟨ov,rfl,hop,hb3⟩;obtain ⟨jq,e3⟩:∃ q,ov = .map (some q):=(by obtain ⟨q,g,e,-⟩:=hop;exact ⟨q,e⟩);subst e3;have H3:Hid (FB w w3 w.heap.size∧ImgAt w3 w3.heap.size l (.slice ja l.length jc)∧OpsAt w3 w3.heap.size (.map (some jq))):=⟨H2.out.1.grow hb3,⟨H2.out.2.1.below hb3,fun ad n c e=>by have:=H2.out.2.2 ad n c e;have:=hb3.size;omega⟩,hop⟩;have hS3:=hS2.below hb3;clear hop hb3)
 refine hK.out _ _ hS3 (fun hHeld=>?_)
 clear hK K
 refine tk (i:=9) (n:=33) (v:=?_) ?_ ?_
 rotate_left 1
 ·intro wz hSw
  first | (go_simp;done) | (go_simp;with_reducible rfl)
 simp only [ls0,ls1]
 refine wpAnyH_ready (rs:=[10]) (by kernel_rfl) (by simp) ?_
 refine AllReadyH.cons rfl (fun K hK=>?_) AllReadyH.nil
 go_simp
 have H4:Hid (FB w (w3.alloc (.cells #[.slice ja l.length jc,.int .i64 v0,.int .i64 v1,.int .i64 v2,.int .i64 v3,.int .i64 v4,.int .i64 v5,.int .i64 v6,.int .i64 v7,.int .i64 i0,.int .i64 i1,.int .i64 i2,.int .i64 i3,.int .i64 0,.int .i64 0,.int .i64 0,.int .i64 0,.int .i64 0,.int .i64 0,.int .i64 0,.int .i64 0,.slice none 0 0,.slice none 0 0,.int .i64 0,.int .i64 0,.map (some jq)] 92)) w.heap.size∧MM (w3.alloc (.cells #[.slice ja l.length jc,.int .i64 v0,.int .i64 v1,.int .i64 v2,.int .i64 v3,.int .i64 v4,.int .i64 v5,.int .i64 v6,.int .i64 v7,.int .i64 i0,.int .i64 i1,.int .i64 i2,.int .i64 i3,.int .i64 0,.int .i64 0,.int .i64 0,.int .i64 0,.int .i64 0,.int .i64 0,.int .i64 0,.int .i64 0,.slice none 0 0,.slice none 0 0,.int .i64 0,.int .i64 0,.map (some jq)] 92)) w3.heap.size (w3.heap.size+1) l (.slice ja l.length jc) (.map (some jq)) [i0,i1,i2,i3] 0 (ms0 [v0,v1,v2,v3,v4,v5,v6,v7]) (.slice none 0 0) (.slice none 0 0)):=⟨H3.out.1.grow (below_new _ _),MM.made (vs:=[v0,v1,v2,v3,v4,v5,v6,v7]) (ins:=[i0,i1,i2,i3]) rfl rfl H3.out.2.1 H3.out.2.2⟩
 have l3:w.heap.size≤w3.heap.size:=H3.out.1.bel.size
 have hS4:=hS3.below (below_new w3 (.cells #[.slice ja l.length jc,.int .i64 v0,.int .i64 v1,.int .i64 v2,.int .i64 v3,.int .i64 v4,.int .i64 v5,.int .i64 v6,.int .i64 v7,.int .i64 i0,.int .i64 i1,.int .i64 i2,.int .i64 i3,.int .i64 0,.int .i64 0,.int .i64 0,.int .i64 0,.int .i64 0,.int .i64 0,.int .i64 0,.int .i64 0,.slice none 0 0,.slice none 0 0,.int .i64 0,.int .i64 0,.map (some jq)] 92))
 refine hK.out _ _ hS4 (fun hHeld=>?_)
 clear hK K
 generalize hw4:(w3.alloc (.cells #[.slice ja l.length jc,.int .i64 v0,.int .i64 v1,.int .i64 v2,.int .i64 v3,.int .i64 v4,.int .i64 v5,.int .i64 v6,.int .i64 v7,.int .i64 i0,.int .i64 i1,.int .i64 i2,.int .i64 i3,.int .i64 0,.int .i64 0,.int .i64 0,.int .i64 0,.int .i64 0,.int .i64 0,.int .i64 0,.int .i64 0,.slice none 0 0,.slice none 0 0,.int .i64 0,.int .i64 0,.map (some jq)] 92))=w4 at *
 clear hw4
 refine tk (i:=12) (n:=6) (v:=?_) ?_ ?_
 rotate_left 1
 ·intro wz hSw
  first | (go_simp;done) | (go_simp;with_reducible rfl)
 simp only [ls0,ls1]
 obtain ⟨rs9,rf9,rl9⟩:=cells_of (l:=[_,_]) H4.out.1.res
 have r90:=rs9 0 _ rfl
 have r91:=rs9 1 _ rfl
 clear rs9
 refine wpAnyH_ready (rs:=[13]) (by kernel_rfl) (by simp) ?_
 refine AllReadyH.cons rfl (fun K hK=>?_) AllReadyH.nil
 go_simp
 have hb6:Below w.heap.size w ((w4.setCell ⟨w.heap.size,0,none⟩ (.int .i64 0)).setCell ⟨w.heap.size,1,none⟩ (.int .i64 0)):=(H4.out.1.bel.setCell (Nat.le_refl _) _).setCell (Nat.le_refl _) _
 refine hK.out _ _ (HK.out.2.2.2.below hb6) (fun hHeld=>?_)
 clear hK K
 refine wpAnyH_done (by kernel_rfl) ?_ _
 refine NoPanic.normal ?_
 go_wp2_with fail
 refine bodyPost_ret (v:=.tuple #[.pointer (some ⟨w3.heap.size,0,none⟩),.agg #[.int .i64 0,.int .i64 0]]) (New_ends ((no_fault H4.out.1.res _).trans H4.out.1.res) rfl rfl) rfl ?_
 exact ⟨_,_,_,rfl,l3,H4.out.2.same (no_fault H4.out.1.res) (by simp),hb6⟩
end Go.Proofs.YtnkgbkkakokciacDoor
