import Derived.Test.YtccoobcggbbcialGreatDoorGPT3
import Derived.Test.YtccoobcggbbcialGreatDoorGPT5
import Derived.Test.YtccoobcggbbcialGreatDoorGHD0
import Derived.Test.YtccoobcggbbcialGreatDoorGHZ6
import Derived.Deep.CutRange
import Derived.Test.YtccoobcggbbcialGreatDoorGHA0
import Derived.Test.YtccoobcggbbcialGreatDoorGST2
import Derived.Test.YtccoobcggbbcialGreatDoorGHG0
import Derived.Maps.OwnSet
import Derived.Maps.Views
namespace Go.Proofs.YtccoobcggbbcialGreatDoor
open Go.ChangeShapes Go.WideShapes Go.ChangeAt Go.RowKit
open Keep
theorem PlayD_ends{w:World}{g:Nat}{c k p:Value}{a:Act}(h:w.heap[g]?=some (.cells #[c,k] 33 (0,0)))(h2:a.tmps[8]?.getD undef=p)(h3:a.tmps[9]?.getD undef = .pointer (some ⟨g,0,none⟩)) :
  (results Tryz.f23 a.tmps).run Tryz.prog w = .ok (.tuple #[p,.agg #[c,k]]) w:=by
 obtain⟨c1,f1,l1⟩:=cells_of (l:=[_,_]) h
 have c10:=c1 0 _ rfl
 have c11:=c1 1 _ rfl
 simp[results,Tryz.results23,go_sem,h2,h3,c10,c11]
def PlayDPost(w:World)(l:List Pa)(cs:List Co)(tk:List Int)(n:Int)(r:Ending)(w':World):Prop :=
 ((chkPl l cs tk n).1≠0∧r = .returned (.tuple #[.slice none 0 0,.agg #[.int .i64 (chkPl l cs tk n).1,.int .i64 (chkPl l cs tk n).2]])∧Below w.heap.size w w') ∨
 ((chkPl l cs tk n).1=0∧∃(os:List Value) (ov:Value),r = .returned (.tuple #[ov,.agg #[.int .i64 0,.int .i64 0]])∧w'.ownsRow (w.heap.size+3) 25 1 ov os.length os∧os.length=cs.length∧(∀(i:Nat) (u:Value),os[i]?=some u→EnR w' u ((playTo l tk cs (ordF cs) n.toNat).2.ends.getD i []))∧Below w.heap.size w w')
theorem infoIS:(Tryz.prog.info? 25).map (fun i=>(i.zero,i.size,i.bytes))=some (some (.slice none 0 0),1,24):=by kernel_rfl
theorem fill_set{α:Type}{x y:α}{n k:Nat}(h:k<n):(List.replicate k x++List.replicate (n-k) y).set k x=List.replicate (k+1) x++List.replicate (n-(k+1)) y:=by
 rw[List.set_append_right _ _ (by simp),List.length_replicate,Nat.sub_self]
 obtain⟨d,rfl⟩:∃d,n=k+1+d:=⟨n-(k+1),by omega⟩
 rw[show k+1+d-k=d+1 by omega,show k+1+d-(k+1)=d by omega,List.replicate_succ (n:=d),List.set_cons_zero,List.replicate_succ' (n:=k),List.append_assoc]
 rfl
structure PB (w W:World) (lv tv:Value):Prop where
 bel:Below w.heap.size w W
 bl:W.heap[w.heap.size]?=some (.cells #[lv] 61 (0,0))
 bt:W.heap[w.heap.size+1]?=some (.cells #[tv] 25 (0,0))
 fl:W.heap[w.heap.size+2]?=some (.cells #[.int .i64 0,.int .i64 0] 33 (0,0))
 sz:w.heap.size+3≤W.heap.size
section
variable {w W W':World} {lv tv:Value}
theorem PB.grow(h:PB w W lv tv)(hb:Below W.heap.size W W'):PB w W' lv tv:=by
 have k:∀ {a:Nat} {o:Obj},W.heap[a]?=some o→W'.heap[a]?=some o:=fun {a o} ha=>(hb.block a (heap_lt ha)).trans ha
 exact⟨below_seq h.bel hb,k h.bl,k h.bt,k h.fl,Nat.le_trans h.sz hb.size⟩
theorem PB.start(w:World)(lv tv:Value):PB w (((w.alloc (.cells #[lv] 61)).alloc (.cells #[tv] 25)).alloc (.cells #[.int .i64 0,.int .i64 0] 33)) lv tv:=by
 have h1:=heap_alloc_new w (.cells #[lv] 61)
 have h2:=heap_alloc_new (w.alloc (.cells #[lv] 61)) (.cells #[tv] 25)
 have h3:=heap_alloc_new ((w.alloc (.cells #[lv] 61)).alloc (.cells #[tv] 25)) (.cells #[.int .i64 0,.int .i64 0] 33)
 have b2:=below_new (w.alloc (.cells #[lv] 61)) (.cells #[tv] 25)
 have b3:=below_new ((w.alloc (.cells #[lv] 61)).alloc (.cells #[tv] 25)) (.cells #[.int .i64 0,.int .i64 0] 33)
 rw[World.size_alloc]at h2
 rw[World.size_alloc,World.size_alloc]at h3
 refine⟨below_seq (below_new _ _) (below_seq b2 b3),(b3.block _ (heap_lt ((b2.block _ (heap_lt h1)).trans h1))).trans ((b2.block _ (heap_lt h1)).trans h1),(b3.block _ (heap_lt h2)).trans h2,h3,?_⟩
 rw[World.size_alloc,World.size_alloc,World.size_alloc]
 omega
theorem PB.fb(h:PB w W lv tv):FB w W (w.heap.size+2):=⟨h.bel,h.fl,by omega⟩
theorem PB.cells(h:PB w W lv tv):W.cell? ⟨w.heap.size,0,none⟩=some lv∧W.cell? ⟨w.heap.size+1,0,none⟩=some tv∧w.heap.size<W.heap.size∧w.heap.size+1<W.heap.size:=by
 have:=h.sz
 exact⟨(cells_of (l:=[_]) h.bl).1 0 _ rfl,(cells_of (l:=[_]) h.bt).1 0 _ rfl,by omega,by omega⟩
structure OB (w W:World) (lv tv:Value) (ov:Value) (os:List Value) (n:Nat):Prop where
 pb:PB w W lv tv
 row:W.ownsRow (w.heap.size+3) 25 1 ov os.length os
 en:∀u∈os,EnR W u (List.replicate n (-1))
 apt:os.Pairwise Apt
 low:∀u∈os,∀g,u.ownBlock=some g→w.heap.size+3≤g
variable {ov:Value} {os:List Value} {n:Nat}
theorem OB.start(h:PB w W lv tv)(n:Nat):OB w W lv tv (.slice none 0 0) [] n:=⟨h,⟨rfl,.inl ⟨rfl,rfl⟩⟩,fun u hu=>(by cases hu),List.Pairwise.nil,fun u hu=>(by cases hu)⟩
theorem OB.grow(h:OB w W lv tv ov os n)(hb:Below W.heap.size W W'):OB w W' lv tv ov os n:=by
 refine⟨h.pb.grow hb,ownsRow_below h.row hb,fun u hu=>(h.en u hu).keep (fun g hg=>?_),h.apt,h.low⟩
 obtain⟨c,hc⟩:=(h.en u hu).ty2 hg
 exact hb.block g (heap_lt hc)
theorem OB.only(h:OB w W lv tv ov os n){g:Nat}(hg:W.grownBy W' (some g))(h1:w.heap.size+3≤g)(hty:∃cur,W.heap[g]?=some (.cells cur 3 (0,0)))(hn:∀u∈os,u.ownBlock≠some g):OB w W' lv tv ov os n:=by
 have k:∀ {a:Nat} {o:Obj},a≠g→W.heap[a]?=some o→W'.heap[a]?=some o:=fun {a o} ha h9=>(hg.block a (heap_lt h9) (fun e=>ha (by cases e;rfl))).trans h9
 obtain⟨cur,hcur⟩:=hty
 refine⟨⟨bel_one h.pb.bel hg (by omega),k (by omega) h.pb.bl,k (by omega) h.pb.bt,k (by omega) h.pb.fl,Nat.le_trans h.pb.sz hg.size⟩,ownsRow_keep3 h.row (fun a c _ ha=>(k (ty_ne ha hcur (by decide)) ha).trans ha.symm),fun u hu=>(h.en u hu).keep (fun a ha=>?_),h.apt,h.low⟩
 obtain⟨c,hc⟩:=(h.en u hu).ty2 ha
 exact(k (fun e=>hn u hu (e ▸ ha)) hc).trans hc.symm
theorem OB.push(h:OB w W lv tv ov os n){g:Nat}(hg:W.heap[g]?=some (.cells (List.replicate n (Value.int .i64 (-1))).toArray 3 (0,0)))(h1:w.heap.size+3≤g)(hn:∀u∈os,u.ownBlock≠some g)(hl:os.length≤1000000) :
  ∃ad c w4,(Builtin.append_ #[69,69] 69 #[ov,.slice (some ⟨W.heap.size,0,none⟩) 1 1]).run Tryz.prog (W.alloc (.cells #[.slice (some ⟨g,0,none⟩) n n] 25)) = .ok (.slice ad (os.length+1) c) w4∧OB w w4 lv tv (.slice ad (os.length+1) c) (os++[.slice (some ⟨g,0,none⟩) n n]) n:=by
 have hA:=h.grow (below_new W (.cells #[.slice (some ⟨g,0,none⟩) n n] 25))
 have hgA:(W.alloc (.cells #[.slice (some ⟨g,0,none⟩) n n] 25)).heap[g]?=some (.cells (List.replicate n (Value.int .i64 (-1))).toArray 3 (0,0)):=((below_new W _).block g (heap_lt hg)).trans hg
 have hel:=heap_alloc_new W (.cells #[.slice (some ⟨g,0,none⟩) n n] 25)
 obtain⟨ad,c,w4,e1,e2,e3,e4⟩:=own_pushA (T:=69) (E:=25) Tryz.underlying69 infoIS rfl (by omega) hA.row [.slice (some ⟨g,0,none⟩) n n] rfl (cells_of (l:=[_]) hel).1 (fun u hu=>by rw[List.mem_singleton.1 hu];rfl) (by omega) (by omega) hA.pb.sz
 refine⟨ad,c,w4,e1,⟨⟨hA.pb.bel.trans (e3.mono (by omega)),e4 _ _ _ hA.pb.bl (.inl (by decide)),e4 _ _ _ hA.pb.bt (.inr (by omega)),e4 _ _ _ hA.pb.fl (.inl (by decide)),Nat.le_trans hA.pb.sz e3.size⟩,by rw[List.length_append];exact e2,fun u hu=>?_,?_,fun u hu q hq=>?_⟩⟩
 ·rcases List.mem_append.1 hu with hu|hu
  ·refine(hA.en u hu).keep (fun a ha=>?_)
   obtain⟨c,hc⟩:=(hA.en u hu).ty2 ha
   exact(e4 _ _ _ hc (.inl (by decide))).trans hc.symm
  ·rw[List.mem_singleton.1 hu]
   exact⟨g,n,[],by rw[List.length_replicate],by rw[List.length_replicate];exact⟨Nat.le_refl _,rfl,rfl⟩,by rw[List.map_replicate,List.append_nil];exact e4 _ _ _ hgA (.inl (by decide))⟩
 ·rw[List.pairwise_append]
  refine⟨h.apt,List.pairwise_singleton _ _,fun a ha b hb q hq e=>?_⟩
  rw[List.mem_singleton.1 hb]at e
  cases e
  exact hn a ha hq
 ·rcases List.mem_append.1 hu with hu|hu
  ·exact h.low u hu q hq
  ·rw[List.mem_singleton.1 hu]at hq
   cases hq
   exact h1
end
end Go.Proofs.YtccoobcggbbcialGreatDoor
namespace Go.Proofs.YtccoobcggbbcialGreatDoor
open Go.ChangeShapes Go.WideShapes Go.ChangeAt Go.RowKit
def endsP(l:List Pa)(cs:List Co)(tk:List Int)(n:Int):List (List Int):=if (chkPl l cs tk n).1=0 then (playTo l tk cs (ordF cs) n.toNat).2.ends else []
theorem endsP_good{l:List Pa}{cs:List Co}{tk:List Int}{n:Int}(h:(chkPl l cs tk n).1=0):(endsP l cs tk n).length=cs.length∧(∀x∈endsP l cs tk n,x.length≤8)∧endsP l cs tk n=(playTo l tk cs (ordF cs) n.toNat).2.ends:=by
 obtain⟨h1,-,-,-,-,h6,-⟩:=chkPl_ok h
 have e:endsP l cs tk n=(playTo l tk cs (ordF cs) n.toNat).2.ends:=by unfold endsP;rw[if_pos h]
 have hs:=(playTo_ok (tk:=tk) h1 h6 (ordF_mem cs) n.toNat).1
 refine⟨by rw[e];exact hs.le,fun x hx=>?_,e⟩
 rw[e]at hx
 obtain⟨i,hi⟩:=List.mem_iff_getElem?.1 hx
 rw[hs.er i x hi]
 exact h1.most
theorem endsP_bad{l:List Pa}{cs:List Co}{tk:List Int}{n:Int}(h:(chkPl l cs tk n).1≠0):endsP l cs tk n=[]:=by unfold endsP;rw[if_neg h]
theorem endsP_few(l:List Pa)(cs:List Co)(tk:List Int)(n:Int):(endsP l cs tk n).length≤5000∧∀x∈endsP l cs tk n,x.length≤8:=by
 by_cases h:(chkPl l cs tk n).1=0
 ·obtain⟨h1,h2,-⟩:=endsP_good h
  have:=(chkPl_ok h).2.1
  exact⟨by omega,h2⟩
 ·rw[endsP_bad h]
  exact⟨Nat.zero_le _,fun x hx=>by cases hx⟩
def ApOk(B:Nat)(W:World)(v:Value):Prop:=(∃ad c,v = .slice ad 0 c)∨∃gl m vs ns,v = .slice (some ⟨gl,0,none⟩) m m∧Ap.AT W B gl m vs ns∧(∀i,i<m→W.cell? ⟨gl,i,none⟩=some (vs i))∧(∀i,i<m→Ap.RB W (vs i) (ns i) (fun _ _=>True))
theorem ApOk.grow{B:Nat}{W W':World}{v:Value}(h:ApOk B W v)(hb:Below W.heap.size W W'):ApOk B W' v:=by
 rcases h with h|⟨gl,m,vs,ns,rfl,ha,hc,hr⟩
 ·exact .inl h
 ·have hs:=hb.size
  refine .inr ⟨gl,m,vs,ns,rfl,⟨ha.pos,ha.few,⟨by have:=ha.low;omega,by have:=ha.low;omega⟩,fun i hi q hq=>?_,ha.ne,ha.len⟩,fun i hi=>below_cell hb (hc i hi),fun i hi=>(hr i hi).keep (fun q _ hq=>hb.block q hq)⟩
  obtain⟨h1,h2,h3⟩:=ha.own i hi q hq
  exact⟨h1,h2,by omega⟩
set_option maxRecDepth 20000 in
set_option maxHeartbeats 4000000 in
theorem Apart_none(w:World)(ad:Option Addr)(c:Nat):Calls Tryz.prog 25 #[.slice ad 0 c] w fun r w'=>r = .returned (.bool true)∧Below w.heap.size w w':=by
 go_enter Tryz.func25,Tryz.ntmps25
 go_wp2_with fail
 go_loopw [3,12] (fun u3 i12 wr=>i12 = .int .i64 0∧u3 = .slice none 0 0∧Below w.heap.size w wr) (fun _ _ _=>0)
 case atStart=>exact⟨rfl,rfl,Below.refl _ _⟩
 case round =>
  obtain⟨rfl,rfl,hb⟩:=hrel
  have HB:Hid (Below w.heap.size w wr):=hb
  clear hb
  go_wp2_with fail
  go_loopw [25] (fun i25 w2=>i25 = .int .i64 0∧Below w.heap.size w w2) (fun _ _=>0)
  case atStart=>exact⟨rfl,HB.out⟩
  case round =>
   obtain⟨rfl,hb⟩:=hrel
   clear HB
   have HB:Hid (Below w.heap.size w wr):=hb
   clear hb
   go_wp2_with fail
   go_loopw [54] (fun i54 w3=>i54 = .int .i64 0∧Below w.heap.size w w3) (fun _ _=>0)
   case atStart=>exact⟨rfl,HB.out⟩
   case round =>
    obtain⟨rfl,hb⟩:=hrel
    clear HB
    have HB:Hid (Below w.heap.size w wr):=hb
    clear hb
    go_wp2_with fail
    go_ret
    exact⟨rfl,HB.out⟩
theorem Apart_ok{B:Nat}{W:World}{v:Value}(h:ApOk B W v)(hB:B≤W.heap.size):Calls Tryz.prog 25 #[v] W fun r w'=>r = .returned (.bool true)∧Below B W w':=by
 rcases h with ⟨ad,c,rfl⟩|⟨gl,m,vs,ns,rfl,ha,hc,hr⟩
 ·exact(Apart_none W ad c).mono fun r w' ⟨h1,h2⟩=>⟨h1,h2.mono hB⟩
 ·exact Ap.Apart_any W B gl m vs ns ha hc hr
theorem EnR.rb{W:World}{v:Value}{r:List Int}(h:EnR W v r)(hr:r.length≤8):Ap.RB W v r.length (fun _ _=>True):=by
 obtain⟨g,c,ex,rfl,⟨hc,hce,rfl⟩,hh⟩:=h
 rw[List.append_nil]at hh
 refine .inr ⟨g,c,_,rfl,hh,hc,by unfold maxLen;omega,by simp[hce],fun k hk=>⟨r[k],by simp[hk],trivial⟩⟩
theorem apOk_of{W:World}{B gE m:Nat}{ev:List Value}{ends:List (List Int)}(hE:W.heap[gE]?=some (.cells ev.toArray 25 (0,0)))(hl:ev.length=m)(hm:m≤300)(he:∀(i:Nat) (v:Value),ev[i]?=some v→EnR W v (ends.getD i []))(h8:∀x∈ends,x.length≤8)(ha:ev.Pairwise Apt)(hlo:∀v∈ev,∀g:Nat,v.ownBlock=some g→B≤g)(hB:B≤W.heap.size):ApOk B W (.slice (some ⟨gE,0,none⟩) m m):=by
 by_cases h0:m=0
 ·subst h0
  exact .inl ⟨_,_,rfl⟩
 have hlen:∀i,(ends.getD i []).length≤8:=fun i=>by
  rw[List.getD_eq_getElem?_getD]
  cases hx:ends[i]? with
  | none=>simp
  | some x=>exact h8 x (List.mem_of_getElem? hx)
 have hat:∀i,i<m→ev[i]?=some (ev.getD i (.slice none 0 0)):=fun i hi=>by
  rw[List.getD_eq_getElem?_getD,List.getElem?_eq_getElem (by omega)]
  rfl
 refine .inr ⟨gE,m,fun i=>ev.getD i (.slice none 0 0),fun i=>(ends.getD i []).length,rfl,⟨by omega,hm,⟨hB,heap_lt hE⟩,fun i hi q hq=>?_,fun i i' hi hi' hne q hq=>?_,fun i hi=>by have:=hlen i;omega⟩,fun i hi=>?_,fun i hi=>?_⟩
 ·have h1:=hat i hi
  obtain⟨c,hc⟩:=(he i _ h1).ty hq
  exact⟨hlo _ (List.mem_of_getElem? h1) q hq,ty_ne hc hE (by decide),heap_lt hc⟩
 ·exact pw_at ha hne (hat i hi) (hat i' hi') q hq
 ·exact(cells_of hE).1 i _ (hat i hi)
 ·exact(he i _ (hat i hi)).rb (hlen i)
theorem tab_own{W:World}{B:Nat}{ov:Value}{os:List Value}{ends:List (List Int)}(h:W.ownsRow B 25 1 ov os.length os)(hl:ends.length=os.length)(he:∀(i:Nat) (v:Value),os[i]?=some v→EnR W v (ends.getD i [])):TabSl W (List.zipWith Ro.mk ends os) ov:=by
 obtain⟨h1,h2,h3⟩:=zip_tab ends os hl
 refine⟨own_rowSl (by rw[h3,h1];exact h),fun x hx=>?_⟩
 obtain⟨i,hi⟩:=List.mem_iff_getElem?.1 hx
 rw[List.getElem?_zipWith]at hi
 cases ha:ends[i]? with
 | none=>rw[ha]at hi;simp at hi
 | some a =>
  cases hb:os[i]? with
  | none=>rw[ha,hb]at hi;simp at hi
  | some b =>
   rw[ha,hb]at hi
   cases hi
   have:=he i b hb
   rw[List.getD_eq_getElem?_getD,ha]at this
   exact this.row
structure Ans (W:World) (ends:List (List Int)) (v:Value):Prop where
 tab:∃tl,TabSl W tl v∧tl.map Ro.xs=ends
theorem Ans.grow{W W':World}{ends:List (List Int)}{v:Value}(h:Ans W ends v)(hb:Below W.heap.size W W'):Ans W' ends v:=by
 obtain⟨tl,h1,h2⟩:=h.tab
 exact⟨tl,h1.below hb,h2⟩
theorem Ans.len{W:World}{ends:List (List Int)}{v:Value}(h:Ans W ends v):∃ad c,v = .slice ad ends.length c:=by
 obtain⟨tl,h1,h2⟩:=h.tab
 obtain⟨ad,c,rfl⟩:=h1.1.len
 exact⟨ad,c,by rw[← h2,List.length_map]⟩
theorem Tables_ans{W:World}{ends:List (List Int)}{v v':Value}(h:Ans W ends v)(h':Ans W ends v')(hl:ends.length≤5000)(h8:∀x∈ends,x.length≤8):Calls Tryz.prog 24 #[v,v'] W fun r w'=>r = .returned (.bool true)∧Below W.heap.size W w':=by
 obtain⟨tl,h1,h2⟩:=h.tab
 obtain⟨tl',h1',h2'⟩:=h'.tab
 refine Tables_any W tl tl' v v' (h2.trans h2'.symm) (by have:=congrArg List.length h2;rw[List.length_map]at this;omega) (fun x hx=>?_) h1 h1'
 have h9:=List.mem_map_of_mem (f:=Ro.xs) hx
 rw[h2]at h9
 exact Nat.le_trans (h8 _ h9) (by decide)
def PlPost(w:World)(l:List Pa)(cs:List Co)(tk:List Int)(n:Int)(ap:Bool)(r:Ending)(W:World):Prop :=
 ∃v,r = .returned (.tuple #[v,.agg #[.int .i64 (chkPl l cs tk n).1,.int .i64 (chkPl l cs tk n).2]])∧Ans W (endsP l cs tk n) v∧(ap=true→ApOk w.heap.size W v)∧Below w.heap.size w W
theorem PlayP_res(w:World)(l:List Pa)(cs:List Co)(tk:List Int)(n:Int)(pv cv tv:Value)(hp:RowSl Pa.vals w l pv)(hc:RowSl Co.vals w cs cv)(ht:RowSl nuV w tk tv)(hcl:cs.length≤1000000)(htl:tk.length≤1000000)(hm:(chkPl l cs tk n).1=0→cs.length≤300):Calls Tryz.prog 22 #[pv,cv,tv,.int .i64 n] w (PlPost w l cs tk n true):=by
 refine(Play_any w l cs tk n pv cv tv (ordF cs) hp hc ht hcl htl (ordF_len cs) (ordF_mem cs) (fun W hb=>inTime_full W cs cv (hc.below hb) hcl)).mono ?_
 rintro r W (⟨h0,rfl,hb⟩|⟨h0,gE,ev,rfl,hE,hl,he,ha,hlo,hb⟩)
 ·exact⟨_,rfl,⟨[],TabSl.nil W,by rw[endsP_bad h0];rfl⟩,fun _=>.inl ⟨_,_,rfl⟩,hb⟩
 ·obtain⟨h1,h2,h3⟩:=endsP_good h0
  have he2:∀(i:Nat) (v:Value),ev[i]?=some v→EnR W v ((endsP l cs tk n).getD i []):=by rw[h3];exact he
  have hz:chkPl l cs tk n=(0,0):=(chkPl_ok h0).2.2.2.2.2.2
  have ht:=tab_of hE (h1.trans hl.symm) he2
  rw[hl]at ht
  refine⟨_,by rw[hz],⟨_,ht,(zip_tab _ _ (h1.trans hl.symm)).2.1⟩,fun _=>apOk_of hE hl (hm h0) he2 h2 ha hlo hb.size,hb⟩
theorem PlayD_res(w:World)(l:List Pa)(cs:List Co)(tk:List Int)(n:Int)(pv cv tv:Value)(hd:Calls Tryz.prog 23 #[pv,cv,tv,.int .i64 n] w (PlayDPost w l cs tk n)):Calls Tryz.prog 23 #[pv,cv,tv,.int .i64 n] w (PlPost w l cs tk n false):=by
 refine hd.mono ?_
 rintro r W (⟨h0,rfl,hb⟩|⟨h0,os,ov,rfl,hE,hl,he,hb⟩)
 ·exact⟨_,rfl,⟨[],TabSl.nil W,by rw[endsP_bad h0];rfl⟩,fun h=>by(cases h),hb⟩
 ·obtain⟨h1,h2,h3⟩:=endsP_good h0
  have he2:∀(i:Nat) (v:Value),os[i]?=some v→EnR W v ((endsP l cs tk n).getD i []):=by rw[h3];exact he
  have hz:chkPl l cs tk n=(0,0):=(chkPl_ok h0).2.2.2.2.2.2
  exact⟨_,by rw[hz],⟨_,tab_own hE (h1.trans hl.symm) he2,(zip_tab _ _ (h1.trans hl.symm)).2.1⟩,fun h=>by(cases h),hb⟩
def smallB(a b:Int):Bool:=(decide (a≤300) && decide (b≤3000)) || decide (4000<a) || decide (20000<b)
theorem small_any(w:World)(a b:Int):Calls Tryz.prog 18 #[.int .i64 a,.int .i64 b] w fun r w'=>r = .returned (.bool (smallB a b))∧w'=w:=by
 unfold smallB
 rcases Bool.eq_false_or_eq_true (decide (a≤300)) with h1|h1<;>rcases Bool.eq_false_or_eq_true (decide (b≤3000)) with h2|h2<;>rcases Bool.eq_false_or_eq_true (decide (4000<a)) with h3|h3<;>rcases Bool.eq_false_or_eq_true (decide (20000<b)) with h4|h4<;>rw[h1,h2,h3,h4]<;>(go_enter Tryz.func18,Tryz.ntmps18;go_wp2_with fail;go_ret;exact⟨rfl,rfl⟩)
theorem small_few{l:List Pa}{cs:List Co}{tk:List Int}{n:Int}(h:smallB (cs.length:Int) n=true)(h0:(chkPl l cs tk n).1=0):cs.length≤300:=by
 obtain⟨-,h2,-,h4,-⟩:=chkPl_ok h0
 unfold smallB at h
 simp at h
 omega
end Go.Proofs.YtccoobcggbbcialGreatDoor
namespace Go.Proofs.YtccoobcggbbcialGreatDoor
open Go.ChangeShapes Go.WideShapes Go.ChangeAt Go.RowKit
open Keep
def HtAt(w:World)(mb N:Nat)(M:Int→Option Int):Prop:=∃D:DataW Unit,w.ownsMap Tryz.prog 3 (plainElem Tryz.prog 3) mb N D∧∀z:Int,Maps.has D (.int .i64 z)=(M z).isSome∧D.atKey (.int .i64 z) (.lit (.int .i64 0)) = .lit (.int .i64 ((M z).getD 0))
def setH(M:Int→Option Int)(z v:Int):Int→Option Int:=fun y=>if y=z then some v else M y
theorem wf_int{z:Int}(h : -9223372036854775808≤z∧z≤9223372036854775807):(Lit.int .i64 z).wf=true:=by
 have h1:IntKind.i64.min=-9223372036854775808:=by decide
 have h2:IntKind.i64.max=9223372036854775807:=by decide
 simp[Lit.wf,h1,h2]
 omega
theorem zero3(w:World):(zeroValue 3).run Tryz.prog w = .ok (.int .i64 0) w:=by
 obtain⟨i0,hi0,hz0,hz1,hz2⟩:=info_parts infoI3
 simp[zeroValue,typeInfo,hi0,hz0]
theorem HtAt.made(w:World):HtAt (w.alloc (.map #[] 0)) w.heap.size 0 (fun _=>none) :=
 ⟨.map [],World.ownsMap_made w _ _ _,fun _=>⟨rfl,rfl⟩⟩
theorem HtAt.look1{w:World}{mb N:Nat}{M:Int→Option Int}(h:HtAt w mb N M){z:Int}(hz : -9223372036854775808≤z∧z≤9223372036854775807) :
  (Instr.lookup 135 (.map (some mb)) (.int .i64 z) false).run Tryz.prog w = .ok (.int .i64 ((M z).getD 0)) w:=by
 obtain⟨D,ho,hM⟩:=h
 obtain⟨c,hrun,hat,-⟩:=ho.lookup_int (t:=135) (e:=3) (Maps.int_keyed Tryz.underlying3) Tryz.underlying135 Tryz.underlying3 (zero3 w) (Maps.keyOf_int_mk Tryz.underlying3 (wf_int hz))
 rw[(hM z).2]at hat
 simp only[DataW.lit.injEq,Lit.int.injEq,true_and]at hat
 rw[hrun,hat]
theorem HtAt.set{w:World}{mb N:Nat}{M:Int→Option Int}(h:HtAt w mb N M)(hN:N<1048576){z v:Int}(hz : -9223372036854775808≤z∧z≤9223372036854775807)(hv : -9223372036854775808≤v∧v≤9223372036854775807) :
  ∃w',(Instr.mapUpdate 135 (.map (some mb)) (.int .i64 z) (.int .i64 v)).run Tryz.prog w = .ok () w'∧HtAt w' mb (N+1) (setH M z v)∧w.grownBy w' (some mb):=by
 obtain⟨D,ho,hM⟩:=h
 obtain⟨w',hrun,ho',hg⟩:=ho.update (t:=135) (e:=3) (Maps.int_keyed Tryz.underlying3) Tryz.underlying135 (by unfold maxLen;omega) (Maps.keyOf_int_mk Tryz.underlying3 (wf_int hz)) (plainElem_int Tryz.underlying3 (wf_int hv))
 refine⟨w',hrun,⟨_,ho',fun y=>?_⟩,hg⟩
 unfold setH
 by_cases hy:y=z
 ·subst hy
  rw[if_pos rfl]
  exact⟨Maps.has_put_same (k:=.int .i64 y) ho.isMap trivial _,Maps.atKey_put_same (k:=.int .i64 y) ho.isMap trivial _ _⟩
 ·rw[if_neg hy]
  have hne:(Lit.int .i64 y)≠(Lit.int .i64 z):=by simpa using hy
  exact⟨(Maps.has_put_other hne _).trans (hM y).1,(Maps.atKey_put_other hne _ _).trans (hM y).2⟩
theorem HtAt.same{w w':World}{mb N:Nat}{M:Int→Option Int}(h:HtAt w mb N M)(hb:w'.heap[mb]?=w.heap[mb]?):HtAt w' mb N M:=by
 obtain⟨D,⟨es,clock,h1,r⟩,hM⟩:=h
 exact⟨D,⟨es,clock,by rw[hb];exact h1,r⟩,hM⟩
theorem HtAt.obj{w:World}{mb N:Nat}{M:Int→Option Int}(h:HtAt w mb N M):∃es c,w.heap[mb]?=some (.map es c):=by
 obtain⟨D,⟨es,clock,h1,r⟩,hM⟩:=h
 exact⟨es,clock,h1⟩
theorem lg_of2{l:List Pa}{cs:List Co}(hok:PsOk l)(h:∀(k:Nat) (c:Co),cs[k]?=some c→0≤c.k∧c.k<(l.length:Int)∧(l.getD c.k.toNat paZ).fr=-1∧0≤c.a∧c.a≤20000):Lg l cs (ordF cs):=by
 refine⟨hok,fun n hn=>?_,fun n hn=>?_,fun n=>?_,?_,?_⟩
 ·obtain⟨a1,a2,a3,-⟩:=h n _ (some_getD (d:=⟨0,0⟩) hn)
  exact⟨(cs.getD n ⟨0,0⟩).k.toNat,by omega,by omega,a3⟩
 ·exact(h n _ (some_getD (d:=⟨0,0⟩) hn)).2.2.2.1
 ·rw[(ordF_perm cs).mem_iff,List.mem_range]
 ·refine(ordF_sorted cs).imp fun {a b} h=>?_
  unfold leC at h
  simp only[decide_eq_true_eq]at h
  show(Ck cs a).a≤(Ck cs b).a
  omega
 ·exact(ordF_perm cs).nodup_iff.2 List.nodup_range
def F5(w:World)(lv tv:Value)(gJ gM:Nat)(jv mv:Value):List (Nat × Obj):=[(w.heap.size,.cells #[lv] 61),(w.heap.size+1,.cells #[tv] 25),(w.heap.size+2,.cells #[.int .i64 0,.int .i64 0] 33),(gJ,.cells #[jv] 130),(gM,.cells #[mv] 130)]
def sbV:Option Nat→Value
 | none=>.pointer none
 | some b=>pvv b
structure TK (w W:World) (l:List Pa) (tk:List Int) (cs:List Co) (lv tv:Value) (gJ gM:Nat) (os:List Value) (FO:List (Nat × Obj)) (t:Nat) (jv mv:Value) (jb mb:List Nat) (sb:Option Nat) (T:Nat→Th) (B:List Nat) (out:List (List Int)):Prop where
 dw:DW w W [(jv,jb),(mv,mb)] T B os out (F5 w lv tv gJ gM jv mv++FO)
 doc:Doc l tk cs t (jb.map T) (mb.map T) (sb.map T) out
 nd:(jb++(mb++sb.toList)).Nodup
 inB:∀b∈jb++(mb++sb.toList),b∈B
section
variable {w W W':World} {l:List Pa} {tk:List Int} {cs:List Co} {lv tv:Value} {gJ gM:Nat} {os:List Value} {FO:List (Nat × Obj)} {t:Nat} {jv mv:Value} {jb mb:List Nat} {sb:Option Nat} {T:Nat→Th} {B:List Nat} {out:List (List Int)}
end
theorem own_out{W:World}{B n:Nat}{ov:Value}{os:List Value}(h:W.ownsRow B 25 1 ov n os):∃FO:List (Nat × Obj),(∀p∈FO,W.heap[p.1]?=some p.2∧B≤p.1∧FarO p.2)∧(FO.map Prod.fst).Nodup∧(∀w':World,(∀p∈FO,w'.heap[p.1]?=some p.2)→w'.ownsRow B 25 1 ov n os)∧((os=[])∨∃g c cur,ov = .slice (some ⟨g,0,none⟩) n c∧FO=[(g,.cells cur 25)]∧∀(i:Nat) (u:Value),os[i]?=some u→cur[i]?=some u):=by
 obtain⟨hl,⟨rfl,rfl⟩|⟨g,cap,cur,rfl,hb,hg,hc,hm,hs,htk⟩⟩:=h
 ·exact⟨[],fun p hp=>(by cases hp),List.nodup_nil,fun w' _=>⟨hl,.inl ⟨rfl,rfl⟩⟩,.inl (List.eq_nil_of_length_eq_zero (by simpa using hl))⟩
 ·refine⟨[(g,.cells cur 25)],fun p hp=>?_,by simp,fun w' hw=>⟨hl,.inr ⟨g,cap,cur,rfl,hb,hw _ List.mem_cons_self,hc,hm,hs,htk⟩⟩,.inr ⟨g,cap,cur,rfl,rfl,fun i u hu=>?_⟩⟩
  ·rw[List.mem_singleton.1 hp]
   exact⟨hg,hb,fun c t f e=>by cases e;exact⟨by decide,by decide,by decide⟩⟩
  ·rw[← htk,List.getElem?_take]at hu
   split at hu
   ·rwa[Array.getElem?_toList]at hu
   ·cases hu
theorem farF5{w:World}{lv tv jv mv:Value}{gJ gM:Nat}:∀p∈F5 w lv tv gJ gM jv mv,FarO p.2:=fun p hp c t f e=>by
 simp only[F5,List.mem_cons,List.not_mem_nil,or_false]at hp
 rcases hp with rfl|rfl|rfl|rfl|rfl<;>(cases e;exact⟨by decide,by decide,by decide⟩)
theorem TK.start{w W:World}{l:List Pa}(tk:List Int){cs:List Co}{lv tv ov:Value}{os:List Value}(h:OB w W lv tv ov os l.length)(hl:os.length=cs.length){FO:List (Nat × Obj)}(hF:∀p∈FO,W.heap[p.1]?=some p.2∧w.heap.size+3≤p.1∧FarO p.2)(hN:(FO.map Prod.fst).Nodup)(T:Nat→Th) :
  TK w ((W.alloc (.cells #[.slice none 0 0] 130)).alloc (.cells #[.slice none 0 0] 130)) l tk cs lv tv W.heap.size (W.heap.size+1) os FO 0 (.slice none 0 0) (.slice none 0 0) [] [] none T [] (List.replicate cs.length (List.replicate l.length (-1))):=by
 have hb:Below W.heap.size W ((W.alloc (.cells #[.slice none 0 0] 130)).alloc (.cells #[.slice none 0 0] 130)):=below_seq (below_new _ _) (below_new _ _)
 have h1:=heap_alloc_new W (.cells #[.slice none 0 0] 130)
 have h2:=heap_alloc_new (W.alloc (.cells #[.slice none 0 0] 130)) (.cells #[.slice none 0 0] 130)
 rw[World.size_alloc]at h2
 have h3:=((below_new (W.alloc (.cells #[.slice none 0 0] 130)) (.cells #[.slice none 0 0] 130)).block _ (heap_lt h1)).trans h1
 have hG:=h.grow hb
 have hk:∀ {a:Nat} {o:Obj},W.heap[a]?=some o→((W.alloc (.cells #[.slice none 0 0] 130)).alloc (.cells #[.slice none 0 0] 130)).heap[a]?=some o:=fun {a o} ha=>(hb.block a (heap_lt ha)).trans ha
 have hsz:=h.pb.sz
 refine⟨⟨hG.pb.bel,fun r hr=>?_,?_,fun b hb=>(by cases hb),fun i u hu=>?_,h.apt,fun p hp=>?_,?_,fun p hp=>?_,fun r hr g hg=>?_,fun b hb=>(by cases hb),fun v hv g hg=>?_,fun p hp=>?_⟩,?_,List.nodup_nil,fun b hb=>(by cases hb)⟩
 ·have:r=(.slice none 0 0,[]):=by simpa using hr
  rw[this];exact PtR.nil _
 ·exact List.pairwise_cons.2 ⟨fun a _ g hg=>(by cases hg),List.pairwise_singleton _ _⟩
 ·have hi:i<cs.length:=by rw[← hl];exact(List.getElem?_eq_some_iff.1 hu).1
  rw[show(List.replicate cs.length (List.replicate l.length (-1:Int))).getD i []=List.replicate l.length (-1) by rw[List.getD_eq_getElem?_getD,List.getElem?_replicate,if_pos hi];rfl]
  exact hG.en u (List.mem_of_getElem? hu)
 ·rcases List.mem_append.1 hp with hp|hp
  ·simp only[F5,List.mem_cons,List.not_mem_nil,or_false]at hp
   rcases hp with rfl|rfl|rfl|rfl|rfl
   ·exact hG.pb.bl
   ·exact hG.pb.bt
   ·exact hG.pb.fl
   ·exact h3
   ·exact h2
  ·exact hk (hF p hp).1
 ·rw[List.map_append,List.nodup_append]
  refine⟨?_,hN,fun a ha b hb e=>?_⟩
  ·simp only[F5,List.map_cons,List.map_nil,List.nodup_cons,List.mem_cons,List.not_mem_nil,or_false,not_or,List.nodup_nil,not_false_eq_true,and_true]
   omega
  ·obtain⟨p,hp,rfl⟩:=List.mem_map.1 hb
   have g1:=(hF p hp).2.1
   have g2:=heap_lt (hF p hp).1
   simp only[F5,List.map_cons,List.map_nil,List.mem_cons,List.not_mem_nil,or_false]at ha
   omega
 ·rcases List.mem_append.1 hp with hp|hp
  ·exact farF5 p hp
  ·exact(hF p hp).2.2
 ·have:r=(.slice none 0 0,[]):=by simpa using hr
  rw[this]at hg;cases hg
 ·have:=h.low v hv g hg
  omega
 ·rcases List.mem_append.1 hp with hp|hp
  ·simp only[F5,List.mem_cons,List.not_mem_nil,or_false]at hp
   rcases hp with rfl|rfl|rfl|rfl|rfl<;>dsimp only<;>omega
  ·have:=(hF p hp).2.1
   omega
 ·exact Doc.zero l tk cs
theorem set_zero{W:World}{g:Nat}(h:W.heap[g]?=some (.cells #[.int .i64 0,.int .i64 0] 33 (0,0)))(k:Nat):((W.setCell ⟨g,0,none⟩ (.int .i64 0)).setCell ⟨g,1,none⟩ (.int .i64 0)).heap[k]?=W.heap[k]?:=by
 by_cases hk:k=g
 ·subst hk
  rw[set_two h,h]
 ·rw[Below.heap_setCell _ _ _ _ hk,Below.heap_setCell _ _ _ _ hk]
section
variable {w W W':World} {l:List Pa} {tk:List Int} {cs:List Co} {lv tv:Value} {gJ gM:Nat} {os:List Value} {FO:List (Nat × Obj)} {t:Nat} {jv mv:Value} {jb mb:List Nat} {sb:Option Nat} {T:Nat→Th} {B:List Nat} {out:List (List Int)}
theorem mem5{w:World}{lv tv jv mv:Value}{gJ gM:Nat}(FO:List (Nat × Obj))(i:Nat){p:Nat × Obj}(h:(F5 w lv tv gJ gM jv mv)[i]?=some p):p∈F5 w lv tv gJ gM jv mv++FO:=List.mem_append_left _ (List.mem_of_getElem? h)
theorem DW.boxes{R:List (Value × List Nat)}(h:DW w W R T B os out (F5 w lv tv gJ gM jv mv++FO)):W.cell? ⟨w.heap.size,0,none⟩=some lv∧W.cell? ⟨w.heap.size+1,0,none⟩=some tv∧W.cell? ⟨gJ,0,none⟩=some jv∧W.cell? ⟨gM,0,none⟩=some mv∧w.heap.size<W.heap.size∧w.heap.size+1<W.heap.size∧gJ<W.heap.size∧gM<W.heap.size:=by
 have b0:=h.fr _ (mem5 FO 0 rfl)
 have b1:=h.fr _ (mem5 FO 1 rfl)
 have b3:=h.fr _ (mem5 FO 3 rfl)
 have b4:=h.fr _ (mem5 FO 4 rfl)
 exact⟨(cells_of (l:=[_]) b0).1 0 _ rfl,(cells_of (l:=[_]) b1).1 0 _ rfl,(cells_of (l:=[_]) b3).1 0 _ rfl,(cells_of (l:=[_]) b4).1 0 _ rfl,heap_lt b0,heap_lt b1,heap_lt b3,heap_lt b4⟩
theorem DW.putJ{R:List (Value × List Nat)}(h:DW w W R T B os out (F5 w lv tv gJ gM jv mv++FO))(v:Value):DW w (W.setCell ⟨gJ,0,none⟩ v) R T B os out (F5 w lv tv gJ gM v mv++FO):=by
 have b3:=h.fr _ (mem5 FO 3 rfl)
 exact h.setF 3 (o':=.cells #[v] 130) rfl (set_grown _ _ _ _) (by rw[setCell_at b3];rfl) (fun c t f e=>by cases e;exact⟨by decide,by decide,by decide⟩)
theorem DW.putM{R:List (Value × List Nat)}(h:DW w W R T B os out (F5 w lv tv gJ gM jv mv++FO))(v:Value):DW w (W.setCell ⟨gM,0,none⟩ v) R T B os out (F5 w lv tv gJ gM jv v++FO):=by
 have b4:=h.fr _ (mem5 FO 4 rfl)
 exact h.setF 4 (o':=.cells #[v] 130) rfl (set_grown _ _ _ _) (by rw[setCell_at b4];rfl) (fun c t f e=>by cases e;exact⟨by decide,by decide,by decide⟩)
end
section
variable {w W W':World} {l:List Pa} {tk:List Int} {cs:List Co} {lv tv:Value} {gJ gM:Nat} {os:List Value} {FO F:List (Nat × Obj)} {t:Nat} {jv mv:Value} {jb mb:List Nat} {sb:Option Nat} {T:Nat→Th} {B:List Nat} {out:List (List Int)} {R:List (Value × List Nat)}
theorem DW.push0(h:DW w W R T B os out F)(i:Nat){v:Value}{q:List Nat}(hi:R[i]?=some (v,q))(b:Nat)(hl:q.length≤1000000) :
  ∃ad c w4,(Builtin.append_ #[130,130] 130 #[v,.slice (some ⟨W.heap.size,0,none⟩) 1 1]).run Tryz.prog (W.alloc (.cells #[pvv b] 131)) = .ok (.slice ad (q.length+1) c) w4∧DW w w4 (R.set i (.slice ad (q.length+1) c,q++[b])) T B os out F∧(∀(a:Nat) (ca:Array Value) (ty:TypeId),ty≠131→W.heap[a]?=some (.cells ca ty (0,0))→w4.heap[a]?=some (.cells ca ty (0,0))):=by
 have h1:=h.alloc (.cells #[pvv b] 131)
 have hel:=heap_alloc_new W (.cells #[pvv b] 131)
 have hu:PtR (W.alloc (.cells #[pvv b] 131)) (.slice (some ⟨W.heap.size,0,none⟩) 1 1) [b]:=.inr ⟨W.heap.size,0,1,_,rfl,Nat.le_refl _,by unfold maxLen;omega,hel,Nat.le_refl _,fun j x hj=>by
  cases j with
  | zero=>cases hj;rfl
  | succ j=>simp at hj⟩
 obtain⟨ad,c,w4,e1,e2,e3,e4⟩:=(h1.rows _ (List.mem_of_getElem? hi)).app hu hl (by simp)
 refine⟨ad,c,w4,e1,h1.row i hi e3 e2 e4,fun a ca ty ht ha=>?_⟩
 have ha1:=((below_new W (.cells #[pvv b] 131)).block a (heap_lt ha)).trans ha
 refine(e3.block a (heap_lt ha1) (fun e=>?_)).trans ha1
 obtain⟨cur,hc⟩:=(h1.rows _ (List.mem_of_getElem? hi)).ty e.symm
 rw[ha1]at hc
 cases hc
 exact ht rfl
theorem DW.push(h:DW w W R T B os out F)(i:Nat){v:Value}{q:List Nat}(hi:R[i]?=some (v,q))(x:Th)(hl:q.length≤1000000) :
  ∃ad c w4,(Builtin.append_ #[130,130] 130 #[v,.slice (some ⟨W.heap.size+1,0,none⟩) 1 1]).run Tryz.prog ((W.alloc (.cells (Th.arr x) 133)).alloc (.cells #[pvv W.heap.size] 131)) = .ok (.slice ad (q.length+1) c) w4∧DW w w4 (R.set i (.slice ad (q.length+1) c,q++[W.heap.size])) (updT T W.heap.size x) (W.heap.size::B) os out F∧(∀(a:Nat) (ca:Array Value) (ty:TypeId),ty≠131→W.heap[a]?=some (.cells ca ty (0,0))→w4.heap[a]?=some (.cells ca ty (0,0))):=by
 have h1:=(h.alloc (.cells (Th.arr x) 133)).addB (h.fresh (Nat.le_refl _)) h.bel.size x (heap_alloc_new _ _)
 obtain⟨ad,c,w4,e1,e2,e3⟩:=h1.push0 i hi W.heap.size hl
 rw[World.size_alloc]at e1
 exact⟨ad,c,w4,e1,e2,fun a ca ty ht ha=>e3 a ca ty ht (((below_new W _).block a (heap_lt ha)).trans ha)⟩
theorem SWO_ahJ(l:List Pa)(T:Nat→Th):Go.Sort.SWO (fun a b=>ahJ l (T a) (T b)):=by
 refine⟨fun x=>?_,fun x y z h1 h2=>?_,fun x y z h1 h2=>?_⟩
 ·cases e:ahJ l (T x) (T x) with
  | false=>rfl
  | true=>rw[ahJ_iff]at e;omega
 ·rw[ahJ_iff]at *;omega
 ·cases e:ahJ l (T x) (T z) with
  | false=>rfl
  | true =>
   have g1:¬ ahJ l (T x) (T y)=true:=by rw[h1];simp
   have g2:¬ ahJ l (T y) (T z)=true:=by rw[h2];simp
   rw[ahJ_iff]at g1 g2 e
   omega
theorem SWO_ahM(T:Nat→Th):Go.Sort.SWO (fun a b=>ahM (T a) (T b)):=by
 refine⟨fun x=>?_,fun x y z h1 h2=>?_,fun x y z h1 h2=>?_⟩
 ·cases e:ahM (T x) (T x) with
  | false=>rfl
  | true=>rw[ahM_iff]at e;omega
 ·rw[ahM_iff]at *;omega
 ·cases e:ahM (T x) (T z) with
  | false=>rfl
  | true =>
   have g1:¬ ahM (T x) (T y)=true:=by rw[h1];simp
   have g2:¬ ahM (T y) (T z)=true:=by rw[h2];simp
   rw[ahM_iff]at g1 g2 e
   omega
theorem map_nodup_ne{T:Nat→Th}{q:List Nat}(h:(q.map T).Pairwise (fun a b=>¬ Ke a b)){a b:Nat}(ha:a∈q)(hb:b∈q)(hn:a≠b):¬ Ke (T a) (T b):=by
 rw[List.pairwise_map]at h
 obtain⟨i,hi⟩:=List.getElem?_of_mem ha
 obtain⟨j,hj⟩:=List.getElem?_of_mem hb
 rcases Nat.lt_trichotomy i j with g|g|g
 ·exact pw_get h g hi hj
 ·subst g;rw[hi]at hj;exact absurd (Option.some.inj hj) hn
 ·intro k;exact pw_get h g hj hi ⟨k.1.symm,k.2.symm⟩
theorem DW.sorted(h:DW w W R T B os out F)(i:Nat){v:Value}{q q':List Nat}(hi:R[i]?=some (v,q))(hp:PtR W' v q')(hg:W.grownBy W' v.ownBlock):DW w W' (R.set i (v,q')) T B os out F:=h.row i hi hg hp (fun _ hk=>.inl hk)
theorem sortJ(h:DW w W [(jv,jb),(mv,mb)] T B os out (F5 w lv tv gJ gM jv mv++FO))(hp:RowSl Pa.vals w l lv)(hb:∀b∈jb,b∈B∧(T b).pt<l.length)(hk:(jb.map T).Pairwise (fun a b=>¬ Ke a b))(hnd:jb.Nodup)(hl:jb.length≤4000000) :
  Calls Tryz.prog 62 #[.iface 130 jv,.func (.func 63) #[] #[.pointer (some ⟨gJ,0,none⟩),.pointer (some ⟨w.heap.size,0,none⟩)]] W fun r W'=>r = .returned (.tuple #[])∧∃js,js.Perm jb∧(js.map T).Pairwise (fun a b=>ahJ l a b=true)∧DW w W' [(jv,js),(mv,mb)] T B os out (F5 w lv tv gJ gM jv mv++FO):=by
 have hrow:=h.rows (jv,jb) (by simp)
 refine(Stab.sortP_any W jv jb hrow (fun a b=>ahJ l (T a) (T b)) (SWO_ahJ l T) (fun a ha b hb2 hn=>?_) hnd hl 63 #[.pointer (some ⟨gJ,0,none⟩),.pointer (some ⟨w.heap.size,0,none⟩)] (fun args W=>by kernel_rfl) (fun W' q hg hq hm i j a b hi hj=>?_)).mono ?_
 ·have h1:=map_nodup_ne hk ha hb2 hn
  unfold Ke at h1
  rw[ahJ_iff,ahJ_iff]
  omega
 ·have hd:=h.sorted 0 (q':=q) rfl hq hg
  obtain⟨b0,-,b2,-⟩:=hd.boxes
  have hne:q≠[]:=fun e=>by rw[e]at hi;cases hi
  obtain⟨g,o,c,e1,-,-,e3⟩:=(hd.rows (jv,q) (by simp)).cells hne
  dsimp only at e1
  have ha2:=hb a (hm a (List.mem_of_getElem? hi))
  have hb2:=hb b (hm b (List.mem_of_getElem? hj))
  rw[e1]at b2
  exact ahJ_any W' l lv w.heap.size gJ g o q.length c i j a b (T a) (T b) b2 (List.getElem?_eq_some_iff.1 hi).1 (List.getElem?_eq_some_iff.1 hj).1 (e3 i a hi) (e3 j b hj) (hd.th a ha2.1) (hd.th b hb2.1) b0 (hp.below hd.bel) ha2.2 hb2.2
 ·rintro r W' ⟨rfl,js,q1,q2,q3,q4⟩
  exact⟨rfl,js,q1,by rw[List.pairwise_map];exact q2,h.sorted 0 (q':=js) rfl q3 q4⟩
theorem sortM(h:DW w W [(jv,jb),(mv,mb)] T B os out (F5 w lv tv gJ gM jv mv++FO))(hb:∀b∈mb,b∈B)(hk:(mb.map T).Pairwise (fun a b=>¬ Ke a b))(hnd:mb.Nodup)(hl:mb.length≤4000000) :
  Calls Tryz.prog 62 #[.iface 130 mv,.func (.func 64) #[] #[.pointer (some ⟨gM,0,none⟩)]] W fun r W'=>r = .returned (.tuple #[])∧∃ms,ms.Perm mb∧(ms.map T).Pairwise (fun a b=>ahM a b=true)∧DW w W' [(jv,jb),(mv,ms)] T B os out (F5 w lv tv gJ gM jv mv++FO):=by
 have hrow:=h.rows (mv,mb) (by simp)
 refine(Stab.sortP_any W mv mb hrow (fun a b=>ahM (T a) (T b)) (SWO_ahM T) (fun a ha b hb2 hn=>?_) hnd hl 64 #[.pointer (some ⟨gM,0,none⟩)] (fun args W=>by kernel_rfl) (fun W' q hg hq hm i j a b hi hj=>?_)).mono ?_
 ·have h1:=map_nodup_ne hk ha hb2 hn
  unfold Ke at h1
  rw[ahM_iff,ahM_iff]
  omega
 ·have hd:=h.sorted 1 (q':=q) rfl hq hg
  obtain⟨-,-,-,b3,-⟩:=hd.boxes
  have hne:q≠[]:=fun e=>by rw[e]at hi;cases hi
  obtain⟨g,o,c,e1,-,-,e3⟩:=(hd.rows (mv,q) (by simp)).cells hne
  dsimp only at e1
  have ha2:=hb a (hm a (List.mem_of_getElem? hi))
  have hb2:=hb b (hm b (List.mem_of_getElem? hj))
  rw[e1]at b3
  exact ahM_any W' gM g o q.length c i j a b (T a) (T b) b3 (List.getElem?_eq_some_iff.1 hi).1 (List.getElem?_eq_some_iff.1 hj).1 (e3 i a hi) (e3 j b hj) (hd.th a ha2) (hd.th b hb2)
 ·rintro r W' ⟨rfl,js,q1,q2,q3,q4⟩
  exact⟨rfl,js,q1,by rw[List.pairwise_map];exact q2,h.sorted 1 (q':=js) rfl q3 q4⟩
theorem DW.takeM{b:Nat}{g o n c:Nat}(h:DW w W [(jv,jb),(.slice (some ⟨g,o,none⟩) n c,b::mb)] T B os out F):DW w W [(jv,jb),(.slice (if c=1 then some ⟨g,o,none⟩ else some ⟨g,o+1,none⟩) mb.length (c-1),mb)] T B os out F:=by
 have hr:=(h.rows (.slice (some ⟨g,o,none⟩) n c,b::mb) (by simp)).tail
 refine h.row 1 (v:=.slice (some ⟨g,o,none⟩) n c) (q:=b::mb) rfl (World.grownBy.refl _ _) hr.2.2.2.2 (fun k hk=>.inl ?_)
 split at hk<;>(cases hk;rfl)
theorem DW.joined{sv bv:Value}{stb bgb:List Nat}(h:DW w W [(jv,jb),(mv,mb),(sv,stb),(bv,bgb)] T B os out F)(h1:stb.length≤1000000)(h2:bgb.length≤1000000) :
  ∃ad c w4,(Builtin.append_ #[130,130] 130 #[sv,bv]).run Tryz.prog W = .ok (.slice ad (stb.length+bgb.length) c) w4∧DW w w4 [(.slice ad (stb.length+bgb.length) c,stb++bgb),(mv,mb)] T B os out F:=by
 obtain⟨ad,c,w4,e1,e2,e3,e4⟩:=(h.rows (sv,stb) (by simp)).app (h.rows (bv,bgb) (by simp)) h1 h2
 refine⟨ad,c,w4,e1,?_⟩
 have hd:=h.row 2 (v:=sv) (q:=stb) rfl e3 e2 e4
 have hs:DW w w4 [(mv,mb),(.slice ad (stb.length+bgb.length) c,stb++bgb)] T B os out F:=hd.sub (by
  refine List.Sublist.cons _ (List.Sublist.cons_cons _ (List.Sublist.cons_cons _ (List.nil_sublist _))))
 refine⟨hs.bel,fun r hr=>hs.rows r (by simp at hr ⊢;exact hr.symm),?_,hs.th,hs.outs,hs.oap,hs.fr,hs.fnd,hs.far,fun r hr=>hs.lowR r (by simp at hr ⊢;exact hr.symm),hs.lowB,hs.lowO,hs.lowF⟩
 have hp:=(List.pairwise_cons.1 hs.apt).1 _ List.mem_cons_self
 exact List.pairwise_cons.2 ⟨fun a ha g hg=>by
  rw[List.mem_singleton.1 ha]
  exact fun e=>hp g e hg,List.pairwise_singleton _ _⟩
end
structure Ip (w:World) (l:List Pa) (tk:List Int) (cs:List Co) (lv tv:Value):Prop where
 pr:RowSl Pa.vals w l lv
 tr:RowSl nuV w tk tv
 ok:PsOk l
 t0:∀z∈tk,0≤z
 tl:tk.length≤1000000
 lg:Lg l cs (ordF cs)
 cl:cs.length≤4000
 ci:∀(k:Nat) (c:Co),cs[k]?=some c→0≤c.k∧c.k<(l.length:Int)∧(l.getD c.k.toNat paZ).fr=-1∧0≤c.a∧c.a≤20000
def FL2(W:World)(g:Nat)(a b:Int):Prop:=W.heap[g]?=some (.cells #[.int .i64 a,.int .i64 b] 49 (0,0))
theorem FL2.cells{W:World}{g:Nat}{z1 z2:Int}(h:FL2 W g z1 z2):W.cell? ⟨g,0,none⟩=some (.int .i64 z1)∧W.cell? ⟨g,1,none⟩=some (.int .i64 z2)∧g<W.heap.size:=by
 obtain⟨c1,-,c3⟩:=cells_of (l:=[_,_]) h
 exact⟨c1 0 _ rfl,c1 1 _ rfl,c3⟩
section
variable {w W W':World} {l:List Pa} {tk:List Int} {cs:List Co} {lv tv:Value} {gJ gM:Nat} {os:List Value} {FO F:List (Nat × Obj)} {t:Nat} {jv mv:Value} {jb mb:List Nat} {sb:Option Nat} {T:Nat→Th} {B:List Nat} {out:List (List Int)} {R:List (Value × List Nat)}
theorem lenD(hI:Ip w l tk cs lv tv)(h:DW w W R T B os out (F5 w lv tv gJ gM jv mv++FO)){part cm:Nat}(hp:part<l.length)(hc:cm<4000):Calls Tryz.prog 61 #[.int .i64 (part:Int),.int .i64 (cm:Int),.pointer (some ⟨w.heap.size+1,0,none⟩),.pointer (some ⟨w.heap.size,0,none⟩)] W fun r w'=>r = .returned (.int .i64 (wkF l tk part cm))∧Below W.heap.size W w':=by
 obtain⟨b0,b1,-⟩:=h.boxes
 exact len_any W l tk lv tv w.heap.size (w.heap.size+1) part cm b0 b1 (hI.pr.below h.bel) (hI.tr.below h.bel) hI.ok hp (by omega) hI.tl hI.t0
theorem DW.val(h:DW w W R T B os out F)(i:Nat){v:Value}{q:List Nat}(hi:R[i]?=some (v,q)):∃ad c,v = .slice ad q.length c:=(h.rows (v,q) (List.mem_of_getElem? hi)).val
structure TC (w W:World) (l:List Pa) (tk:List Int) (cs:List Co) (lv tv:Value) (gJ gM:Nat) (os:List Value) (FO:List (Nat × Obj)) (t i:Nat) (jobs mail:List Th) (sent:Option Th) (jv mv:Value) (jb mb:List Nat) (sb:Option Nat) (T:Nat→Th) (B:List Nat) (out:List (List Int)):Prop where
 dw:DW w W [(jv,jb),(mv,mb)] T B os out (F5 w lv tv gJ gM jv mv++FO)
 jm:jb.map T=jobs++comeT l tk cs t i
 mm:mb.map T=mail
 sm:sb.map T=sent
 nd:(jb++(mb++sb.toList)).Nodup
 inB:∀b∈jb++(mb++sb.toList),b∈B
variable {i:Nat} {jobs mail:List Th} {sent:Option Th}
theorem TC.grow(h:TC w W l tk cs lv tv gJ gM os FO t i jobs mail sent jv mv jb mb sb T B out)(hb:Below W.heap.size W W'):TC w W' l tk cs lv tv gJ gM os FO t i jobs mail sent jv mv jb mb sb T B out:=⟨h.dw.grow hb,h.jm,h.mm,h.sm,h.nd,h.inB⟩
theorem TK.come(h:TK w W l tk cs lv tv gJ gM os FO t jv mv jb mb sb T B out):TC w W l tk cs lv tv gJ gM os FO t 0 (jb.map T) (mb.map T) (sb.map T) jv mv jb mb sb T B out:=⟨h.dw,by simp[comeT],rfl,rfl,h.nd,h.inB⟩
theorem TC.skip(h:TC w W l tk cs lv tv gJ gM os FO t i jobs mail sent jv mv jb mb sb T B out)(hn:(Ck cs i).a≠(t:Int)):TC w W l tk cs lv tv gJ gM os FO t (i+1) jobs mail sent jv mv jb mb sb T B out:=⟨h.dw,by rw[h.jm,comeT,if_neg hn,List.append_nil],h.mm,h.sm,h.nd,h.inB⟩
theorem sbm_upd{sb:Option Nat}{T:Nat→Th}{b:Nat}{x:Th}(h:b ∉ sb.toList):sb.map (updT T b x)=sb.map T:=by
 cases sb with
 | none=>rfl
 | some c =>
  rw[Option.map_some,Option.map_some,updT_ne (fun e=>h (by simp[e]))]
theorem TC.add(h:TC w W l tk cs lv tv gJ gM os FO t i jobs mail sent jv mv jb mb sb T B out){b:Nat}(hb:b ∉ B){x:Th}(ha:(Ck cs i).a=(t:Int))(hx:x=⟨(Ck cs i).k.toNat,i,t,wkF l tk (Ck cs i).k.toNat i⟩){jv':Value}(hd:DW w W' [(jv',jb++[b]),(mv,mb)] (updT T b x) (b::B) os out (F5 w lv tv gJ gM jv' mv++FO)) :
  TC w W' l tk cs lv tv gJ gM os FO t (i+1) jobs mail sent jv' mv (jb++[b]) mb sb (updT T b x) (b::B) out:=by
 have hn:∀c∈jb++(mb++sb.toList),c≠b:=fun c hc e=>hb (e ▸ h.inB c hc)
 have h1:b ∉ jb:=fun hm=>hn b (List.mem_append_left _ hm) rfl
 have h2:b ∉ mb:=fun hm=>hn b (List.mem_append_right _ (List.mem_append_left _ hm)) rfl
 have h3:b ∉ sb.toList:=fun hm=>hn b (List.mem_append_right _ (List.mem_append_right _ hm)) rfl
 refine⟨hd,?_,by rw[updT_map h2];exact h.mm,by rw[sbm_upd h3];exact h.sm,?_,fun c hc=>?_⟩
 ·rw[List.map_append,updT_map h1,h.jm,List.map_singleton,updT_self,hx,comeT,if_pos ha,List.append_assoc]
 ·have hp:(jb++[b]++(mb++sb.toList)).Perm (b::(jb++(mb++sb.toList))):=by
   rw[List.append_assoc]
   exact List.perm_middle
  exact hp.nodup_iff.2 (List.nodup_cons.2 ⟨fun hm=>hn b hm rfl,h.nd⟩)
 ·rw[List.append_assoc]at hc
  rcases List.mem_append.1 hc with hc|hc
  ·exact List.mem_cons_of_mem _ (h.inB c (List.mem_append_left _ hc))
  ·rcases List.mem_append.1 hc with hc|hc
   ·rw[List.mem_singleton.1 hc];exact List.mem_cons_self
   ·exact List.mem_cons_of_mem _ (h.inB c (List.mem_append_right _ hc))
theorem TC.push(h:TC w W l tk cs lv tv gJ gM os FO t i jobs mail sent jv mv jb mb sb T B out)(ha:(Ck cs i).a=(t:Int))(hl:jb.length≤1000000) :
  ∃ad c w4,(Builtin.append_ #[130,130] 130 #[jv,.slice (some ⟨W.heap.size+1,0,none⟩) 1 1]).run Tryz.prog ((W.alloc (.cells (Th.arr ⟨(Ck cs i).k.toNat,i,t,wkF l tk (Ck cs i).k.toNat i⟩) 133)).alloc (.cells #[pvv W.heap.size] 131)) = .ok (.slice ad (jb.length+1) c) w4∧w4.cell? ⟨gJ,0,none⟩=some jv∧w4.frozen? ⟨gJ,0,none⟩=false ∧
   TC w (w4.setCell ⟨gJ,0,none⟩ (.slice ad (jb.length+1) c)) l tk cs lv tv gJ gM os FO t (i+1) jobs mail sent (.slice ad (jb.length+1) c) mv (jb++[W.heap.size]) mb sb (updT T W.heap.size ⟨(Ck cs i).k.toNat,i,t,wkF l tk (Ck cs i).k.toNat i⟩) (W.heap.size::B) out∧(∀(a:Nat) (ca:Array Value) (ty:TypeId),ty≠131→W.heap[a]?=some (.cells ca ty (0,0))→w4.heap[a]?=some (.cells ca ty (0,0))):=by
 obtain⟨ad,c,w4,e1,e2,e5⟩:=h.dw.push 0 rfl ⟨(Ck cs i).k.toNat,i,t,wkF l tk (Ck cs i).k.toNat i⟩ hl
 have e3:DW w w4 [(.slice ad (jb.length+1) c,jb++[W.heap.size]),(mv,mb)] (updT T W.heap.size ⟨(Ck cs i).k.toNat,i,t,wkF l tk (Ck cs i).k.toNat i⟩) (W.heap.size::B) os out (F5 w lv tv gJ gM jv mv++FO):=e2
 exact⟨ad,c,w4,e1,e3.boxes.2.2.1,(cells_of (l:=[_]) (e3.fr _ (mem5 FO 3 rfl))).2.1 0,h.add (h.dw.fresh (Nat.le_refl _)) ha rfl (e3.putJ _),e5⟩
theorem comeT_len{now:Int}:∀i,(comeT l tk cs now i).length≤i
 | 0=>Nat.le_refl _
 | i+1=>by
  rw[comeT,List.length_append]
  have h1:=comeT_len (now:=now) i
  have h2:(if (Ck cs i).a=now then [(⟨(Ck cs i).k.toNat,i,now,wkF l tk (Ck cs i).k.toNat i⟩:Th)] else []).length≤1:=by split<;>simp
  omega
theorem TC.few(hI:Ip w l tk cs lv tv)(h:TC w W l tk cs lv tv gJ gM os FO t i jobs mail sent jv mv jb mb sb T B out)(hd:Doc l tk cs t jobs mail sent out)(hi:i≤cs.length):jb.length≤40000:=by
 have h1:jobs.length≤8*cs.length:=keys_len hd.j.nd (fun x hx=>by
  have h2:=(hd.j.mem x).1 hx
  have:=hI.ok.most
  obtain⟨hZ,-⟩:=hI.lg.trace (tk:=tk) t
  have h3:=(DJ.lf hZ hd.j hx).2.2
  exact⟨by omega,h3⟩)
 have h2:=comeT_len (l:=l) (tk:=tk) (cs:=cs) (now:=(t:Int)) i
 have h3:=congrArg List.length h.jm
 rw[List.length_map,List.length_append]at h3
 have:=hI.cl
 omega
end
theorem mail_few{l:List Pa}{tk:List Int}{cs:List Co}{t:Nat}{jobs mail:List Th}{sent:Option Th}{out:List (List Int)}(hok:PsOk l)(hL:Lg l cs (ordF cs))(hd:Doc l tk cs t jobs mail sent out):(sent.toList++mail).length≤8*cs.length∧∀x∈sent.toList++mail,x.pt<l.length∧x.cm<cs.length∧1≤x.lf∧x.lf≤1000:=by
 obtain⟨hZ,-⟩:=hL.trace (tk:=tk) t
 have key:∀x∈sent.toList++mail,x.pt<l.length∧x.cm<cs.length∧1≤x.lf∧x.lf≤1000:=fun x hx=>by
  obtain⟨h1,h2⟩:=(hd.m.mem x).1 hx
  obtain⟨n,f,g1,-,-,g4,g5,-,g7,g8⟩:=hZ.m _ h1 _ (fnd_some h2).1
  dsimp only at g1 g4 g5
  have hn:x.cm=n:=by omega
  subst hn
  have hse:=(hok.at_ _ _ (some_getD (d:=paZ) h1)).se.2
  refine⟨h1,?_,g4,Int.le_trans g5 hse⟩
  have hf:f<l.length:=by have:=Iv.fr_lt hok h1 g7;omega
  exact(hZ.rl f x.cm hf (by unfold rlJ;rw[decide_eq_true g8];simp)).1.1
 refine⟨keys_len hd.m.nd (fun x hx=>?_),key⟩
 obtain⟨g1,g2,-⟩:=key x hx
 have:=hok.most
 exact⟨by omega,g2⟩
def dAt(l:List Pa)(tk:List Int)(now:Int)(jsT:List Th)(d0:Ds)(i:Nat):Ds:=(jsT.take i).foldl (stepD l tk now) d0
theorem dAt_next{l:List Pa}{tk:List Int}{now:Int}{jsT:List Th}{d0:Ds}{i:Nat}{x:Th}(h:jsT[i]?=some x):dAt l tk now jsT d0 (i+1)=stepD l tk now (dAt l tk now jsT d0 i) x:=by
 unfold dAt
 rw[List.take_add_one,h,List.foldl_append]
 rfl
theorem dAt_end{l:List Pa}{tk:List Int}{now:Int}{jsT:List Th}{d0:Ds}:dAt l tk now jsT d0 jsT.length=jsT.foldl (stepD l tk now) d0:=by
 unfold dAt
 rw[List.take_length]
structure LP (l:List Pa) (tk:List Int) (now:Int) (i:Nat) (jsT:List Th) (js:List Nat) (sent:Option Th) (d0:Ds) (mb stb bgb:List Nat) (sb:Option Nat) (T:Nat→Th) (B:List Nat) (out:List (List Int)) (N:Nat) (M:Int→Option Int):Prop where
 hN:N≤i
 hz:∀c:Nat,c<4→((M (c:Int)).getD 0=0↔c ∉ (dAt l tk now jsT d0 i).bz)
 st:stb.map T=(dAt l tk now jsT d0 i).st
 bg:bgb.map T=(dAt l tk now jsT d0 i).bg
 ml:mb.map T=(dAt l tk now jsT d0 i).ml
 ou:out=(dAt l tk now jsT d0 i).out
 re:(js.drop i).map T=jsT.drop i
 sm:sb.map T=sent
 nd:(js.drop i++(stb++(bgb++(mb++sb.toList)))).Nodup
 inB:∀b∈js.drop i++(stb++(bgb++(mb++sb.toList))),b∈B
section
variable {l:List Pa} {tk:List Int} {now:Int} {i:Nat} {jsT:List Th} {js:List Nat} {sent:Option Th} {d0:Ds} {mb stb bgb:List Nat} {sb:Option Nat} {T:Nat→Th} {B:List Nat} {out:List (List Int)} {N:Nat} {M:Int→Option Int}
theorem LP.at_(h:LP l tk now i jsT js sent d0 mb stb bgb sb T B out N M){b:Nat}(hb:js[i]?=some b):jsT[i]?=some (T b)∧js.drop i=b::js.drop (i+1)∧(js.drop (i+1)).map T=jsT.drop (i+1)∧b∈B∧b ∉ js.drop (i+1)++(stb++(bgb++(mb++sb.toList)))∧(js.drop (i+1)++(stb++(bgb++(mb++sb.toList)))).Nodup:=by
 have hd:js.drop i=b::js.drop (i+1):=by
  have hl:=(List.getElem?_eq_some_iff.1 hb)
  rw[List.drop_eq_getElem_cons hl.1,hl.2]
 have hr:=h.re
 have hn:=h.nd
 have hB:=h.inB
 rw[hd]at hr hn hB
 rw[List.map_cons]at hr
 have h0:jsT[i]?=some (T b):=by
  have:=congrArg List.head? hr
  rw[List.head?_cons,List.head?_drop]at this
  exact this.symm
 have h1:(js.drop (i+1)).map T=jsT.drop (i+1):=by
  have:=congrArg List.tail hr
  rwa[List.tail_cons,List.tail_drop]at this
 rw[List.cons_append]at hn hB
 obtain⟨g1,g2⟩:=List.nodup_cons.1 hn
 exact⟨h0,hd,h1,hB b List.mem_cons_self,g1,g2⟩
theorem perm_in{a c d:List Nat}{b:Nat}:(a++((c++[b])++d)).Perm (b::(a++(c++d))):=by
 rw[List.append_assoc,List.singleton_append,← List.append_assoc]
 refine List.perm_middle.trans ?_
 rw[List.append_assoc]
theorem LP.busy(h:LP l tk now i jsT js sent d0 mb stb bgb sb T B out N M){b:Nat}(hb:js[i]?=some b)(hc:co l (T b).pt∈(dAt l tk now jsT d0 i).bz):LP l tk now (i+1) jsT js sent d0 mb (stb++[b]) bgb sb T B out N M:=by
 obtain⟨h1,h2,h3,h4,h5,h6⟩:=h.at_ hb
 have e:dAt l tk now jsT d0 (i+1)={ dAt l tk now jsT d0 i with st:=(dAt l tk now jsT d0 i).st++[T b] }:=by
  rw[dAt_next h1];unfold stepD;rw[if_pos hc]
 refine⟨Nat.le_succ_of_le h.hN,fun c hc=>by rw[e];exact h.hz c hc,by rw[e,List.map_append,h.st];rfl,by rw[e];exact h.bg,by rw[e];exact h.ml,by rw[e];exact h.ou,h3,h.sm,?_,fun c hc=>?_⟩
 ·exact perm_in.nodup_iff.2 (List.nodup_cons.2 ⟨h5,h6⟩)
 ·rcases List.mem_cons.1 (perm_in.mem_iff.1 hc) with g|g
  ·rw[g];exact h4
  ·exact h.inB c (by rw[h2];exact List.mem_cons_of_mem _ g)
theorem LP.run(h:LP l tk now i jsT js sent d0 mb stb bgb sb T B out N M){b:Nat}(hb:js[i]?=some b)(hc:¬ co l (T b).pt∈(dAt l tk now jsT d0 i).bz)(hl:1<(T b).lf):LP l tk now (i+1) jsT js sent d0 mb (stb++[b]) bgb sb (updT T b { T b with lf:=(T b).lf-1 }) B out (N+1) (setH M (co l (T b).pt:Int) 1):=by
 obtain⟨h1,h2,h3,h4,h5,h6⟩:=h.at_ hb
 have e:dAt l tk now jsT d0 (i+1)={ dAt l tk now jsT d0 i with st:=(dAt l tk now jsT d0 i).st++[{ T b with lf:=(T b).lf-1 }],bz:=co l (T b).pt::(dAt l tk now jsT d0 i).bz }:=by
  rw[dAt_next h1];unfold stepD;rw[if_neg hc,if_pos hl]
 have n1:b ∉ js.drop (i+1):=fun g=>h5 (List.mem_append_left _ g)
 have n2:b ∉ stb:=fun g=>h5 (List.mem_append_right _ (List.mem_append_left _ g))
 have n3:b ∉ bgb:=fun g=>h5 (List.mem_append_right _ (List.mem_append_right _ (List.mem_append_left _ g)))
 have n4:b ∉ mb:=fun g=>h5 (List.mem_append_right _ (List.mem_append_right _ (List.mem_append_right _ (List.mem_append_left _ g))))
 have n5:b ∉ sb.toList:=fun g=>h5 (List.mem_append_right _ (List.mem_append_right _ (List.mem_append_right _ (List.mem_append_right _ g))))
 refine⟨Nat.succ_le_succ h.hN,fun c hc2=>?_,by rw[e,List.map_append,updT_map n2,h.st,List.map_singleton,updT_self],by rw[e,updT_map n3];exact h.bg,by rw[e,updT_map n4];exact h.ml,by rw[e];exact h.ou,by rw[updT_map n1];exact h3,by rw[sbm_upd n5];exact h.sm,?_,fun c hc=>?_⟩
 ·rw[e]
  unfold setH
  by_cases g:c=co l (T b).pt
  ·subst g
   rw[if_pos rfl]
   simp
  ·rw[if_neg (by omega),h.hz c hc2]
   simp[g]
 ·exact perm_in.nodup_iff.2 (List.nodup_cons.2 ⟨h5,h6⟩)
 ·rcases List.mem_cons.1 (perm_in.mem_iff.1 hc) with g|g
  ·rw[g];exact h4
  ·exact h.inB c (by rw[h2];exact List.mem_cons_of_mem _ g)
structure LK (l:List Pa) (tk:List Int) (now:Int) (i k:Nat) (jsT:List Th) (js:List Nat) (d0:Ds) (x:Th) (mb stb bgb:List Nat) (sb:Option Nat) (T T0:Nat→Th) (B:List Nat):Prop where
 bg:bgb.map T=(dAt l tk now jsT d0 i).bg++hangB l tk x.pt x.cm now k
 ml:mb.map T=(dAt l tk now jsT d0 i).ml++hangM l x.pt x.cm now k
 same:∀c∈js.drop (i+1)++(stb++sb.toList),T c=T0 c
 nd:(js.drop (i+1)++(stb++(bgb++(mb++sb.toList)))).Nodup
 inB:∀b∈js.drop (i+1)++(stb++(bgb++(mb++sb.toList))),b∈B
theorem LP.tell(h:LP l tk now i jsT js sent d0 mb stb bgb sb T B out N M){b:Nat}(hb:js[i]?=some b)(y:Th):LK l tk now i 0 jsT js d0 (T b) mb stb bgb sb (updT T b y) T B:=by
 obtain⟨h1,h2,h3,h4,h5,h6⟩:=h.at_ hb
 have n3:b ∉ bgb:=fun g=>h5 (List.mem_append_right _ (List.mem_append_right _ (List.mem_append_left _ g)))
 have n4:b ∉ mb:=fun g=>h5 (List.mem_append_right _ (List.mem_append_right _ (List.mem_append_right _ (List.mem_append_left _ g))))
 refine⟨by rw[updT_map n3,h.bg];simp[hangB],by rw[updT_map n4,h.ml];simp[hangM],fun c hc=>updT_ne (fun e=>h5 ?_),h6,fun c hc=>h.inB c (by rw[h2];exact List.mem_cons_of_mem _ hc)⟩
 rw[← e]
 rcases List.mem_append.1 hc with g|g
 ·exact List.mem_append_left _ g
 ·rcases List.mem_append.1 g with g|g
  ·exact List.mem_append_right _ (List.mem_append_left _ g)
  ·exact List.mem_append_right _ (List.mem_append_right _ (List.mem_append_right _ (List.mem_append_right _ g)))
variable {T0:Nat→Th} {k:Nat} {x:Th}
theorem LK.skip(h:LK l tk now i k jsT js d0 x mb stb bgb sb T T0 B)(h1:¬ (fr l k=(x.pt:Int)∧se l k=0))(h2:¬ (fr l k=(x.pt:Int)∧0<se l k)):LK l tk now i (k+1) jsT js d0 x mb stb bgb sb T T0 B :=
 ⟨by rw[hangB,if_neg h1,List.append_nil];exact h.bg,by rw[hangM,if_neg h2,List.append_nil];exact h.ml,h.same,h.nd,h.inB⟩
theorem LK.fresh(h:LK l tk now i k jsT js d0 x mb stb bgb sb T T0 B){b:Nat}(hb:b ∉ B):b ∉ js.drop (i+1)∧b ∉ stb∧b ∉ bgb∧b ∉ mb∧b ∉ sb.toList :=
 ⟨fun g=>hb (h.inB b (List.mem_append_left _ g)),fun g=>hb (h.inB b (List.mem_append_right _ (List.mem_append_left _ g))),fun g=>hb (h.inB b (List.mem_append_right _ (List.mem_append_right _ (List.mem_append_left _ g)))),fun g=>hb (h.inB b (List.mem_append_right _ (List.mem_append_right _ (List.mem_append_right _ (List.mem_append_left _ g))))),fun g=>hb (h.inB b (List.mem_append_right _ (List.mem_append_right _ (List.mem_append_right _ (List.mem_append_right _ g)))))⟩
theorem LK.addB(h:LK l tk now i k jsT js d0 x mb stb bgb sb T T0 B){b:Nat}(hb:b ∉ B)(h1:fr l k=(x.pt:Int)∧se l k=0):LK l tk now i (k+1) jsT js d0 x mb stb (bgb++[b]) sb (updT T b ⟨k,x.cm,now,wkF l tk k x.cm⟩) T0 (b::B):=by
 obtain⟨n1,n2,n3,n4,n5⟩:=h.fresh hb
 have hp:(js.drop (i+1)++(stb++((bgb++[b])++(mb++sb.toList)))).Perm (b::(js.drop (i+1)++(stb++(bgb++(mb++sb.toList))))):=by
  rw[← List.append_assoc,← List.append_assoc (js.drop (i+1)) stb]
  exact perm_in
 refine⟨by rw[List.map_append,updT_map n3,h.bg,List.map_singleton,updT_self,hangB,if_pos h1,List.append_assoc],by rw[updT_map n4,hangM,if_neg (by omega),List.append_nil];exact h.ml,fun c hc=>?_,hp.nodup_iff.2 (List.nodup_cons.2 ⟨fun g=>hb (h.inB b g),h.nd⟩),fun c hc=>?_⟩
 ·rw[updT_ne (fun e=>?_)]
  ·exact h.same c hc
  ·subst e
   rcases List.mem_append.1 hc with g|g
   ·exact n1 g
   ·rcases List.mem_append.1 g with g|g
    ·exact n2 g
    ·exact n5 g
 ·rcases List.mem_cons.1 (hp.mem_iff.1 hc) with g|g
  ·rw[g];exact List.mem_cons_self
  ·exact List.mem_cons_of_mem _ (h.inB c g)
theorem LK.addM(h:LK l tk now i k jsT js d0 x mb stb bgb sb T T0 B){b:Nat}(hb:b ∉ B)(h1:fr l k=(x.pt:Int)∧0<se l k):LK l tk now i (k+1) jsT js d0 x (mb++[b]) stb bgb sb (updT T b ⟨k,x.cm,now,se l k⟩) T0 (b::B):=by
 obtain⟨n1,n2,n3,n4,n5⟩:=h.fresh hb
 have hp:(js.drop (i+1)++(stb++(bgb++((mb++[b])++sb.toList)))).Perm (b::(js.drop (i+1)++(stb++(bgb++(mb++sb.toList))))):=by
  rw[← List.append_assoc,← List.append_assoc,← List.append_assoc (js.drop (i+1)) stb,← List.append_assoc (js.drop (i+1)++stb) bgb]
  exact perm_in
 refine⟨by rw[updT_map n3,hangB,if_neg (by omega),List.append_nil];exact h.bg,by rw[List.map_append,updT_map n4,h.ml,List.map_singleton,updT_self,hangM,if_pos h1,List.append_assoc],fun c hc=>?_,hp.nodup_iff.2 (List.nodup_cons.2 ⟨fun g=>hb (h.inB b g),h.nd⟩),fun c hc=>?_⟩
 ·rw[updT_ne (fun e=>?_)]
  ·exact h.same c hc
  ·subst e
   rcases List.mem_append.1 hc with g|g
   ·exact n1 g
   ·rcases List.mem_append.1 g with g|g
    ·exact n2 g
    ·exact n5 g
 ·rcases List.mem_cons.1 (hp.mem_iff.1 hc) with g|g
  ·rw[g];exact List.mem_cons_self
  ·exact List.mem_cons_of_mem _ (h.inB c g)
theorem LP.done(h:LP l tk now i jsT js sent d0 mb stb bgb sb T B out N M){b:Nat}(hb:js[i]?=some b)(hc:¬ co l (T b).pt∈(dAt l tk now jsT d0 i).bz)(hl:¬ 1<(T b).lf){mb' bgb' B':List Nat}{T':Nat→Th}(hk:LK l tk now i l.length jsT js d0 (T b) mb' stb bgb' sb T' T B'):LP l tk now (i+1) jsT js sent d0 mb' stb bgb' sb T' B' (setO out (T b) now) (N+1) (setH M (co l (T b).pt:Int) 1):=by
 obtain⟨h1,h2,h3,h4,h5,h6⟩:=h.at_ hb
 have e:dAt l tk now jsT d0 (i+1)={ st:=(dAt l tk now jsT d0 i).st,bg:=(dAt l tk now jsT d0 i).bg++hangB l tk (T b).pt (T b).cm now l.length,ml:=(dAt l tk now jsT d0 i).ml++hangM l (T b).pt (T b).cm now l.length,out:=setO (dAt l tk now jsT d0 i).out (T b) now,bz:=co l (T b).pt::(dAt l tk now jsT d0 i).bz }:=by
  rw[dAt_next h1];unfold stepD;rw[if_neg hc,if_neg hl]
 have hs:∀c∈js.drop (i+1),T' c=T c:=fun c hc=>hk.same c (List.mem_append_left _ hc)
 have hs2:∀c∈stb,T' c=T c:=fun c hc=>hk.same c (List.mem_append_right _ (List.mem_append_left _ hc))
 have hs3:∀c∈sb.toList,T' c=T c:=fun c hc=>hk.same c (List.mem_append_right _ (List.mem_append_right _ hc))
 refine⟨Nat.succ_le_succ h.hN,fun c hc2=>?_,by rw[e,List.map_congr_left hs2];exact h.st,by rw[e];exact hk.bg,by rw[e];exact hk.ml,by rw[e,h.ou],by rw[List.map_congr_left hs];exact h3,?_,hk.nd,hk.inB⟩
 ·rw[e]
  unfold setH
  by_cases g:c=co l (T b).pt
  ·subst g
   rw[if_pos rfl]
   simp
  ·rw[if_neg (by omega),h.hz c hc2]
   simp[g]
 ·have hsm:=h.sm
  cases sb with
  | none=>exact hsm
  | some c =>
   rw[Option.map_some]at hsm ⊢
   rw[hs3 c (by simp)]
   exact hsm
end
section
variable {w W W':World} {l:List Pa} {tk:List Int} {cs:List Co} {lv tv:Value} {gJ gM gm:Nat} {os:List Value} {FO F:List (Nat × Obj)} {t i:Nat} {jv mv:Value} {jb mb js ms stb bgb:List Nat} {sb:Option Nat} {T:Nat→Th} {B:List Nat} {out:List (List Int)} {R:List (Value × List Nat)} {o:Obj} {N:Nat} {M:Int→Option Int}
theorem DW.putMap(h:DW w W R T B os out (F5 w lv tv gJ gM jv mv++(FO++[(gm,o)]))){o':Obj}(hg:W.grownBy W' (some gm))(ho:W'.heap[gm]?=some o')(hf:FarO o'):DW w W' R T B os out (F5 w lv tv gJ gM jv mv++(FO++[(gm,o')])):=by
 have hi:(F5 w lv tv gJ gM jv mv++(FO++[(gm,o)]))[5+FO.length]?=some (gm,o):=by
  rw[List.getElem?_append_right (by simp[F5]),List.getElem?_append_right (by simp[F5])]
  simp[F5]
 have h9:=h.setF (5+FO.length) hi hg ho hf
 have e:(F5 w lv tv gJ gM jv mv++(FO++[(gm,o)])).set (5+FO.length) (gm,o')=F5 w lv tv gJ gM jv mv++(FO++[(gm,o')]):=by
  rw[List.set_append_right _ _ (by simp[F5]),List.set_append_right _ _ (by simp[F5])]
  simp[F5]
 rwa[e]at h9
theorem DW.mapAt(h:DW w W R T B os out (F5 w lv tv gJ gM jv mv++(FO++[(gm,o)]))):W.heap[gm]?=some o:=h.fr (gm,o) (by simp)
theorem HtAt.at_(h:HtAt W gm N M)(h1:W.heap[gm]?=some o)(h2:W'.heap[gm]?=some o):HtAt W' gm N M:=h.same (h2.trans h1.symm)
theorem DW.startMap(h:DW w W [(jv,js),(mv,ms)] T B os out (F5 w lv tv gJ gM jv mv++FO)):DW w (W.alloc (.map #[] 0)) [(jv,js),(mv,ms),(.slice none 0 0,[]),(.slice none 0 0,[])] T B os out (F5 w lv tv gJ gM jv mv++(FO++[(W.heap.size,.map #[] 0)]))∧HtAt (W.alloc (.map #[] 0)) W.heap.size 0 (fun _=>none):=by
 refine⟨?_,HtAt.made W⟩
 have h1:=((h.alloc (.map #[] 0)).nils).addF (a:=W.heap.size) (o:=.map #[] 0) (heap_alloc_new _ _) (h.noF (Nat.le_refl _)) h.bel.size (fun c t f e=>by cases e)
 rw[List.append_assoc]at h1
 exact h1
theorem LP.start{now:Int}{sent:Option Th}(hp:js.Perm jb){mb0:List Nat}{sb0:Option Nat}(hm:ms.Perm mb0){ms':List Nat}{sb':Option Nat}(hs:sb'.toList++ms'=sb0.toList++ms)(hn:(jb++(mb0++sb0.toList)).Nodup)(hB:∀b∈jb++(mb0++sb0.toList),b∈B)(hsm:sb'.map T=sent):LP l tk now 0 (js.map T) js sent ⟨[],[],ms'.map T,out,[]⟩ ms' [] [] sb' T B out 0 (fun _=>none):=by
 have hperm:(js++([]++([]++(ms'++sb'.toList)))).Perm (jb++(mb0++sb0.toList)):=by
  rw[List.nil_append,List.nil_append]
  refine hp.append ?_
  refine List.perm_append_comm.trans ?_
  rw[hs]
  refine List.perm_append_comm.trans ?_
  exact hm.append_right _
 refine⟨Nat.le_refl _,fun c _=>by simp[dAt],by simp[dAt],by simp[dAt],by simp[dAt],by simp[dAt],by simp,hsm,?_,fun b hb=>?_⟩
 ·rw[List.drop_zero]
  exact hperm.nodup_iff.2 hn
 ·rw[List.drop_zero]at hb
  exact hB b (hperm.mem_iff.1 hb)
end
theorem hangB_len{l:List Pa}{tk:List Int}{pt cm:Nat}{now:Int}:∀k,(hangB l tk pt cm now k).length≤k
 | 0=>Nat.le_refl _
 | k+1=>by
  rw[hangB,List.length_append]
  have h1:=hangB_len (l:=l) (tk:=tk) (pt:=pt) (cm:=cm) (now:=now) k
  have h2:(if fr l k=(pt:Int)∧se l k=0 then [(⟨k,cm,now,wkF l tk k cm⟩:Th)] else []).length≤1:=by split<;>simp
  omega
theorem hangM_len{l:List Pa}{pt cm:Nat}{now:Int}:∀k,(hangM l pt cm now k).length≤k
 | 0=>Nat.le_refl _
 | k+1=>by
  rw[hangM,List.length_append]
  have h1:=hangM_len (l:=l) (pt:=pt) (cm:=cm) (now:=now) k
  have h2:(if fr l k=(pt:Int)∧0<se l k then [(⟨k,cm,now,se l k⟩:Th)] else []).length≤1:=by split<;>simp
  omega
theorem fold_few{l:List Pa}{tk:List Int}{now:Int}(hl:l.length≤8):∀(xs:List Th) (d:Ds),(xs.foldl (stepD l tk now) d).st.length≤d.st.length+xs.length∧(xs.foldl (stepD l tk now) d).bg.length≤d.bg.length+8*xs.length∧(xs.foldl (stepD l tk now) d).ml.length≤d.ml.length+8*xs.length∧(∀n m:Nat,d.out.length=n→(∀i,i<n→(d.out.getD i []).length=m)→(xs.foldl (stepD l tk now) d).out.length=n∧∀i,i<n→((xs.foldl (stepD l tk now) d).out.getD i []).length=m)
 | [],d=>⟨Nat.le_refl _,Nat.le_refl _,Nat.le_refl _,fun n m h1 h2=>⟨h1,h2⟩⟩
 | x::xs,d=>by
  rw[List.foldl_cons,List.length_cons]
  obtain⟨h1,h2,h3,h4⟩:=fold_few hl xs (stepD l tk now d x)
  have hb:=hangB_len (l:=l) (tk:=tk) (pt:=x.pt) (cm:=x.cm) (now:=now) l.length
  have hm:=hangM_len (l:=l) (pt:=x.pt) (cm:=x.cm) (now:=now) l.length
  have key:(stepD l tk now d x).st.length≤d.st.length+1∧(stepD l tk now d x).bg.length≤d.bg.length+8∧(stepD l tk now d x).ml.length≤d.ml.length+8∧(∀n m:Nat,d.out.length=n→(∀i,i<n→(d.out.getD i []).length=m)→(stepD l tk now d x).out.length=n∧∀i,i<n→((stepD l tk now d x).out.getD i []).length=m):=by
   unfold stepD
   split
   ·simp only[List.length_append,List.length_singleton]
    exact⟨by omega,by omega,by omega,fun n m a b=>⟨a,b⟩⟩
   ·split
    ·simp only[List.length_append,List.length_singleton]
     exact⟨by omega,by omega,by omega,fun n m a b=>⟨a,b⟩⟩
    ·simp only[List.length_append]
     refine⟨by omega,by omega,by omega,fun n m a b=>?_⟩
     unfold setO
     refine⟨by rw[List.length_set];exact a,fun i hi=>?_⟩
     have hi2:=b i hi
     rw[List.getD_eq_getElem?_getD]at hi2 ⊢
     rw[List.getElem?_set]
     split
     ·next e =>
      subst e
      rw[if_pos (by omega),Option.getD_some,List.length_set,List.getD_eq_getElem?_getD]
      exact hi2
     ·exact hi2
  obtain⟨k1,k2,k3,k4⟩:=key
  exact⟨by omega,by omega,by omega,fun n m a b=>h4 n m (k4 n m a b).1 (k4 n m a b).2⟩
section
variable {w W W':World} {l:List Pa} {tk:List Int} {now:Int} {i k:Nat} {jsT:List Th} {js:List Nat} {sent:Option Th} {d0:Ds} {mb stb bgb:List Nat} {sb:Option Nat} {T T0:Nat→Th} {B:List Nat} {out:List (List Int)} {N:Nat} {M:Int→Option Int} {R:List (Value × List Nat)} {ov:List Value} {F:List (Nat × Obj)} {x:Th}
theorem dAt_few(hl:l.length≤8)(hj:jsT.length≤40000)(h1:d0.st=[])(h2:d0.bg=[])(h3:d0.ml.length≤40000):(dAt l tk now jsT d0 i).st.length≤40000∧(dAt l tk now jsT d0 i).bg.length≤320000∧(dAt l tk now jsT d0 i).ml.length≤360000∧(∀n m:Nat,d0.out.length=n→(∀i,i<n→(d0.out.getD i []).length=m)→(dAt l tk now jsT d0 i).out.length=n∧∀k,k<n→((dAt l tk now jsT d0 i).out.getD k []).length=m):=by
 unfold dAt
 obtain⟨g1,g2,g3,g4⟩:=fold_few (tk:=tk) (now:=now) hl (jsT.take i) d0
 rw[List.length_take]at g1 g2 g3
 rw[h1,List.length_nil]at g1
 rw[h2,List.length_nil]at g2
 exact⟨by omega,by omega,by omega,g4⟩
theorem LP.few(h:LP l tk now i jsT js sent d0 mb stb bgb sb T B out N M)(hl:l.length≤8)(hj:jsT.length≤40000)(h1:d0.st=[])(h2:d0.bg=[])(h3:d0.ml.length≤40000){n m:Nat}(h4:d0.out.length=n)(h5:∀i,i<n→(d0.out.getD i []).length=m):stb.length≤40000∧bgb.length≤320000∧mb.length≤360000∧out.length=n∧∀k,k<n→(out.getD k []).length=m:=by
 obtain⟨g1,g2,g3,g4⟩:=dAt_few (tk:=tk) (now:=now) (i:=i) hl hj h1 h2 h3
 have e1:=congrArg List.length h.st
 have e2:=congrArg List.length h.bg
 have e3:=congrArg List.length h.ml
 rw[List.length_map]at e1 e2 e3
 obtain⟨g5,g6⟩:=g4 n m h4 h5
 rw[← h.ou]at g5 g6
 exact⟨by omega,by omega,by omega,g5,g6⟩
theorem LK.few(h:LK l tk now i k jsT js d0 x mb stb bgb sb T T0 B)(hl:l.length≤8)(hk:k≤l.length)(hj:jsT.length≤40000)(h1:d0.st=[])(h2:d0.bg=[])(h3:d0.ml.length≤40000):bgb.length≤500000∧mb.length≤500000:=by
 obtain⟨g1,g2,g3,-⟩:=dAt_few (tk:=tk) (now:=now) (i:=i) hl hj h1 h2 h3
 have e2:=congrArg List.length h.bg
 have e3:=congrArg List.length h.ml
 rw[List.length_map,List.length_append]at e2 e3
 have hb:=hangB_len (l:=l) (tk:=tk) (pt:=x.pt) (cm:=x.cm) (now:=now) k
 have hm:=hangM_len (l:=l) (pt:=x.pt) (cm:=x.cm) (now:=now) k
 exact⟨by omega,by omega⟩
theorem DW.setL(h:DW w W R T B ov out F){b:Nat}(hb:b∈B)(z:Int):DW w (W.setCell ⟨b,3,none⟩ (.int .i64 z)) R (updT T b { T b with lf:=z }) B ov out F :=
 h.setT hb _ (set_grown _ _ _ _) (by rw[setCell_at (h.th b hb)];rfl)
end
section
variable {w W W':World} {l:List Pa} {tk:List Int} {cs:List Co} {lv tv jv mv:Value} {gJ gM:Nat} {os:List Value} {FO:List (Nat × Obj)} {t:Nat} {jsT jobs mail ml mail1:List Th} {js:List Nat} {sent sent1:Option Th} {d0:Ds} {mb stb bgb:List Nat} {sb:Option Nat} {T:Nat→Th} {B:List Nat} {out out0:List (List Int)} {N:Nat} {M:Int→Option Int}
theorem TK.close(hL:Lg l cs (ordF cs))(hF:Doc l tk cs t jobs mail sent out0∧jsT.Perm (jobs++comeT l tk cs t cs.length)∧jsT.Pairwise (fun a b=>ahJ l a b=true)∧ml.Perm mail∧ml.Pairwise (fun a b=>ahM a b=true)∧takeS sent ml=(sent1,mail1))(hd0:(⟨[],[],mail1,out0,[]⟩:Ds)=d0)(hjl:jsT.length=js.length)
  (h:LP l tk ((t:Int)+1) js.length jsT js sent1 d0 mb stb bgb sb T B out N M) {jb':List Nat} {sb':Option Nat} {T':Nat→Th} {B':List Nat} (hdw:DW w W [(jv,jb'),(mv,mb)] T' B' os out (F5 w lv tv gJ gM jv mv++FO))
  (e1:jb'.map T'=stb.map T++(bgb.map T++msgB l tk ((t:Int)+1) sent1)) (e2:mb.map T'=mb.map T) (e3:sb'.map T'=decS sent1) (nd:(jb'++(mb++sb'.toList)).Nodup) (hB:∀b∈jb'++(mb++sb'.toList),b∈B'):TK w W l tk cs lv tv gJ gM os FO (t+1) jv mv jb' mb sb' T' B' out:=by
 obtain⟨f1,f2,f3,f4,f5,f6⟩:=hF
 have hT:=Doc.tick (tk:=tk) hL f1 f2 f3 f4 f5
 rw[f6]at hT
 dsimp only at hT
 rw[hd0]at hT
 have ed:dAt l tk ((t:Int)+1) jsT d0 js.length=jsT.foldl (stepD l tk ((t:Int)+1)) d0:=by rw[← hjl];exact dAt_end
 rw[← ed]at hT
 refine⟨hdw,?_,nd,hB⟩
 rw[e1,e2,e3,h.st,h.bg,h.ml,h.ou]
 exact hT
theorem LP.nd'(h:LP l tk ((t:Int)+1) js.length jsT js sent1 d0 mb stb bgb sb T B out N M):(stb++(bgb++(mb++sb.toList))).Nodup∧∀b∈stb++(bgb++(mb++sb.toList)),b∈B:=by
 have h1:=h.nd
 have h2:=h.inB
 rw[List.drop_length,List.nil_append]at h1 h2
 exact⟨h1,h2⟩
theorem TK.next0(hL:Lg l cs (ordF cs))(hF:Doc l tk cs t jobs mail sent out0∧jsT.Perm (jobs++comeT l tk cs t cs.length)∧jsT.Pairwise (fun a b=>ahJ l a b=true)∧ml.Perm mail∧ml.Pairwise (fun a b=>ahM a b=true)∧takeS sent ml=(sent1,mail1))(hd0:(⟨[],[],mail1,out0,[]⟩:Ds)=d0)(hjl:jsT.length=js.length)
  (h:LP l tk ((t:Int)+1) js.length jsT js sent1 d0 mb stb bgb none T B out N M) (hdw:DW w W [(jv,stb++bgb),(mv,mb)] T B os out (F5 w lv tv gJ gM jv mv++FO)):TK w W l tk cs lv tv gJ gM os FO (t+1) jv mv (stb++bgb) mb none T B out:=by
 have hs:sent1=none:=h.sm.symm
 obtain⟨n1,n2⟩:=h.nd'
 refine TK.close hL hF hd0 hjl h hdw (by rw[hs,List.map_append];simp[msgB]) rfl (by rw[hs];rfl) ?_ ?_
 ·rw[List.append_assoc];exact n1
 ·rw[List.append_assoc];exact n2
theorem sent_out{m:Nat}(h:LP l tk ((t:Int)+1) js.length jsT js sent1 d0 mb stb bgb (some m) T B out N M):sent1=some (T m)∧m∈B∧m ∉ stb∧m ∉ bgb∧m ∉ mb:=by
 obtain⟨n1,n2⟩:=h.nd'
 have n3:(m::(stb++(bgb++mb))).Nodup:=by
  refine(List.Perm.nodup_iff ?_).1 n1
  rw[← List.append_assoc,← List.append_assoc,Option.toList_some,← List.append_assoc]
  refine(List.perm_append_comm).trans ?_
  exact List.Perm.refl _
 have n4:=(List.nodup_cons.1 n3).1
 simp only[List.mem_append,not_or]at n4
 exact⟨h.sm.symm,n2 m (by simp),n4.1,n4.2.1,n4.2.2⟩
theorem TK.next1(hL:Lg l cs (ordF cs))(hF:Doc l tk cs t jobs mail sent out0∧jsT.Perm (jobs++comeT l tk cs t cs.length)∧jsT.Pairwise (fun a b=>ahJ l a b=true)∧ml.Perm mail∧ml.Pairwise (fun a b=>ahM a b=true)∧takeS sent ml=(sent1,mail1))(hd0:(⟨[],[],mail1,out0,[]⟩:Ds)=d0)(hjl:jsT.length=js.length){m:Nat}
  (h:LP l tk ((t:Int)+1) js.length jsT js sent1 d0 mb stb bgb (some m) T B out N M) (hm:(T m).lf≠1) (hdw:DW w W [(jv,stb++bgb),(mv,mb)] (updT T m { T m with lf:=(T m).lf-1 }) B os out (F5 w lv tv gJ gM jv mv++FO)):TK w W l tk cs lv tv gJ gM os FO (t+1) jv mv (stb++bgb) mb (some m) (updT T m { T m with lf:=(T m).lf-1 }) B out:=by
 obtain⟨hs,hB,m1,m2,m3⟩:=sent_out h
 obtain⟨n1,n2⟩:=h.nd'
 refine TK.close hL hF hd0 hjl h hdw (by rw[hs,List.map_append,updT_map m1,updT_map m2];simp[msgB,hm]) (updT_map m3) (by rw[hs,Option.map_some,updT_self];simp[decS,hm]) ?_ ?_
 ·rw[List.append_assoc];exact n1
 ·rw[List.append_assoc];exact n2
theorem perm_in2{a c d:List Nat}{b:Nat}:(a++((c++[b])++d)).Perm (b::(a++(c++d))):=perm_in
theorem TK.next2(hL:Lg l cs (ordF cs))(hF:Doc l tk cs t jobs mail sent out0∧jsT.Perm (jobs++comeT l tk cs t cs.length)∧jsT.Pairwise (fun a b=>ahJ l a b=true)∧ml.Perm mail∧ml.Pairwise (fun a b=>ahM a b=true)∧takeS sent ml=(sent1,mail1))(hd0:(⟨[],[],mail1,out0,[]⟩:Ds)=d0)(hjl:jsT.length=js.length){m b:Nat}
  (h:LP l tk ((t:Int)+1) js.length jsT js sent1 d0 mb stb bgb (some m) T B out N M) (hm:(T m).lf=1) (hb:b ∉ B) (y:Th) (hdw:DW w W [(jv,stb++(bgb++[b])),(mv,mb)] (updT (updT T m y) b ⟨(T m).pt,(T m).cm,(t:Int)+1,wkF l tk (T m).pt (T m).cm⟩) (b::B) os out (F5 w lv tv gJ gM jv mv++FO)):TK w W l tk cs lv tv gJ gM os FO (t+1) jv mv (stb++(bgb++[b])) mb none (updT (updT T m y) b ⟨(T m).pt,(T m).cm,(t:Int)+1,wkF l tk (T m).pt (T m).cm⟩) (b::B) out:=by
 obtain⟨hs,hB,m1,m2,m3⟩:=sent_out h
 obtain⟨n1,n2⟩:=h.nd'
 have k1:b ∉ stb:=fun g=>hb (n2 b (List.mem_append_left _ g))
 have k2:b ∉ bgb:=fun g=>hb (n2 b (List.mem_append_right _ (List.mem_append_left _ g)))
 have k3:b ∉ mb:=fun g=>hb (n2 b (List.mem_append_right _ (List.mem_append_right _ (List.mem_append_left _ g))))
 have n5:(stb++(bgb++mb)).Nodup:=by
  refine n1.sublist ?_
  rw[← List.append_assoc bgb mb]
  exact(List.Sublist.refl _).append (List.sublist_append_left _ _)
 have hp:((stb++(bgb++[b]))++(mb++(none:Option Nat).toList)).Perm (b::(stb++(bgb++mb))):=by
  rw[Option.toList_none,List.append_nil,List.append_assoc]
  exact perm_in2
 refine TK.close hL hF hd0 hjl h hdw ?_ (by rw[updT_map k3,updT_map m3]) (by rw[hs];simp[decS,hm]) (hp.nodup_iff.2 (List.nodup_cons.2 ⟨fun g=>hb (n2 b ?_),n5⟩)) (fun c hc=>?_)
 ·rw[hs,List.map_append,List.map_append,updT_map k1,updT_map k2,updT_map m1,updT_map m2,List.map_singleton,updT_self]
  simp[msgB,hm]
 ·simp only[List.mem_append]at g ⊢
  rcases g with g|g|g
  ·exact .inl g
  ·exact .inr (.inl g)
  ·exact .inr (.inr (.inl g))
 ·rcases List.mem_cons.1 (hp.mem_iff.1 hc) with g|g
  ·rw[g];exact List.mem_cons_self
  ·refine List.mem_cons_of_mem _ (n2 c ?_)
   simp only[List.mem_append]at g ⊢
   rcases g with g|g|g
   ·exact .inl g
   ·exact .inr (.inl g)
   ·exact .inr (.inr (.inl g))
end
end Go.Proofs.YtccoobcggbbcialGreatDoor
namespace Go.Proofs.YtccoobcggbbcialGreatDoor
structure RIB (P:Prop):Prop where
 out:P
end Go.Proofs.YtccoobcggbbcialGreatDoor
