import Derived.Test.YtccoobcggbbcialGreatDoorGHG0
import Derived.ArgAppend
namespace Go.Proofs.YtccoobcggbbcialGreatDoor
open Go.ChangeShapes Go.WideShapes Go.ChangeAt Go.RowKit
theorem tqGHV3{P:Program}{md:Region.Mode}{ops:Array Oper}{Q:Exit→Act→World→Prop}{S:World→Prop}{i n:Nat}{oi:Oper}{v:Value}{fuel:Nat}{listed:Array Bool}{l:List Value}{ds:List Deferred}{w:World}
  (hy:∀w,S w→(execOp (Act.eval ⟨l.toArray,ds⟩) oi).run P w = .ok (.value v) w) (h:wpAnyH P md ops Q S fuel (listed.setIfInBounds i true) ⟨(l.set n v).toArray,ds⟩ w)
  (hi:ops[i]?=some oi:=by rfl) (hd:oi.dst=some n:=by rfl) (hs:(Region.noSelect ops && Region.free md ops listed i && (Region.ready md ops listed).contains i)=true:=by kernel_rfl)
  (hQ:∀c a w,Q (.panic c) (a.put oi.dst v) w→Q (.panic c) a w:=by exact fun _ _ _ h=>h) (hg:Region.wanted oi (yielded ops l.toArray)=true:=by rfl) (hS:S w:=by assumption):wpAnyH P md ops Q S (fuel+1) listed ⟨l.toArray,ds⟩ w:=by
 simp only[Bool.and_eq_true]at hs
 exact take_at hi hd hs.1.1 hs.1.2 hs.2 hQ (.inl ⟨hg,hy⟩) hS h
end Go.Proofs.YtccoobcggbbcialGreatDoor
namespace Go.Proofs.YtccoobcggbbcialGreatDoor
open Go.ChangeShapes Go.WideShapes Go.ChangeAt Go.RowKit
def nmP(k:Nat):ByteArray:=Utf8.encode (97+(k:Int))
def taP(k:Nat)(x:Pa)(lt:Int):Ta:=⟨nmP k,x.c,x.t,x.d,lt,0,x.p⟩
def liesF:List Pa→List Int→Int→Nat→List (Nat × Ta)
 | [],_,_,_=>[]
 | x::r,late,co,k=>(if x.co=co then [(k,taP k x (late.getD k 0))] else [])++liesF r late co (k+1)
theorem liesF_append:∀(a b:List Pa) (late:List Int) (co:Int) (k:Nat),liesF (a++b) late co k=liesF a late co k++liesF b late co (k+a.length)
 | [],b,late,co,k=>by simp[liesF]
 | x::r,b,late,co,k=>by
  rw[List.cons_append,liesF,liesF,liesF_append r b late co (k+1),List.append_assoc,List.length_cons,show k+1+r.length=k+(r.length+1) by omega]
theorem liesF_snoc{l:List Pa}{late:List Int}{co:Int}{i:Nat}{x:Pa}(hx:l[i]?=some x):liesF (l.take (i+1)) late co 0=liesF (l.take i) late co 0++(if x.co=co then [(i,taP i x (late.getD i 0))] else []):=by
 have hi:i<l.length:=(List.getElem?_eq_some_iff.1 hx).1
 rw[List.take_add_one,hx,liesF_append]
 simp[liesF,show min i l.length=i by omega]
theorem liesF_len:∀(l:List Pa) (late:List Int) (co:Int) (k:Nat),(liesF l late co k).length≤l.length
 | [],_,_,_=>by simp[liesF]
 | x::r,late,co,k=>by
  have:=liesF_len r late co (k+1)
  rw[liesF,List.length_append,List.length_cons]
  split<;>simp<;>omega
theorem liesF_idx:∀(l:List Pa) (late:List Int) (co:Int) (k:Nat),∀y∈liesF l late co k,k≤y.1∧y.1<k+l.length
 | [],_,_,_,y,hy=>by simp[liesF]at hy
 | x::r,late,co,k,y,hy=>by
  rw[liesF,List.mem_append]at hy
  rcases hy with hy|hy
  ·split at hy
   ·rw[List.mem_singleton.1 hy]
    simp
   ·simp at hy
  ·have:=liesF_idx r late co (k+1) y hy
   rw[List.length_cons]
   omega
structure LZ2 (w W:World) (ns:Nat) (sx:List Value) (sv:Value) (nt:Nat) (tx:List Value) (tv:Value):Prop where
 bel:Below w.heap.size w W
 st:W.ownsRow w.heap.size 38 7 sv ns sx
 tl:W.ownsRow w.heap.size 3 1 tv nt tx
abbrev LZ (w W:World) (n:Nat) (sx:List Value) (sv:Value) (tx:List Value) (tv:Value):Prop:=LZ2 w W n sx sv n tx tv
theorem LZ2.grow{w W W':World}{ns nt:Nat}{sx tx:List Value}{sv tv:Value}(h:LZ2 w W ns sx sv nt tx tv)(hb:Below W.heap.size W W'):LZ2 w W' ns sx sv nt tx tv:=⟨below_seq h.bel hb,ownsRow_below h.st hb,ownsRow_below h.tl hb⟩
theorem LZ2.pushS{w W:World}{ns nt ge:Nat}{sx tx:List Value}{sv tv:Value}(h:LZ2 w W ns sx sv nt tx tv)(x:Ta)(hc:W.heap[ge]?=some (.cells #[.string x.nm,.int .i64 x.c,.int .i64 x.t,.int .i64 x.d,.int .i64 x.j,.int .i64 x.o,.int .i64 x.p] 38 (0,0)))(hl:ns≤100):∃ad c w4,(Builtin.append_ #[22,22] 22 #[sv,.slice (some ⟨ge,0,none⟩) 1 1]).run Tryz.prog W = .ok (.slice ad (ns+1) c) w4∧LZ2 w w4 (ns+1) (sx++x.vals) (.slice ad (ns+1) c) nt tx tv∧∀(k:Nat) (cs:Array Value) (ty:TypeId),W.heap[k]?=some (.cells cs ty (0,0))→(ty≠38∨k<w.heap.size)→w4.heap[k]?=some (.cells cs ty (0,0)):=by
 obtain⟨ad,c,w4,h1,h2,h3,h4⟩:=own_pushA (T:=22) (E:=38) Tryz.underlying22 infoTa rfl (by omega) h.st x.vals rfl (cells_of (l:=x.vals) hc).1 (fun u hu=>Ta.one hu) (by omega) (by omega) h.bel.size
 exact⟨ad,c,w4,h1,⟨h.bel.trans h3,h2,ownsRow_keep3 h.tl (fun k cs _ hk=>(h4 _ _ _ hk (.inl (by decide))).trans hk.symm)⟩,h4⟩
theorem LZ2.pushT{w W:World}{ns nt ge:Nat}{sx tx:List Value}{sv tv:Value}(h:LZ2 w W ns sx sv nt tx tv)(i:Int)(hc:W.heap[ge]?=some (.cells #[.int .i64 i] 3 (0,0)))(hl:nt≤100):∃ad c w4,(Builtin.append_ #[25,25] 25 #[tv,.slice (some ⟨ge,0,none⟩) 1 1]).run Tryz.prog W = .ok (.slice ad (nt+1) c) w4∧LZ2 w w4 ns sx sv (nt+1) (tx++[.int .i64 i]) (.slice ad (nt+1) c):=by
 obtain⟨ad,c,w4,h1,h2,h3,h4⟩:=own_pushA (T:=25) (E:=3) Tryz.underlying25 infoI3 rfl (by omega) h.tl [.int .i64 i] rfl (cells_of (l:=[_]) hc).1 (fun u hu=>by simp at hu;subst hu;rfl) (by omega) (by omega) h.bel.size
 exact⟨ad,c,w4,h1,⟨h.bel.trans h3,ownsRow_keep3 h.st (fun k cs _ hk=>(h4 _ _ _ hk (.inl (by decide))).trans hk.symm),h2⟩⟩
theorem lies_ends{w:World}{p q:Value}{a:Act}(h2:a.tmps[6]?.getD undef=p)(h3:a.tmps[7]?.getD undef=q) :
  (results Tryz.f147 a.tmps).run Tryz.prog w = .ok (.tuple #[p,q]) w:=by
 simp[results,Tryz.results147,go_sem,h2,h3]
def LiesAt(w W:World)(xs:List (Nat × Ta))(sv tv:Value):Prop:=LZ w W xs.length ((xs.map (·.2)).flatMap Ta.vals) sv (xs.map (fun y=>Value.int .i64 (y.1:Int))) tv
set_option maxRecDepth 20000 in
set_option maxHeartbeats 16000000 in
theorem lies_any(w:World)(l:List Pa)(late:List Int)(v v2:Value)(core:Int)(hv:RowSl Pa.vals w l v)(ht:RowSl nuV w late v2)(h1:1≤l.length)(h8:l.length≤8)(hlen:late.length=l.length):Calls Tryz.prog 147 #[v,v2,.int .i64 core] w fun r w'=>∃sv tv,r = .returned (.tuple #[sv,tv])∧LiesAt w w' (liesF l late core 0) sv tv:=by
 obtain⟨ad,c,rfl,-,hcap,hrow⟩:=hv
 rcases hrow with h|⟨b,o,rfl,hrow⟩
 ·rw[h]at h1;simp at h1
 obtain⟨ad2,c2,rfl,-,hcap2,hrow2⟩:=ht
 rcases hrow2 with h|⟨b2,o2,rfl,hrow2⟩
 ·rw[h]at hlen;simp at hlen;omega
 rw[hlen]at hcap2 ⊢
 have HV0:Hid ((∀q u,(l.flatMap Pa.vals)[q]?=some u→w.cell? ⟨b,o+q,none⟩=some u)∧(∀q u,(late.flatMap nuV)[q]?=some u→w.cell? ⟨b2,o2+q,none⟩=some u)∧late.length=l.length):=⟨hrow,hrow2,hlen⟩
 clear hrow hrow2 hlen
 have H3:Hid (LiesAt w w [] (.slice none 0 0) (.slice none 0 0)):=⟨Below.refl _ _,⟨rfl,.inl ⟨rfl,rfl⟩⟩,⟨rfl,.inl ⟨rfl,rfl⟩⟩⟩
 go_enter Tryz.func147,Tryz.ntmps147
 go_wp2_with fail
 go_loopw [6,7,13] (fun av bv iv wr=>∃(j:Nat) (sv tv:Value),j≤l.length∧sv=av∧tv=bv∧iv = .int .i64 (j:Int)∧Hid (LiesAt w wr (liesF (l.take j) late core 0) sv tv)) (fun _ _ iv _=>l.length-(intOf iv).toNat)
 case atStart=>exact⟨0,_,_,Nat.zero_le _,rfl,rfl,rfl,H3.out⟩
 case round =>
  obtain⟨j,sv,tv,hj,rfl,rfl,rfl,HS⟩:=hrel
  clear H3
  by_cases hjl:j<l.length
  ·obtain⟨x,hx,-⟩:=drop_at hjl
   obtain⟨y0,y1,y2,y3,y4,y5,y6⟩:=pa7_at (fun q u hq=>below_cell HS.out.bel (HV0.out.1 q u hq)) hx
   have lb:b<wr.heap.size:=World.block_lt_of_cell? _ _ y0
   have hji:(j:Int)<(l.length:Int):=by omega
   have HX:Hid (l[j]?=some x):=hx
   clear hx
   obtain⟨co,fr,se,cx,t,d,p⟩:=x
   dsimp only at y0 y1 y2 y3 y4 y5 y6
   by_cases hb:co=core
   ·subst hb
    obtain⟨lt,hlt⟩:∃lt,late[j]?=some lt:=⟨late[j]'(by have:=HV0.out.2.2;omega),List.getElem?_eq_getElem _⟩
    have cl0:=nu_at HV0.out.2.1 hlt
    have HV:Hid ((∀q u,(l.flatMap Pa.vals)[q]?=some u→w.cell? ⟨b,o+q,none⟩=some u)∧True∧late.getD j 0=lt∧w.cell? ⟨b2,o2+j,none⟩=some (.int .i64 lt)∧b2<w.heap.size):=⟨HV0.out.1,trivial,by rw[List.getD_eq_getElem?_getD,hlt];rfl,cl0,World.block_lt_of_cell? _ _ cl0⟩
    have hw1:IntKind.i64.wrap (97+(j:Int))=97+(j:Int):=by rw[IntKind.wrap_i64];omega
    have hw2:IntKind.i32.wrap (97+(j:Int))=97+(j:Int):=by rw[IntKind.wrap_i32];omega
    go_upto_region 6 with fail
    have HZ6:Hid (LiesAt w (wr.alloc (.cells #[.int .i64 co,.int .i64 fr,.int .i64 se,.int .i64 cx,.int .i64 t,.int .i64 d,.int .i64 p] 66)) (liesF (l.take j) late co 0) sv tv):=HS.out.grow (below_new _ _)
    have HP6:Hid ((wr.alloc (.cells #[.int .i64 co,.int .i64 fr,.int .i64 se,.int .i64 cx,.int .i64 t,.int .i64 d,.int .i64 p] 66)).heap[wr.heap.size]?=some (.cells #[.int .i64 co,.int .i64 fr,.int .i64 se,.int .i64 cx,.int .i64 t,.int .i64 d,.int .i64 p] 66 (0,0))):=heap_alloc_new _ _
    obtain⟨nmj,hnj⟩:∃nmj,nmP j=nmj:=⟨_,rfl⟩
    have HNJ:Hid (nmP j=nmj):=hnj
    have hnm:Utf8.encode (97+(j:Int))=nmj:=hnj
    rw[hnm]
    clear hnm hnj
    have HEnd:Hid (∀W sv tv,LZ2 w W ((liesF (l.take j) late co 0).length+1) (((liesF (l.take j) late co 0).map (·.2)).flatMap Ta.vals++[.string nmj,.int .i64 cx,.int .i64 t,.int .i64 d,.int .i64 lt,.int .i64 0,.int .i64 p]) sv ((liesF (l.take j) late co 0).length+1) ((liesF (l.take j) late co 0).map (fun y=>Value.int .i64 (y.1:Int))++[.int .i64 (j:Int)]) tv→LiesAt w W (liesF (l.take (j+1)) late co 0) sv tv):=fun W sv tv h=>by
     rw[liesF_snoc HX.out,if_pos rfl,HV.out.2.2.1]
     unfold LiesAt taP
     rw[HNJ.out]
     simpa[Ta.vals] using h
    have hnf:(liesF (l.take j) late co 0).length≤8:=Nat.le_trans (liesF_len _ _ _ _) (by rw[List.length_take];omega)
    have sl:=below_cell (below_seq HS.out.bel (below_new wr (.cells #[.int .i64 co,.int .i64 fr,.int .i64 se,.int .i64 cx,.int .i64 t,.int .i64 d,.int .i64 p] 66))) cl0
    unfold LiesAt at HZ6
    clear HS y0 y1 y2 y3 y4 y5 y6 cl0 hlt
    generalize wr.alloc (.cells #[.int .i64 co,.int .i64 fr,.int .i64 se,.int .i64 cx,.int .i64 t,.int .i64 d,.int .i64 p] 66)=w6 at *
    generalize wr.heap.size=gt at *
    generalize (liesF (l.take j) late co 0).length=nf at *
    generalize ((liesF (l.take j) late co 0).map (·.2)).flatMap Ta.vals=sx at *
    generalize (liesF (l.take j) late co 0).map (fun y=>Value.int .i64 (y.1:Int))=tx at *
    obtain⟨as0,cs0,rfl⟩:=owns_value HZ6.out.st
    obtain⟨aw0,cw0,rfl⟩:=owns_value HZ6.out.tl
    obtain⟨xs,-,-⟩:=cells_of (l:=[_,_,_,_,_,_,_]) HP6.out
    have s3:=xs 3 _ rfl
    have s4:=xs 4 _ rfl
    have s5:=xs 5 _ rfl
    have s6:=xs 6 _ rfl
    clear xs
    have lg:=World.block_lt_of_cell? _ _ s3
    have lG:=World.block_lt_of_cell? _ _ sl
    refine wp_region_noPanic ?_
    refine wp_region_held_drew (S:=fun w'=>w'.cell? ⟨gt,3,none⟩=some (.int .i64 cx)∧w'.cell? ⟨gt,4,none⟩=some (.int .i64 t)∧w'.cell? ⟨gt,5,none⟩=some (.int .i64 d)∧w'.cell? ⟨gt,6,none⟩=some (.int .i64 p)∧w'.cell? ⟨b2,o2+j,none⟩=some (.int .i64 lt)) (by kernel_rfl) ⟨by go_simp,by go_simp,by go_simp,by go_simp,by go_simp⟩ (fun hHeld=>?_)
    refine tqGHV3 (i:=0) (n:=26) (v:=?_) ?_ ?_
    rotate_left 1
    ·intro wz hSw
     obtain⟨s3,s4,s5,s6,sl⟩:=hSw
     first|(go_simp;done)|(go_simp;with_reducible rfl)
    simp only[ls0,ls1]
    refine tqGHV3 (i:=1) (n:=27) (v:=?_) ?_ ?_
    rotate_left 1
    ·intro wz hSw
     obtain⟨s3,s4,s5,s6,sl⟩:=hSw
     first|(go_simp;done)|(go_simp;with_reducible rfl)
    simp only[ls0,ls1]
    refine tqGHV3 (i:=2) (n:=28) (v:=?_) ?_ ?_
    rotate_left 1
    ·intro wz hSw
     obtain⟨s3,s4,s5,s6,sl⟩:=hSw
     first|(go_simp;done)|(go_simp;with_reducible rfl)
    simp only[ls0,ls1]
    refine tqGHV3 (i:=3) (n:=29) (v:=?_) ?_ ?_
    rotate_left 1
    ·intro wz hSw
     obtain⟨s3,s4,s5,s6,sl⟩:=hSw
     first|(go_simp;done)|(go_simp;with_reducible rfl)
    simp only[ls0,ls1]
    refine tqGHV3 (i:=4) (n:=30) (v:=?_) ?_ ?_
    rotate_left 1
    ·intro wz hSw
     obtain⟨s3,s4,s5,s6,sl⟩:=hSw
     first|(go_simp;done)|(go_simp;with_reducible rfl)
    simp only[ls0,ls1]
    refine tqGHV3 (i:=5) (n:=31) (v:=?_) ?_ ?_
    rotate_left 1
    ·intro wz hSw
     obtain⟨s3,s4,s5,s6,sl⟩:=hSw
     first|(go_simp;done)|(go_simp;with_reducible rfl)
    simp only[ls0,ls1]
    refine tqGHV3 (i:=6) (n:=32) (v:=?_) ?_ ?_
    rotate_left 1
    ·intro wz hSw
     obtain⟨s3,s4,s5,s6,sl⟩:=hSw
     first|(go_simp;done)|(go_simp;with_reducible rfl)
    simp only[ls0,ls1]
    refine tqGHV3 (i:=7) (n:=33) (v:=?_) ?_ ?_
    rotate_left 1
    ·intro wz hSw
     obtain⟨s3,s4,s5,s6,sl⟩:=hSw
     first|(go_simp;done)|(go_simp;with_reducible rfl)
    simp only[ls0,ls1]
    refine tqGHV3 (i:=8) (n:=34) (v:=?_) ?_ ?_
    rotate_left 1
    ·intro wz hSw
     obtain⟨s3,s4,s5,s6,sl⟩:=hSw
     first|(go_simp;done)|(go_simp;with_reducible rfl)
    simp only[ls0,ls1]
    refine tqGHV3 (i:=9) (n:=35) (v:=?_) ?_ ?_
    rotate_left 1
    ·intro wz hSw
     obtain⟨s3,s4,s5,s6,sl⟩:=hSw
     first|(go_simp;done)|(go_simp;with_reducible rfl)
    simp only[ls0,ls1]
    refine tqGHV3 (i:=10) (n:=36) (v:=?_) ?_ ?_
    rotate_left 1
    ·intro wz hSw
     obtain⟨s3,s4,s5,s6,sl⟩:=hSw
     first|(go_simp;done)|(go_simp;with_reducible rfl)
    simp only[ls0,ls1]
    refine tqGHV3 (i:=11) (n:=37) (v:=?_) ?_ ?_
    rotate_left 1
    ·intro wz hSw
     obtain⟨s3,s4,s5,s6,sl⟩:=hSw
     first|(go_simp;done)|(go_simp;with_reducible rfl)
    simp only[ls0,ls1]
    refine tqGHV3 (i:=12) (n:=38) (v:=?_) ?_ ?_
    rotate_left 1
    ·intro wz hSw
     obtain⟨s3,s4,s5,s6,sl⟩:=hSw
     first|(go_simp;done)|(go_simp;with_reducible rfl)
    simp only[ls0,ls1]
    refine tqGHV3 (i:=13) (n:=39) (v:=?_) ?_ ?_
    rotate_left 1
    ·intro wz hSw
     obtain⟨s3,s4,s5,s6,sl⟩:=hSw
     first|(go_simp;done)|(go_simp;with_reducible rfl)
    simp only[ls0,ls1]
    refine tqGHV3 (i:=14) (n:=40) (v:=?_) ?_ ?_
    rotate_left 1
    ·intro wz hSw
     obtain⟨s3,s4,s5,s6,sl⟩:=hSw
     first|(go_simp;done)|(go_simp;with_reducible rfl)
    simp only[ls0,ls1]
    refine wpAnyH_ready (rs:=[15]) (by kernel_rfl) (by simp) ?_
    refine AllReadyH.cons rfl (fun K hK=>?_) AllReadyH.nil
    go_simp
    have G1:Hid (LZ w (w6.alloc (.cells #[.string nmj,.int .i64 cx,.int .i64 t,.int .i64 d,.int .i64 lt,.int .i64 0,.int .i64 p] 38)).drew nf sx (.slice as0 nf cs0) tx (.slice aw0 nf cw0)):=HZ6.out.grow (below_new _ _).drew
    have hk1:Below w6.heap.size w6 (w6.alloc (.cells #[.string nmj,.int .i64 cx,.int .i64 t,.int .i64 d,.int .i64 lt,.int .i64 0,.int .i64 p] 38)).drew:=(below_new _ _).drew
    have f1:(w6.alloc (.cells #[.string nmj,.int .i64 cx,.int .i64 t,.int .i64 d,.int .i64 lt,.int .i64 0,.int .i64 p] 38)).drew.heap[w6.heap.size]?=some (.cells #[.string nmj,.int .i64 cx,.int .i64 t,.int .i64 d,.int .i64 lt,.int .i64 0,.int .i64 p] 38 (0,0)):=heap_alloc_new _ _
    generalize (w6.alloc (.cells #[.string nmj,.int .i64 cx,.int .i64 t,.int .i64 d,.int .i64 lt,.int .i64 0,.int .i64 p] 38)).drew=v1 at G1 hk1 f1 ⊢
    have s3:=below_cell hk1 s3
    have s4:=below_cell hk1 s4
    have s5:=below_cell hk1 s5
    have s6:=below_cell hk1 s6
    have sl:=below_cell hk1 sl
    refine hK.out _ _ ⟨s3,s4,s5,s6,sl⟩ (fun hHeld=>?_)
    clear hK K
    try simp only[ls0,ls1]
    obtain⟨ad2,c2',v2,hrun,h9,k9⟩:=G1.out.pushS ⟨nmj,cx,t,d,lt,0,p⟩ f1 (by omega)
    have P2:v2.heap[gt]?=some (.cells #[.int .i64 co,.int .i64 fr,.int .i64 se,.int .i64 cx,.int .i64 t,.int .i64 d,.int .i64 p] 66 (0,0)):=k9 _ _ _ ((hk1.block _ (Array.getElem?_eq_some_iff.1 HP6.out).1).trans HP6.out) (.inl (by decide))
    obtain⟨xs2,-,-⟩:=cells_of (l:=[_,_,_,_,_,_,_]) P2
    have sl2:v2.cell? ⟨b2,o2+j,none⟩=some (.int .i64 lt):=by
     have hbl:b2<w.heap.size:=HV.out.2.2.2.2
     exact(h9.bel.cell hbl).trans HV.out.2.2.2.1
    refine wpAnyH_ready (rs:=[16]) (by kernel_rfl) (by simp) ?_
    refine AllReadyH.cons rfl (fun K hK=>?_) AllReadyH.nil
    refine region_append2 rfl (.tmp 26) (.tmp 41) 22 42 rfl rfl rfl hrun rfl ?_
    refine hK.out _ _ ⟨xs2 3 _ rfl,xs2 4 _ rfl,xs2 5 _ rfl,xs2 6 _ rfl,sl2⟩ (fun hHeld=>?_)
    have HZ7:Hid (LZ2 w v2 (nf+1) (sx++[.string nmj,.int .i64 cx,.int .i64 t,.int .i64 d,.int .i64 lt,.int .i64 0,.int .i64 p]) (.slice ad2 (nf+1) c2') nf tx (.slice aw0 nf cw0)):=h9
    clear hK K hrun k9 h9 xs2 sl2 P2
    simp only[Act.put,List.setIfInBounds_toArray]
    try simp only[ls0,ls1]
    refine tqGHV3 (i:=17) (n:=6) (v:=?_) ?_ ?_
    rotate_left 1
    ·intro wz hSw
     obtain⟨s3,s4,s5,s6,sl⟩:=hSw
     first|(go_simp;done)|(go_simp;with_reducible rfl)
    simp only[ls0,ls1]
    refine wpAnyH_done (by kernel_rfl) ?_ _
    refine NoPanic.normal ?_
    clear hHeld
    clear s3 s4 s5 s6 sl lg lG
    obtain⟨ad5,c5,v5,hrun5,h5⟩:=(HZ7.out.grow (below_new v2 (.cells #[.int .i64 (j:Int)] 3))).pushT (j:Int) (heap_alloc_new _ _) (by omega)
    have H9:Hid (LiesAt w v5 (liesF (l.take (j+1)) late co 0) (.slice ad2 (nf+1) c2') (.slice ad5 (nf+1) c5)):=HEnd.out _ _ _ h5
    clear h5 HZ7 HEnd
    go_wp2_with (at_builtin;refine append_known rfl (.tmp 43) (.tmp 45) 25 rfl rfl rfl hrun5 ?_)
    exact⟨⟨j+1,_,_,by omega,rfl,rfl,by simp,H9.out⟩,by simp[intOf];omega⟩
   ·have hbb:(co == core)=false:=by simpa using hb
    have HB:Hid (LiesAt w (wr.alloc (.cells #[.int .i64 co,.int .i64 fr,.int .i64 se,.int .i64 cx,.int .i64 t,.int .i64 d,.int .i64 p] 66)) (liesF (l.take j) late core 0) sv tv):=HS.out.grow (below_new _ _)
    clear HS
    go_wp2_with fail
    refine⟨⟨j+1,_,_,by omega,rfl,rfl,by simp,?_⟩,by simp[intOf];omega⟩
    show LiesAt _ _ _ _ _
    rw[liesF_snoc HX.out,if_neg hb,List.append_nil]
    exact HB.out
  ·have hje:j=l.length:=by omega
   subst hje
   have hji:¬ ((l.length:Nat):Int)<(l.length:Int):=by omega
   have hS:=HS.out
   rw[List.take_length]at hS
   have HS2:Hid (LiesAt w wr (liesF l late core 0) sv tv):=hS
   clear hS HS
   go_wp2_with fail
   refine bodyPost_ret (lies_ends rfl rfl) rfl ?_
   exact⟨_,_,rfl,HS2.out⟩
def coreF(l:List Pa)(late:List Int)(c:Nat)(all:List Int):Option (List Int) :=
 if liesF l late (c:Int) 0=[] then some all
 else if (responsesF ((liesF l late (c:Int) 0).map (·.2)) (List.replicate (liesF l late (c:Int) 0).length 0)).2.1=0 then some (putAll all ((liesF l late (c:Int) 0).map (·.1)) (responsesF ((liesF l late (c:Int) 0).map (·.2)) (List.replicate (liesF l late (c:Int) 0).length 0)).1) else none
def respC(l:List Pa)(late:List Int):Nat→Option (List Int)
 | 0=>some (List.replicate l.length 0)
 | c+1=>(respC l late c).bind (coreF l late c)
theorem respC_none{l:List Pa}{late:List Int}{n:Nat}(h:respC l late n=none):∀k,respC l late (n+k)=none
 | 0=>h
 | k+1=>by rw[show n+(k+1)=(n+k)+1 by omega,respC,respC_none h k];rfl
theorem respsFrom_len{l:List Ta}:∀(bs:List Int) (k:Nat) (acc:List Int),(respsFrom l bs k acc).2.1=0→(respsFrom l bs k acc).1.length=acc.length+bs.length
 | [],k,acc,_=>by simp[respsFrom]
 | b::r,k,acc,h=>by
  unfold respsFrom at h ⊢
  split at h
  ·next h9=>exact absurd h h9
  ·next h9 =>
   rw[if_neg h9,respsFrom_len r (k+1) _ h]
   simp
   omega
theorem responsesF_len{l:List Ta}{bs:List Int}(h:(responsesF l bs).2.1=0):(responsesF l bs).1.length=bs.length:=by
 unfold responsesF at h ⊢
 split at h
 ·next h9=>exact absurd h h9
 ·next h9 =>
  rw[if_neg h9]
  split at h
  ·cases h
  ·next h10 =>
   rw[if_neg h10,respsFrom_len bs 0 [] h]
   simp
structure RA (w W:World) (G n:Nat) (all:List Int):Prop where
 bel:Below w.heap.size w W
 row:W.heap[G]?=some (.cells (all.map (Value.int .i64)).toArray 3 (0,0))
 len:all.length=n
 low:w.heap.size≤G
theorem RA.lt{w W:World}{G n:Nat}{all:List Int}(h:RA w W G n all):G<W.heap.size:=(Array.getElem?_eq_some_iff.1 h.row).1
theorem RA.grow{w W W':World}{G n:Nat}{all:List Int}(h:RA w W G n all)(hb:Below W.heap.size W W'):RA w W' G n all:=⟨below_seq h.bel hb,(hb.block _ h.lt).trans h.row,h.len,h.low⟩
def fr0(xs:List (Nat × Ta)):List (Nat × Fr):=xs.map (fun y=>(y.1,⟨0,0,0,0⟩))
theorem fr0_map(xs:List (Nat × Ta)):(fr0 xs).map (fun y=>Value.int .i64 (y.1:Int))=xs.map (fun y=>Value.int .i64 (y.1:Int)):=by unfold fr0;simp
theorem responses_ends{w:World}{p q:Value}{a:Act}(h2:a.tmps[4]?.getD undef=p)(h3:a.tmps[5]?.getD undef=q) :
  (results Tryz.f90 a.tmps).run Tryz.prog w = .ok (.tuple #[p,q]) w:=by
 simp[results,Tryz.results90,go_sem,h2,h3]
theorem zeros_row{W:World}{g n:Nat}(h:W.heap[g]?=some (.cells (runCells n []).toArray 3 (0,0))):RowSl nuV W (List.replicate n 0) (.slice (some ⟨g,0,none⟩) n n):=by
 have h9:=row_ints (W:=W) (G:=g) (ts:=List.replicate n 0) (by rw[h];simp[runCells])
 rwa[List.length_replicate]at h9
def RespCPost(w:World)(l:List Pa)(late:List Int)(r:Ending)(w':World):Prop:=Below w.heap.size w w'∧((respC l late 4=none∧r = .returned (.tuple #[.slice none 0 0,.bool false]))∨∃all u,respC l late 4=some all∧r = .returned (.tuple #[u,.bool true])∧RowSl nuV w' all u∧NewSl w.heap.size u∧all.length=l.length)
set_option maxRecDepth 20000 in
set_option maxHeartbeats 16000000 in
theorem responsesC_any(w:World)(l:List Pa)(late:List Int)(v v2:Value)(hv:RowSl Pa.vals w l v)(ht:RowSl nuV w late v2)(h1:1≤l.length)(h8:l.length≤8)(hlen:late.length=l.length):Calls Tryz.prog 90 #[v,v2] w (RespCPost w l late):=by
 have HL:Hid (∀W (c:Nat),Below w.heap.size w W→Calls Tryz.prog 147 #[v,v2,.int .i64 (c:Int)] W fun r w'=>∃sv tv,r = .returned (.tuple #[sv,tv])∧LiesAt W w' (liesF l late (c:Int) 0) sv tv):=fun W c hb=>lies_any W l late v v2 c (hv.below hb) (ht.below hb) h1 h8 hlen
 obtain⟨ad,c,rfl⟩:=hv.len
 obtain⟨ad2,c2,rfl⟩:=ht.len
 rw[hlen]at HL ⊢
 clear hv ht hlen
 obtain⟨w3,hmk,hb3,hh3⟩:=make_ints w l.length (by omega)
 have H3:Hid (RA w w3 w.heap.size l.length (List.replicate l.length 0)):=⟨hb3,by rw[hh3];simp[runCells],List.length_replicate,Nat.le_refl _⟩
 obtain⟨G,hG⟩:∃G,w.heap.size=G:=⟨_,rfl⟩
 rw[hG]at hmk H3
 clear hb3 hh3
 go_enter Tryz.func90,Tryz.ntmps90
 go_wp2_with fail
 clear hmk hG
 go_loopw [17] (fun iv wr=>∃cn:Nat,cn≤4∧iv = .int .i64 (cn:Int)∧Hid (∃all,respC l late cn=some all∧RA w wr G l.length all)) (fun iv _=>4-(intOf iv).toNat)
 case atStart=>exact⟨0,by omega,rfl,⟨_,rfl,H3.out⟩⟩
 case round =>
  obtain⟨cn,hcn,rfl,HR⟩:=hrel
  clear H3
  obtain⟨all,hall,hra⟩:=HR.out
  by_cases hc4:cn<4
  ·have hci:(cn:Int)<4:=by omega
   have HA:Hid (respC l late cn=some all∧RA w wr G l.length all):=⟨hall,hra⟩
   have HLc:=HL.out wr cn hra.bel
   obtain⟨xs,hxs⟩:∃xs,liesF l late (cn:Int) 0=xs:=⟨_,rfl⟩
   rw[hxs]at HLc
   obtain⟨m,hm⟩:∃m,xs.length=m:=⟨_,rfl⟩
   have hm8:m≤8:=by rw[← hm,← hxs];exact Nat.le_trans (liesF_len _ _ _ _) h8
   have HXS:Hid (liesF l late (cn:Int) 0=xs∧xs.length=m∧respC l late (cn+1)=coreF l late cn all):=⟨hxs,hm,by rw[respC,hall];rfl⟩
   clear hall hra HR hxs hm
   go_upto_region 6 with (go_at_call 147;refine HLc.mono ?_;rintro r w5 ⟨sv,tv,rfl,hla⟩;obtain⟨as0,cs0,rfl⟩:=owns_value hla.st;obtain⟨at0,ct0,rfl⟩:=owns_value hla.tl;rw[HXS.out.2.1];have H5:Hid (LiesAt wr w5 xs (.slice as0 m cs0) (.slice at0 m ct0)):=(by rw[← HXS.out.2.1];exact hla);clear hla HLc)
   by_cases hm0:m=0
   ·subst hm0
    go_wp2_with fail
    refine⟨⟨cn+1,by omega,by simp,⟨all,?_,HA.out.2.grow H5.out.bel⟩⟩,by simp[intOf];omega⟩
    rw[HXS.out.2.2]
    unfold coreF
    rw[HXS.out.1,if_pos (List.eq_nil_of_length_eq_zero HXS.out.2.1)]
   have hmb:((m:Int) == 0)=false:=by simp;omega
   obtain⟨w6,hmk6,hb6,hh6⟩:=make_ints w5 m (by omega)
   have hrs:RowSl Ta.vals w5 (xs.map (·.2)) (.slice as0 m cs0):=own_rowSl (by have h9:=H5.out.st;rw[HXS.out.2.1]at h9;rw[List.length_map,HXS.out.2.1];exact h9)
   have HT:=Responses_any w6 (xs.map (·.2)) (List.replicate m 0) _ _ (by rw[List.length_map,HXS.out.2.1];omega) (hrs.below hb6) (zeros_row hh6)
   have hcel:=H5.out.tl
   rw[HXS.out.2.1]at hcel
   obtain⟨tg,tc,cur,he,hlow,-⟩:=own_cells hcel (by omega)
   cases he
   have HTL:Hid (∀q u,(xs.map (fun y=>Value.int .i64 (y.1:Int)))[q]?=some u→w6.cell? ⟨tg,q,none⟩=some u):=fun q u hq=>by
    have h9:=hcel.cells (g:=tg) rfl q u hq
    rw[Addr.add_lit,Nat.zero_add]at h9
    exact below_cell hb6 h9
   have H6:Hid (RA w w6 G l.length all∧G<w6.heap.size∧G<tg):=⟨(HA.out.2.grow H5.out.bel).grow hb6,(HA.out.2.grow (below_seq H5.out.bel hb6)).lt,Nat.lt_of_lt_of_le HA.out.2.lt hlow⟩
   have HN:Hid (respC l late cn=some all):=HA.out.1
   have HCF:Hid (respC l late (cn+1)=if (responsesF (xs.map (·.2)) (List.replicate m 0)).2.1=0 then some (putAll all (xs.map (·.1)) (responsesF (xs.map (·.2)) (List.replicate m 0)).1) else none):=by
    have h9:=HXS.out.2.2
    unfold coreF at h9
    rw[HXS.out.1,HXS.out.2.1,if_neg (fun e=>by have h10:=HXS.out.2.1;rw[e]at h10;simp at h10;omega)]at h9
    exact h9
   have HLen:Hid ((responsesF (xs.map (·.2)) (List.replicate m 0)).2.1=0→(responsesF (xs.map (·.2)) (List.replicate m 0)).1.length=m):=fun h=>by rw[responsesF_len h,List.length_replicate]
   generalize responsesF (xs.map (·.2)) (List.replicate m 0)=rf at *
   obtain⟨ts,z1,z2⟩:=rf
   dsimp only at HT HCF HLen
   clear hcel hrs hb6 hh6 H5 HA
   go_upto_region 8 with (go_at_call 40;refine HT.mono ?_;rintro r w7 ⟨u7,rfl,hrow7,hb7,hn7⟩;have H7:Hid (Below w6.heap.size w6 (w7.alloc (.cells #[.int .i64 z1,.int .i64 z2] 33))∧RowSl nuV (w7.alloc (.cells #[.int .i64 z1,.int .i64 z2] 33)) ts u7∧NewSl w6.heap.size u7):=⟨below_seq hb7 (below_new _ _),hrow7.below (below_new _ _),hn7⟩;clear hb7 hrow7 hn7 HT)
   have hnb:=heap_alloc_new w7 (.cells #[.int .i64 z1,.int .i64 z2] 33)
   generalize w7.alloc (.cells #[.int .i64 z1,.int .i64 z2] 33)=w8 at *
   generalize w7.heap.size=gf at *
   obtain⟨qs,-,ql⟩:=cells_of (l:=[_,_]) hnb
   have q0:=qs 0 _ rfl
   clear qs hnb hmk6
   by_cases hz:z1=0
   ·subst hz
    obtain⟨hb8,hrow8,hn8⟩:=H7.out
    have hlt:=HLen.out rfl
    obtain⟨ad5,c5,rfl,-,hc5,hr5⟩:=hrow8
    rcases hr5 with h9|⟨b5,o5,rfl,hr5⟩
    ·rw[h9]at hlt;simp at hlt;omega
    have hb5:G<b5:=Nat.lt_of_lt_of_le H6.out.2.1 (hn8 _ _ _ rfl)
    rw[hlt]at hc5 ⊢
    have hr8:=H6.out.1.grow hb8
    have hG:=H6.out.2.2
    have H8:Hid (L2 w w8 G tg b5 o5 l.length all (fr0 xs) ts):=⟨hr8.bel,hr8.row,fun q u hq=>by rw[fr0_map]at hq;exact below_cell hb8 (HTL.out q u hq),hr5,hr8.len⟩
    have HE:Hid (ts.length=m∧w.heap.size≤G):=⟨hlt,hr8.low⟩
    clear hb8 hr5 H7 HTL H6 hr8 hn8
    go_wp2_with fail
    go_loopw [43] (fun iv wr=>∃k:Nat,k≤m∧iv = .int .i64 (k:Int)∧Hid (∃al,L2 w wr G tg b5 o5 l.length al (fr0 xs) ts∧putAll al ((xs.map (·.1)).drop k) (ts.drop k)=putAll all (xs.map (·.1)) ts)) (fun iv _=>m-(intOf iv).toNat)
    case atStart=>exact⟨0,Nat.zero_le _,rfl,⟨_,H8.out,rfl⟩⟩
    case round =>
     obtain⟨k,hk,rfl,HK⟩:=hrel
     clear H8
     by_cases hkm:k<m
     ·obtain⟨al,hL,hput⟩:=HK.out
      obtain⟨y,hy,-⟩:=drop_at (l:=xs) (k:=k) (by have:=HXS.out.2.1;omega)
      obtain⟨tz,htz,hdz⟩:=drop_at (l:=ts) (k:=k) (by have:=HE.out.1;omega)
      have hyl:y.1<l.length:=by
       have h9:=(liesF_idx l late (cn:Int) 0 y (by rw[HXS.out.1];exact List.mem_of_getElem? hy)).2
       omega
      have ck:=hL.tl k (.int .i64 (y.1:Int)) (by rw[fr0_map,List.getElem?_map,hy];rfl)
      have cz:=nu_at hL.tm htz
      obtain⟨rc,rf,rl⟩:=cells_of (l:=al.map (Value.int .i64)) hL.row
      have r0:=rc y.1 _ (List.getElem?_eq_getElem (by rw[List.length_map,hL.len];exact hyl))
      have rf0:=rf y.1
      generalize (al.map (Value.int .i64))[y.1]'_=rold at r0
      have HP:Hid (L2 w (wr.setCell ⟨G,y.1,none⟩ (.int .i64 tz)) G tg b5 o5 l.length (al.set y.1 tz) (fr0 xs) ts∧putAll (al.set y.1 tz) ((xs.map (·.1)).drop (k+1)) (ts.drop (k+1))=putAll all (xs.map (·.1)) ts):=by
       refine⟨hL.put HE.out.2 hG hb5 _ _,?_⟩
       rw[← hput]
       have hyk:(xs.map (·.1))[k]?=some y.1:=by rw[List.getElem?_map,hy];rfl
       obtain⟨hk1,hk2⟩:=List.getElem?_eq_some_iff.1 hyk
       rw[List.drop_eq_getElem_cons hk1,hk2,hdz,putAll]
      clear hL hput HK rc rf hy htz hdz
      generalize y.1=yi at *
      have hki:(k:Int)<(m:Int):=by omega
      have hyi:(yi:Int)<(l.length:Int):=by omega
      have lg1:=World.block_lt_of_cell? _ _ ck
      have lg2:=World.block_lt_of_cell? _ _ cz
      go_wp2_with fail
      exact⟨⟨k+1,by omega,by simp,⟨_,HP.out.1,HP.out.2⟩⟩,by simp[intOf];omega⟩
     ·have hke:k=m:=by omega
      subst hke
      have hki:¬ ((k:Nat):Int)<(k:Int):=by omega
      have H9:Hid (∃al,respC l late (cn+1)=some al∧RA w wr G l.length al):=by
       obtain⟨al,hL,hput⟩:=HK.out
       rw[List.drop_eq_nil_of_le (by rw[List.length_map,HXS.out.2.1];omega)]at hput
       refine⟨al,?_,⟨hL.bel,hL.row,hL.len,HE.out.2⟩⟩
       rw[HCF.out,if_pos (by trivial),← hput]
       simp[putAll]
      clear HK
      go_wp2_with fail
      exact⟨⟨cn+1,by omega,by simp,H9.out⟩,by simp[intOf];omega⟩
   ·have hzb:(z1 != 0)=true:=by simpa using hz
    go_wp2_with fail
    refine bodyPost_ret (responses_ends rfl rfl) rfl ?_
    refine⟨(H6.out.1.grow H7.out.1).bel,.inl ⟨?_,rfl⟩⟩
    have h9:=HCF.out
    rw[if_neg hz]at h9
    have h10:=respC_none h9 (3-cn)
    rwa[show cn+1+(3-cn)=4 by omega]at h10
  ·have hce:cn=4:=by omega
   subst hce
   clear HR
   have HA:Hid (respC l late 4=some all∧RA w wr G l.length all):=⟨hall,hra⟩
   clear hall hra
   go_wp2_with fail
   refine bodyPost_ret (responses_ends rfl rfl) rfl ?_
   refine⟨HA.out.2.bel,.inr ⟨all,_,HA.out.1,rfl,?_,?_,HA.out.2.len⟩⟩
   ·have h9:=row_ints HA.out.2.row
    rw[HA.out.2.len]at h9
    exact h9
   ·intro a n c e
    cases e
    exact HA.out.2.low
structure PaOk (l:List Pa) (i:Nat) (x:Pa):Prop where
 co:0≤x.co∧x.co≤3
 se:0≤x.se∧x.se≤1000
 c:1≤x.c
 cd:x.c≤x.d
 dt:x.d≤x.t
 t:x.t≤10000
 p:0≤x.p∧x.p≤1000
 fr:(x.fr=-1∧x.se=0)∨(0≤x.fr∧x.fr<(i:Int)∧∃y,l[x.fr.toNat]?=some y∧x.t=y.t)
structure PsOk (l:List Pa):Prop where
 one:1≤l.length
 most:l.length≤8
 at_:∀i x,l[i]?=some x→PaOk l i x
theorem wrongP_ok{x:Pa}{a:List Pa}(h:wrongP x a=0):PaOk (a++[x]) a.length x:=by
 unfold wrongP at h
 by_cases h1:mayP x=false
 ·rw[if_pos h1]at h;cases h
 rw[if_neg h1]at h
 by_cases h2:within x.fr (-1) ((a.length:Int)-1)=false∨(x.fr=-1∧x.se≠0)
 ·rw[if_pos h2]at h;cases h
 rw[if_neg h2]at h
 by_cases h3:within x.d x.c x.t=false∨(x.fr≠-1∧x.t≠(a.getD x.fr.toNat paZ).t)
 ·rw[if_pos h3]at h;cases h
 simp only[mayP,within,Bool.and_eq_true,decide_eq_true_eq,Bool.not_eq_false]at h1
 rw[not_or]at h2 h3
 obtain⟨h2,h2'⟩:=h2
 obtain⟨h3,h3'⟩:=h3
 simp only[within,Bool.and_eq_true,decide_eq_true_eq,Bool.not_eq_false]at h2 h3
 refine⟨by omega,by omega,by omega,by omega,by omega,by omega,by omega,?_⟩
 by_cases hf:x.fr=-1
 ·refine .inl ⟨hf,?_⟩
  by_cases hs:x.se=0
  ·exact hs
  ·exact absurd ⟨hf,hs⟩ h2'
 ·refine .inr ⟨by omega,by omega,?_⟩
  have hlt:x.fr.toNat<a.length:=by omega
  refine⟨a[x.fr.toNat],by rw[List.getElem?_append_left hlt];exact List.getElem?_eq_getElem hlt,?_⟩
  by_cases ht:x.t=(a.getD x.fr.toNat paZ).t
  ·rw[ht,List.getD_eq_getElem?_getD,List.getElem?_eq_getElem hlt];rfl
  ·exact absurd ⟨hf,ht⟩ h3'
theorem PaOk.more{l r:List Pa}{i:Nat}{x:Pa}(h:PaOk l i x):PaOk (l++r) i x:=by
 refine⟨h.co,h.se,h.c,h.cd,h.dt,h.t,h.p,?_⟩
 rcases h.fr with h|⟨h1,h2,y,h3,h4⟩
 ·exact .inl h
 ·exact .inr ⟨h1,h2,y,by rw[List.getElem?_append_left (List.getElem?_eq_some_iff.1 h3).1];exact h3,h4⟩
theorem chkGo_ok:∀(r a:List Pa),(chkGo a r).1=0→(∀i x,a[i]?=some x→PaOk a i x)→∀i x,(a++r)[i]?=some x→PaOk (a++r) i x
 | [],a,_,ha=>by simpa using ha
 | x::r,a,h,ha=>by
  rw[chkGo]at h
  by_cases hw:wrongP x a≠0
  ·rw[if_pos hw]at h;exact absurd h hw
  rw[if_neg hw]at h
  have hw0:wrongP x a=0:=by
   rcases Classical.em (wrongP x a=0) with e|e
   ·exact e
   ·exact absurd e hw
  have:=chkGo_ok r (a++[x]) h (fun i y hy=>by
   by_cases hi:i<a.length
   ·rw[List.getElem?_append_left hi]at hy
    exact(ha i y hy).more
   ·have hi2:i=a.length:=by
     have:=(List.getElem?_eq_some_iff.1 hy).1
     simp at this
     omega
    subst hi2
    simp at hy
    subst hy
    exact wrongP_ok hw0)
  rw[List.append_assoc]at this
  exact this
theorem chkP_ok{l:List Pa}(h:(chkP l).1=0):PsOk l:=by
 unfold chkP at h
 by_cases hw:within (l.length:Int) 1 8=false
 ·rw[if_pos hw]at h;cases h
 rw[if_neg hw]at h
 simp only[within,Bool.and_eq_true,decide_eq_true_eq,Bool.not_eq_false]at hw
 exact⟨by omega,by omega,fun i x hx=>chkGo_ok l [] h (fun i x hx=>by simp at hx) i x hx⟩
def LeL(a b:List Int):Prop:=a.length=b.length∧∀(i:Nat) (x y:Int),a[i]?=some x→b[i]?=some y→x≤y
theorem LeL.refl(a:List Int):LeL a a:=⟨rfl,fun i x y h h'=>by rw[h]at h';cases h';exact Int.le_refl _⟩
theorem LeL.getD{a b:List Int}(h:LeL a b)(i:Nat):a.getD i 0≤b.getD i 0:=by
 rw[List.getD_eq_getElem?_getD,List.getD_eq_getElem?_getD]
 by_cases hi:i<a.length
 ·have hi':i<b.length:=by rw[← h.1];exact hi
  rw[List.getElem?_eq_getElem hi,List.getElem?_eq_getElem hi']
  exact h.2 i _ _ (List.getElem?_eq_getElem hi) (List.getElem?_eq_getElem hi')
 ·rw[List.getElem?_eq_none (by omega),List.getElem?_eq_none (by have:=h.1;omega)]
  exact Int.le_refl _
theorem LeL.set{a b:List Int}(h:LeL a b)(k:Nat){u v:Int}(huv:u≤v):LeL (a.set k u) (b.set k v):=by
 refine⟨by rw[List.length_set,List.length_set];exact h.1,fun i x y hx hy=>?_⟩
 rw[List.getElem?_set]at hx hy
 by_cases e:k=i
 ·rw[if_pos e]at hx hy
  split at hx
  ·split at hy
   ·cases hx;cases hy;exact huv
   ·cases hy
  ·cases hx
 ·rw[if_neg e]at hx hy
  exact h.2 i x y hx hy
theorem putAll_len:∀(is:List Nat) (ts a:List Int),(putAll a is ts).length=a.length
 | [],_,a=>by simp[putAll]
 | _::_,[],a=>by simp[putAll]
 | i::r,t::ts,a=>by rw[putAll,putAll_len r ts];simp
theorem putAll_le:∀(is:List Nat) (ts us a b:List Int),LeL ts us→LeL a b→LeL (putAll a is ts) (putAll b is us)
 | [],_,_,a,b,_,h=>by simpa[putAll] using h
 | _::_,[],us,a,b,ht,h=>by
  have:us=[]:=List.eq_nil_of_length_eq_zero (by rw[← ht.1];rfl)
  subst this
  simpa[putAll] using h
 | i::r,t::ts,[],a,b,ht,h=>by have:=ht.1;simp at this
 | i::r,t::ts,u::us,a,b,ht,h=>by
  rw[putAll,putAll]
  refine putAll_le r ts us _ _ ⟨by have:=ht.1;simpa using this,fun k x y hx hy=>ht.2 (k+1) x y hx hy⟩ (h.set i (ht.2 0 t u rfl rfl))
structure FrLe (a b:Fr):Prop where
 c:a.c=b.c
 t:a.t=b.t
 d:a.d=b.d
 j:a.j≤b.j
inductive FsLe:List Fr→List Fr→Prop
 | nil:FsLe [] []
 | cons {a b:Fr} {r s:List Fr}:FrLe a b→FsLe r s→FsLe (a::r) (b::s)
theorem FsLe.len{a b:List Fr}(h:FsLe a b):a.length=b.length:=by
 induction h with
 | nil=>rfl
 | cons _ _ ih=>simp[ih]
theorem FsLe.take{a b:List Fr}(h:FsLe a b):∀n,FsLe (a.take n) (b.take n):=by
 induction h with
 | nil=>intro n;simp;exact .nil
 | cons h _ ih=>intro n;cases n with
  | zero=>exact .nil
  | succ n=>exact .cons h (ih n)
theorem FsLe.drop{a b:List Fr}(h:FsLe a b):∀n,FsLe (a.drop n) (b.drop n):=by
 induction h with
 | nil=>intro n;simp;exact .nil
 | cons h hr ih=>intro n;cases n with
  | zero=>exact .cons h hr
  | succ n=>exact ih n
theorem FsLe.at_{a b:List Fr}(h:FsLe a b):∀(i:Nat) (x y:Fr),a[i]?=some x→b[i]?=some y→FrLe x y:=by
 induction h with
 | nil=>intro i x y h;simp at h
 | cons h _ ih=>intro i x y hx hy;cases i with
  | zero=>cases hx;cases hy;exact h
  | succ i=>exact ih i x y hx hy
theorem FsLe.held{a b:List Fr}(h:FsLe a b):heldF a=heldF b:=by
 induction h with
 | nil=>rfl
 | cons h _ ih=>simp only[heldF,ih,h.c]
theorem FsLe.snoc{a b:List Fr}{x y:Fr}(h:FsLe a b)(hx:FrLe x y):FsLe (a++[x]) (b++[y]):=by
 induction h with
 | nil=>exact .cons hx .nil
 | cons h _ ih=>exact .cons h ih
theorem upF_le{a b:Fr}(h:FrLe a b)(ha:okFr a)(w:Int):upF w a≤upF w b:=by
 unfold upF
 rw[← h.c,← h.t]
 have:=h.j
 obtain⟨h1,-,h3,-⟩:=ha
 exact Int.mul_le_mul_of_nonneg_right (Int.ediv_le_ediv (by omega) (by omega)) (by omega)
theorem dnF_le{a b:Fr}(h:FrLe a b)(ha:okFr a)(w:Int):dnF w a≤dnF w b:=by
 unfold dnF
 rw[← h.c,← h.t]
 have:=h.j
 obtain⟨h1,-,h3,-⟩:=ha
 have h5:=Int.ediv_le_ediv (c:=a.t) (a:=w+a.j) (b:=w+b.j) (by omega) (by omega)
 exact Int.mul_le_mul_of_nonneg_right (by omega) (by omega)
theorem sumF_le{f:Int→Fr→Int}{w:Int}(hf:∀a b,FrLe a b→okFr a→f w a≤f w b){a b:List Fr}(h:FsLe a b):(∀x∈a,okFr x)→sumF f w a≤sumF f w b:=by
 induction h with
 | nil=>intro _;exact Int.le_refl _
 | cons h _ ih =>
  intro ho
  have h1:=hf _ _ h (ho _ List.mem_cons_self)
  have h2:=ih (fun x hx=>ho x (List.mem_cons_of_mem _ hx))
  simp only[sumF]
  omega
theorem Fx.le{ask ask':Int→Int}{a v v':Int}(hm:Mo ask a)(ha:a≤ask a)(hle:∀w,a≤w→ask w≤ask' w)(h:Fx ask a (some v))(h':Fx ask' a (some v')):v≤v':=by
 obtain⟨g1,g2,g3,g4⟩:=h
 obtain⟨e1,e2,e3,e4⟩:=h'
 have hp:ask v'≤v':=by have:=hle v' e1;omega
 obtain⟨u,u1,u2,u3⟩:=hm.pre ha (v'-a).toNat v' (Nat.le_refl _) e1 hp
 by_cases hc:u<v
 ·exact absurd u3 (g4 u u1 hc)
 ·omega
theorem Tm.le{b:Int}{hd hd':List Fr}{m m':Fr}(hb:0≤b)(hh:FsLe hd hd')(hm:FrLe m m')(ok:∀x∈hd,okFr x)(okm:okFr m):∀ {q' q:Nat} {v v':Int},q≤q'→Tm b hd m q (some v)→Tm b hd' m' q' (some v')→v≤v'
 | 0,q,v,v',hq,h,h'=>by
  have:q=0:=by omega
  subst this
  cases h;cases h';exact Int.le_refl _
 | q'+1,q,v,v',hq,h,h'=>by
  cases h' with
  | next t' f' =>
   by_cases e:q=q'+1
   ·subst e
    cases h with
    | next t f =>
     have h1:=Tm.le hb hh hm ok okm (Nat.le_refl _) t t'
     have hmul:0≤(q':Int)*m.c:=Int.mul_nonneg (by omega) (by have:=okm.1;omega)
     have h2:=Fx.le (qAsk_mo (b:=b) (m:=m) (q:=(q':Int)) ok) (by have:=qAsk_low (b:=b) (m:=m) (q:=(q':Int)) (v:=0) ok (Int.le_refl _);omega) (fun w hw=>by
      unfold qAsk
      rw[← hm.c]
      have:=sumF_le (f:=dnF) (w:=w) (fun a b h ha=>dnF_le h ha w) hh ok
      omega) f f'
     have h3:=hm.j
     rw[← hm.t,← hm.c]
     omega
   ·have h1:=Tm.le hb hh hm ok okm (show q≤q' by omega) h t'
    omega
theorem Wst.le{hd hd' tl tl':List Fr}{m m':Fr}{v v':Int}(hh:FsLe hd hd')(hm:FrLe m m')(ht:FsLe tl tl')(ok:∀x∈hd,okFr x)(okm:okFr m)(h:Wst hd m tl (Option.some v))(h':Wst hd' m' tl' (Option.some v')):v≤v':=by
 cases h with
 | some f t=>cases h' with
  | some f' t' =>
   rw[← ht.held]at f' t'
   rename_i busy busy'
   have hb:=heldF_nonneg tl
   have h1:busy≤busy':=Fx.le (busyAsk_mo (b:=heldF tl) ok okm) (by have:=busyAsk_low (b:=heldF tl) (v:=1) ok okm (Int.le_refl _);have:=okm.1;omega) (fun w hw=>by
    unfold busyAsk
    have:=sumF_le (f:=upF) (w:=w) (fun a b h ha=>upF_le h ha w) (hh.snoc hm) (fun x hx=>by
     rcases List.mem_append.1 hx with hx|hx
     ·exact ok x hx
     ·simp at hx;exact hx ▸ okm)
    omega) f f'
   refine Tm.le hb hh hm ok okm ?_ t t'
   have hk:kinds m busy≤kinds m' busy':=by
    unfold kinds
    rw[← hm.t]
    have:=hm.j
    exact Int.ediv_le_ediv (by have:=okm.2.2.1;omega) (by omega)
   omega
theorem TmA.ok{l:List Fr}{ts:List Int}{e:Int × Int}(h:TmA l ts e)(h0:e.1=0):(∀x∈l,okFr x)∧TmsTo l ts∧ts.length=l.length:=by
 rcases h with ⟨h1,-,h2⟩|⟨h1,h2⟩
 ·rw[h2]at h0;exact absurd h0 h1
 ·refine⟨(chkN_ok h1).2.2.1,?_,h2.len h0⟩
  rcases h2 with ⟨h3,-⟩|⟨-,us,-,-,h3⟩
  ·exact h3
  ·rw[h3]at h0;cases h0
theorem TmA.le{l l':List Fr}{ts ts':List Int}{e e':Int × Int}(hl:FsLe l l')(h:TmA l ts e)(h':TmA l' ts' e')(h0:e.1=0)(h0':e'.1=0):LeL ts ts':=by
 obtain⟨ok,tm,len⟩:=h.ok h0
 obtain⟨-,tm',len'⟩:=h'.ok h0'
 refine⟨by rw[len,len',hl.len],fun i x y hx hy=>?_⟩
 have hi:i<l.length:=by rw[← len];exact(List.getElem?_eq_some_iff.1 hx).1
 have hi':i<l'.length:=by rw[← hl.len];exact hi
 have w1:=(tm.2 i _ x (List.getElem?_eq_getElem hi) hx).1
 have w2:=(tm'.2 i _ y (List.getElem?_eq_getElem hi') hy).1
 exact Wst.le (hl.take i) (hl.at_ i _ _ (List.getElem?_eq_getElem hi) (List.getElem?_eq_getElem hi')) (hl.drop (i+1)) (fun x hx=>ok x (List.mem_of_mem_take hx)) (ok _ (List.getElem_mem hi)) w1 w2
theorem frFrom_le{tk tk':List Int}(h:LeL tk tk'):∀(l:List Pa) (k:Nat),(frFrom l tk k).map (·.1)=(frFrom l tk' k).map (·.1)∧FsLe ((frFrom l tk k).map (·.2)) ((frFrom l tk' k).map (·.2))
 | [],k=>⟨rfl,.nil⟩
 | x::r,k=>by
  obtain⟨h1,h2⟩:=frFrom_le h r (k+1)
  unfold frFrom
  by_cases hx:x.fr≠-1∧x.se≠0
  ·rw[if_pos hx,if_pos hx]
   refine⟨by simp[h1],?_⟩
   simp only[List.map_cons,List.cons_append,List.nil_append]
   exact .cons ⟨rfl,rfl,rfl,h.getD _⟩ h2
  ·rw[if_neg hx,if_neg hx]
   exact⟨by simpa using h1,by simpa using h2⟩
theorem lat0_le{tk tk':List Int}(h:LeL tk tk')(l:List Pa):LeL (lat0 l tk) (lat0 l tk'):=by
 refine⟨by rw[lat0_len,lat0_len],fun i x y hx hy=>?_⟩
 unfold lat0 at hx hy
 rw[List.getElem?_map]at hx hy
 cases e:l[i]? with
 | none=>rw[e]at hx;cases hx
 | some z =>
  rw[e]at hx hy
  simp only[Option.map_some,Option.some.injEq]at hx hy
  rw[← hx,← hy]
  split
  ·exact Int.le_refl _
  ·exact h.getD _
theorem LatR.le{l:List Pa}{tk tk' late late':List Int}(h:LeL tk tk')(hl:LatR l tk (some late))(hl':LatR l tk' (some late')):LeL late late':=by
 obtain⟨hi,hf⟩:=frFrom_le h l 0
 have hlen:(frsP l tk).length=(frsP l tk').length:=by
  have:=congrArg List.length hi
  simpa[frsP] using this
 rcases hl with ⟨h1,h2⟩|⟨h1,ts,e,h2,⟨-,h3⟩|⟨h3,h4⟩⟩
 ·rcases hl' with ⟨g1,g2⟩|⟨g1,-⟩
  ·cases h2;cases g2
   exact lat0_le h l
  ·rw[h1]at hlen
   exact absurd (List.eq_nil_of_length_eq_zero hlen.symm) g1
 ·cases h3
 ·rcases hl' with ⟨g1,-⟩|⟨g1,us,f,g2,⟨-,g3⟩|⟨g3,g4⟩⟩
  ·rw[g1]at hlen
   exact absurd (List.eq_nil_of_length_eq_zero hlen) h1
  ·cases g3
  ·cases h4;cases g4
   have hi2:(frsP l tk).map (·.1)=(frsP l tk').map (·.1):=hi
   rw[hi2]
   exact putAll_le _ _ _ _ _ (TmA.le hf h2 g2 h3 g3) (lat0_le h l)
def upP(w late:Int)(x:Pa):Int:=(w+late+x.t-1) / x.t*x.c
def sumP(i:Nat)(xi:Pa)(late:List Int)(w:Int):List Pa→Nat→Int
 | [],_=>0
 | x::r,k=>(if k≠i∧x.co=xi.co∧xi.p≤x.p then upP w (late.getD k 0) x else 0)+sumP i xi late w r (k+1)
def wPx(l:List Pa)(late:List Int)(i:Nat)(x:Pa):Int:=wOf (fun w=>x.c+sumP i x late w l 0) (late.getD i 0) x.d
theorem oth_sum{A:Nat→Bool}{k i:Nat}{xi:Pa}{late:List Int}{w:Int}:∀(r:List Pa) (j kk:Nat),(∀(q:Nat) (y:Nat × Ta),(liesF r late xi.co j)[q]?=some y→(kk+q=k↔y.1=i)∧(A (kk+q)=true↔xi.p≤y.2.p))→sumO w (othF A k ((liesF r late xi.co j).map (·.2)) kk)=sumP i xi late w r j
 | [],j,kk,_=>rfl
 | x::r,j,kk,h=>by
  unfold liesF at h ⊢
  unfold sumP
  by_cases hc:x.co=xi.co
  ·rw[if_pos hc]at h ⊢
   simp only[List.cons_append,List.nil_append,List.map_cons]at h ⊢
   obtain⟨h1,h2⟩:=h 0 _ rfl
   rw[Nat.add_zero]at h1 h2
   dsimp only at h1 h2
   have ih:=oth_sum (A:=A) (k:=k) (i:=i) (w:=w) r (j+1) (kk+1) (fun q y hq=>by
    have:=h (q+1) y hq
    rwa[show kk+(q+1)=kk+1+q by omega]at this)
   unfold othF
   by_cases hA:kk≠k∧A kk=true
   ·rw[if_pos hA,if_pos ⟨fun e=>hA.1 (h1.2 e),hc,h2.1 hA.2⟩]
    unfold sumO
    rw[ih]
    rfl
   ·rw[if_neg hA,if_neg (fun⟨e1,_,e3⟩=>hA ⟨fun e=>e1 (h1.1 e),h2.2 e3⟩),ih]
    omega
  ·rw[if_neg hc]at h ⊢
   rw[if_neg (fun⟨_,e,_⟩=>hc e)]
   simp only[List.nil_append]at h ⊢
   rw[oth_sum (A:=A) (k:=k) (i:=i) (w:=w) r (j+1) kk h]
   omega
theorem liesF_mem:∀(l:List Pa) (late:List Int) (co:Int) (k:Nat) (y:Nat × Ta),y∈liesF l late co k→∃q x,y.1=k+q∧l[q]?=some x∧x.co=co∧y.2=taP y.1 x (late.getD y.1 0)
 | [],_,_,_,y,hy=>by simp[liesF]at hy
 | x::r,late,co,k,y,hy=>by
  rw[liesF,List.mem_append]at hy
  rcases hy with hy|hy
  ·split at hy
   ·next h =>
    rw[List.mem_singleton.1 hy]
    exact⟨0,x,rfl,rfl,h,rfl⟩
   ·simp at hy
  ·obtain⟨q,z,h1,h2,h3,h4⟩:=liesF_mem r late co (k+1) y hy
   exact⟨q+1,z,by omega,h2,h3,h4⟩
theorem liesF_has:∀(l:List Pa) (late:List Int) (co:Int) (k i:Nat) (x:Pa),l[i]?=some x→x.co=co→(k+i,taP (k+i) x (late.getD (k+i) 0))∈liesF l late co k
 | [],_,_,_,i,x,hx,_=>by simp at hx
 | z::r,late,co,k,0,x,hx,hc=>by
  cases hx
  rw[liesF,if_pos hc]
  simp
 | z::r,late,co,k,i+1,x,hx,hc=>by
  have:=liesF_has r late co (k+1) i x hx hc
  rw[liesF,List.mem_append]
  rw[show k+(i+1)=k+1+i by omega]
  exact .inr this
theorem liesF_inc:∀(l:List Pa) (late:List Int) (co:Int) (k:Nat),(liesF l late co k).Pairwise (fun a b=>a.1<b.1)
 | [],_,_,_=>by simp[liesF]
 | x::r,late,co,k=>by
  have ih:=liesF_inc r late co (k+1)
  rw[liesF]
  split
  ·refine List.pairwise_cons.2 ⟨fun y hy=>?_,ih⟩
   have:=(liesF_idx r late co (k+1) y hy).1
   show k<y.1
   omega
  ·exact ih
theorem inc_pos{xs:List (Nat × Ta)}(h:xs.Pairwise (fun a b=>a.1<b.1)){p q:Nat}{y z:Nat × Ta}(hy:xs[p]?=some y)(hz:xs[q]?=some z):q=p↔z.1=y.1:=by
 obtain⟨hp,rfl⟩:=List.getElem?_eq_some_iff.1 hy
 obtain⟨hq,rfl⟩:=List.getElem?_eq_some_iff.1 hz
 rw[List.pairwise_iff_getElem]at h
 constructor
 ·rintro rfl;rfl
 ·intro e
  rcases Nat.lt_trichotomy p q with hlt|hlt|hlt
  ·have:=h p q hp hq hlt;omega
  ·exact hlt.symm
  ·have:=h q p hq hp hlt;omega
theorem resp_is{l:List Pa}{late:List Int}{co:Int}{k i:Nat}{x:Pa}{lt:Int}(hk:(liesF l late co 0)[k]?=some (i,taP i x lt))(hc:x.co=co)(hl:late.getD i 0=lt):respR ((liesF l late co 0).map (·.2)) k 0=wPx l late i x:=by
 subst hc
 have hT:Tk ((liesF l late x.co 0).map (·.2)) k=taP i x lt:=Tk_at (by rw[List.getElem?_map,hk];rfl)
 unfold respR worstF wPx
 rw[hT,hl]
 have e:(askF ((taP i x lt).c+0) (othF (aheadP ((liesF l late x.co 0).map (·.2)) k) k ((liesF l late x.co 0).map (·.2)) 0))=fun w=>x.c+sumP i x late w l 0:=by
  funext w
  unfold askF
  rw[oth_sum (i:=i) (xi:=x) (late:=late) l 0 0 (fun q y hy=>?_)]
  ·show x.c+0+_=_
   omega
  ·rw[Nat.zero_add]
   refine⟨inc_pos (liesF_inc l late x.co 0) hk hy,?_⟩
   unfold aheadP
   rw[hT,Tk_at (l:=(liesF l late x.co 0).map (·.2)) (x:=y.2) (by rw[List.getElem?_map,hy];rfl),decide_eq_true_eq]
   rfl
 rw[e]
 rfl
theorem names_is:(List.range 8).all (fun a=>isNm (nmP a) && (List.range 8).all (fun b=>sameNm (nmP a) (nmP b) == decide (a=b)))=true:=by kernel_rfl
theorem nm_ok{a:Nat}(h:a<8):isNm (nmP a)=true:=by
 have:=List.all_eq_true.1 names_is a (List.mem_range.2 h)
 simp only[Bool.and_eq_true]at this
 exact this.1
theorem nm_same{a b:Nat}(h:a<8)(hb:b<8)(e:sameNm (nmP a) (nmP b)=true):a=b:=by
 have:=List.all_eq_true.1 names_is a (List.mem_range.2 h)
 simp only[Bool.and_eq_true]at this
 have:=List.all_eq_true.1 this.2 b (List.mem_range.2 hb)
 rw[e]at this
 simpa using this
attribute [local irreducible] nmP
theorem taP_nm(k:Nat)(x:Pa)(lt:Int):(taP k x lt).nm=nmP k:=rfl
theorem taP_stands{k:Nat}{x:Pa}{lt:Int}(h:1≤x.c∧x.c≤10000∧1≤x.t∧x.t≤10000∧1≤x.d∧x.d≤10000∧0≤lt∧lt≤10000∧0≤x.p∧x.p≤1000):stands (taP k x lt)=true:=by
 have e:stands (taP k x lt)=(within x.c 1 10000 && within x.t 1 10000 && within x.d 1 10000 && within lt 0 10000 && within 0 0 10000 && within x.p 0 1000):=rfl
 rw[e]
 unfold within
 simp
 omega
theorem chkFrom_all{l:List Ta}:∀(n k:Nat),k+n=l.length→(∀(q:Nat) (x:Ta),l[q]?=some x→wrongF x (l.take q)=0)→chkFrom l (l.drop k) k=(0,0)
 | 0,k,hn,h=>by rw[List.drop_eq_nil_of_le (by omega)];rfl
 | n+1,k,hn,h=>by
  obtain⟨x,hx,hd⟩:=drop_at (l:=l) (k:=k) (by omega)
  rw[chkFrom_at hd,if_pos (h k x hx)]
  exact chkFrom_all n (k+1) (by omega) h
theorem ordFrom_none:∀(l:List Ta) (k:Nat),(∀x∈l,x.d≤x.t)→ordFrom l k=-1
 | [],_,_=>rfl
 | x::r,k,h=>by
  rw[ordFrom,if_neg (by have:=h x List.mem_cons_self;omega)]
  exact ordFrom_none r (k+1) (fun y hy=>h y (List.mem_cons_of_mem _ hy))
def LtOk(l:List Pa)(late:List Int):Prop:=late.length=l.length∧∀i:Nat,0≤late.getD i 0∧late.getD i 0≤10000
theorem chkX_lies{l:List Pa}{late:List Int}{co:Int}(hok:PsOk l)(hl:LtOk l late)(hne:liesF l late co 0≠[]):(chkX ((liesF l late co 0).map (·.2))).1=0:=by
 have hlen:(liesF l late co 0).length≤8:=Nat.le_trans (liesF_len _ _ _ _) hok.most
 have hpos:(liesF l late co 0).length≠0:=fun e=>hne (List.eq_nil_of_length_eq_zero e)
 have hinc:=liesF_inc l late co 0
 have hm:=liesF_mem l late co 0
 have hi:=liesF_idx l late co 0
 generalize liesF l late co 0=xs at *
 have hF:chkF (xs.map (·.2))=(0,0):=by
  unfold chkF
  rw[if_neg (by rw[List.length_map];omega)]
  have:=chkFrom_all (l:=xs.map (·.2)) xs.length 0 (by simp) (fun q z hz=>by
   rw[List.getElem?_map]at hz
   cases hy:xs[q]? with
   | none=>rw[hy]at hz;cases hz
   | some y =>
    rw[hy]at hz
    simp only[Option.map_some,Option.some.injEq]at hz
    subst hz
    obtain⟨i,x,h1,h2,h3,h4⟩:=hm y (List.mem_of_getElem? hy)
    have hy8:=hi y (List.mem_of_getElem? hy)
    have hx:=hok.at_ i x h2
    have hj:=hl.2 y.1
    rw[h4]
    unfold wrongF
    have hn:isNm (taP y.1 x (late.getD y.1 0)).nm=true:=by
     have h9:=nm_ok (a:=y.1) (by have:=hok.most;omega)
     rw[taP_nm]
     exact h9
    rw[if_neg (by rw[hn];simp)]
    have ha:((xs.map (·.2)).take q).any (fun z=>sameNm z.nm (taP y.1 x (late.getD y.1 0)).nm)≠true:=by
     intro ha
     rw[List.any_eq_true]at ha
     obtain⟨z,hz,hs⟩:=ha
     rw[← List.map_take,List.mem_map]at hz
     obtain⟨u,hu,rfl⟩:=hz
     obtain⟨p,hp⟩:=List.getElem?_of_mem hu
     have hpq:p<q:=by
      have:=(List.getElem?_eq_some_iff.1 hp).1
      rw[List.length_take]at this
      omega
     rw[List.getElem?_take_of_lt hpq]at hp
     obtain⟨i',x',g1,g2,g3,g4⟩:=hm u (List.mem_of_getElem? hp)
     have hu8:=hi u (List.mem_of_getElem? hp)
     rw[g4]at hs
     have:=nm_same (a:=u.1) (b:=y.1) (by have:=hok.most;omega) (by have:=hok.most;omega) (by rw[taP_nm,taP_nm]at hs;exact hs)
     have:=(inc_pos hinc hy hp).2 this
     omega
    rw[if_neg ha]
    have hs:stands (taP y.1 x (late.getD y.1 0))=true:=by
     obtain⟨a1,a2,a3,a4,a5,a6,a7,-⟩:=hx
     exact taP_stands (by omega)
    rw[if_neg (by rw[hs];simp),if_neg (by have:=hx.cd;show ¬ x.d<x.c;omega)])
  exact this
 unfold chkX
 rw[if_neg (by rw[hF];simp),if_neg]
 rw[ordFrom_none]
 ·omega
 ·intro z hz
  rw[List.mem_map]at hz
  obtain⟨y,hy,rfl⟩:=hz
  obtain⟨i,x,h1,h2,h3,h4⟩:=hm y hy
  rw[h4]
  exact(hok.at_ i x h2).dt
theorem respF_at{l:List Ta}{k:Nat}(hk:k<l.length):respF l (k:Int) 0=if respR l k 0=0 then (0,(13,(k:Int))) else (respR l k 0,(0,0)):=by
 unfold respF
 rw[if_neg (by omega),Int.toNat_natCast]
theorem resps_all{l:List Ta}:∀(n k:Nat) (acc:List Int),k+n=l.length→(∀q,k≤q→q<l.length→respR l q 0≠0)→respsFrom l (List.replicate n 0) k acc=(acc++(List.range n).map (fun q=>respR l (k+q) 0),(0,0))
 | 0,k,acc,_,_=>by simp[respsFrom]
 | n+1,k,acc,hn,h=>by
  rw[List.replicate_succ,respsFrom,respF_at (by omega),if_neg (h k (Nat.le_refl _) (by omega)),if_neg (by simp),resps_all n (k+1) _ (by omega) (fun q hq=>h q (by omega)),List.range_succ_eq_map]
  simp[Function.comp_def,Nat.add_assoc,Nat.add_comm 1]
theorem resps_bad{l:List Ta}:∀(n k:Nat) (acc:List Int),k+n=l.length→(∃q,k≤q∧q<l.length∧respR l q 0=0)→(respsFrom l (List.replicate n 0) k acc).2.1≠0
 | 0,k,acc,hn,⟨q,h1,h2,_⟩=>by omega
 | n+1,k,acc,hn,⟨q,h1,h2,h3⟩=>by
  rw[List.replicate_succ,respsFrom,respF_at (by omega)]
  by_cases hr:respR l k 0=0
  ·rw[if_pos hr,if_pos (by simp)]
   simp
  ·rw[if_neg hr,if_neg (by simp)]
   refine resps_bad n (k+1) _ (by omega) ⟨q,?_,h2,h3⟩
   rcases Nat.lt_or_ge k q with h|h
   ·exact h
   ·exact absurd (show respR l k 0=0 by rw[show k=q by omega];exact h3) hr
theorem putAll_out:∀(is:List Nat) (ts a:List Int) (j:Nat),j ∉ is→(putAll a is ts)[j]?=a[j]?
 | [],_,a,j,_=>by simp[putAll]
 | _::_,[],a,j,_=>by simp[putAll]
 | i::r,t::ts,a,j,h=>by
  rw[putAll,putAll_out r ts _ j (fun e=>h (List.mem_cons_of_mem _ e)),List.getElem?_set_ne (show i≠j from fun e=>h (by rw[e];exact List.mem_cons_self))]
theorem putAll_in:∀(is:List Nat) (ts a:List Int) (q j:Nat) (t:Int),is.Pairwise (· < ·)→is[q]?=some j→ts[q]?=some t→j<a.length→(putAll a is ts)[j]?=some t
 | [],_,a,q,j,t,_,h,_,_=>by simp at h
 | _::_,[],a,q,j,t,_,_,h,_=>by simp at h
 | i::r,u::ts,a,0,j,t,hp,hi,ht,hj=>by
  cases hi;cases ht
  rw[putAll,putAll_out r ts _ i (fun e=>by have:=(List.pairwise_cons.1 hp).1 i e;omega)]
  rw[List.getElem?_set_self hj]
 | i::r,u::ts,a,q+1,j,t,hp,hi,ht,hj=>by
  rw[putAll]
  exact putAll_in r ts _ q j t (List.pairwise_cons.1 hp).2 hi ht (by rw[List.length_set];exact hj)
theorem coreF_ok{l:List Pa}{late all:List Int}{c:Nat}(hok:PsOk l)(hl:LtOk l late)(hlen:all.length=l.length)(h:∀(i:Nat) (x:Pa),l[i]?=some x→x.co=(c:Int)→wPx l late i x≠0):∃all',coreF l late c all=some all'∧all'.length=l.length∧∀(i:Nat) (x:Pa),l[i]?=some x→all'[i]?=if x.co=(c:Int) then some (wPx l late i x) else all[i]?:=by
 unfold coreF
 by_cases hne:liesF l late (c:Int) 0=[]
 ·rw[if_pos hne]
  refine⟨all,rfl,hlen,fun i x hx=>?_⟩
  rw[if_neg]
  intro hc
  have:=liesF_has l late (c:Int) 0 i x hx hc
  rw[hne]at this
  simp at this
 rw[if_neg hne]
 have hx0:=chkX_lies hok hl hne
 have hget:∀(q:Nat),q<(liesF l late (c:Int) 0).length→∃i x,(liesF l late (c:Int) 0)[q]?=some (i,taP i x (late.getD i 0))∧l[i]?=some x∧x.co=(c:Int)∧respR ((liesF l late (c:Int) 0).map (·.2)) q 0=wPx l late i x:=fun q hq=>by
  obtain⟨i,x,h1,h2,h3,h4⟩:=liesF_mem l late (c:Int) 0 _ (List.getElem_mem hq)
  rw[Nat.zero_add]at h1
  rw[← h1]at h2
  have e:(liesF l late (c:Int) 0)[q]?=some ((liesF l late (c:Int) 0)[q].1,taP (liesF l late (c:Int) 0)[q].1 x (late.getD (liesF l late (c:Int) 0)[q].1 0)):=by
   rw[List.getElem?_eq_getElem hq,← h4]
  exact⟨_,x,e,h2,h3,resp_is e h3 rfl⟩
 have hr:responsesF ((liesF l late (c:Int) 0).map (·.2)) (List.replicate (liesF l late (c:Int) 0).length 0)=((List.range (liesF l late (c:Int) 0).length).map (fun q=>respR ((liesF l late (c:Int) 0).map (·.2)) q 0),(0,0)):=by
  unfold responsesF
  rw[if_neg (by rw[hx0];simp),if_neg (by simp),resps_all _ 0 [] (by simp) (fun q _ hq=>?_)]
  ·simp
  ·rw[List.length_map]at hq
   obtain⟨i,x,-,h2,h3,h4⟩:=hget q hq
   rw[h4]
   exact h i x h2 h3
 rw[hr]
 dsimp only
 rw[if_pos rfl]
 refine⟨_,rfl,by rw[putAll_len];exact hlen,fun i x hx=>?_⟩
 by_cases hc:x.co=(c:Int)
 ·rw[if_pos hc]
  have hm:=liesF_has l late (c:Int) 0 i x hx hc
  rw[Nat.zero_add]at hm
  obtain⟨q,hq⟩:=List.getElem?_of_mem hm
  have hql:=(List.getElem?_eq_some_iff.1 hq).1
  refine putAll_in _ _ _ q i _ ?_ (by rw[List.getElem?_map,hq];rfl) ?_ (by rw[hlen];exact(List.getElem?_eq_some_iff.1 hx).1)
  ·rw[List.pairwise_map]
   exact liesF_inc l late (c:Int) 0
  ·rw[List.getElem?_map,List.getElem?_range hql,Option.map_some,resp_is hq hc rfl]
 ·rw[if_neg hc]
  refine putAll_out _ _ _ _ (fun e=>?_)
  rw[List.mem_map]at e
  obtain⟨y,hy,rfl⟩:=e
  obtain⟨i',x',h1,h2,h3,-⟩:=liesF_mem l late (c:Int) 0 y hy
  rw[Nat.zero_add]at h1
  rw[h1,h2]at hx
  cases hx
  exact hc h3
theorem coreF_bad{l:List Pa}{late all:List Int}{c i:Nat}{x:Pa}(hok:PsOk l)(hl:LtOk l late)(hx:l[i]?=some x)(hc:x.co=(c:Int))(h:wPx l late i x=0):coreF l late c all=none:=by
 have hm:=liesF_has l late (c:Int) 0 i x hx hc
 rw[Nat.zero_add]at hm
 have hne:liesF l late (c:Int) 0≠[]:=fun e=>by rw[e]at hm;simp at hm
 obtain⟨q,hq⟩:=List.getElem?_of_mem hm
 unfold coreF
 rw[if_neg hne,if_neg]
 unfold responsesF
 rw[if_neg (by rw[chkX_lies hok hl hne];simp),if_neg (by simp)]
 exact resps_bad _ 0 [] (by simp) ⟨q,Nat.zero_le _,by rw[List.length_map];exact(List.getElem?_eq_some_iff.1 hq).1,by rw[resp_is hq hc rfl];exact h⟩
def RsR(l:List Pa)(late:List Int)(res:Option (List Int)):Prop :=
 (res=none∧∃(i:Nat) (x:Pa),l[i]?=some x∧wPx l late i x=0) ∨
 ∃all,res=some all∧all.length=l.length∧∀(i:Nat) (x:Pa),l[i]?=some x→all[i]?=some (wPx l late i x)∧wPx l late i x≠0
theorem respC_is{l:List Pa}{late:List Int}(hok:PsOk l)(hl:LtOk l late):RsR l late (respC l late 4):=by
 by_cases hb:∃(i:Nat) (x:Pa),l[i]?=some x∧wPx l late i x=0
 ·refine .inl ⟨?_,hb⟩
  obtain⟨i,x,hx,h0⟩:=hb
  have hco:=(hok.at_ i x hx).co
  obtain⟨c,hc⟩:∃c:Nat,x.co=(c:Int):=⟨x.co.toNat,by omega⟩
  have h1:respC l late (c+1)=none:=by
   rw[respC]
   cases respC l late c with
   | none=>rfl
   | some all=>exact coreF_bad hok hl hx hc h0
  have:=respC_none h1 (3-c)
  rwa[show c+1+(3-c)=4 by omega]at this
 ·right
  have key:∀c:Nat,∃all,respC l late c=some all∧all.length=l.length∧∀(i:Nat) (x:Pa),l[i]?=some x→all[i]?=if x.co<(c:Int) then some (wPx l late i x) else some 0:=by
   intro c
   induction c with
   | zero =>
    refine⟨_,rfl,List.length_replicate,fun i x hx=>?_⟩
    have:=(hok.at_ i x hx).co
    rw[if_neg (by omega),List.getElem?_replicate,if_pos (List.getElem?_eq_some_iff.1 hx).1]
   | succ c ih =>
    obtain⟨all,h1,h2,h3⟩:=ih
    obtain⟨all',g1,g2,g3⟩:=coreF_ok (all:=all) (c:=c) hok hl h2 (fun i x hx _ e=>hb ⟨i,x,hx,e⟩)
    refine⟨all',by rw[respC,h1];exact g1,g2,fun i x hx=>?_⟩
    rw[g3 i x hx]
    by_cases e:x.co=(c:Int)
    ·rw[if_pos e,if_pos (by omega)]
    ·rw[if_neg e,h3 i x hx]
     by_cases e2:x.co<(c:Int)
     ·rw[if_pos e2,if_pos (by omega)]
     ·rw[if_neg e2,if_neg (by omega)]
  obtain⟨all,h1,h2,h3⟩:=key 4
  refine⟨all,h1,h2,fun i x hx=>⟨?_,fun e=>hb ⟨i,x,hx,e⟩⟩⟩
  have:=(hok.at_ i x hx).co
  rw[h3 i x hx,if_pos (by omega)]
theorem upP_le{w v a b:Int}{x:Pa}(ht:1≤x.t)(hc:0≤x.c)(hw:w≤v)(h:a≤b):upP w a x≤upP v b x:=by
 unfold upP
 exact Int.mul_le_mul_of_nonneg_right (Int.ediv_le_ediv (by omega) (by omega)) hc
theorem upP_nonneg{w a:Int}{x:Pa}(ht:1≤x.t)(hc:0≤x.c)(hw:0≤w)(ha:0≤a):0≤upP w a x:=by
 unfold upP
 exact Int.mul_nonneg (Int.ediv_nonneg (by omega) (by omega)) hc
theorem sumP_le{i:Nat}{xi:Pa}{la lb:List Int}{w v:Int}(hw:w≤v)(hl:LeL la lb):∀(l:List Pa) (k:Nat),(∀x∈l,1≤x.t∧0≤x.c)→sumP i xi la w l k≤sumP i xi lb v l k
 | [],_,_=>Int.le_refl _
 | x::r,k,h=>by
  have h1:=sumP_le (i:=i) (xi:=xi) hw hl r (k+1) (fun y hy=>h y (List.mem_cons_of_mem _ hy))
  have h2:=upP_le (h x List.mem_cons_self).1 (h x List.mem_cons_self).2 hw (hl.getD k)
  unfold sumP
  split<;>omega
theorem sumP_nonneg{i:Nat}{xi:Pa}{la:List Int}{w:Int}(hw:0≤w)(hl:∀i:Nat,0≤la.getD i 0):∀(l:List Pa) (k:Nat),(∀x∈l,1≤x.t∧0≤x.c)→0≤sumP i xi la w l k
 | [],_,_=>Int.le_refl _
 | x::r,k,h=>by
  have h1:=sumP_nonneg (i:=i) (xi:=xi) hw hl r (k+1) (fun y hy=>h y (List.mem_cons_of_mem _ hy))
  have h2:=upP_nonneg (h x List.mem_cons_self).1 (h x List.mem_cons_self).2 hw (hl k)
  unfold sumP
  split<;>omega
theorem PsOk.tc{l:List Pa}(h:PsOk l):∀x∈l,1≤x.t∧0≤x.c:=fun x hx=>by
 obtain⟨i,hi⟩:=List.getElem?_of_mem hx
 have:=h.at_ i x hi
 have h1:=this.c
 have h2:=this.cd
 have h3:=this.dt
 omega
theorem wPx_le{l:List Pa}{la lb:List Int}{i:Nat}{x:Pa}(hok:PsOk l)(hx:l[i]?=some x)(ha:LtOk l la)(hl:LeL la lb)(h:wPx l la i x≠0)(h':wPx l lb i x≠0):wPx l la i x≤wPx l lb i x:=by
 obtain⟨w,g1,g2,g3,g4,g5⟩:=wOf_some h
 obtain⟨v,e1,e2,e3,e4,e5⟩:=wOf_some h'
 unfold wPx
 rw[g5,e5]
 have htc:=hok.tc
 have hxc:=(hok.at_ i x hx).c
 have hm:Mo (fun w=>x.c+sumP i x la w l 0) 1:=fun a b _ hab=>by
  have:=sumP_le (i:=i) (xi:=x) hab (LeL.refl la) l 0 htc
  show x.c+_≤x.c+_
  omega
 have h1:1≤(fun w=>x.c+sumP i x la w l 0) 1:=by
  have:=sumP_nonneg (i:=i) (xi:=x) (w:=1) (la:=la) (by omega) (fun i=>(ha.2 i).1) l 0 htc
  show 1≤x.c+_
  omega
 have hp:(fun w=>x.c+sumP i x la w l 0) v≤v:=by
  have:=sumP_le (i:=i) (xi:=x) (Int.le_refl v) hl l 0 htc
  dsimp only at e3 ⊢
  omega
 obtain⟨u,u1,u2,u3⟩:=hm.pre h1 (v-1).toNat v (Nat.le_refl _) e1 hp
 have hlt:=hl.getD i
 by_cases hc:u<w
 ·exact absurd u3 (g4 u u1 hc)
 ·omega
theorem wPx_range{l:List Pa}{la:List Int}{i:Nat}{x:Pa}(ha:LtOk l la)(h:wPx l la i x≠0):1≤wPx l la i x∧wPx l la i x≤x.d:=by
 obtain⟨w,g1,g2,g3,g4,g5⟩:=wOf_some h
 unfold wPx
 rw[g5]
 have:=(ha.2 i).1
 omega
theorem RsR.le{l:List Pa}{la lb r s:List Int}(hok:PsOk l)(ha:LtOk l la)(hl:LeL la lb)(h:RsR l la (some r))(h':RsR l lb (some s)):LeL r s:=by
 rcases h with ⟨h,-⟩|⟨_,h,h1,h2⟩
 ·cases h
 cases h
 rcases h' with ⟨h,-⟩|⟨_,h,g1,g2⟩
 ·cases h
 cases h
 refine⟨by rw[h1,g1],fun i x y hx hy=>?_⟩
 have hi:i<l.length:=by rw[← h1];exact(List.getElem?_eq_some_iff.1 hx).1
 obtain⟨a1,a2⟩:=h2 i _ (List.getElem?_eq_getElem hi)
 obtain⟨b1,b2⟩:=g2 i _ (List.getElem?_eq_getElem hi)
 rw[a1]at hx
 rw[b1]at hy
 cases hx;cases hy
 exact wPx_le hok (List.getElem?_eq_getElem hi) ha hl a2 b2
def TkOk(l:List Pa)(tk:List Int):Prop:=tk.length=l.length∧∀(i:Nat) (x:Pa),l[i]?=some x→0≤tk.getD i 0∧tk.getD i 0≤x.d
theorem RsR.ok{l:List Pa}{la r:List Int}(ha:LtOk l la)(h:RsR l la (some r)):TkOk l r:=by
 rcases h with ⟨h,-⟩|⟨_,h,h1,h2⟩
 ·cases h
 cases h
 refine⟨h1,fun i x hx=>?_⟩
 obtain⟨a1,a2⟩:=h2 i x hx
 have:=wPx_range ha a2
 rw[List.getD_eq_getElem?_getD,a1]
 show 0≤wPx l la i x∧wPx l la i x≤x.d
 omega
theorem putAll_all{P:Int→Prop}:∀(is:List Nat) (ts a:List Int),(∀v∈a,P v)→(∀v∈ts,P v)→∀v∈putAll a is ts,P v
 | [],_,a,h,_=>by simpa[putAll] using h
 | _::_,[],a,h,_=>by simpa[putAll] using h
 | i::r,t::ts,a,h,ht=>by
  rw[putAll]
  refine putAll_all r ts _ (fun v hv=>?_) (fun v hv=>ht v (List.mem_cons_of_mem _ hv))
  rcases List.mem_or_eq_of_mem_set hv with hv|hv
  ·exact h v hv
  ·rw[hv];exact ht t List.mem_cons_self
theorem LatR.ok{l:List Pa}{tk late:List Int}(hok:PsOk l)(ht:TkOk l tk)(h:LatR l tk (some late)):LtOk l late:=by
 have h0:∀v∈lat0 l tk,0≤v∧v≤10000:=fun v hv=>by
  unfold lat0 at hv
  rw[List.mem_map]at hv
  obtain⟨x,hx,rfl⟩:=hv
  obtain⟨i,hi⟩:=List.getElem?_of_mem hx
  split
  ·omega
  ·next hf =>
   rcases(hok.at_ i x hi).fr with ⟨e,-⟩|⟨-,-,y,hy,-⟩
   ·exact absurd e hf
   ·have h1:=ht.2 _ y hy
    have h2:=hok.at_ _ y hy
    have h3:=h2.dt
    have h4:=h2.t
    omega
 have key:late.length=l.length∧∀v∈late,0≤v∧v≤10000:=by
  rcases h with ⟨-,h2⟩|⟨-,ts,e,h2,⟨-,h3⟩|⟨h3,h4⟩⟩
  ·cases h2
   exact⟨lat0_len l tk,h0⟩
  ·cases h3
  ·cases h4
   refine⟨by rw[putAll_len,lat0_len],putAll_all _ _ _ h0 (fun v hv=>?_)⟩
   obtain⟨ok,tm,len⟩:=h2.ok h3
   obtain⟨q,hq⟩:=List.getElem?_of_mem hv
   have hql:q<((frsP l tk).map (·.2)).length:=by rw[← len];exact(List.getElem?_eq_some_iff.1 hq).1
   obtain⟨w1,w2⟩:=tm.2 q _ v (List.getElem?_eq_getElem hql) hq
   have okm:=ok _ (List.getElem_mem hql)
   cases w1 with
   | some f t =>
    have:=t.small okm
    obtain⟨-,-,-,-,-,h6,-⟩:=okm
    omega
 refine⟨key.1,fun i=>?_⟩
 rw[List.getD_eq_getElem?_getD]
 cases e:late[i]? with
 | none=>simp
 | some v=>exact key.2 v (List.mem_of_getElem? e)
def StepR(l:List Pa)(tk:List Int)(res:Option (List Int)):Prop:=∃lt,LatR l tk lt∧((lt=none∧res=none)∨∃late,lt=some late∧res=respC l late 4)
theorem StepR.one{l:List Pa}{tk:List Int}{r s:Option (List Int)}(h:StepR l tk r)(h':StepR l tk s):r=s:=by
 obtain⟨lt,h1,h2⟩:=h
 obtain⟨lt',g1,g2⟩:=h'
 cases h1.one g1
 rcases h2 with ⟨rfl,rfl⟩|⟨late,rfl,rfl⟩
 ·rcases g2 with ⟨-,rfl⟩|⟨_,e,-⟩
  ·rfl
  ·cases e
 ·rcases g2 with ⟨e,-⟩|⟨_,e,rfl⟩
  ·cases e
  ·cases e;rfl
theorem StepR.ok{l:List Pa}{tk r:List Int}(hok:PsOk l)(ht:TkOk l tk)(h:StepR l tk (some r)):TkOk l r:=by
 obtain⟨lt,h1,⟨-,e⟩|⟨late,rfl,h2⟩⟩:=h
 ·cases e
 have hl:=h1.ok hok ht
 have:=respC_is hok hl
 rw[← h2]at this
 exact this.ok hl
theorem StepR.le{l:List Pa}{tk tk' r r':List Int}(hok:PsOk l)(ht:TkOk l tk)(ht':TkOk l tk')(hle:LeL tk tk')(h:StepR l tk (some r))(h':StepR l tk' (some r')):LeL r r':=by
 obtain⟨lt,h1,⟨-,e⟩|⟨late,rfl,h2⟩⟩:=h
 ·cases e
 obtain⟨lt',g1,⟨-,e⟩|⟨late',rfl,g2⟩⟩:=h'
 ·cases e
 have hl:=h1.ok hok ht
 have hl':=g1.ok hok ht'
 have a:=respC_is hok hl
 have b:=respC_is hok hl'
 rw[← h2]at a
 rw[← g2]at b
 exact a.le hok hl (h1.le hle g1) b
def mz:List Pa→List Int→Nat
 | x::r,t::ts=>(x.d-t).toNat+mz r ts
 | _,_=>0
theorem mz_lt:∀(l:List Pa) (a b:List Int),TkOk l b→LeL a b→mz l b≤mz l a∧(b≠a→mz l b<mz l a)
 | [],a,b,hb,h=>by
  have e1:b=[]:=List.eq_nil_of_length_eq_zero hb.1
  have e2:a=[]:=List.eq_nil_of_length_eq_zero (by rw[h.1,e1];rfl)
  subst e1;subst e2
  exact⟨Nat.le_refl _,fun e=>absurd rfl e⟩
 | x::r,[],b,hb,h=>by have:=h.1;rw[hb.1]at this;simp at this
 | x::r,u::us,[],hb,h=>by have:=hb.1;simp at this
 | x::r,u::us,v::vs,hb,h=>by
  have huv:u≤v:=h.2 0 u v rfl rfl
  have hv:v≤x.d:=(hb.2 0 x rfl).2
  obtain⟨h1,h2⟩:=mz_lt r us vs ⟨by have:=hb.1;simpa using this,fun i y hy=>hb.2 (i+1) y hy⟩ ⟨by have:=h.1;simpa using this,fun i y z hy hz=>h.2 (i+1) y z hy hz⟩
  unfold mz
  refine⟨by omega,fun e=>?_⟩
  by_cases e1:u=v
  ·have:=h2 (fun e2=>e (by rw[e1,e2]))
   omega
  ·omega
inductive Sett (l:List Pa):List Int→Option (List Int)→Prop
 | stop {tk:List Int}:StepR l tk none→Sett l tk none
 | fix {tk:List Int}:StepR l tk (some tk)→Sett l tk (some tk)
 | go {tk nx:List Int} {r:Option (List Int)}:StepR l tk (some nx)→nx≠tk→Sett l nx r→Sett l tk r
theorem Sett.one{l:List Pa}{tk:List Int}{r s:Option (List Int)}(h:Sett l tk r)(h':Sett l tk s):r=s:=by
 induction h with
 | stop h=>cases h' with
  | stop g=>rfl
  | fix g=>cases h.one g
  | go g _ _=>cases h.one g
 | fix h=>cases h' with
  | stop g=>cases h.one g
  | fix g=>rfl
  | go g e _=>cases h.one g;exact absurd rfl e
 | go h e _ ih=>cases h' with
  | stop g=>cases h.one g
  | fix g=>cases h.one g;exact absurd rfl e
  | go g _ k=>cases h.one g;exact ih k
theorem zeros_ok{l:List Pa}(hok:PsOk l):TkOk l (List.replicate l.length 0):=⟨List.length_replicate,fun i x hx=>by
 have h1:=(hok.at_ i x hx).c
 have h2:=(hok.at_ i x hx).cd
 have e:(List.replicate l.length (0:Int)).getD i 0=0:=by
  rw[List.getD_eq_getElem?_getD,List.getElem?_replicate]
  split<;>rfl
 rw[e]
 omega⟩
theorem zeros_le{l:List Pa}{r:List Int}(h:TkOk l r):LeL (List.replicate l.length 0) r:=⟨by rw[List.length_replicate,h.1],fun i x y hx hy=>by
 rw[List.getElem?_replicate]at hx
 split at hx
 ·next hi =>
  cases hx
  have:=(h.2 i _ (List.getElem?_eq_getElem hi)).1
  rw[List.getD_eq_getElem?_getD,hy]at this
  exact this
 ·cases hx⟩
structure Rise (l:List Pa) (tk:List Int):Prop where
 ok:TkOk l tk
 up:∀nx,StepR l tk (some nx)→LeL tk nx
 tell:∀r,Sett l tk r→Sett l (List.replicate l.length 0) r
theorem Rise.start{l:List Pa}(hok:PsOk l):Rise l (List.replicate l.length 0):=⟨zeros_ok hok,fun _ h=>zeros_le (h.ok hok (zeros_ok hok)),fun _ h=>h⟩
theorem Rise.next{l:List Pa}{tk nx:List Int}(hok:PsOk l)(h:Rise l tk)(hs:StepR l tk (some nx))(hne:nx≠tk):Rise l nx∧mz l nx<mz l tk:=by
 have hn:=hs.ok hok h.ok
 exact⟨⟨hn,fun n2 h2=>StepR.le hok h.ok hn (h.up nx hs) hs h2,fun r hr=>h.tell r (.go hs hne hr)⟩,(mz_lt l tk nx hn (h.up nx hs)).2 hne⟩
structure Pc where
 cm:Int
 si:Int
 lf:Int
def Pc.vals(x:Pc):List Value:=[.int .i64 x.cm,.int .i64 x.si,.int .i64 x.lf]
theorem Pc.len(x:Pc):x.vals.length=3:=rfl
theorem Pc.one{x:Pc}{u:Value}(h:u∈x.vals):u.oneCell'=true:=by
 simp only[Pc.vals,List.mem_cons,List.not_mem_nil,or_false]at h
 rcases h with rfl|rfl|rfl<;>rfl
structure Sc where
 jobs:List (List Pc)
 mail:List (List Pc)
 un:Int
 ends:List (List Int)
def wkF(l:List Pa)(tk:List Int)(part cm:Nat):Int :=
 if tk.length=0 then (l.getD part paZ).c else 1+tk.getD ((cm*l.length+part) % tk.length) 0 % (l.getD part paZ).c
def addJ(l:List Pa)(tk:List Int)(s:Sc)(part cm:Nat)(now:Int):Sc:={ s with jobs:=s.jobs.set part (s.jobs.getD part []++[⟨cm,now,wkF l tk part cm⟩]) }
def addM(l:List Pa)(s:Sc)(part cm:Nat)(now:Int):Sc:={ s with mail:=s.mail.set part (s.mail.getD part []++[⟨cm,now,(l.getD part paZ).se⟩]) }
def runQ:List Pc→List Pc
 | []=>[]
 | p::r=>if 0<p.lf-1 then { p with lf:=p.lf-1 }::r else r
def runC:List Pc→Nat
 | []=>0
 | p::_=>p.cm.toNat
def runD:List Pc→Bool
 | []=>false
 | p::_=>!decide (0<p.lf-1)
def headS:List Pc→Int
 | []=>0
 | p::_=>p.si
def aheadQ(l:List Pa)(jobs:List (List Pc))(a b:Nat):Bool :=
 if (l.getD a paZ).p≠(l.getD b paZ).p then decide ((l.getD b paZ).p<(l.getD a paZ).p) else decide (headS (jobs.getD a [])<headS (jobs.getD b []))
def stepFirst(l:List Pa)(jobs:List (List Pc))(fs:List Int)(part:Nat):List Int :=
 if jobs.getD part []≠[]∧(fs.getD (l.getD part paZ).co.toNat 0=-1∨aheadQ l jobs part (fs.getD (l.getD part paZ).co.toNat 0).toNat=true) then fs.set (l.getD part paZ).co.toNat part else fs
def firstsTo(l:List Pa)(jobs:List (List Pc)):Nat→List Int
 | 0=>[-1,-1,-1,-1]
 | k+1=>stepFirst l jobs (firstsTo l jobs k) k
def firstM:List (List Pc)→Nat→Int
 | [],_=>-1
 | q::r,k=>if q≠[] then k else firstM r (k+1)
def sentF(s:Sc):Int:=if s.un=-1 then firstM s.mail 0 else s.un
def doneStep(l:List Pa)(tk:List Int)(part cm:Nat)(now:Int)(s:Sc)(k:Nat):Sc :=
 if (l.getD k paZ).fr≠part then s else if (l.getD k paZ).se=0 then addJ l tk s k cm now else addM l s k cm now
def doneTo(l:List Pa)(tk:List Int)(part cm:Nat)(now:Int)(s:Sc):Nat→Sc
 | 0=>{ s with ends:=s.ends.set cm ((s.ends.getD cm []).set part now) }
 | k+1=>doneStep l tk part cm now (doneTo l tk part cm now s k) k
def coreStep(l:List Pa)(tk:List Int)(now:Int)(s:Sc)(part:Int):Sc :=
 if part=-1 then s
 else if runD (s.jobs.getD part.toNat [])=true then doneTo l tk part.toNat (runC (s.jobs.getD part.toNat [])) (now+1) { s with jobs:=s.jobs.set part.toNat (runQ (s.jobs.getD part.toNat [])) } l.length
 else { s with jobs:=s.jobs.set part.toNat (runQ (s.jobs.getD part.toNat [])) }
def coresTo(l:List Pa)(tk:List Int)(now:Int)(fs:List Int)(s:Sc):Nat→Sc
 | 0=>s
 | c+1=>coreStep l tk now (coresTo l tk now fs s c) (fs.getD c 0)
def mailStep(l:List Pa)(tk:List Int)(now:Int)(s:Sc)(sent:Int):Sc :=
 if sent=-1 then s
 else if runD (s.mail.getD sent.toNat [])=true then addJ l tk { s with mail:=s.mail.set sent.toNat (runQ (s.mail.getD sent.toNat [])),un:=-1 } sent.toNat (runC (s.mail.getD sent.toNat [])) (now+1)
 else { s with mail:=s.mail.set sent.toNat (runQ (s.mail.getD sent.toNat [])) }
def tickF(l:List Pa)(tk:List Int)(s:Sc)(now:Int):Sc :=
 mailStep l tk now (coresTo l tk now (firstsTo l s.jobs l.length) { s with un:=sentF s } 4) (sentF s)
def comeF(l:List Pa)(tk:List Int)(cs:List Co)(now:Int):List Nat→Sc→List Nat × Sc
 | [],s=>([],s)
 | k::r,s=>if (cs.getD k ⟨0,0⟩).a=now then comeF l tk cs now r (addJ l tk s (cs.getD k ⟨0,0⟩).k.toNat k now) else (k::r,s)
def scene0(n m:Nat):Sc:=⟨List.replicate n [],List.replicate n [],-1,List.replicate m (List.replicate n (-1))⟩
def playTo(l:List Pa)(tk:List Int)(cs:List Co)(ord:List Nat):Nat→List Nat × Sc
 | 0=>(ord,scene0 l.length cs.length)
 | t+1=>((comeF l tk cs t (playTo l tk cs ord t).1 (playTo l tk cs ord t).2).1,tickF l tk (comeF l tk cs t (playTo l tk cs ord t).1 (playTo l tk cs ord t).2).2 t)
structure SOk (l:List Pa) (m K:Nat) (s:Sc):Prop where
 lj:s.jobs.length=l.length
 lm:s.mail.length=l.length
 le:s.ends.length=m
 er:∀(i:Nat) (r:List Int),s.ends[i]?=some r→r.length=l.length
 pj:∀(i:Nat) (q:List Pc),s.jobs[i]?=some q→q.length≤K∧∀p∈q,0≤p.cm∧p.cm<m∧1≤p.lf∧p.lf≤10000
 pm:∀(i:Nat) (q:List Pc),s.mail[i]?=some q→q.length≤K∧∀p∈q,0≤p.cm∧p.cm<m∧1≤p.lf∧p.lf≤10000
 un:s.un=-1∨∃u:Nat,s.un=u∧u<l.length∧s.mail.getD u []≠[]
theorem SOk.mono{l:List Pa}{m K K':Nat}{s:Sc}(h:SOk l m K s)(hk:K≤K'):SOk l m K' s :=
 ⟨h.lj,h.lm,h.le,h.er,fun i q hq=>⟨Nat.le_trans (h.pj i q hq).1 hk,(h.pj i q hq).2⟩,fun i q hq=>⟨Nat.le_trans (h.pm i q hq).1 hk,(h.pm i q hq).2⟩,h.un⟩
theorem getD_some{α:Type}{a:List α}{i:Nat}{d x:α}(h:a[i]?=some x):a.getD i d=x:=by rw[List.getD_eq_getElem?_getD,h];rfl
theorem some_getD{α:Type}{a:List α}{i:Nat}{d:α}(h:i<a.length):a[i]?=some (a.getD i d):=by
 rw[List.getD_eq_getElem?_getD,List.getElem?_eq_getElem h];rfl
theorem set_get{α:Type}{a:List α}{i j:Nat}{x y:α}(h:(a.set i x)[j]?=some y):(j=i∧y=x)∨(j≠i∧a[j]?=some y):=by
 by_cases e:i=j
 ·subst e
  have hl:i<a.length:=by
   have:=(List.getElem?_eq_some_iff.1 h).1
   rwa[List.length_set]at this
  rw[List.getElem?_set_self hl]at h
  exact .inl ⟨rfl,(Option.some.inj h).symm⟩
 ·rw[List.getElem?_set_ne e]at h
  exact .inr ⟨fun e'=>e e'.symm,h⟩
theorem wkF_ok{l:List Pa}{tk:List Int}{part:Nat}(hok:PsOk l)(hp:part<l.length)(cm:Nat):1≤wkF l tk part cm∧wkF l tk part cm≤10000:=by
 have h:=hok.at_ part _ (some_getD (d:=paZ) hp)
 have h1:=h.c
 have h2:=h.cd
 have h3:=h.dt
 have h4:=h.t
 unfold wkF
 generalize l.getD part paZ=x at *
 split
 ·omega
 ·have h5:=Int.emod_nonneg (tk.getD ((cm*l.length+part) % tk.length) 0) (show x.c≠0 by omega)
  have h6:=Int.emod_lt_of_pos (tk.getD ((cm*l.length+part) % tk.length) 0) (show 0<x.c by omega)
  omega
theorem SOk.addJ{l:List Pa}{tk:List Int}{m K part cm:Nat}{s:Sc}{now:Int}(h:SOk l m K s)(hok:PsOk l)(hp:part<l.length)(hc:cm<m):SOk l m (K+1) (addJ l tk s part cm now):=by
 refine⟨by simp only[YtccoobcggbbcialGreatDoor.addJ,List.length_set];exact h.lj,h.lm,h.le,h.er,fun i q hq=>?_,(h.mono (Nat.le_succ K)).pm,h.un⟩
 rcases set_get hq with ⟨rfl,rfl⟩|⟨-,hq⟩
 ·obtain⟨h1,h2⟩:=h.pj i _ (some_getD (d:=[]) (by rw[h.lj];exact hp))
  refine⟨by rw[List.length_append,List.length_singleton];omega,fun p hp2=>?_⟩
  rcases List.mem_append.1 hp2 with hp2|hp2
  ·exact h2 p hp2
  ·rw[List.mem_singleton.1 hp2]
   have:=wkF_ok (tk:=tk) hok hp cm
   exact⟨by dsimp only;omega,by dsimp only;omega,this.1,this.2⟩
 ·exact(h.mono (Nat.le_succ K)).pj i q hq
theorem SOk.addM{l:List Pa}{m K part cm:Nat}{s:Sc}{now:Int}(h:SOk l m K s)(hok:PsOk l)(hp:part<l.length)(hc:cm<m)(hs:(l.getD part paZ).se≠0):SOk l m (K+1) (addM l s part cm now):=by
 refine⟨h.lj,by simp only[YtccoobcggbbcialGreatDoor.addM,List.length_set];exact h.lm,h.le,h.er,(h.mono (Nat.le_succ K)).pj,fun i q hq=>?_,?_⟩
 ·rcases set_get hq with ⟨rfl,rfl⟩|⟨-,hq⟩
  ·obtain⟨h1,h2⟩:=h.pm i _ (some_getD (d:=[]) (by rw[h.lm];exact hp))
   refine⟨by rw[List.length_append,List.length_singleton];omega,fun p hp2=>?_⟩
   rcases List.mem_append.1 hp2 with hp2|hp2
   ·exact h2 p hp2
   ·rw[List.mem_singleton.1 hp2]
    have:=(hok.at_ i _ (some_getD (d:=paZ) hp)).se
    refine⟨by dsimp only;omega,by dsimp only;omega,?_,?_⟩<;>(show _≤_;dsimp only;omega)
  ·exact(h.mono (Nat.le_succ K)).pm i q hq
 ·rcases h.un with h1|⟨u,h1,h2,h3⟩
  ·exact .inl h1
  ·refine .inr ⟨u,h1,h2,?_⟩
   show(s.mail.set part _).getD u []≠[]
   by_cases e:part=u
   ·subst e
    rw[List.getD_eq_getElem?_getD,List.getElem?_set_self (by rw[h.lm];exact h2)]
    simp
   ·rw[List.getD_eq_getElem?_getD,List.getElem?_set_ne e,← List.getD_eq_getElem?_getD]
    exact h3
theorem SOk.runJ{l:List Pa}{m K part:Nat}{s:Sc}(h:SOk l m K s)(hp:part<l.length):SOk l m K { s with jobs:=s.jobs.set part (runQ (s.jobs.getD part [])) }:=by
 refine⟨by simp only[List.length_set];exact h.lj,h.lm,h.le,h.er,fun i q hq=>?_,h.pm,h.un⟩
 rcases set_get hq with ⟨rfl,rfl⟩|⟨-,hq⟩
 ·obtain⟨h1,h2⟩:=h.pj i _ (some_getD (d:=[]) (by rw[h.lj];exact hp))
  generalize s.jobs.getD i []=q0 at *
  cases q0 with
  | nil=>exact⟨h1,h2⟩
  | cons p r =>
   have h3:=h2 p List.mem_cons_self
   by_cases hlf:0<p.lf-1
   ·have e:runQ (p::r)={ p with lf:=p.lf-1 }::r:=if_pos hlf
    rw[e]
    refine⟨h1,fun x hx=>?_⟩
    rcases List.mem_cons.1 hx with rfl|hx
    ·dsimp only;omega
    ·exact h2 x (List.mem_cons_of_mem _ hx)
   ·have e:runQ (p::r)=r:=if_neg hlf
    rw[e]
    exact⟨by rw[List.length_cons]at h1;omega,fun x hx=>h2 x (List.mem_cons_of_mem _ hx)⟩
 ·exact h.pj i q hq
theorem runC_lt{m K:Nat}{q:List Pc}(hne:q≠[])(h:q.length≤K∧∀p∈q,0≤p.cm∧p.cm<m∧1≤p.lf∧p.lf≤10000):runC q<m:=by
 cases q with
 | nil=>exact absurd rfl hne
 | cons p r =>
  have:=h.2 p List.mem_cons_self
  show p.cm.toNat<m
  omega
theorem firstM_at:∀(ms:List (List Pc)) (k:Nat),firstM ms k=-1∨∃u:Nat,firstM ms k=((k+u:Nat):Int)∧u<ms.length∧ms.getD u []≠[]
 | [],_=>.inl rfl
 | q::r,k=>by
  unfold firstM
  by_cases e:q=[]
  ·rw[if_neg (by simp[e])]
   rcases firstM_at r (k+1) with h|⟨u,h1,h2,h3⟩
   ·exact .inl h
   ·exact .inr ⟨u+1,by rw[h1];congr 1;omega,by simp;omega,by simpa using h3⟩
  ·rw[if_pos e]
   exact .inr ⟨0,by simp,by simp,by simpa using e⟩
theorem sentF_at{l:List Pa}{m K:Nat}{s:Sc}(h:SOk l m K s):sentF s=-1∨∃u:Nat,sentF s=u∧u<l.length∧s.mail.getD u []≠[]:=by
 unfold sentF
 split
 ·rcases firstM_at s.mail 0 with h1|⟨u,h1,h2,h3⟩
  ·exact .inl h1
  ·exact .inr ⟨u,by rw[h1,Nat.zero_add],by rw[← h.lm];exact h2,h3⟩
 ·exact h.un
theorem SOk.sent{l:List Pa}{m K:Nat}{s:Sc}(h:SOk l m K s):SOk l m K { s with un:=sentF s }:=⟨h.lj,h.lm,h.le,h.er,h.pj,h.pm,sentF_at h⟩
theorem firstsTo_len(l:List Pa)(jobs:List (List Pc)):∀k,(firstsTo l jobs k).length=4
 | 0=>rfl
 | k+1=>by
  unfold firstsTo stepFirst
  split
  ·rw[List.length_set];exact firstsTo_len l jobs k
  ·exact firstsTo_len l jobs k
theorem firstsTo_at{l:List Pa}{jobs:List (List Pc)}:∀(k c:Nat) (z:Int),(firstsTo l jobs k)[c]?=some z→z=-1∨∃u:Nat,z=u∧u<k∧jobs.getD u []≠[]∧(l.getD u paZ).co.toNat=c
 | 0,c,z,h=>by
  left
  have:z ∈ [(-1:Int),-1,-1,-1]:=List.mem_of_getElem? h
  simpa using this
 | k+1,c,z,h=>by
  unfold firstsTo stepFirst at h
  split at h
  ·next hc =>
   rcases set_get h with ⟨rfl,rfl⟩|⟨-,h⟩
   ·exact .inr ⟨k,rfl,by omega,hc.1,rfl⟩
   ·rcases firstsTo_at k c z h with h|⟨u,h1,h2,h3⟩
    ·exact .inl h
    ·exact .inr ⟨u,h1,by omega,h3⟩
  ·rcases firstsTo_at k c z h with h|⟨u,h1,h2,h3⟩
   ·exact .inl h
   ·exact .inr ⟨u,h1,by omega,h3⟩
theorem infoPc:(Tryz.prog.info? 189).map (fun i=>(i.zero,i.size,i.bytes))=some (some (.agg #[.int .i64 0,.int .i64 0,.int .i64 0]),3,24):=by kernel_rfl
def LnR(W:World)(v:Value)(q:List Pc):Prop:=(v = .slice none 0 0∧q=[])∨∃g o c cur,v = .slice (some ⟨g,o,none⟩) q.length c∧q.length≤c∧c≤maxLen∧W.heap[g]?=some (.cells cur 189 (0,0))∧o+c*3≤cur.size∧∀j u,(q.flatMap Pc.vals)[j]?=some u→cur[o+j]?=some u
theorem LnR.keep{W W':World}{v:Value}{q:List Pc}(h:LnR W v q)(hk:∀g,v.ownBlock=some g→W'.heap[g]?=W.heap[g]?):LnR W' v q:=by
 rcases h with h|⟨g,o,c,cur,rfl,h1,h2,h3,h4⟩
 ·exact .inl h
 ·exact .inr ⟨g,o,c,cur,rfl,h1,h2,(hk g rfl).trans h3,h4⟩
theorem LnR.ty{W:World}{v:Value}{q:List Pc}(h:LnR W v q){g:Nat}(hg:v.ownBlock=some g):∃cur,W.heap[g]?=some (.cells cur 189 (0,0)):=by
 rcases h with ⟨rfl,-⟩|⟨g',o,c,cur,rfl,h1,h2,h3,h4⟩
 ·cases hg
 ·cases hg
  exact⟨cur,h3⟩
theorem LnR.val{W:World}{v:Value}{q:List Pc}(h:LnR W v q):∃ad c,v = .slice ad q.length c:=by
 rcases h with ⟨rfl,rfl⟩|⟨g,o,c,cur,rfl,-⟩
 ·exact⟨_,_,rfl⟩
 ·exact⟨_,_,rfl⟩
theorem gb_none{w w':World}(h:w.grownBy w' none)(r:Option Nat):w.grownBy w' r:=⟨h.os,h.tape,h.output,h.size,fun k hk _=>h.block k hk (by simp)⟩
theorem gb_trans{w w' w'':World}{r:Option Nat}(h:w.grownBy w' r)(h':w'.grownBy w'' r):w.grownBy w'' r:=⟨h'.os.trans h.os,h'.tape.trans h.tape,h'.output.trans h.output,Nat.le_trans h.size h'.size,fun k hk hn=>(h'.block k (Nat.lt_of_lt_of_le hk h.size) hn).trans (h.block k hk hn)⟩
theorem gb_below{w w':World}(h:Below w.heap.size w w')(r:Option Nat):w.grownBy w' r:=⟨h.os,h.tape,h.output,h.size,fun k hk _=>h.block k hk⟩
theorem LnR.push{W:World}{v:Value}{q:List Pc}{ge:Nat}(h:LnR W v q)(x:Pc)(hc:W.heap[ge]?=some (.cells #[.int .i64 x.cm,.int .i64 x.si,.int .i64 x.lf] 189 (0,0)))(hne:v.ownBlock≠some ge)(hl:q.length≤1000000):∃ad c w4,(Builtin.append_ #[187,187] 187 #[v,.slice (some ⟨ge,0,none⟩) 1 1]).run Tryz.prog W = .ok (.slice ad (q.length+1) c) w4∧LnR w4 (.slice ad (q.length+1) c) (q++[x])∧LnR w4 v q∧W.grownBy w4 v.ownBlock∧∀k,(Value.slice ad (q.length+1) c).ownBlock=some k→v.ownBlock=some k∨W.heap.size≤k:=by
 obtain⟨i0,hi0,hz0,hz1,hz2⟩:=info_parts infoPc
 have hcx:=(cells_of (l:=x.vals) hc).1
 have ofOwn:∀ {w4:World} {v4:Value},w4.ownsRow W.heap.size 189 3 v4 (q.length+1) ((q++[x]).flatMap Pc.vals)→∃ad c,v4 = .slice ad (q.length+1) c∧LnR w4 (.slice ad (q.length+1) c) (q++[x])∧∀k,(Value.slice ad (q.length+1) c).ownBlock=some k→W.heap.size≤k:=by
  intro w4 v4 ho
  obtain⟨hlen,⟨-,h9⟩|⟨g,cap,cur,rfl,hb,hg,hcap,hm,hs,htk⟩⟩:=ho
  ·omega
  ·refine⟨_,_,rfl,.inr ⟨g,0,cap,cur,by rw[List.length_append];rfl,by rw[List.length_append,List.length_singleton];exact hcap,hm,hg,by rw[hs];omega,fun j u hj=>?_⟩,fun k hk=>by cases hk;exact hb⟩
   rw[Nat.zero_add]
   rw[← htk,List.getElem?_take]at hj
   split at hj
   ·rwa[Array.getElem?_toList]at hj
   ·cases hj
 rcases h with ⟨rfl,rfl⟩|⟨g,o,c,cur,rfl,h1,h2,h3,h4,h5⟩
 ·obtain⟨ad,c,w4,e1,e2,e3,-⟩:=own_pushA (T:=187) (E:=189) Tryz.underlying187 infoPc rfl (by omega) (av:=.slice none 0 0) (n:=0) (xs:=[]) (B:=W.heap.size) (W:=W) ⟨rfl,.inl ⟨rfl,rfl⟩⟩ x.vals rfl hcx (fun u hu=>Pc.one hu) (by omega) (by omega) (Nat.le_refl _)
  obtain⟨ad',c',e4,e5,e6⟩:=ofOwn (w4:=w4) (v4:=.slice ad (0+1) c) (by simpa using e2)
  cases e4
  exact⟨ad,c,w4,e1,e5,.inl ⟨rfl,rfl⟩,gb_below e3 _,fun k hk=>.inr (e6 k hk)⟩
 ·have hgl:=(Array.getElem?_eq_some_iff.1 h3).1
  have hfl:(q.flatMap Pc.vals).length=q.length*3:=flat_length Pc.vals 3 Pc.len q
  have hold:∀j u,(q.flatMap Pc.vals)[j]?=some u→W.cell? ((⟨g,o,none⟩:Addr).add j)=some u:=fun j u hj=>by
   rw[Addr.add_lit]
   have h9:=(cells_of (l:=cur.toList) (by simpa using h3)).1 (o+j) u (by simpa using h5 j u hj)
   exact h9
  by_cases hroom:q.length+1≤c
  ·have hr:=run_append_room_cells (P:=Tryz.prog) (w:=W) 187 187 189 i0 Tryz.underlying187 hi0 g o q.length c ⟨ge,0,none⟩ 1 1 x.vals (by rw[hz1];rfl) (fun j u hj=>by rw[Addr.add_lit,Nat.zero_add];exact hcx j u hj) (fun u hu=>Pc.one hu) hroom
    (fun j hj=>by
     have hj3:j<3:=hj
     rw[hz1,(cells_of (l:=cur.toList) (by simpa using h3)).1 (o+q.length*3+j) cur[o+q.length*3+j] (by simp)]
     rfl)
    (fun j hj=>(cells_of (l:=cur.toList) (by simpa using h3)).2.1 _)
   rw[hz1]at hr
   have hw4:∃w4,w4=W.setCells g (o+q.length*3) x.vals:=⟨_,rfl⟩
   obtain⟨w4,hw4⟩:=hw4
   rw[← hw4]at hr
   have hcell:w4.heap[g]?=some (.cells (((cur.setIfInBounds (o+q.length*3) (.int .i64 x.cm)).setIfInBounds (o+q.length*3+1) (.int .i64 x.si)).setIfInBounds (o+q.length*3+1+1) (.int .i64 x.lf)) 189 (0,0)):=by
    rw[hw4]
    exact setCell_at (setCell_at (setCell_at h3))
   have hgb:W.grownBy w4 (some g):=by
    rw[hw4]
    exact gb_trans (gb_trans (set_grown _ _ _ _) (set_grown _ _ _ _)) (set_grown _ _ _ _)
   have hcur:∀(j:Nat) (u:Value),(q.flatMap Pc.vals)[j]?=some u→(((cur.setIfInBounds (o+q.length*3) (.int .i64 x.cm)).setIfInBounds (o+q.length*3+1) (.int .i64 x.si)).setIfInBounds (o+q.length*3+1+1) (.int .i64 x.lf))[o+j]?=some u:=fun j u hj=>by
    have hjl:=(List.getElem?_eq_some_iff.1 hj).1
    rw[Array.getElem?_setIfInBounds_ne (by omega),Array.getElem?_setIfInBounds_ne (by omega),Array.getElem?_setIfInBounds_ne (by omega)]
    exact h5 j u hj
   refine⟨some ⟨g,o,none⟩,c,w4,hr,.inr ⟨g,o,c,_,by rw[List.length_append];rfl,by rw[List.length_append,List.length_singleton];exact hroom,h2,hcell,by simpa using h4,fun j u hj=>?_⟩,.inr ⟨g,o,c,_,rfl,h1,h2,hcell,by simpa using h4,hcur⟩,hgb,fun k hk=>.inl hk⟩
   rw[List.flatMap_append]at hj
   by_cases hjq:j<(q.flatMap Pc.vals).length
   ·rw[List.getElem?_append_left hjq]at hj
    exact hcur j u hj
   ·rw[List.getElem?_append_right (by omega),hfl]at hj
    obtain⟨k,rfl⟩:∃k,j=q.length*3+k:=⟨j-q.length*3,by omega⟩
    rw[show q.length*3+k-q.length*3=k by omega]at hj
    have hk3:k<3:=by
     have:=(List.getElem?_eq_some_iff.1 hj).1
     simpa[Pc.vals] using this
    have hsz:o+q.length*3+2<cur.size:=by omega
    rcases(by omega:k=0∨k=1∨k=2) with rfl|rfl|rfl
    ·rw[Array.getElem?_setIfInBounds_ne (by omega),Array.getElem?_setIfInBounds_ne (by omega),show o+(q.length*3+0)=o+q.length*3 by omega,Array.getElem?_setIfInBounds_self_of_lt (by omega)]
     simpa[Pc.vals] using hj
    ·rw[Array.getElem?_setIfInBounds_ne (by omega),show o+(q.length*3+1)=o+q.length*3+1 by omega,Array.getElem?_setIfInBounds_self_of_lt (by simp;omega)]
     simpa[Pc.vals] using hj
    ·rw[show o+(q.length*3+2)=o+q.length*3+1+1 by omega,Array.getElem?_setIfInBounds_self_of_lt (by simp;omega)]
     simpa[Pc.vals] using hj
  ·have hcq:c=q.length:=by omega
   obtain⟨v4,w4,e1,e2,e3⟩:=run_append_arg_grows (P:=Tryz.prog) (w:=W) 187 187 189 i0 _ 3 24 Tryz.underlying187 hi0 hz0 hz1 hz2 rfl (by omega) ⟨g,o,none⟩ q.length c (q.flatMap Pc.vals) hfl hold ⟨ge,0,none⟩ 1 1 x.vals rfl (fun j u hj=>by rw[Addr.add_lit,Nat.zero_add];exact hcx j u hj) (by omega) (by unfold maxLen;omega) (by omega)
   obtain⟨ad',c',rfl,e5,e6⟩:=ofOwn (w4:=w4) (v4:=v4) (by simpa using e2)
   exact⟨ad',c',w4,e1,e5,.inr ⟨g,o,c,cur,rfl,h1,h2,(e3.block g hgl (by simp)).trans h3,h4,h5⟩,gb_none e3 _,fun k hk=>.inr (e6 k hk)⟩
theorem LnR.head{W:World}{v:Value}{p:Pc}{r:List Pc}(h:LnR W v (p::r)):∃g o c,v = .slice (some ⟨g,o,none⟩) (r.length+1) c∧r.length+1≤c∧W.cell? ⟨g,o,none⟩=some (.int .i64 p.cm)∧W.cell? ⟨g,o+1,none⟩=some (.int .i64 p.si)∧W.cell? ⟨g,o+2,none⟩=some (.int .i64 p.lf)∧W.frozen? ⟨g,o+2,none⟩=false∧g<W.heap.size∧LnR W (.slice (if c=1 then some ⟨g,o,none⟩ else some ⟨g,o+3,none⟩) r.length (c-1)) r∧∀z,LnR (W.setCell ⟨g,o+2,none⟩ (.int .i64 z)) v ({ p with lf:=z }::r)∧W.grownBy (W.setCell ⟨g,o+2,none⟩ (.int .i64 z)) (some g)∧LnR (W.setCell ⟨g,o+2,none⟩ (.int .i64 z)) (.slice (if c=1 then some ⟨g,o,none⟩ else some ⟨g,o+3,none⟩) r.length (c-1)) r:=by
 rcases h with ⟨-,h⟩|⟨g,o,c,cur,rfl,h1,h2,h3,h4,h5⟩
 ·cases h
 rw[List.length_cons]at h1
 have hc:=cells_of (l:=cur.toList) (by simpa using h3)
 have k0:=h5 0 (.int .i64 p.cm) (by simp[Pc.vals])
 have k1:=h5 1 (.int .i64 p.si) (by simp[Pc.vals])
 have k2:=h5 2 (.int .i64 p.lf) (by simp[Pc.vals])
 have ht:∀(cur':Array Value) (W':World),W'.heap[g]?=some (.cells cur' 189 (0,0))→cur'.size=cur.size→(∀j u,(r.flatMap Pc.vals)[j]?=some u→cur'[o+3+j]?=some u)→LnR W' (.slice (if c=1 then some ⟨g,o,none⟩ else some ⟨g,o+3,none⟩) r.length (c-1)) r:=by
  intro cur' W' hh hs hj
  by_cases e:c=1
  ·have:r=[]:=List.eq_nil_of_length_eq_zero (by omega)
   subst this
   rw[if_pos e]
   exact .inr ⟨g,o,c-1,cur',rfl,by simp,by omega,hh,by omega,fun j u hj=>by simp at hj⟩
  ·rw[if_neg e]
   exact .inr ⟨g,o+3,c-1,cur',rfl,by omega,by omega,hh,by omega,hj⟩
 have htl:∀j u,(r.flatMap Pc.vals)[j]?=some u→cur[o+3+j]?=some u:=fun j u hj=>by
  have h9:=h5 (3+j) u (by
   rw[List.flatMap_cons,List.getElem?_append_right (by rw[Pc.len];omega),Pc.len,show 3+j-3=j by omega]
   exact hj)
  rwa[show o+(3+j)=o+3+j by omega]at h9
 have hset:∀z,(W.setCell ⟨g,o+2,none⟩ (.int .i64 z)).heap[g]?=some (.cells (cur.setIfInBounds (o+2) (.int .i64 z)) 189 (0,0)):=fun z=>setCell_at h3
 have hz2:o+2<cur.size:=by omega
 refine⟨g,o,c,rfl,h1,hc.1 o _ (by simpa using k0),hc.1 (o+1) _ (by simpa using k1),hc.1 (o+2) _ (by simpa using k2),hc.2.1 _,(Array.getElem?_eq_some_iff.1 h3).1,ht cur W h3 rfl htl,fun z=>⟨.inr ⟨g,o,c,_,rfl,h1,h2,hset z,by simpa using h4,fun j u hj=>?_⟩,set_grown _ _ _ _,ht _ _ (hset z) (by simp) (fun j u hj=>?_)⟩⟩
 ·by_cases e:j=2
  ·subst e
   rw[Array.getElem?_setIfInBounds_self_of_lt hz2]
   simpa[Pc.vals] using hj
  ·rw[Array.getElem?_setIfInBounds_ne (by omega)]
   refine h5 j u ?_
   rcases(by omega:j=0∨j=1∨3≤j) with rfl|rfl|h9
   ·simpa[Pc.vals] using hj
   ·simpa[Pc.vals] using hj
   ·rw[List.flatMap_cons,List.getElem?_append_right (by rw[Pc.len];omega),Pc.len]at hj ⊢
    exact hj
 ·rw[Array.getElem?_setIfInBounds_ne (by omega)]
  exact htl j u hj
def EnR(W:World)(v:Value)(r:List Int):Prop:=∃g c ex,v = .slice (some ⟨g,0,none⟩) r.length c∧(r.length≤c∧c=r.length∧ex=[])∧W.heap[g]?=some (.cells (r.map (Value.int .i64)++ex).toArray 3 (0,0))
def Apt(a b:Value):Prop:=∀g,a.ownBlock=some g→b.ownBlock≠some g
structure Ad where
 w:World
 gs:Nat
 gJ:Nat
 gM:Nat
 gE:Nat
 gp:Nat
 gt:Nat
 pv:Value
 tv:Value
 l:List Pa
 tk:List Int
 m:Nat
 F:List (Nat × Obj)
def Ad.wf(A:Ad):Value:=.func (Fn.func 96) #[] #[.pointer (some ⟨A.gt,0,none⟩),.pointer (some ⟨A.gp,0,none⟩)]
structure SW (A:Ad) (W:World) (jv mv ev:List Value) (s:Sc):Prop where
 bel:Below A.w.heap.size A.w W
 sc:W.heap[A.gs]?=some (.cells #[A.pv,A.wf,.slice (some ⟨A.gJ,0,none⟩) A.l.length A.l.length,.slice (some ⟨A.gM,0,none⟩) A.l.length A.l.length,.int .i64 s.un,.slice (some ⟨A.gE,0,none⟩) A.m A.m] 127 (0,0))
 jr:W.heap[A.gJ]?=some (.cells jv.toArray 187 (0,0))
 mr:W.heap[A.gM]?=some (.cells mv.toArray 187 (0,0))
 er:W.heap[A.gE]?=some (.cells ev.toArray 25 (0,0))
 bp:W.heap[A.gp]?=some (.cells #[A.pv] 61 (0,0))
 bt:W.heap[A.gt]?=some (.cells #[A.tv] 25 (0,0))
 lj:jv.length=A.l.length
 lm:mv.length=A.l.length
 le:ev.length=A.m
 ljs:∀(i:Nat) (v:Value),jv[i]?=some v→LnR W v (s.jobs.getD i [])
 lms:∀(i:Nat) (v:Value),mv[i]?=some v→LnR W v (s.mail.getD i [])
 ens:∀(i:Nat) (v:Value),ev[i]?=some v→EnR W v (s.ends.getD i [])
 aj:jv.Pairwise Apt
 am:mv.Pairwise Apt
 ax:∀a∈jv,∀b∈mv,Apt a b
 ea:ev.Pairwise Apt
 ne:A.gJ≠A.gM
 low:A.w.heap.size≤A.gs∧A.w.heap.size≤A.gJ∧A.w.heap.size≤A.gM
 lov:∀v∈jv++mv++ev,∀g,v.ownBlock=some g→A.w.heap.size≤g
 fr:∀p∈A.F,W.heap[p.1]?=some p.2
 far:∀p∈A.F,p.1≠A.gs∧p.1≠A.gJ∧p.1≠A.gM∧∀v∈jv++mv++ev,v.ownBlock≠some p.1
theorem EnR.ty{W:World}{v:Value}{r:List Int}(h:EnR W v r){g:Nat}(hg:v.ownBlock=some g):∃cur,W.heap[g]?=some (.cells cur 3 (0,0)):=by
 obtain⟨g',c,ex,rfl,-,h3⟩:=h
 cases hg
 exact⟨_,h3⟩
theorem EnR.keep{W W':World}{v:Value}{r:List Int}(h:EnR W v r)(hk:∀g,v.ownBlock=some g→W'.heap[g]?=W.heap[g]?):EnR W' v r:=by
 obtain⟨g,c,ex,rfl,h1,h3⟩:=h
 exact⟨g,c,ex,rfl,h1,(hk g rfl).trans h3⟩
theorem ty_ne{W:World}{a b:Nat}{ca cb:Array Value}{ta tb:TypeId}{fa fb:Nat × Nat}(ha:W.heap[a]?=some (.cells ca ta fa))(hb:W.heap[b]?=some (.cells cb tb fb))(h:ta≠tb):a≠b:=fun e=>by
 subst e
 rw[ha]at hb
 cases hb
 exact h rfl
theorem heap_lt{W:World}{a:Nat}{o:Obj}(ha:W.heap[a]?=some o):a<W.heap.size:=(Array.getElem?_eq_some_iff.1 ha).1
theorem SW.grow{A:Ad}{W W':World}{jv mv ev:List Value}{s:Sc}(h:SW A W jv mv ev s)(hb:Below W.heap.size W W'):SW A W' jv mv ev s:=by
 have k:∀ {a:Nat} {o:Obj},W.heap[a]?=some o→W'.heap[a]?=some o:=fun ha=>(hb.block _ (heap_lt ha)).trans ha
 refine⟨below_seq h.bel hb,k h.sc,k h.jr,k h.mr,k h.er,k h.bp,k h.bt,h.lj,h.lm,h.le,fun i v hv=>?_,fun i v hv=>?_,fun i v hv=>?_,h.aj,h.am,h.ax,h.ea,h.ne,h.low,h.lov,fun p hp=>k (h.fr p hp),h.far⟩
 ·refine(h.ljs i v hv).keep fun g hg=>?_
  obtain⟨c,hc⟩:=(h.ljs i v hv).ty hg
  exact hb.block _ (heap_lt hc)
 ·refine(h.lms i v hv).keep fun g hg=>?_
  obtain⟨c,hc⟩:=(h.lms i v hv).ty hg
  exact hb.block _ (heap_lt hc)
 ·refine(h.ens i v hv).keep fun g hg=>?_
  obtain⟨c,hc⟩:=(h.ens i v hv).ty hg
  exact hb.block _ (heap_lt hc)
theorem Apt.symm{a b:Value}(h:Apt a b):Apt b a:=fun g h1 h2=>h g h2 h1
theorem pw_at{jv:List Value}(h:jv.Pairwise Apt){i j:Nat}{u v:Value}(hij:i≠j)(hu:jv[i]?=some u)(hv:jv[j]?=some v):Apt u v:=by
 obtain⟨h1,h2⟩:=List.getElem?_eq_some_iff.1 hu
 obtain⟨h3,h4⟩:=List.getElem?_eq_some_iff.1 hv
 have pw:=List.pairwise_iff_getElem.1 h
 rcases Nat.lt_or_gt_of_ne hij with h9|h9
 ·have h8:=pw i j h1 h3 h9
  rwa[h2,h4]at h8
 ·have h8:=pw j i h3 h1 h9
  rw[h2,h4]at h8
  exact h8.symm
theorem pw_set{jv:List Value}{i:Nat}{v':Value}(h:jv.Pairwise Apt)(hn:∀(j:Nat) (u:Value),j≠i→jv[j]?=some u→Apt v' u):(jv.set i v').Pairwise Apt:=by
 rw[List.pairwise_iff_getElem]
 intro a b ha hb hab
 have hu:=List.getElem?_eq_getElem ha
 have hv:=List.getElem?_eq_getElem hb
 generalize (jv.set i v')[a]=u at *
 generalize (jv.set i v')[b]=v at *
 rcases set_get hu with ⟨e1,e2⟩|⟨h1,hu1⟩
 ·rcases set_get hv with ⟨e3,e4⟩|⟨h2,hv1⟩
  ·omega
  ·rw[e2]
   exact hn b v (by omega) hv1
 ·rcases set_get hv with ⟨e3,e4⟩|⟨h2,hv1⟩
  ·rw[e4]
   exact(hn a u h1 hu1).symm
  ·exact pw_at h (by omega) hu1 hv1
theorem SW.lineJ{A:Ad}{W W':World}{jv mv ev:List Value}{s:Sc}(h:SW A W jv mv ev s){i:Nat}{v:Value}(hv:jv[i]?=some v)(hi:i<s.jobs.length){q:List Pc}(hg:W.grownBy W' v.ownBlock)(hl:LnR W' v q):SW A W' jv mv ev { s with jobs:=s.jobs.set i q }:=by
 have hold:=h.ljs i v hv
 have k:∀ {a:Nat} {c:Array Value} {t:TypeId},t≠189→W.heap[a]?=some (.cells c t (0,0))→W'.heap[a]?=some (.cells c t (0,0)):=fun {a c t} ht ha=>by
  refine(hg.block a (heap_lt ha) fun e=>?_).trans ha
  obtain⟨c',hc'⟩:=hold.ty e.symm
  exact ty_ne ha hc' ht rfl
 refine⟨?_,k (by decide) h.sc,k (by decide) h.jr,k (by decide) h.mr,k (by decide) h.er,k (by decide) h.bp,k (by decide) h.bt,h.lj,h.lm,h.le,fun j u hu=>?_,fun j u hu=>?_,fun j u hu=>?_,h.aj,h.am,h.ax,h.ea,h.ne,h.low,h.lov,fun p hp=>?_,h.far⟩
 ·refine⟨hg.os.trans h.bel.os,hg.tape.trans h.bel.tape,hg.output.trans h.bel.output,Nat.le_trans h.bel.size hg.size,fun a ha=>(hg.block a (Nat.lt_of_lt_of_le ha h.bel.size) fun e=>?_).trans (h.bel.block a ha)⟩
  have:=h.lov v (by simp[List.mem_of_getElem? hv]) a e.symm
  omega
 ·by_cases e:i=j
  ·subst e
   rw[hv]at hu
   cases hu
   rw[List.getD_eq_getElem?_getD,List.getElem?_set_self hi]
   exact hl
  ·rw[List.getD_eq_getElem?_getD,List.getElem?_set_ne e,← List.getD_eq_getElem?_getD]
   refine(h.ljs j u hu).keep fun g hg'=>?_
   obtain⟨c,hc⟩:=(h.ljs j u hu).ty hg'
   refine hg.block g (heap_lt hc) fun e2=>?_
   exact pw_at h.aj e hv hu g e2.symm hg'
 ·refine(h.lms j u hu).keep fun g hg'=>?_
  obtain⟨c,hc⟩:=(h.lms j u hu).ty hg'
  refine hg.block g (heap_lt hc) fun e2=>?_
  exact h.ax v (List.mem_of_getElem? hv) u (List.mem_of_getElem? hu) g e2.symm hg'
 ·refine(h.ens j u hu).keep fun g hg'=>?_
  obtain⟨c,hc⟩:=(h.ens j u hu).ty hg'
  exact(k (by decide) hc).trans hc.symm
 ·refine(hg.block p.1 (heap_lt (h.fr p hp)) fun e=>?_).trans (h.fr p hp)
  exact(h.far p hp).2.2.2 v (by simp[List.mem_of_getElem? hv]) e.symm
theorem SW.putJ{A:Ad}{W:World}{jv mv ev:List Value}{s:Sc}(h:SW A W jv mv ev s){i:Nat}{v v':Value}(hv:jv[i]?=some v)(hi:i<s.jobs.length){q:List Pc}(hl:LnR W v' q)(hb:∀g,v'.ownBlock=some g→v.ownBlock=some g∨(A.w.heap.size≤g∧(∀u∈jv++mv++ev,u.ownBlock≠some g)∧∀p∈A.F,p.1≠g)):SW A (W.setCell ⟨A.gJ,i,none⟩ v') (jv.set i v') mv ev { s with jobs:=s.jobs.set i q }:=by
 have k:∀ {a:Nat} {o:Obj},a≠A.gJ→W.heap[a]?=some o→(W.setCell ⟨A.gJ,i,none⟩ v').heap[a]?=some o:=fun {a o} ha h9=>by
  rw[Below.heap_setCell _ _ _ _ ha];exact h9
 have haj:∀(j:Nat) (u:Value),j≠i→jv[j]?=some u→Apt v' u:=by
  intro j u hj hu g hg
  rcases hb g hg with h1|⟨-,h2,-⟩
  ·exact pw_at h.aj (Ne.symm hj) hv hu g h1
  ·exact h2 u (by simp[List.mem_of_getElem? hu])
 have hax:∀b∈mv,Apt v' b:=by
  intro u hu g hg
  rcases hb g hg with h1|⟨-,h2,-⟩
  ·exact h.ax v (List.mem_of_getElem? hv) u hu g h1
  ·exact h2 u (by simp[hu])
 have mem:∀u∈jv.set i v'++mv++ev,u=v'∨u∈jv++mv++ev:=fun u hu=>by
  rcases List.mem_append.1 hu with hu|hu
  ·rcases List.mem_append.1 hu with hu|hu
   ·rcases List.mem_or_eq_of_mem_set hu with hu|hu
    ·exact .inr (by simp[hu])
    ·exact .inl hu
   ·exact .inr (by simp[hu])
  ·exact .inr (by simp[hu])
 refine⟨h.bel.setCell h.low.2.1 _,k (ty_ne h.sc h.jr (by decide)) h.sc,?_,k (Ne.symm h.ne) h.mr,k (ty_ne h.er h.jr (by decide)) h.er,k (ty_ne h.bp h.jr (by decide)) h.bp,k (ty_ne h.bt h.jr (by decide)) h.bt,by rw[List.length_set];exact h.lj,h.lm,h.le,fun j u hu=>?_,fun j u hu=>?_,fun j u hu=>?_,pw_set h.aj haj,h.am,fun a ha b hb'=>?_,h.ea,h.ne,h.low,fun u hu g hg=>?_,fun p hp=>?_,fun p hp=>?_⟩
 ·rw[setCell_list h.jr]
 ·have kk:∀ {u:Value} {q:List Pc},LnR W u q→LnR (W.setCell ⟨A.gJ,i,none⟩ v') u q:=fun {u q} hh=>hh.keep fun g hg=>by
   obtain⟨c,hc⟩:=hh.ty hg
   exact Below.heap_setCell _ _ _ _ (ty_ne hc h.jr (by decide))
  rcases set_get hu with ⟨rfl,rfl⟩|⟨hne,hu⟩
  ·rw[List.getD_eq_getElem?_getD,List.getElem?_set_self hi]
   exact kk hl
  ·rw[List.getD_eq_getElem?_getD,List.getElem?_set_ne (Ne.symm hne),← List.getD_eq_getElem?_getD]
   exact kk (h.ljs j u hu)
 ·refine(h.lms j u hu).keep fun g hg=>?_
  obtain⟨c,hc⟩:=(h.lms j u hu).ty hg
  exact Below.heap_setCell _ _ _ _ (ty_ne hc h.jr (by decide))
 ·refine(h.ens j u hu).keep fun g hg=>?_
  obtain⟨c,hc⟩:=(h.ens j u hu).ty hg
  exact Below.heap_setCell _ _ _ _ (ty_ne hc h.jr (by decide))
 ·rcases List.mem_or_eq_of_mem_set ha with ha|rfl
  ·exact h.ax a ha b hb'
  ·exact hax b hb'
 ·rcases mem u hu with rfl|hu
  ·rcases hb g hg with h1|⟨h1,-⟩
   ·exact h.lov v (by simp[List.mem_of_getElem? hv]) g h1
   ·exact h1
  ·exact h.lov u hu g hg
 ·exact k (h.far p hp).2.1 (h.fr p hp)
 ·obtain⟨f1,f2,f3,f4⟩:=h.far p hp
  refine⟨f1,f2,f3,fun u hu=>?_⟩
  rcases mem u hu with rfl|hu
  ·intro e
   rcases hb p.1 e with h1|⟨-,-,h1⟩
   ·exact f4 v (by simp[List.mem_of_getElem? hv]) h1
   ·exact h1 p hp rfl
  ·exact f4 u hu
theorem SW.lineM{A:Ad}{W W':World}{mv jv ev:List Value}{s:Sc}(h:SW A W jv mv ev s){i:Nat}{v:Value}(hv:mv[i]?=some v)(hi:i<s.mail.length){q:List Pc}(hg:W.grownBy W' v.ownBlock)(hl:LnR W' v q):SW A W' jv mv ev { s with mail:=s.mail.set i q }:=by
 have hold:=h.lms i v hv
 have k:∀ {a:Nat} {c:Array Value} {t:TypeId},t≠189→W.heap[a]?=some (.cells c t (0,0))→W'.heap[a]?=some (.cells c t (0,0)):=fun {a c t} ht ha=>by
  refine(hg.block a (heap_lt ha) fun e=>?_).trans ha
  obtain⟨c',hc'⟩:=hold.ty e.symm
  exact ty_ne ha hc' ht rfl
 refine⟨?_,k (by decide) h.sc,k (by decide) h.jr,k (by decide) h.mr,k (by decide) h.er,k (by decide) h.bp,k (by decide) h.bt,h.lj,h.lm,h.le,fun j u hu=>?_,fun j u hu=>?_,fun j u hu=>?_,h.aj,h.am,h.ax,h.ea,h.ne,h.low,h.lov,fun p hp=>?_,h.far⟩
 ·refine⟨hg.os.trans h.bel.os,hg.tape.trans h.bel.tape,hg.output.trans h.bel.output,Nat.le_trans h.bel.size hg.size,fun a ha=>(hg.block a (Nat.lt_of_lt_of_le ha h.bel.size) fun e=>?_).trans (h.bel.block a ha)⟩
  have:=h.lov v (by simp[List.mem_of_getElem? hv]) a e.symm
  omega
 ·refine(h.ljs j u hu).keep fun g hg'=>?_
  obtain⟨c,hc⟩:=(h.ljs j u hu).ty hg'
  refine hg.block g (heap_lt hc) fun e2=>?_
  exact(h.ax u (List.mem_of_getElem? hu) v (List.mem_of_getElem? hv)).symm g e2.symm hg'
 ·by_cases e:i=j
  ·subst e
   rw[hv]at hu
   cases hu
   rw[List.getD_eq_getElem?_getD,List.getElem?_set_self hi]
   exact hl
  ·rw[List.getD_eq_getElem?_getD,List.getElem?_set_ne e,← List.getD_eq_getElem?_getD]
   refine(h.lms j u hu).keep fun g hg'=>?_
   obtain⟨c,hc⟩:=(h.lms j u hu).ty hg'
   refine hg.block g (heap_lt hc) fun e2=>?_
   exact pw_at h.am e hv hu g e2.symm hg'
 ·refine(h.ens j u hu).keep fun g hg'=>?_
  obtain⟨c,hc⟩:=(h.ens j u hu).ty hg'
  exact(k (by decide) hc).trans hc.symm
 ·refine(hg.block p.1 (heap_lt (h.fr p hp)) fun e=>?_).trans (h.fr p hp)
  exact(h.far p hp).2.2.2 v (by simp[List.mem_of_getElem? hv]) e.symm
theorem SW.putM{A:Ad}{W:World}{mv jv ev:List Value}{s:Sc}(h:SW A W jv mv ev s){i:Nat}{v v':Value}(hv:mv[i]?=some v)(hi:i<s.mail.length){q:List Pc}(hl:LnR W v' q)(hb:∀g,v'.ownBlock=some g→v.ownBlock=some g∨(A.w.heap.size≤g∧(∀u∈jv++mv++ev,u.ownBlock≠some g)∧∀p∈A.F,p.1≠g)):SW A (W.setCell ⟨A.gM,i,none⟩ v') jv (mv.set i v') ev { s with mail:=s.mail.set i q }:=by
 have k:∀ {a:Nat} {o:Obj},a≠A.gM→W.heap[a]?=some o→(W.setCell ⟨A.gM,i,none⟩ v').heap[a]?=some o:=fun {a o} ha h9=>by
  rw[Below.heap_setCell _ _ _ _ ha];exact h9
 have ham:∀(j:Nat) (u:Value),j≠i→mv[j]?=some u→Apt v' u:=by
  intro j u hj hu g hg
  rcases hb g hg with h1|⟨-,h2,-⟩
  ·exact pw_at h.am (Ne.symm hj) hv hu g h1
  ·exact h2 u (by simp[List.mem_of_getElem? hu])
 have hax:∀b∈jv,Apt v' b:=by
  intro u hu g hg
  rcases hb g hg with h1|⟨-,h2,-⟩
  ·exact(h.ax u hu v (List.mem_of_getElem? hv)).symm g h1
  ·exact h2 u (by simp[hu])
 have mem:∀u∈jv++mv.set i v'++ev,u=v'∨u∈jv++mv++ev:=fun u hu=>by
  rcases List.mem_append.1 hu with hu|hu
  ·rcases List.mem_append.1 hu with hu|hu
   ·exact .inr (by simp[hu])
   ·rcases List.mem_or_eq_of_mem_set hu with hu|hu
    ·exact .inr (by simp[hu])
    ·exact .inl hu
  ·exact .inr (by simp[hu])
 refine⟨h.bel.setCell h.low.2.2 _,k (ty_ne h.sc h.mr (by decide)) h.sc,k h.ne h.jr,?_,k (ty_ne h.er h.mr (by decide)) h.er,k (ty_ne h.bp h.mr (by decide)) h.bp,k (ty_ne h.bt h.mr (by decide)) h.bt,h.lj,by rw[List.length_set];exact h.lm,h.le,fun j u hu=>?_,fun j u hu=>?_,fun j u hu=>?_,h.aj,pw_set h.am ham,fun a ha b hb'=>?_,h.ea,h.ne,h.low,fun u hu g hg=>?_,fun p hp=>?_,fun p hp=>?_⟩
 ·rw[setCell_list h.mr]
 ·refine(h.ljs j u hu).keep fun g hg=>?_
  obtain⟨c,hc⟩:=(h.ljs j u hu).ty hg
  exact Below.heap_setCell _ _ _ _ (ty_ne hc h.mr (by decide))
 ·have kk:∀ {u:Value} {q:List Pc},LnR W u q→LnR (W.setCell ⟨A.gM,i,none⟩ v') u q:=fun {u q} hh=>hh.keep fun g hg=>by
   obtain⟨c,hc⟩:=hh.ty hg
   exact Below.heap_setCell _ _ _ _ (ty_ne hc h.mr (by decide))
  rcases set_get hu with ⟨rfl,rfl⟩|⟨hne,hu⟩
  ·rw[List.getD_eq_getElem?_getD,List.getElem?_set_self hi]
   exact kk hl
  ·rw[List.getD_eq_getElem?_getD,List.getElem?_set_ne (Ne.symm hne),← List.getD_eq_getElem?_getD]
   exact kk (h.lms j u hu)
 ·refine(h.ens j u hu).keep fun g hg=>?_
  obtain⟨c,hc⟩:=(h.ens j u hu).ty hg
  exact Below.heap_setCell _ _ _ _ (ty_ne hc h.mr (by decide))
 ·rcases List.mem_or_eq_of_mem_set hb' with hb'|rfl
  ·exact h.ax a ha b hb'
  ·exact(hax a ha).symm
 ·rcases mem u hu with rfl|hu
  ·rcases hb g hg with h1|⟨h1,-⟩
   ·exact h.lov v (by simp[List.mem_of_getElem? hv]) g h1
   ·exact h1
  ·exact h.lov u hu g hg
 ·exact k (h.far p hp).2.2.1 (h.fr p hp)
 ·obtain⟨f1,f2,f3,f4⟩:=h.far p hp
  refine⟨f1,f2,f3,fun u hu=>?_⟩
  rcases mem u hu with rfl|hu
  ·intro e
   rcases hb p.1 e with h1|⟨-,-,h1⟩
   ·exact f4 v (by simp[List.mem_of_getElem? hv]) h1
   ·exact h1 p hp rfl
  ·exact f4 u hu
theorem SW.setUn{A:Ad}{W:World}{jv mv ev:List Value}{s:Sc}(h:SW A W jv mv ev s)(z:Int):SW A (W.setCell ⟨A.gs,4,none⟩ (.int .i64 z)) jv mv ev { s with un:=z }:=by
 have k:∀ {a:Nat} {o:Obj},a≠A.gs→W.heap[a]?=some o→(W.setCell ⟨A.gs,4,none⟩ (.int .i64 z)).heap[a]?=some o:=fun {a o} ha h9=>by
  rw[Below.heap_setCell _ _ _ _ ha];exact h9
 refine⟨h.bel.setCell h.low.1 _,?_,k (ty_ne h.jr h.sc (by decide)) h.jr,k (ty_ne h.mr h.sc (by decide)) h.mr,k (ty_ne h.er h.sc (by decide)) h.er,k (ty_ne h.bp h.sc (by decide)) h.bp,k (ty_ne h.bt h.sc (by decide)) h.bt,h.lj,h.lm,h.le,fun j u hu=>?_,fun j u hu=>?_,fun j u hu=>?_,h.aj,h.am,h.ax,h.ea,h.ne,h.low,h.lov,fun p hp=>?_,h.far⟩
 ·rw[setCell_at h.sc];rfl
 ·refine(h.ljs j u hu).keep fun g hg=>?_
  obtain⟨c,hc⟩:=(h.ljs j u hu).ty hg
  exact Below.heap_setCell _ _ _ _ (ty_ne hc h.sc (by decide))
 ·refine(h.lms j u hu).keep fun g hg=>?_
  obtain⟨c,hc⟩:=(h.lms j u hu).ty hg
  exact Below.heap_setCell _ _ _ _ (ty_ne hc h.sc (by decide))
 ·refine(h.ens j u hu).keep fun g hg=>?_
  obtain⟨c,hc⟩:=(h.ens j u hu).ty hg
  exact Below.heap_setCell _ _ _ _ (ty_ne hc h.sc (by decide))
 ·exact k (h.far p hp).1 (h.fr p hp)
theorem SW.setEnd{A:Ad}{W:World}{jv mv ev:List Value}{s:Sc}(h:SW A W jv mv ev s){cm:Nat}{g c:Nat}{k:Nat}(hv:ev[cm]?=some (.slice (some ⟨g,0,none⟩) k c))(hm:cm<s.ends.length)(i:Nat)(z:Int)(hi:i<(s.ends.getD cm []).length):SW A (W.setCell ⟨g,i,none⟩ (.int .i64 z)) jv mv ev { s with ends:=s.ends.set cm ((s.ends.getD cm []).set i z) }:=by
 obtain⟨g',c',ex,he,hc,hh⟩:=h.ens cm _ hv
 cases he
 have kk:∀ {a:Nat} {o:Obj},a≠g→W.heap[a]?=some o→(W.setCell ⟨g,i,none⟩ (.int .i64 z)).heap[a]?=some o:=fun {a o} ha h9=>by
  rw[Below.heap_setCell _ _ _ _ ha];exact h9
 have hmem:(Value.slice (some ⟨g,0,none⟩) (s.ends.getD cm []).length c)∈ev:=List.mem_of_getElem? hv
 refine⟨h.bel.setCell (show A.w.heap.size≤g from h.lov _ (List.mem_append_right _ hmem) g rfl) _,kk (ty_ne h.sc hh (by decide)) h.sc,kk (ty_ne h.jr hh (by decide)) h.jr,kk (ty_ne h.mr hh (by decide)) h.mr,kk (ty_ne h.er hh (by decide)) h.er,kk (ty_ne h.bp hh (by decide)) h.bp,kk (ty_ne h.bt hh (by decide)) h.bt,h.lj,h.lm,h.le,fun j u hu=>?_,fun j u hu=>?_,fun j u hu=>?_,h.aj,h.am,h.ax,h.ea,h.ne,h.low,h.lov,fun p hp=>?_,h.far⟩
 ·refine(h.ljs j u hu).keep fun g hg=>?_
  obtain⟨c,hc⟩:=(h.ljs j u hu).ty hg
  exact Below.heap_setCell _ _ _ _ (ty_ne hc hh (by decide))
 ·refine(h.lms j u hu).keep fun g hg=>?_
  obtain⟨c,hc⟩:=(h.lms j u hu).ty hg
  exact Below.heap_setCell _ _ _ _ (ty_ne hc hh (by decide))
 ·by_cases e:cm=j
  ·subst e
   rw[hv]at hu
   cases hu
   have e9:(s.ends.set cm ((s.ends.getD cm []).set i z)).getD cm []=(s.ends.getD cm []).set i z:=getD_some (List.getElem?_set_self hm)
   show EnR _ _ ((s.ends.set cm ((s.ends.getD cm []).set i z)).getD cm [])
   rw[e9]
   refine⟨g,c,ex,by simp,by simpa using hc,?_⟩
   show(W.setCell ⟨g,i,none⟩ (.int .i64 z)).heap[g]?=some (.cells ((((s.ends.getD cm []).set i z)).map (Value.int .i64)++ex).toArray 3 (0,0))
   rw[setCell_list hh,List.map_set,List.set_append_left _ _ (by rw[List.length_map];exact hi)]
  ·have e9:(s.ends.set cm ((s.ends.getD cm []).set i z)).getD j []=s.ends.getD j []:=by
    rw[List.getD_eq_getElem?_getD,List.getElem?_set_ne e,← List.getD_eq_getElem?_getD]
   show EnR _ _ ((s.ends.set cm ((s.ends.getD cm []).set i z)).getD j [])
   rw[e9]
   refine(h.ens j u hu).keep fun g2 hg=>?_
   exact Below.heap_setCell _ _ _ _ (fun e2=>pw_at h.ea e hv hu g rfl (by rw[hg,e2]))
 ·exact kk (fun e2=>(h.far p hp).2.2.2 _ (List.mem_append_right _ hmem) (by rw[e2];rfl)) (h.fr p hp)
end Go.Proofs.YtccoobcggbbcialGreatDoor
