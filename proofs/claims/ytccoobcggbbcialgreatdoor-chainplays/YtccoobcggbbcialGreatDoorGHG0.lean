import Derived.Test.YtccoobcggbbcialGreatDoorGNF
import Derived.Test.YtccoobcggbbcialGreatDoorGNI
import Derived.Test.YtccoobcggbbcialGreatDoorGXB
import Derived.Maps.AppendAt
import Derived.Deep.CutRange
import Derived.Deep.CutBlock
namespace Go.Proofs.YtccoobcggbbcialGreatDoor
open Go.ChangeShapes Go.WideShapes Go.ChangeAt Go.RowKit
theorem tqGHG0{P:Program}{md:Region.Mode}{ops:Array Oper}{Q:Exit→Act→World→Prop}{S:World→Prop}{i n:Nat}{oi:Oper}{v:Value}{fuel:Nat}{listed:Array Bool}{l:List Value}{ds:List Deferred}{w:World}
  (hy:∀w,S w→(execOp (Act.eval ⟨l.toArray,ds⟩) oi).run P w = .ok (.value v) w) (h:wpAnyH P md ops Q S fuel (listed.setIfInBounds i true) ⟨(l.set n v).toArray,ds⟩ w)
  (hi:ops[i]?=some oi:=by rfl) (hd:oi.dst=some n:=by rfl) (hs:(Region.noSelect ops && Region.free md ops listed i && (Region.ready md ops listed).contains i)=true:=by kernel_rfl)
  (hQ:∀c a w,Q (.panic c) (a.put oi.dst v) w→Q (.panic c) a w:=by exact fun _ _ _ h=>h) (hg:Region.wanted oi (yielded ops l.toArray)=true:=by rfl) (hS:S w:=by assumption):wpAnyH P md ops Q S (fuel+1) listed ⟨l.toArray,ds⟩ w:=by
 simp only[Bool.and_eq_true]at hs
 exact take_at hi hd hs.1.1 hs.1.2 hs.2 hQ (.inl ⟨hg,hy⟩) hS h
end Go.Proofs.YtccoobcggbbcialGreatDoor
namespace Go.Proofs.YtccoobcggbbcialGreatDoor
open Go.ChangeShapes Go.WideShapes Go.ChangeAt Go.RowKit
def runCells(n:Nat)(runs:List Int):List Value:=runs.map (Value.int .i64)++List.replicate (n-runs.length) (.int .i64 0)
theorem runCells_len{n:Nat}{runs:List Int}(h:runs.length≤n):(runCells n runs).length=n:=by simp[runCells];omega
theorem runCells_snoc{n:Nat}{runs:List Int}{v:Int}(h:runs.length<n):(runCells n runs).set runs.length (.int .i64 v)=runCells n (runs++[v]):=by
 unfold runCells
 rw[List.set_append_right _ _ (by simp)]
 obtain⟨m,hm⟩:∃m,n-runs.length=m+1:=⟨n-runs.length-1,by omega⟩
 rw[hm,List.replicate_succ]
 simp[show n-(runs.length+1)=m by omega]
theorem runCells_full{runs:List Int}:runCells runs.length runs=runs.map (Value.int .i64):=by simp[runCells]
theorem setCell_list{w:World}{g i:Nat}{cs:List Value}{t:TypeId}{fr:Nat × Nat}{u:Value}(h:w.heap[g]?=some (.cells cs.toArray t fr)):(w.setCell ⟨g,i,none⟩ u).heap[g]?=some (.cells (cs.set i u).toArray t fr):=by
 rw[setCell_at h,List.setIfInBounds_toArray]
theorem set_grown(W:World)(g i:Nat)(u:Value):W.grownBy (W.setCell ⟨g,i,none⟩ u) (some g):=by
 refine⟨rfl,rfl,rfl,?_,fun q hq hne=>Below.heap_setCell _ _ _ _ (fun e=>hne (by rw[show q=g from e]))⟩
 simp
theorem info3N:(Tryz.prog.info? 3).map (fun i=>(i.zero,i.size,i.bytes))=some (some (.int .i64 0),1,8):=by kernel_rfl
theorem made_rep(n:Nat):madeCells (Value.int .i64 0).cells (n*1)=(List.replicate n (Value.int .i64 0)).toArray:=by
 apply Array.ext
 ·simp[madeCells]
 ·intro i h1 h2
  simp[madeCells,Value.cells,Nat.mod_one]
theorem make_ints(W:World)(n:Nat)(hn:n≤1000000):∃W',(Instr.makeSlice 25 (.int .i64 (n:Int)) (.int .i64 (n:Int))).run Tryz.prog W = .ok (.slice (some ⟨W.heap.size,0,none⟩) n n) W'∧Below W.heap.size W W'∧W'.heap[W.heap.size]?=some (.cells (runCells n []).toArray 3 (0,0)):=by
 obtain⟨i0,hi0,hz0,hz1,hz2⟩:=info_parts info3N
 have h:=run_make (P:=Tryz.prog) W 25 3 i0 _ Tryz.underlying25 hi0 hz0 .i64 .i64 (n:Int) (n:Int) (by omega) (by omega) (by rw[hz2];omega) (by omega)
 rw[Int.toNat_natCast,hz1,made_rep]at h
 exact⟨_,h,below_new _ _,heap_alloc_new _ _⟩
def TmA(l:List Fr)(ts:List Int)(e:Int × Int):Prop:=((chkN l).1≠0∧ts=[]∧e=chkN l)∨((chkN l).1=0∧Told l ts e)
theorem TmA.one{l:List Fr}{ts us:List Int}{e f:Int × Int}(h:TmA l ts e)(h':TmA l us f):ts=us∧e=f:=by
 rcases h with ⟨h1,rfl,rfl⟩|⟨h1,h2⟩
 ·rcases h' with ⟨g1,rfl,rfl⟩|⟨g1,g2⟩
  ·exact⟨rfl,rfl⟩
  ·exact absurd g1 h1
 ·rcases h' with ⟨g1,rfl,rfl⟩|⟨g1,g2⟩
  ·exact absurd h1 g1
  ·exact h2.one g2
theorem Times_ends{w:World}{g:Nat}{c k v:Value}{a:Act}(h:w.heap[g]?=some (.cells #[c,k] 33 (0,0)))(h2:a.tmps[2]?.getD undef=v)(h3:a.tmps[3]?.getD undef = .pointer (some ⟨g,0,none⟩)) :
  (results Tryz.f146 a.tmps).run Tryz.prog w = .ok (.tuple #[v,.agg #[c,k]]) w:=by
 obtain⟨c1,f1,l1⟩:=cells_of (l:=[_,_]) h
 have c10:=c1 0 _ rfl
 have c11:=c1 1 _ rfl
 simp[results,Tryz.results146,go_sem,h2,h3,c10,c11]
theorem flat_nuN(xs:List Int):xs.flatMap nuV=xs.map (Value.int .i64):=by
 induction xs with
 | nil=>rfl
 | cons x r ih=>rw[List.flatMap_cons,ih];rfl
theorem row_ints{W:World}{G:Nat}{ts:List Int}(h:W.heap[G]?=some (.cells (ts.map (Value.int .i64)).toArray 3 (0,0))):RowSl nuV W ts (.slice (some ⟨G,0,none⟩) ts.length ts.length):=by
 refine⟨some ⟨G,0,none⟩,ts.length,rfl,(fun h=>by cases h),Nat.le_refl _,Or.inr ⟨G,0,rfl,fun q u hq=>?_⟩⟩
 rw[Nat.zero_add]
 rw[flat_nuN]at hq
 exact(cells_of h).1 q u hq
structure TW (w W:World) (n g:Nat) (ts:List Int):Prop where
 fb:FB w W w.heap.size
 row:W.heap[g]?=some (.cells (runCells n ts).toArray 3 (0,0))
 low:w.heap.size<g
theorem TW.grow{w W W':World}{n g:Nat}{ts:List Int}(h:TW w W n g ts)(hb:Below W.heap.size W W'):TW w W' n g ts :=
 ⟨h.fb.grow hb,(hb.block _ (ltH h.row)).trans h.row,h.low⟩
theorem TW.put{w W:World}{n g:Nat}{ts:List Int}(h:TW w W n g ts){v:Int}(hn:ts.length<n):TW w (W.setCell ⟨g,ts.length,none⟩ (.int .i64 v)) n g (ts++[v]):=by
 have hl:=h.low
 refine⟨⟨h.fb.bel.setCell (show w.heap.size≤g by omega) _,?_,h.fb.low⟩,?_,h.low⟩
 ·rw[Below.heap_setCell _ _ _ _ (show w.heap.size≠g by omega)];exact h.fb.res
 ·rw[setCell_list h.row,runCells_snoc hn]
def TimesPost(w:World)(l:List Fr)(r:Ending)(w':World):Prop:=∃ts e tv,TmA l ts e∧r = .returned (.tuple #[tv,.agg #[.int .i64 e.1,.int .i64 e.2]])∧RowSl nuV w' ts tv∧Below w.heap.size w w'∧NewSl w.heap.size tv
set_option maxRecDepth 20000 in
set_option maxHeartbeats 2000000 in
theorem Times_any(w:World)(l:List Fr)(v:Value)(hv:RowSl Fr.vals w l v):Calls Tryz.prog 146 #[v] w (TimesPost w l):=by
 have HC:=CheckN_any (w.alloc (.cells #[.int .i64 0,.int .i64 0] 33)) l v (hv.below (below_new _ _))
 by_cases h0:(chkN l).1=0
 rotate_left 1
 ·obtain⟨z1,z2,hz⟩:∃z1 z2,chkN l=(z1,z2):=⟨_,_,rfl⟩
  have HZ:Hid (chkN l=(z1,z2)∧(chkN l).1≠0):=⟨hz,h0⟩
  rw[hz]at HC h0
  dsimp only at HC h0
  have hz1:(z1 != 0)=true:=by simpa using h0
  obtain⟨ad,c,rfl⟩:=hv.len
  clear hv hz h0
  go_enter Tryz.func146,Tryz.ntmps146
  go_upto_region 3 with (go_at_call 213;refine HC.mono ?_;rintro r w1 ⟨rfl,hb1⟩;have H1:Hid (FB w (w1.alloc (.cells #[.int .i64 z1,.int .i64 z2] 33)) w.heap.size):=((FB.start w).grow hb1).grow (below_new _ _);have hl1:w.heap.size<w1.heap.size:=((FB.start w).grow hb1).lt;clear hb1 HC)
  obtain⟨fs,-,fl⟩:=cells_of (l:=[_,_]) (heap_alloc_new w1 (.cells #[.int .i64 z1,.int .i64 z2] 33))
  have g0:=fs 0 _ rfl
  have g1:=fs 1 _ rfl
  clear fs
  generalize w1.alloc (.cells #[.int .i64 z1,.int .i64 z2] 33)=w2 at *
  obtain⟨qs,qf,ql⟩:=cells_of (l:=[_,_]) H1.out.res
  have q0:=qs 0 _ rfl
  have q1:=qs 1 _ rfl
  have qf0:=qf 0
  have qf1:=qf 1
  clear qs qf
  go_region
  all_goals go_wp2_with fail
  all_goals
   refine bodyPost_ret (Times_ends (g:=w.heap.size) (c:=.int .i64 z1) (k:=.int .i64 z2) (v:=.slice none 0 0) (set_two H1.out.res) rfl rfl) rfl ?_
   exact⟨[],(z1,z2),_,.inl ⟨HZ.out.2,rfl,HZ.out.1.symm⟩,rfl,RowSl.nil _ _,(H1.out.set _ _).drew,NewSl.none _ _ _⟩
 ·obtain⟨hl1,hl8,hok,hce⟩:=chkN_ok h0
  rw[hce]at HC
  dsimp only at HC
  have hv':=hv
  obtain⟨ad,c,rfl,-,hcap,hrw⟩:=hv'
  rcases hrw with hnil|⟨ab,ao,rfl,hrow⟩
  ·rw[hnil]at hl1;simp at hl1
  have HV:Hid (RowSl Fr.vals w l (.slice (some ⟨ab,ao,none⟩) l.length c)∧(∀x∈l,okFr x)∧(∀q u,(l.flatMap Fr.vals)[q]?=some u→w.cell? ⟨ab,ao+q,none⟩=some u)∧(chkN l).1=0):=⟨hv,hok,hrow,h0⟩
  clear hv hok hrow h0 hce
  go_enter Tryz.func146,Tryz.ntmps146
  go_upto_region 2 with (go_at_call 213;refine HC.mono ?_;rintro r w1 ⟨rfl,hb1⟩;have H1:Hid (FB w (w1.alloc (.cells #[.int .i64 0,.int .i64 0] 33)) w.heap.size):=((FB.start w).grow hb1).grow (below_new _ _);clear hb1 HC)
  obtain⟨fs,-,fl⟩:=cells_of (l:=[_,_]) (heap_alloc_new w1 (.cells #[.int .i64 0,.int .i64 0] 33))
  have g0:=fs 0 _ rfl
  clear fs
  generalize w1.alloc (.cells #[.int .i64 0,.int .i64 0] 33)=w2 at *
  obtain⟨w3,hmk,hb3,hh3⟩:=make_ints w2 l.length (by omega)
  have H3:Hid (TW w w3 l.length w2.heap.size []):=⟨H1.out.grow hb3,hh3,by have:=H1.out.lt;omega⟩
  generalize w2.heap.size=G at *
  clear H1 hb3 hh3
  go_wp2_with fail
  go_loopw [21] (fun i4 wr=>∃ts:List Int,ts.length≤l.length∧i4 = .int .i64 (ts.length:Nat)∧TW w wr l.length G ts∧TmsTo l ts) (fun i4 _=>l.length-(intOf i4).toNat)
  case atStart=>exact⟨[],Nat.zero_le _,rfl,H3.out,TmsTo.start l⟩
  case round =>
   obtain⟨ts,hts,rfl,htw,htm⟩:=hrel
   have HT:Hid (TW w wr l.length G ts∧TmsTo l ts):=⟨htw,htm⟩
   by_cases hjl:ts.length<l.length
   ·obtain⟨m,hm,-⟩:=drop_at hjl
    obtain⟨y0,y1,y2,y3⟩:=fr_at (fun q u hq=>below_cell htw.fb.bel (HV.out.2.2.1 q u hq)) hm
    have HWc:=worstN_any (wr.alloc (.cells #[.int .i64 m.c,.int .i64 m.t,.int .i64 m.d,.int .i64 m.j] 240)) l ab ao c ts.length m hl8 hcap HV.out.2.1 hm ((HV.out.1.below htw.fb.bel).below (below_new _ _))
    have HMM:Hid (l[ts.length]?=some m):=hm
    clear htw htm hm
    generalize hj:ts.length=j at *
    have HJ:Hid (ts.length=j):=hj
    clear hj
    obtain⟨mc,mt,md,mj⟩:=m
    dsimp only at y0 y1 y2 y3 HWc
    have hji:(j:Int)<(l.length:Int):=by omega
    have HB:Hid (TW w (wr.alloc (.cells #[.int .i64 mc,.int .i64 mt,.int .i64 md,.int .i64 mj] 240)) l.length G ts):=HT.out.1.grow (below_new _ _)
    have hnb:=heap_alloc_new wr (.cells #[.int .i64 mc,.int .i64 mt,.int .i64 md,.int .i64 mj] 240)
    go_upto_region 9 with (go_at_call 214;refine HWc.mono ?_;rintro r w5 ⟨x,hx,rfl,hb5⟩;have HX:Hid (Wst (l.take j) ⟨mc,mt,md,mj⟩ (l.drop (j+1)) x):=hx;have H5:Hid (TW w w5 l.length G ts):=HB.out.grow hb5;have d5:w5.cell? ⟨wr.heap.size,2,none⟩=some (.int .i64 md):=below_cell hb5 ((cells_of (l:=[_,_,_,_]) hnb).1 2 _ rfl);clear hb5 HWc hnb hx HB)
    obtain⟨qs,qf,ql⟩:=cells_of (l:=[_,_]) H5.out.fb.res
    have q0:=qs 0 _ rfl
    have q1:=qs 1 _ rfl
    have qf0:=qf 0
    have qf1:=qf 1
    clear qs qf
    cases x with
    | none =>
     simp only[Option.getD,Option.isSome]
     go_wp2_with fail
     refine bodyPost_ret (Times_ends (g:=w.heap.size) (c:=.int .i64 13) (k:=.int .i64 (j:Int)) (v:=.slice none 0 0) (set_two H5.out.fb.res) rfl rfl) rfl ?_
     refine⟨[],(13,(j:Int)),_,.inr ⟨HV.out.2.2.2,.inr ⟨rfl,ts,HT.out.2,⟨⟨mc,mt,md,mj⟩,none,?_,?_,fun v h=>by cases h⟩,by rw[HJ.out]⟩⟩,rfl,RowSl.nil _ _,H5.out.fb.set _ _,NewSl.none _ _ _⟩
     ·rw[HJ.out];exact HMM.out
     ·rw[HJ.out];exact HX.out
    | some v =>
     simp only[Option.getD,Option.isSome]
     by_cases hvd:md<v
     ·go_wp2_with fail
      refine bodyPost_ret (Times_ends (g:=w.heap.size) (c:=.int .i64 13) (k:=.int .i64 (j:Int)) (v:=.slice none 0 0) (set_two H5.out.fb.res) rfl rfl) rfl ?_
      refine⟨[],(13,(j:Int)),_,.inr ⟨HV.out.2.2.2,.inr ⟨rfl,ts,HT.out.2,⟨⟨mc,mt,md,mj⟩,some v,?_,?_,fun v' h=>by cases h;exact hvd⟩,by rw[HJ.out]⟩⟩,rfl,RowSl.nil _ _,H5.out.fb.set _ _,NewSl.none _ _ _⟩
      ·rw[HJ.out];exact HMM.out
      ·rw[HJ.out];exact HX.out
     ·have hlj:j<(runCells l.length ts).length:=by rw[runCells_len (by rw[HJ.out];exact hts)];exact hjl
      obtain⟨rc,rf,rl⟩:=cells_of (l:=runCells l.length ts) H5.out.row
      have r0:=rc j _ (List.getElem?_eq_getElem hlj)
      have rf0:=rf j
      generalize (runCells l.length ts)[j]=rold at r0
      clear rc rf
      go_wp2_with fail
      have hp:=H5.out.put (v:=v) (by rw[HJ.out];exact hjl)
      rw[HJ.out]at hp
      refine⟨⟨ts++[v],by simp;have:=HJ.out;omega,by have:=HJ.out;simp;omega,hp,HT.out.2.snoc (m:=⟨mc,mt,md,mj⟩) (by rw[HJ.out];exact HMM.out) (by rw[HJ.out];exact HX.out) (by show v≤md;omega)⟩,by have:=HJ.out;simp[intOf];omega⟩
   ·have hje:ts.length=l.length:=by omega
    obtain⟨qs,qf,ql⟩:=cells_of (l:=[_,_]) htw.fb.res
    have q0:=qs 0 _ rfl
    have q1:=qs 1 _ rfl
    have qf0:=qf 0
    have qf1:=qf 1
    have HJ:Hid (ts.length=l.length):=hje
    clear qs qf htw htm
    have hji:¬ ((ts.length:Nat):Int)<(l.length:Int):=by omega
    clear hje
    go_wp2_with fail
    refine bodyPost_ret (Times_ends (g:=w.heap.size) (c:=.int .i64 0) (k:=.int .i64 0) (v:=.slice (some ⟨G,0,none⟩) l.length l.length) (set_two HT.out.1.fb.res) rfl rfl) rfl ?_
    refine⟨ts,(0,0),_,.inr ⟨HV.out.2.2.2,.inl ⟨HT.out.2,HJ.out,rfl⟩⟩,rfl,?_,HT.out.1.fb.set _ _,fun a n c e=>by cases e;have:=HT.out.1.low;show w.heap.size≤G;omega⟩
    have hrow2:(((wr.setCell ⟨w.heap.size,0,none⟩ (.int .i64 0)).setCell ⟨w.heap.size,1,none⟩ (.int .i64 0))).heap[G]?=some (.cells (ts.map (Value.int .i64)).toArray 3 (0,0)):=by
     have hlo:=HT.out.1.low
     rw[Below.heap_setCell _ _ _ _ (show G≠w.heap.size by omega),Below.heap_setCell _ _ _ _ (show G≠w.heap.size by omega),HT.out.1.row,← HJ.out,runCells_full]
    have hr:=row_ints hrow2
    rw[HJ.out]at hr
    exact hr
theorem own_cells{w:World}{B n size:Nat}{e:TypeId}{v:Value}{xs:List Value}(h:w.ownsRow B e size v n xs)(hn:0<n):∃g c cur,v = .slice (some ⟨g,0,none⟩) n c∧B≤g∧g<w.heap.size∧n≤c∧c≤maxLen∧w.heap[g]?=some (.cells cur e (0,0))∧cur.size=c*size∧∀(q:Nat) (u:Value),xs[q]?=some u→w.cell? ⟨g,q,none⟩=some u:=by
 have h':=h
 obtain⟨hl,⟨h1,h2⟩|⟨g,cap,cur,he,hb,hg,hc1,hc2,hc3,hc4⟩⟩:=h
 ·omega
 ·subst he
  refine⟨g,cap,cur,rfl,hb,(Array.getElem?_eq_some_iff.1 hg).1,hc1,hc2,hg,hc3,fun q u hq=>?_⟩
  have hql:=(List.getElem?_eq_some_iff.1 hq).1
  exact(h'.cellAt q (by omega)).trans hq
def lat0(l:List Pa)(tk:List Int):List Int:=l.map fun x=>if x.fr=-1 then 0 else tk.getD x.fr.toNat 0
def frFrom:List Pa→List Int→Nat→List (Nat × Fr)
 | [],_,_=>[]
 | x::r,tk,k=>(if x.fr≠-1∧x.se≠0 then [(k,(⟨x.se,x.t,x.d,tk.getD x.fr.toNat 0⟩:Fr))] else [])++frFrom r tk (k+1)
def frsP(l:List Pa)(tk:List Int):List (Nat × Fr):=frFrom l tk 0
theorem frFrom_append:∀(a b:List Pa) (tk:List Int) (k:Nat),frFrom (a++b) tk k=frFrom a tk k++frFrom b tk (k+a.length)
 | [],b,tk,k=>by simp[frFrom]
 | x::r,b,tk,k=>by
  rw[List.cons_append,frFrom,frFrom,frFrom_append r b tk (k+1),List.append_assoc,List.length_cons,show k+1+r.length=k+(r.length+1) by omega]
theorem frsP_snoc{l:List Pa}{tk:List Int}{i:Nat}{x:Pa}(hx:l[i]?=some x):frsP (l.take (i+1)) tk=frsP (l.take i) tk++(if x.fr≠-1∧x.se≠0 then [(i,(⟨x.se,x.t,x.d,tk.getD x.fr.toNat 0⟩:Fr))] else []):=by
 have hi:i<l.length:=(List.getElem?_eq_some_iff.1 hx).1
 unfold frsP
 rw[List.take_add_one,hx,frFrom_append]
 simp[frFrom,show min i l.length=i by omega]
theorem lat0_snoc{l:List Pa}{tk:List Int}{i:Nat}{x:Pa}(hx:l[i]?=some x):lat0 (l.take (i+1)) tk=lat0 (l.take i) tk++[if x.fr=-1 then 0 else tk.getD x.fr.toNat 0]:=by
 unfold lat0
 rw[List.take_add_one,hx]
 simp
theorem lat0_len(l:List Pa)(tk:List Int):(lat0 l tk).length=l.length:=by unfold lat0;simp
theorem frFrom_len:∀(l:List Pa) (tk:List Int) (k:Nat),(frFrom l tk k).length≤l.length
 | [],_,_=>by simp[frFrom]
 | x::r,tk,k=>by
  have:=frFrom_len r tk (k+1)
  rw[frFrom,List.length_append,List.length_cons]
  split<;>simp<;>omega
theorem frFrom_idx:∀(l:List Pa) (tk:List Int) (k:Nat),∀y∈frFrom l tk k,k≤y.1∧y.1<k+l.length
 | [],_,_,y,hy=>by simp[frFrom]at hy
 | x::r,tk,k,y,hy=>by
  rw[frFrom,List.mem_append]at hy
  rcases hy with hy|hy
  ·split at hy
   ·rw[List.mem_singleton.1 hy]
    simp
   ·simp at hy
  ·have:=frFrom_idx r tk (k+1) y hy
   rw[List.length_cons]
   omega
def putAll(late:List Int):List Nat→List Int→List Int
 | i::r,t::ts=>putAll (late.set i t) r ts
 | _,_=>late
def LatR(l:List Pa)(tk:List Int)(res:Option (List Int)):Prop :=
 (frsP l tk=[]∧res=some (lat0 l tk)) ∨
 (frsP l tk≠[]∧∃ts e,TmA ((frsP l tk).map (·.2)) ts e∧((e.1≠0∧res=none)∨(e.1=0∧res=some (putAll (lat0 l tk) ((frsP l tk).map (·.1)) ts))))
theorem LatR.one{l:List Pa}{tk:List Int}{r r':Option (List Int)}(h:LatR l tk r)(h':LatR l tk r'):r=r':=by
 rcases h with ⟨h1,rfl⟩|⟨h1,ts,e,h2,h3⟩
 ·rcases h' with ⟨g1,rfl⟩|⟨g1,-⟩
  ·rfl
  ·exact absurd h1 g1
 ·rcases h' with ⟨g1,-⟩|⟨g1,us,f,g2,g3⟩
  ·exact absurd g1 h1
  ·obtain⟨rfl,rfl⟩:=h2.one g2
   rcases h3 with ⟨h3,rfl⟩|⟨h3,rfl⟩
   ·rcases g3 with ⟨-,rfl⟩|⟨g3,-⟩
    ·rfl
    ·exact absurd g3 h3
   ·rcases g3 with ⟨g3,-⟩|⟨-,rfl⟩
    ·exact absurd h3 g3
    ·rfl
theorem infoFr:(Tryz.prog.info? 240).map (fun i=>(i.zero,i.size,i.bytes))=some (some (.agg #[.int .i64 0,.int .i64 0,.int .i64 0,.int .i64 0]),4,32):=by kernel_rfl
theorem infoI3:(Tryz.prog.info? 3).map (fun i=>(i.zero,i.size,i.bytes))=some (some (.int .i64 0),1,8):=by kernel_rfl
theorem Fr.oneC{x:Fr}{u:Value}(h:u∈x.vals):u.oneCell'=true:=by
 unfold Fr.vals at h
 simp at h
 rcases h with rfl|rfl|rfl|rfl<;>rfl
structure LS (w W:World) (gl n:Nat) (late:List Int) (fs:List (Nat × Fr)) (fv tv:Value):Prop where
 bel:Below w.heap.size w W
 row:W.heap[gl]?=some (.cells (runCells n late).toArray 3 (0,0))
 fr:W.ownsRow (gl+1) 240 4 fv fs.length ((fs.map (·.2)).flatMap Fr.vals)
 tl:W.ownsRow (gl+1) 3 1 tv fs.length (fs.map (fun y=>Value.int .i64 (y.1:Int)))
 low:w.heap.size≤gl
theorem LS.lt{w W:World}{gl n:Nat}{late:List Int}{fs:List (Nat × Fr)}{fv tv:Value}(h:LS w W gl n late fs fv tv):gl<W.heap.size:=(Array.getElem?_eq_some_iff.1 h.row).1
theorem LS.grow{w W W':World}{gl n:Nat}{late:List Int}{fs:List (Nat × Fr)}{fv tv:Value}(h:LS w W gl n late fs fv tv)(hb:Below W.heap.size W W'):LS w W' gl n late fs fv tv :=
 ⟨below_seq h.bel hb,(hb.block _ h.lt).trans h.row,ownsRow_below h.fr hb,ownsRow_below h.tl hb,h.low⟩
theorem ownsRow_keep3{w w':World}{B n size:Nat}{e:TypeId}{v:Value}{xs:List Value}(h:w.ownsRow B e size v n xs)(hs:∀k cs,B≤k→w.heap[k]?=some (.cells cs e (0,0))→w'.heap[k]?=w.heap[k]?):w'.ownsRow B e size v n xs:=by
 obtain⟨hl,h|⟨g,cap,cur,he,hb,hg,hr⟩⟩:=h
 ·exact⟨hl,.inl h⟩
 ·exact⟨hl,.inr ⟨g,cap,cur,he,hb,(hs g cur hb hg).trans hg,hr⟩⟩
theorem LS.put{w W:World}{gl n:Nat}{late:List Int}{fs:List (Nat × Fr)}{fv tv:Value}(h:LS w W gl n late fs fv tv)(hn:late.length<n)(v:Int):LS w (W.setCell ⟨gl,late.length,none⟩ (.int .i64 v)) gl n (late++[v]) fs fv tv:=by
 refine⟨h.bel.setCell h.low _,?_,?_,?_,h.low⟩
 ·rw[setCell_list h.row,runCells_snoc hn]
 ·exact ownsRow_same h.fr (fun k hk _=>Below.heap_setCell _ _ _ _ (by show k≠gl;omega))
 ·exact ownsRow_same h.tl (fun k hk _=>Below.heap_setCell _ _ _ _ (by show k≠gl;omega))
theorem LS.skip{w W:World}{gl n:Nat}{late:List Int}{fs:List (Nat × Fr)}{fv tv:Value}(h:LS w W gl n late fs fv tv)(hn:late.length<n):LS w W gl n (late++[0]) fs fv tv:=by
 refine⟨h.bel,?_,h.fr,h.tl,h.low⟩
 have e:runCells n (late++[0])=runCells n late:=by
  unfold runCells
  obtain⟨m,hm⟩:∃m,n-late.length=m+1:=⟨n-late.length-1,by omega⟩
  rw[hm,List.replicate_succ]
  simp[show n-(late.length+1)=m by omega]
 rw[e]
 exact h.row
theorem own_pushA{W:World}{B T E n size bytes ge:Nat}{z:Value}{xs:List Value}{av:Value}(hu:Tryz.prog.underlying T=some (.slice E))(hi:(Tryz.prog.info? E).map (fun i=>(i.zero,i.size,i.bytes))=some (some z,size,bytes))(hzs:z.cells.size=size)(hsz:0<size)
  (h:W.ownsRow B E size av n xs) (x:List Value) (hx:x.length=size) (hc:∀j u,x[j]?=some u→W.cell? ⟨ge,j,none⟩=some u) (h1:∀u∈x,u.oneCell'=true) (hl:n≤1000000) (hby:bytes≤1000) (hB:B≤W.heap.size) :
  ∃ad c w4,(Builtin.append_ #[T,T] T #[av,.slice (some ⟨ge,0,none⟩) 1 1]).run Tryz.prog W = .ok (.slice ad (n+1) c) w4∧w4.ownsRow B E size (.slice ad (n+1) c) (n+1) (xs++x)∧Below B W w4∧∀(k:Nat) (cs:Array Value) (ty:TypeId),W.heap[k]?=some (.cells cs ty (0,0))→(ty≠E∨k<B)→w4.heap[k]?=some (.cells cs ty (0,0)):=by
 obtain⟨i0,hi0,hz0,hz1,hz2⟩:=info_parts hi
 have hbb:(n+1)*bytes≤140737488355328:=Nat.le_trans (Nat.mul_le_mul (show n+1≤1000001 by omega) hby) (by decide)
 obtain⟨v4,w4,hrun,ho4,hg4,-,hv4⟩:=run_append_own_at (P:=Tryz.prog) (w:=W) B T T E i0 _ size bytes hu hi0 hz0 hz1 hz2 hzs hsz av n xs h ⟨ge,0,none⟩ 1 1 x (by omega) (fun j u hj=>by rw[Addr.add_lit,Nat.zero_add];exact hc j u hj) h1 (by unfold maxLen;omega) hbb hB
 obtain⟨ad,c,rfl⟩:=owns_value ho4
 refine⟨ad,c,w4,hrun,ho4,(Below.refl _ _).grown hg4 hB (fun k hk=>(h.lt k hk).1),fun k cs ty hk ht=>?_⟩
 refine(hg4.block k (Array.getElem?_eq_some_iff.1 hk).1 (fun e=>?_)).trans hk
 obtain⟨-,⟨hv,-⟩|⟨g',cap,cur,hv,hgB,hg',-⟩⟩:=h
 ·rw[hv]at e;cases e
 ·rw[hv]at e
  have hgk:k=g':=by simpa[Value.ownBlock] using e
  rcases ht with ht|ht
  ·rw[← hgk,hk]at hg'
   cases hg'
   exact ht rfl
  ·omega
structure LG (w W:World) (gl n:Nat) (late:List Int) (nf:Nat) (fx:List Value) (fv:Value) (nt:Nat) (tx:List Value) (tv:Value):Prop where
 bel:Below w.heap.size w W
 row:W.heap[gl]?=some (.cells (runCells n late).toArray 3 (0,0))
 fr:W.ownsRow (gl+1) 240 4 fv nf fx
 tl:W.ownsRow (gl+1) 3 1 tv nt tx
 low:w.heap.size≤gl
theorem LG.lt{w W:World}{gl n nf nt:Nat}{late:List Int}{fx tx:List Value}{fv tv:Value}(h:LG w W gl n late nf fx fv nt tx tv):gl<W.heap.size:=(Array.getElem?_eq_some_iff.1 h.row).1
theorem LG.grow{w W W':World}{gl n nf nt:Nat}{late:List Int}{fx tx:List Value}{fv tv:Value}(h:LG w W gl n late nf fx fv nt tx tv)(hb:Below W.heap.size W W'):LG w W' gl n late nf fx fv nt tx tv :=
 ⟨below_seq h.bel hb,(hb.block _ h.lt).trans h.row,ownsRow_below h.fr hb,ownsRow_below h.tl hb,h.low⟩
theorem LS.lg{w W:World}{gl n:Nat}{late:List Int}{fs:List (Nat × Fr)}{fv tv:Value}(h:LS w W gl n late fs fv tv):LG w W gl n late fs.length ((fs.map (·.2)).flatMap Fr.vals) fv fs.length (fs.map (fun y=>Value.int .i64 (y.1:Int))) tv:=⟨h.bel,h.row,h.fr,h.tl,h.low⟩
theorem LG.ls{w W:World}{gl n:Nat}{late:List Int}{fs:List (Nat × Fr)}{fv tv:Value}{y:Nat × Fr}(h:LG w W gl n late (fs.length+1) ((fs.map (·.2)).flatMap Fr.vals++y.2.vals) fv (fs.length+1) (fs.map (fun y=>Value.int .i64 (y.1:Int))++[.int .i64 (y.1:Int)]) tv):LS w W gl n late (fs++[y]) fv tv:=by
 refine⟨h.bel,h.row,?_,?_,h.low⟩
 ·have:=h.fr
  simpa using this
 ·have:=h.tl
  simpa using this
theorem LG.pushF{w W:World}{gl n nf nt ge:Nat}{late:List Int}{fx tx:List Value}{fv tv:Value}(h:LG w W gl n late nf fx fv nt tx tv)(x:Fr)(hc:W.heap[ge]?=some (.cells #[.int .i64 x.c,.int .i64 x.t,.int .i64 x.d,.int .i64 x.j] 240 (0,0)))(hl:nf≤100):∃ad c w4,(Builtin.append_ #[238,238] 238 #[fv,.slice (some ⟨ge,0,none⟩) 1 1]).run Tryz.prog W = .ok (.slice ad (nf+1) c) w4∧LG w w4 gl n late (nf+1) (fx++x.vals) (.slice ad (nf+1) c) nt tx tv∧∀(k:Nat) (cs:Array Value) (ty:TypeId),W.heap[k]?=some (.cells cs ty (0,0))→ty≠240→w4.heap[k]?=some (.cells cs ty (0,0)):=by
 have hlt:=h.lt
 have hlow:=h.low
 obtain⟨ad,c,w4,h1,h2,h3,h4⟩:=own_pushA (T:=238) (E:=240) Tryz.underlying238 infoFr rfl (by omega) h.fr x.vals rfl (cells_of (l:=x.vals) hc).1 (fun u hu=>Fr.oneC hu) (by omega) (by omega) (by omega)
 exact⟨ad,c,w4,h1,⟨h.bel.trans (h3.mono (by omega)),h4 _ _ _ h.row (.inr (by omega)),h2,ownsRow_keep3 h.tl (fun k cs _ hk=>(h4 _ _ _ hk (.inl (by decide))).trans hk.symm),h.low⟩,fun k cs ty hk ht=>h4 k cs ty hk (.inl ht)⟩
theorem LG.pushT{w W:World}{gl n nf nt ge:Nat}{late:List Int}{fx tx:List Value}{fv tv:Value}(h:LG w W gl n late nf fx fv nt tx tv)(i:Int)(hc:W.heap[ge]?=some (.cells #[.int .i64 i] 3 (0,0)))(hl:nt≤100):∃ad c w4,(Builtin.append_ #[25,25] 25 #[tv,.slice (some ⟨ge,0,none⟩) 1 1]).run Tryz.prog W = .ok (.slice ad (nt+1) c) w4∧LG w w4 gl n late nf fx fv (nt+1) (tx++[.int .i64 i]) (.slice ad (nt+1) c)∧∀(k:Nat) (cs:Array Value) (ty:TypeId),W.heap[k]?=some (.cells cs ty (0,0))→ty≠3→w4.heap[k]?=some (.cells cs ty (0,0)):=by
 have hlt:=h.lt
 have hlow:=h.low
 obtain⟨ad,c,w4,h1,h2,h3,h4⟩:=own_pushA (T:=25) (E:=3) Tryz.underlying25 infoI3 rfl (by omega) h.tl [.int .i64 i] rfl (cells_of (l:=[_]) hc).1 (fun u hu=>by simp at hu;subst hu;rfl) (by omega) (by omega) (by omega)
 exact⟨ad,c,w4,h1,⟨h.bel.trans (h3.mono (by omega)),h4 _ _ _ h.row (.inr (by omega)),ownsRow_keep3 h.fr (fun k cs _ hk=>(h4 _ _ _ hk (.inl (by decide))).trans hk.symm),h2,h.low⟩,fun k cs ty hk ht=>h4 k cs ty hk (.inl ht)⟩
def PtAt(W:World)(gt gl i:Nat)(x:Pa)(tv:Int):Prop:=W.heap[gt]?=some (.cells #[.int .i64 x.co,.int .i64 x.fr,.int .i64 x.se,.int .i64 x.c,.int .i64 x.t,.int .i64 x.d,.int .i64 x.p] 66 (0,0))∧W.cell? ⟨gl,i,none⟩=some (.int .i64 tv)
theorem PtAt.cells{W:World}{gt gl i:Nat}{x:Pa}{tv:Int}(h:PtAt W gt gl i x tv):W.cell? ⟨gt,2,none⟩=some (.int .i64 x.se)∧W.cell? ⟨gt,4,none⟩=some (.int .i64 x.t)∧W.cell? ⟨gt,5,none⟩=some (.int .i64 x.d)∧W.cell? ⟨gl,i,none⟩=some (.int .i64 tv):=by
 obtain⟨c,-,-⟩:=cells_of (l:=[_,_,_,_,_,_,_]) h.1
 exact⟨c 2 _ rfl,c 4 _ rfl,c 5 _ rfl,h.2⟩
theorem PtAt.grow{W W':World}{gt gl i:Nat}{x:Pa}{tv:Int}(h:PtAt W gt gl i x tv)(hb:Below W.heap.size W W'):PtAt W' gt gl i x tv:=⟨(hb.block _ (Array.getElem?_eq_some_iff.1 h.1).1).trans h.1,below_cell hb h.2⟩
theorem region_append{P:Program}{ops:Array Oper}{o:Oper}{a:Act}{w:World}{K:Act→World→Prop}{Q:Exit→Act→World→Prop}{E:Prop}[Decidable (Region.wanted o (yielded ops a.tmps)=true)](hgd:o.guard=none)(s x:Operand)(t:TypeId)
  (ho:o.op = .call { callee:=.builtin .append,args:=#[s,x],argTypes:=#[t,t] }) {v u v':Value} {w':World} (hs:a.eval s=v) (hx:a.eval x=u)
  (hrun:(Builtin.append_ #[t,t] o.type #[v,u]).run P w = .ok v' w') (h:K (a.put o.dst v') w'):if Region.wanted o (yielded ops a.tmps)=true then Oper.wp P o a w K Q else E:=by
 have hw:Region.wanted o (yielded ops a.tmps)=true:=by simp[Region.wanted,hgd]
 rw[if_pos hw]
 unfold Oper.wp
 simp[execOp,ho,resolve,invoke,builtin,hs,hx,hrun,Result.andThen]
 exact h
theorem region_append2{P:Program}{ops:Array Oper}{o:Oper}{a:Act}{w:World}{K:Act→World→Prop}{Q:Exit→Act→World→Prop}{E:Prop}[Decidable (Region.wanted o (yielded ops a.tmps)=true)](hgd:o.guard=none)(s x:Operand)(t:TypeId)(d:Nat)
  (ho:o.op = .call { callee:=.builtin .append,args:=#[s,x],argTypes:=#[t,t] }) {v u v':Value} {w':World} (hs:a.eval s=v) (hx:a.eval x=u)
  (hrun:(Builtin.append_ #[t,t] o.type #[v,u]).run P w = .ok v' w') (hd:o.dst=some d) (h:K (a.put (some d) v') w'):if Region.wanted o (yielded ops a.tmps)=true then Oper.wp P o a w K Q else E :=
 region_append hgd s x t ho hs hx hrun (by rw[hd];exact h)
theorem own_rowSl{α:Type}{f:α→List Value}{W:World}{B size:Nat}{E:TypeId}{v:Value}{l:List α}(h:W.ownsRow B E size v l.length (l.flatMap f)):RowSl f W l v:=by
 have h0:=h
 obtain⟨hl,⟨rfl,hn⟩|⟨g,cap,cur,rfl,hb,hg,hc,hm,hs,htk⟩⟩:=h0
 ·rw[List.eq_nil_of_length_eq_zero hn]
  exact RowSl.nil _ _
 ·refine⟨_,cap,rfl,(fun h=>by cases h),hc,.inr ⟨g,0,rfl,fun q u hq=>?_⟩⟩
  have h9:=h.cells (g:=g) rfl q u hq
  rwa[Addr.add_lit]at h9
theorem Told.len{l:List Fr}{ts:List Int}{e:Int × Int}(h:Told l ts e)(h0:e.1=0):ts.length=l.length:=by
 rcases h with ⟨-,h,-⟩|⟨-,us,-,-,h⟩
 ·exact h
 ·rw[h]at h0;simp at h0
theorem lateness_ends{w:World}{p q:Value}{a:Act}(h2:a.tmps[4]?.getD undef=p)(h3:a.tmps[5]?.getD undef=q) :
  (results Tryz.f89 a.tmps).run Tryz.prog w = .ok (.tuple #[p,q]) w:=by
 simp[results,Tryz.results89,go_sem,h2,h3]
structure L2 (w W:World) (G tg b5 o5 n:Nat) (late:List Int) (fs:List (Nat × Fr)) (ts:List Int):Prop where
 bel:Below w.heap.size w W
 row:W.heap[G]?=some (.cells (late.map (Value.int .i64)).toArray 3 (0,0))
 tl:∀q u,(fs.map (fun y=>Value.int .i64 (y.1:Int)))[q]?=some u→W.cell? ⟨tg,q,none⟩=some u
 tm:∀q u,(ts.flatMap nuV)[q]?=some u→W.cell? ⟨b5,o5+q,none⟩=some u
 len:late.length=n
theorem L2.put{w W:World}{G tg b5 o5 n:Nat}{late:List Int}{fs:List (Nat × Fr)}{ts:List Int}(h:L2 w W G tg b5 o5 n late fs ts)(hw:w.heap.size≤G)(h1:G<tg)(h2:G<b5)(i:Nat)(v:Int):L2 w (W.setCell ⟨G,i,none⟩ (.int .i64 v)) G tg b5 o5 n (late.set i v) fs ts:=by
 refine⟨h.bel.setCell hw _,?_,fun q u hq=>?_,fun q u hq=>?_,by rw[List.length_set];exact h.len⟩
 ·rw[setCell_list h.row,List.map_set]
 ·rw[World.cell?_setCell_far _ _ _ _ (show G≠tg by omega)]
  exact h.tl q u hq
 ·rw[World.cell?_setCell_far _ _ _ _ (show G≠b5 by omega)]
  exact h.tm q u hq
def LatPost(w:World)(l:List Pa)(tk:List Int)(r:Ending)(w':World):Prop:=∃res,LatR l tk res∧Below w.heap.size w w'∧((res=none∧r = .returned (.tuple #[.slice none 0 0,.bool false]))∨∃late u,res=some late∧r = .returned (.tuple #[u,.bool true])∧RowSl nuV w' late u∧NewSl w.heap.size u∧late.length=l.length)
set_option maxRecDepth 20000 in
set_option maxHeartbeats 16000000 in
theorem lateness_any(w:World)(l:List Pa)(tk:List Int)(v v2:Value)(hv:RowSl Pa.vals w l v)(ht:RowSl nuV w tk v2)(h1:1≤l.length)(h8:l.length≤8)(hlen:tk.length=l.length)(hfr:∀(i:Nat) (x:Pa),l[i]?=some x→x.fr=-1∨(0≤x.fr∧x.fr<(i:Int))):Calls Tryz.prog 89 #[v,v2] w (LatPost w l tk):=by
 obtain⟨ad,c,rfl,-,hcap,hrow⟩:=hv
 rcases hrow with h|⟨b,o,rfl,hrow⟩
 ·rw[h]at h1;simp at h1
 obtain⟨ad2,c2,rfl,-,hcap2,hrow2⟩:=ht
 rcases hrow2 with h|⟨b2,o2,rfl,hrow2⟩
 ·rw[h]at hlen;simp at hlen;omega
 rw[hlen]at hcap2 ⊢
 have HV:Hid ((∀q u,(l.flatMap Pa.vals)[q]?=some u→w.cell? ⟨b,o+q,none⟩=some u)∧(∀q u,(tk.flatMap nuV)[q]?=some u→w.cell? ⟨b2,o2+q,none⟩=some u)∧tk.length=l.length∧∀(i:Nat) (x:Pa),l[i]?=some x→x.fr=-1∨(0≤x.fr∧x.fr<(i:Int))):=⟨hrow,hrow2,hlen,hfr⟩
 clear hrow hrow2 hlen hfr
 obtain⟨w3,hmk,hb3,hh3⟩:=make_ints w l.length (by omega)
 have H3:Hid (LS w w3 w.heap.size l.length [] [] (.slice none 0 0) (.slice none 0 0)):=⟨hb3,hh3,⟨rfl,.inl ⟨rfl,rfl⟩⟩,⟨rfl,.inl ⟨rfl,rfl⟩⟩,Nat.le_refl _⟩
 obtain⟨G,hG⟩:∃G,w.heap.size=G:=⟨_,rfl⟩
 rw[hG]at hmk H3
 clear hb3 hh3
 go_enter Tryz.func89,Tryz.ntmps89
 go_wp2_with fail
 clear hmk hG
 go_loopw [7,8,20] (fun av bv iv wr=>∃(j:Nat) (fv tv:Value),j≤l.length∧fv=av∧tv=bv∧iv = .int .i64 (j:Int)∧Hid (LS w wr G l.length (lat0 (l.take j) tk) (frsP (l.take j) tk) fv tv)) (fun _ _ iv _=>l.length-(intOf iv).toNat)
 case atStart=>exact⟨0,_,_,Nat.zero_le _,rfl,rfl,rfl,H3.out⟩
 case round =>
  obtain⟨j,fv,tv,hj,rfl,rfl,rfl,HS⟩:=hrel
  clear H3
  by_cases hjl:j<l.length
  ·obtain⟨x,hx,-⟩:=drop_at hjl
   obtain⟨y0,y1,y2,y3,y4,y5,y6⟩:=pa7_at (fun q u hq=>below_cell HS.out.bel (HV.out.1 q u hq)) hx
   have lb:b<wr.heap.size:=World.block_lt_of_cell? _ _ y0
   have hji:(j:Int)<(l.length:Int):=by omega
   have hfr:=HV.out.2.2.2 j x hx
   have HBg:=begins_any (wr.alloc (.cells x.vals.toArray 66)) x
   have HX:Hid (l[j]?=some x):=hx
   clear hx
   obtain⟨co,fr,se,cx,t,d,p⟩:=x
   unfold Pa.val Pa.vals at HBg
   dsimp only at y0 y1 y2 y3 y4 y5 y6 HBg hfr
   by_cases hb:fr=-1
   ·subst hb
    have HB:Hid (LS w (wr.alloc (.cells #[.int .i64 co,.int .i64 (-1),.int .i64 se,.int .i64 cx,.int .i64 t,.int .i64 d,.int .i64 p] 66)) G l.length (lat0 (l.take j) tk) (frsP (l.take j) tk) fv tv):=HS.out.grow (below_new _ _)
    clear HS hfr
    go_wp2_with (go_at_call 94;refine HBg.mono ?_;rintro r w5 ⟨rfl,hb5⟩;have H5:Hid (LS w w5 G l.length (lat0 (l.take j) tk) (frsP (l.take j) tk) fv tv):=HB.out.grow hb5;clear hb5 HBg HB)
    refine⟨⟨j+1,_,_,by omega,rfl,rfl,by simp,?_⟩,by simp[intOf];omega⟩
    have h9:=H5.out.skip (by rw[lat0_len,List.length_take];omega)
    show LS _ _ _ _ _ _ _ _
    rw[lat0_snoc HX.out,frsP_snoc HX.out]
    simpa using h9
   ·obtain⟨fn,hfn⟩:∃fn:Nat,fr=(fn:Int):=⟨fr.toNat,by omega⟩
    subst hfn
    have hbb:((fn:Int) == -1)=false:=by simp
    have hfl:fn<tk.length:=by have:=HV.out.2.2.1;omega
    have hfi:(fn:Int)<(l.length:Int):=by omega
    obtain⟨tv0,htv⟩:∃tv0,tk[fn]?=some tv0:=⟨tk[fn],List.getElem?_eq_getElem _⟩
    have ct:=nu_at (fun q u hq=>below_cell HS.out.bel (HV.out.2.1 q u hq)) htv
    have ltj:(lat0 (l.take j) tk).length=j:=by rw[lat0_len,List.length_take];omega
    have htd:tk.getD (fn:Int).toNat 0=tv0:=by rw[Int.toNat_natCast,List.getD_eq_getElem?_getD,htv];rfl
    have HB:Hid (LS w (wr.alloc (.cells #[.int .i64 co,.int .i64 (fn:Int),.int .i64 se,.int .i64 cx,.int .i64 t,.int .i64 d,.int .i64 p] 66)) G l.length (lat0 (l.take j) tk) (frsP (l.take j) tk) fv tv):=HS.out.grow (below_new _ _)
    have hgG:G<wr.heap.size:=HS.out.lt
    have hnb:=heap_alloc_new wr (.cells #[.int .i64 co,.int .i64 (fn:Int),.int .i64 se,.int .i64 cx,.int .i64 t,.int .i64 d,.int .i64 p] 66)
    clear HS hfr
    go_upto_region 9 with (go_at_call 94;refine HBg.mono ?_;rintro r w5 ⟨rfl,hb5⟩;rw[hbb];have H5:Hid (LS w w5 G l.length (lat0 (l.take j) tk) (frsP (l.take j) tk) fv tv):=HB.out.grow hb5;have hn5:=(hb5.block _ (Array.getElem?_eq_some_iff.1 hnb).1).trans hnb;have ct5:=below_cell hb5 (below_cell (below_new wr (.cells #[.int .i64 co,.int .i64 (fn:Int),.int .i64 se,.int .i64 cx,.int .i64 t,.int .i64 d,.int .i64 p] 66)) ct);have x1:=(cells_of (l:=[_,_,_,_,_,_,_]) hn5).1 1 _ rfl;obtain⟨rc,rf,rl⟩:=cells_of (l:=runCells l.length (lat0 (l.take j) tk)) H5.out.row;have r0:=rc j _ (List.getElem?_eq_getElem (by rw[runCells_len (by omega)];exact hjl));have rf0:=rf j;generalize (runCells l.length (lat0 (l.take j) tk))[j]'_=rold at r0;clear rc rf hb5 HBg HB hnb ct y0 y1 y2 y3 y4 y5 y6)
    have h6:=H5.out.put (v:=tv0) (by omega)
    rw[ltj]at h6
    have HG6:Hid (LG w (w5.setCell ⟨G,j,none⟩ (.int .i64 tv0)) G l.length (lat0 (l.take j) tk++[tv0]) (frsP (l.take j) tk).length (((frsP (l.take j) tk).map (·.2)).flatMap Fr.vals) fv (frsP (l.take j) tk).length ((frsP (l.take j) tk).map (fun y=>Value.int .i64 (y.1:Int))) tv):=h6.lg
    have HEz:Hid (se=0→LS w (w5.setCell ⟨G,j,none⟩ (.int .i64 tv0)) G l.length (lat0 (l.take (j+1)) tk) (frsP (l.take (j+1)) tk) fv tv):=fun hs=>by
     rw[lat0_snoc HX.out,frsP_snoc HX.out]
     simp only[htd,hs]
     simpa[show ¬ ((fn:Int)=-1) by omega] using h6
    have HEnd:Hid (∀W fv tv,se≠0→LG w W G l.length (lat0 (l.take j) tk++[tv0]) ((frsP (l.take j) tk).length+1) (((frsP (l.take j) tk).map (·.2)).flatMap Fr.vals++[.int .i64 se,.int .i64 t,.int .i64 d,.int .i64 tv0]) fv ((frsP (l.take j) tk).length+1) ((frsP (l.take j) tk).map (fun y=>Value.int .i64 (y.1:Int))++[.int .i64 (j:Int)]) tv→LS w W G l.length (lat0 (l.take (j+1)) tk) (frsP (l.take (j+1)) tk) fv tv):=fun W fv tv hs h=>by
     have h9:=LG.ls (y:=(j,⟨se,t,d,tv0⟩)) h
     rw[lat0_snoc HX.out,frsP_snoc HX.out]
     simp only[htd]
     rw[if_neg (by show ¬ ((fn:Int)=-1);omega),if_pos ⟨by show ¬ ((fn:Int)=-1);omega,hs⟩]
     exact h9
    have HRC:Hid ((runCells l.length (lat0 (l.take j) tk++[tv0]))[j]?=some (.int .i64 tv0)):=by
     show _=_
     unfold runCells
     rw[List.getElem?_append_left (by simp;omega),List.getElem?_map,List.getElem?_append_right (by omega),ltj]
     simp
    have HP6:Hid (PtAt (w5.setCell ⟨G,j,none⟩ (.int .i64 tv0)) wr.heap.size G j ⟨co,(fn:Int),se,cx,t,d,p⟩ tv0):=⟨by rw[Below.heap_setCell _ _ _ _ (show wr.heap.size≠G by omega)];exact hn5,(cells_of h6.row).1 j _ HRC.out⟩
    have hnf:(frsP (l.take j) tk).length≤8:=Nat.le_trans (frFrom_len _ _ _) (by rw[List.length_take];omega)
    clear h6 H5 ct5 x1 r0 rf0 rl hn5
    generalize w5.setCell ⟨G,j,none⟩ (.int .i64 tv0)=w6 at *
    generalize wr.heap.size=gt at *
    generalize (frsP (l.take j) tk).length=nf at *
    generalize ((frsP (l.take j) tk).map (·.2)).flatMap Fr.vals=fx at *
    generalize (frsP (l.take j) tk).map (fun y=>Value.int .i64 (y.1:Int))=tx at *
    obtain⟨s2,s4,s5,sl⟩:=HP6.out.cells
    dsimp only at s2 s4 s5 sl
    have lg:=World.block_lt_of_cell? _ _ s2
    have lG:=World.block_lt_of_cell? _ _ sl
    by_cases hs:se=0
    ·subst hs
     go_wp2_with fail
     exact⟨⟨j+1,_,_,by omega,rfl,rfl,by simp,HEz.out rfl⟩,by simp[intOf];omega⟩
    ·have hsb:(se != 0)=true:=by simpa using hs
     go_upto_region 10 with fail
     obtain⟨af,cf,rfl⟩:=owns_value HG6.out.fr
     obtain⟨at0,ct0,rfl⟩:=owns_value HG6.out.tl
     obtain⟨LA,hLA⟩:∃LA,lat0 (l.take j) tk++[tv0]=LA:=⟨_,rfl⟩
     rw[hLA]at HG6 HEnd HRC
     have HEnd:Hid (∀W fv tv,LG w W G l.length LA (nf+1) (fx++[.int .i64 se,.int .i64 t,.int .i64 d,.int .i64 tv0]) fv (nf+1) (tx++[.int .i64 (j:Int)]) tv→LS w W G l.length (lat0 (l.take (j+1)) tk) (frsP (l.take (j+1)) tk) fv tv):=fun W fv tv h=>HEnd.out W fv tv hs h
     clear hLA
     refine wp_region_noPanic ?_
     refine wp_region_held_drew (S:=fun w'=>w'.cell? ⟨gt,2,none⟩=some (.int .i64 se)∧w'.cell? ⟨gt,4,none⟩=some (.int .i64 t)∧w'.cell? ⟨gt,5,none⟩=some (.int .i64 d)∧w'.cell? ⟨G,j,none⟩=some (.int .i64 tv0)) (by kernel_rfl) ⟨by go_simp,by go_simp,by go_simp,by go_simp⟩ (fun hHeld=>?_)
     refine tqGHG0 (i:=0) (n:=38) (v:=?_) ?_ ?_
     rotate_left 1
     ·intro wz hSw
      obtain⟨s2,s4,s5,sl⟩:=hSw
      first|(go_simp;done)|(go_simp;with_reducible rfl)
     simp only[ls0,ls1]
     refine tqGHG0 (i:=1) (n:=39) (v:=?_) ?_ ?_
     rotate_left 1
     ·intro wz hSw
      obtain⟨s2,s4,s5,sl⟩:=hSw
      first|(go_simp;done)|(go_simp;with_reducible rfl)
     simp only[ls0,ls1]
     refine tqGHG0 (i:=2) (n:=40) (v:=?_) ?_ ?_
     rotate_left 1
     ·intro wz hSw
      obtain⟨s2,s4,s5,sl⟩:=hSw
      first|(go_simp;done)|(go_simp;with_reducible rfl)
     simp only[ls0,ls1]
     refine tqGHG0 (i:=3) (n:=41) (v:=?_) ?_ ?_
     rotate_left 1
     ·intro wz hSw
      obtain⟨s2,s4,s5,sl⟩:=hSw
      first|(go_simp;done)|(go_simp;with_reducible rfl)
     simp only[ls0,ls1]
     refine tqGHG0 (i:=4) (n:=42) (v:=?_) ?_ ?_
     rotate_left 1
     ·intro wz hSw
      obtain⟨s2,s4,s5,sl⟩:=hSw
      first|(go_simp;done)|(go_simp;with_reducible rfl)
     simp only[ls0,ls1]
     refine tqGHG0 (i:=5) (n:=43) (v:=?_) ?_ ?_
     rotate_left 1
     ·intro wz hSw
      obtain⟨s2,s4,s5,sl⟩:=hSw
      first|(go_simp;done)|(go_simp;with_reducible rfl)
     simp only[ls0,ls1]
     refine tqGHG0 (i:=6) (n:=44) (v:=?_) ?_ ?_
     rotate_left 1
     ·intro wz hSw
      obtain⟨s2,s4,s5,sl⟩:=hSw
      first|(go_simp;done)|(go_simp;with_reducible rfl)
     simp only[ls0,ls1]
     refine tqGHG0 (i:=7) (n:=45) (v:=?_) ?_ ?_
     rotate_left 1
     ·intro wz hSw
      obtain⟨s2,s4,s5,sl⟩:=hSw
      first|(go_simp;done)|(go_simp;with_reducible rfl)
     simp only[ls0,ls1]
     refine tqGHG0 (i:=8) (n:=46) (v:=?_) ?_ ?_
     rotate_left 1
     ·intro wz hSw
      obtain⟨s2,s4,s5,sl⟩:=hSw
      first|(go_simp;done)|(go_simp;with_reducible rfl)
     simp only[ls0,ls1]
     refine tqGHG0 (i:=9) (n:=47) (v:=?_) ?_ ?_
     rotate_left 1
     ·intro wz hSw
      obtain⟨s2,s4,s5,sl⟩:=hSw
      first|(go_simp;done)|(go_simp;with_reducible rfl)
     simp only[ls0,ls1]
     refine tqGHG0 (i:=10) (n:=48) (v:=?_) ?_ ?_
     rotate_left 1
     ·intro wz hSw
      obtain⟨s2,s4,s5,sl⟩:=hSw
      first|(go_simp;done)|(go_simp;with_reducible rfl)
     simp only[ls0,ls1]
     refine tqGHG0 (i:=11) (n:=49) (v:=?_) ?_ ?_
     rotate_left 1
     ·intro wz hSw
      obtain⟨s2,s4,s5,sl⟩:=hSw
      first|(go_simp;done)|(go_simp;with_reducible rfl)
     simp only[ls0,ls1]
     refine tqGHG0 (i:=14) (n:=52) (v:=?_) ?_ ?_
     rotate_left 1
     ·intro wz hSw
      obtain⟨s2,s4,s5,sl⟩:=hSw
      first|(go_simp;done)|(go_simp;with_reducible rfl)
     simp only[ls0,ls1]
     refine tqGHG0 (i:=15) (n:=53) (v:=?_) ?_ ?_
     rotate_left 1
     ·intro wz hSw
      obtain⟨s2,s4,s5,sl⟩:=hSw
      first|(go_simp;done)|(go_simp;with_reducible rfl)
     simp only[ls0,ls1]
     refine wpAnyH_ready (rs:=[12,16]) (by kernel_rfl) (by simp) ?_
     refine AllReadyH.cons rfl (fun K hK=>?_) (AllReadyH.cons rfl (fun K hK=>?_) AllReadyH.nil)
     ·go_simp
      have G1:Hid (LG w (w6.alloc (.cells #[.int .i64 se,.int .i64 t,.int .i64 d,.int .i64 tv0] 240)).drew G l.length LA nf fx (.slice af nf cf) nf tx (.slice at0 nf ct0)):=HG6.out.grow (below_new _ _).drew
      have P1:Hid (PtAt (w6.alloc (.cells #[.int .i64 se,.int .i64 t,.int .i64 d,.int .i64 tv0] 240)).drew gt G j ⟨co,(fn:Int),se,cx,t,d,p⟩ tv0):=HP6.out.grow (below_new _ _).drew
      have f1:(w6.alloc (.cells #[.int .i64 se,.int .i64 t,.int .i64 d,.int .i64 tv0] 240)).drew.heap[w6.heap.size]?=some (.cells #[.int .i64 se,.int .i64 t,.int .i64 d,.int .i64 tv0] 240 (0,0)):=heap_alloc_new _ _
      generalize (w6.alloc (.cells #[.int .i64 se,.int .i64 t,.int .i64 d,.int .i64 tv0] 240)).drew=v1 at G1 P1 f1 ⊢
      refine hK.out _ _ (PtAt.cells (x:=⟨co,(fn:Int),se,cx,t,d,p⟩) P1.out) (fun hHeld=>?_)
      clear hK K
      try simp only[ls0,ls1]
      refine wpAnyH_ready (rs:=[13,16]) (by kernel_rfl) (by simp) ?_
      refine AllReadyH.cons rfl (fun K hK=>?_) (AllReadyH.cons rfl (fun K hK=>?_) AllReadyH.nil)
      ·obtain⟨ad2,c2,v2,hrun,h9,k9⟩:=G1.out.pushF ⟨se,t,d,tv0⟩ f1 (by omega)
       have G2:Hid (LG w v2 G l.length LA (nf+1) (fx++[.int .i64 se,.int .i64 t,.int .i64 d,.int .i64 tv0]) (.slice ad2 (nf+1) c2) nf tx (.slice at0 nf ct0)):=h9
       have P2:Hid (PtAt v2 gt G j ⟨co,(fn:Int),se,cx,t,d,p⟩ tv0):=⟨k9 _ _ _ P1.out.1 (by decide),(cells_of h9.row).1 j _ HRC.out⟩
       clear k9 h9
       refine region_append2 rfl (.tmp 38) (.tmp 50) 238 51 rfl rfl rfl hrun rfl ?_
       refine hK.out _ _ (PtAt.cells (x:=⟨co,(fn:Int),se,cx,t,d,p⟩) P2.out) (fun hHeld=>?_)
       clear hrun
       clear hK K
       try simp only[ls0,ls1]
       simp only[Act.put,List.setIfInBounds_toArray]
       try simp only[ls0,ls1]
       refine wpAnyH_ready (rs:=[16]) (by kernel_rfl) (by simp) ?_
       refine AllReadyH.cons rfl (fun K hK=>?_) AllReadyH.nil
       go_simp
       have G3:Hid (LG w (v2.alloc (.cells #[.int .i64 (j:Int)] 3)) G l.length LA (nf+1) (fx++[.int .i64 se,.int .i64 t,.int .i64 d,.int .i64 tv0]) (.slice ad2 (nf+1) c2) nf tx (.slice at0 nf ct0)):=G2.out.grow (below_new _ _)
       have P3:Hid (PtAt (v2.alloc (.cells #[.int .i64 (j:Int)] 3)) gt G j ⟨co,(fn:Int),se,cx,t,d,p⟩ tv0):=P2.out.grow (below_new _ _)
       have f3:(v2.alloc (.cells #[.int .i64 (j:Int)] 3)).heap[v2.heap.size]?=some (.cells #[.int .i64 (j:Int)] 3 (0,0)):=heap_alloc_new _ _
       generalize (v2.alloc (.cells #[.int .i64 (j:Int)] 3))=v3 at G3 P3 f3 ⊢
       refine hK.out _ _ (PtAt.cells (x:=⟨co,(fn:Int),se,cx,t,d,p⟩) P3.out) (fun hHeld=>?_)
       clear hK K
       try simp only[ls0,ls1]
       refine wpAnyH_ready (rs:=[17]) (by kernel_rfl) (by simp) ?_
       refine AllReadyH.cons rfl (fun K hK=>?_) AllReadyH.nil
       obtain⟨ad4,c4,v4,hrun,h9,k9⟩:=G3.out.pushT (j:Int) f3 (by omega)
       have G4:Hid (LG w v4 G l.length LA _ _ _ (nf+1) _ (.slice ad4 (nf+1) c4)):=h9
       refine region_append2 rfl (.tmp 52) (.tmp 54) 25 55 rfl rfl rfl hrun rfl ?_
       refine hK.out _ _ (PtAt.cells (x:=⟨co,(fn:Int),se,cx,t,d,p⟩) ⟨k9 _ _ _ P3.out.1 (by decide),(cells_of h9.row).1 j _ HRC.out⟩) (fun hHeld=>?_)
       clear hrun k9 h9
       clear hK K
       try simp only[ls0,ls1]
       simp only[Act.put,List.setIfInBounds_toArray]
       try simp only[ls0,ls1]
       refine tqGHG0 (i:=18) (n:=7) (v:=?_) ?_ ?_
       rotate_left 1
       ·intro wz hSw
        obtain⟨s2,s4,s5,sl⟩:=hSw
        first|(go_simp;done)|(go_simp;with_reducible rfl)
       simp only[ls0,ls1]
       refine tqGHG0 (i:=19) (n:=8) (v:=?_) ?_ ?_
       rotate_left 1
       ·intro wz hSw
        obtain⟨s2,s4,s5,sl⟩:=hSw
        first|(go_simp;done)|(go_simp;with_reducible rfl)
       simp only[ls0,ls1]
       refine wpAnyH_done (by kernel_rfl) ?_ _
       refine NoPanic.normal ?_
       clear hHeld
       go_wp2_with fail
       exact⟨⟨j+1,_,_,by omega,rfl,rfl,by simp,HEnd.out _ _ _ G4.out⟩,by simp[intOf];omega⟩
      ·go_simp
       have G5:Hid (LG w (v1.alloc (.cells #[.int .i64 (j:Int)] 3)) G l.length LA nf fx (.slice af nf cf) nf tx (.slice at0 nf ct0)):=G1.out.grow (below_new _ _)
       have P5:Hid (PtAt (v1.alloc (.cells #[.int .i64 (j:Int)] 3)) gt G j ⟨co,(fn:Int),se,cx,t,d,p⟩ tv0):=P1.out.grow (below_new _ _)
       have f5:(v1.alloc (.cells #[.int .i64 (j:Int)] 3)).heap[v1.heap.size]?=some (.cells #[.int .i64 (j:Int)] 3 (0,0)):=heap_alloc_new _ _
       have g5:=((below_new v1 (.cells #[.int .i64 (j:Int)] 3)).block _ (Array.getElem?_eq_some_iff.1 f1).1).trans f1
       generalize (v1.alloc (.cells #[.int .i64 (j:Int)] 3))=v5 at G5 P5 g5 f5 ⊢
       refine hK.out _ _ (PtAt.cells (x:=⟨co,(fn:Int),se,cx,t,d,p⟩) P5.out) (fun hHeld=>?_)
       clear hK K
       try simp only[ls0,ls1]
       refine wpAnyH_ready (rs:=[13]) (by kernel_rfl) (by simp) ?_
       refine AllReadyH.cons rfl (fun K hK=>?_) AllReadyH.nil
       obtain⟨ad6,c6,v6,hrun,h9,k9⟩:=G5.out.pushF ⟨se,t,d,tv0⟩ g5 (by omega)
       have G6:Hid (LG w v6 G l.length LA (nf+1) (fx++[.int .i64 se,.int .i64 t,.int .i64 d,.int .i64 tv0]) (.slice ad6 (nf+1) c6) nf tx (.slice at0 nf ct0)):=h9
       have P6:Hid (PtAt v6 gt G j ⟨co,(fn:Int),se,cx,t,d,p⟩ tv0):=⟨k9 _ _ _ P5.out.1 (by decide),(cells_of h9.row).1 j _ HRC.out⟩
       have g6:=k9 _ _ _ f5 (by decide)
       clear k9 h9
       refine region_append2 rfl (.tmp 38) (.tmp 50) 238 51 rfl rfl rfl hrun rfl ?_
       refine hK.out _ _ (PtAt.cells (x:=⟨co,(fn:Int),se,cx,t,d,p⟩) P6.out) (fun hHeld=>?_)
       clear hrun
       clear hK K
       try simp only[ls0,ls1]
       simp only[Act.put,List.setIfInBounds_toArray]
       try simp only[ls0,ls1]
       refine wpAnyH_ready (rs:=[17]) (by kernel_rfl) (by simp) ?_
       refine AllReadyH.cons rfl (fun K hK=>?_) AllReadyH.nil
       obtain⟨ad7,c7,v7,hrun,h9,k9⟩:=G6.out.pushT (j:Int) g6 (by omega)
       have G7:Hid (LG w v7 G l.length LA _ _ _ (nf+1) _ (.slice ad7 (nf+1) c7)):=h9
       refine region_append2 rfl (.tmp 52) (.tmp 54) 25 55 rfl rfl rfl hrun rfl ?_
       refine hK.out _ _ (PtAt.cells (x:=⟨co,(fn:Int),se,cx,t,d,p⟩) ⟨k9 _ _ _ P6.out.1 (by decide),(cells_of h9.row).1 j _ HRC.out⟩) (fun hHeld=>?_)
       clear hrun k9 h9
       clear hK K
       try simp only[ls0,ls1]
       simp only[Act.put,List.setIfInBounds_toArray]
       try simp only[ls0,ls1]
       refine tqGHG0 (i:=18) (n:=7) (v:=?_) ?_ ?_
       rotate_left 1
       ·intro wz hSw
        obtain⟨s2,s4,s5,sl⟩:=hSw
        first|(go_simp;done)|(go_simp;with_reducible rfl)
       simp only[ls0,ls1]
       refine tqGHG0 (i:=19) (n:=8) (v:=?_) ?_ ?_
       rotate_left 1
       ·intro wz hSw
        obtain⟨s2,s4,s5,sl⟩:=hSw
        first|(go_simp;done)|(go_simp;with_reducible rfl)
       simp only[ls0,ls1]
       refine wpAnyH_done (by kernel_rfl) ?_ _
       refine NoPanic.normal ?_
       clear hHeld
       go_wp2_with fail
       exact⟨⟨j+1,_,_,by omega,rfl,rfl,by simp,HEnd.out _ _ _ G7.out⟩,by simp[intOf];omega⟩
     ·go_simp
      have G8:Hid (LG w (w6.alloc (.cells #[.int .i64 (j:Int)] 3)).drew G l.length LA nf fx (.slice af nf cf) nf tx (.slice at0 nf ct0)):=HG6.out.grow (below_new _ _).drew
      have P8:Hid (PtAt (w6.alloc (.cells #[.int .i64 (j:Int)] 3)).drew gt G j ⟨co,(fn:Int),se,cx,t,d,p⟩ tv0):=HP6.out.grow (below_new _ _).drew
      have f8:(w6.alloc (.cells #[.int .i64 (j:Int)] 3)).drew.heap[w6.heap.size]?=some (.cells #[.int .i64 (j:Int)] 3 (0,0)):=heap_alloc_new _ _
      generalize (w6.alloc (.cells #[.int .i64 (j:Int)] 3)).drew=v8 at G8 P8 f8 ⊢
      refine hK.out _ _ (PtAt.cells (x:=⟨co,(fn:Int),se,cx,t,d,p⟩) P8.out) (fun hHeld=>?_)
      clear hK K
      try simp only[ls0,ls1]
      refine wpAnyH_ready (rs:=[12]) (by kernel_rfl) (by simp) ?_
      refine AllReadyH.cons rfl (fun K hK=>?_) AllReadyH.nil
      go_simp
      have G9:Hid (LG w (v8.alloc (.cells #[.int .i64 se,.int .i64 t,.int .i64 d,.int .i64 tv0] 240)) G l.length LA nf fx (.slice af nf cf) nf tx (.slice at0 nf ct0)):=G8.out.grow (below_new _ _)
      have P9:Hid (PtAt (v8.alloc (.cells #[.int .i64 se,.int .i64 t,.int .i64 d,.int .i64 tv0] 240)) gt G j ⟨co,(fn:Int),se,cx,t,d,p⟩ tv0):=P8.out.grow (below_new _ _)
      have f9:(v8.alloc (.cells #[.int .i64 se,.int .i64 t,.int .i64 d,.int .i64 tv0] 240)).heap[v8.heap.size]?=some (.cells #[.int .i64 se,.int .i64 t,.int .i64 d,.int .i64 tv0] 240 (0,0)):=heap_alloc_new _ _
      have g9:=((below_new v8 (.cells #[.int .i64 se,.int .i64 t,.int .i64 d,.int .i64 tv0] 240)).block _ (Array.getElem?_eq_some_iff.1 f8).1).trans f8
      generalize (v8.alloc (.cells #[.int .i64 se,.int .i64 t,.int .i64 d,.int .i64 tv0] 240))=v9 at G9 P9 f9 g9 ⊢
      refine hK.out _ _ (PtAt.cells (x:=⟨co,(fn:Int),se,cx,t,d,p⟩) P9.out) (fun hHeld=>?_)
      clear hK K
      try simp only[ls0,ls1]
      refine wpAnyH_ready (rs:=[13]) (by kernel_rfl) (by simp) ?_
      refine AllReadyH.cons rfl (fun K hK=>?_) AllReadyH.nil
      obtain⟨ad10,c10,v10,hrun,h9,k9⟩:=G9.out.pushF ⟨se,t,d,tv0⟩ f9 (by omega)
      have G10:Hid (LG w v10 G l.length LA (nf+1) (fx++[.int .i64 se,.int .i64 t,.int .i64 d,.int .i64 tv0]) (.slice ad10 (nf+1) c10) nf tx (.slice at0 nf ct0)):=h9
      have P10:Hid (PtAt v10 gt G j ⟨co,(fn:Int),se,cx,t,d,p⟩ tv0):=⟨k9 _ _ _ P9.out.1 (by decide),(cells_of h9.row).1 j _ HRC.out⟩
      have g10:=k9 _ _ _ g9 (by decide)
      clear k9 h9
      refine region_append2 rfl (.tmp 38) (.tmp 50) 238 51 rfl rfl rfl hrun rfl ?_
      refine hK.out _ _ (PtAt.cells (x:=⟨co,(fn:Int),se,cx,t,d,p⟩) P10.out) (fun hHeld=>?_)
      clear hrun
      clear hK K
      try simp only[ls0,ls1]
      simp only[Act.put,List.setIfInBounds_toArray]
      try simp only[ls0,ls1]
      refine wpAnyH_ready (rs:=[17]) (by kernel_rfl) (by simp) ?_
      refine AllReadyH.cons rfl (fun K hK=>?_) AllReadyH.nil
      obtain⟨ad11,c11,v11,hrun,h9,k9⟩:=G10.out.pushT (j:Int) g10 (by omega)
      have G11:Hid (LG w v11 G l.length LA _ _ _ (nf+1) _ (.slice ad11 (nf+1) c11)):=h9
      refine region_append2 rfl (.tmp 52) (.tmp 54) 25 55 rfl rfl rfl hrun rfl ?_
      refine hK.out _ _ (PtAt.cells (x:=⟨co,(fn:Int),se,cx,t,d,p⟩) ⟨k9 _ _ _ P10.out.1 (by decide),(cells_of h9.row).1 j _ HRC.out⟩) (fun hHeld=>?_)
      clear hrun k9 h9
      clear hK K
      try simp only[ls0,ls1]
      simp only[Act.put,List.setIfInBounds_toArray]
      try simp only[ls0,ls1]
      refine tqGHG0 (i:=18) (n:=7) (v:=?_) ?_ ?_
      rotate_left 1
      ·intro wz hSw
       obtain⟨s2,s4,s5,sl⟩:=hSw
       first|(go_simp;done)|(go_simp;with_reducible rfl)
      simp only[ls0,ls1]
      refine tqGHG0 (i:=19) (n:=8) (v:=?_) ?_ ?_
      rotate_left 1
      ·intro wz hSw
       obtain⟨s2,s4,s5,sl⟩:=hSw
       first|(go_simp;done)|(go_simp;with_reducible rfl)
      simp only[ls0,ls1]
      refine wpAnyH_done (by kernel_rfl) ?_ _
      refine NoPanic.normal ?_
      clear hHeld
      go_wp2_with fail
      exact⟨⟨j+1,_,_,by omega,rfl,rfl,by simp,HEnd.out _ _ _ G11.out⟩,by simp[intOf];omega⟩
  ·skip
   have hje:j=l.length:=by omega
   subst hje
   have hS:=HS.out
   rw[List.take_length]at hS
   clear HS
   obtain⟨m,hm⟩:∃m,(frsP l tk).length=m:=⟨_,rfl⟩
   have hm8:m≤8:=by rw[← hm];exact Nat.le_trans (frFrom_len l tk 0) h8
   obtain⟨adf,cf,rfl⟩:=owns_value hS.fr
   obtain⟨adt,ct,rfl⟩:=owns_value hS.tl
   rw[hm]
   have HS:Hid (LS w wr G l.length (lat0 l tk) (frsP l tk) (.slice adf m cf) (.slice adt m ct)):=by rw[hm]at hS;exact hS
   have HM:Hid ((frsP l tk).length=m):=hm
   clear hS hm
   have hji:¬ ((l.length:Nat):Int)<(l.length:Int):=by omega
   by_cases hm0:m=0
   ·subst hm0
    go_wp2_with fail
    refine bodyPost_ret (lateness_ends rfl rfl) rfl ?_
    have hnil:frsP l tk=[]:=List.eq_nil_of_length_eq_zero HM.out
    refine⟨some (lat0 l tk),.inl ⟨hnil,rfl⟩,HS.out.bel,.inr ⟨lat0 l tk,_,rfl,rfl,?_,?_,lat0_len l tk⟩⟩
    ·have hr:=HS.out.row
     rw[← lat0_len l tk,runCells_full]at hr
     have h9:=row_ints hr
     rw[lat0_len]at h9
     exact h9
    ·intro a n c e
     cases e
     exact HS.out.low
   have hmb:((m:Int) == 0)=false:=by simp;omega
   have HT:=Times_any wr ((frsP l tk).map (·.2)) (.slice adf m cf) (own_rowSl (by have h9:=HS.out.fr;rw[HM.out]at h9;rw[List.length_map,HM.out];exact h9))
   have hcel:=HS.out.tl
   rw[HM.out]at hcel
   obtain⟨tg,tc,cur,he,hlow,-⟩:=own_cells hcel (by omega)
   cases he
   have HTL:Hid (∀q u,((frsP l tk).map (fun y=>Value.int .i64 (y.1:Int)))[q]?=some u→wr.cell? ⟨tg,q,none⟩=some u):=fun q u hq=>by
    have h9:=hcel.cells (g:=tg) rfl q u hq
    rw[Addr.add_lit,Nat.zero_add]at h9
    exact h9
   clear hcel
   have hG:=HS.out.lt
   go_upto_region 15 with (go_at_call 146;refine HT.mono ?_;rintro r w5 ⟨ts,e,tv5,hta,rfl,hrow5,hb5,hn5⟩;obtain⟨z1,z2⟩:=e;dsimp only at *;have H5:Hid (Below wr.heap.size wr (w5.alloc (.cells #[.int .i64 z1,.int .i64 z2] 33))∧TmA ((frsP l tk).map (·.2)) ts (z1,z2)∧RowSl nuV (w5.alloc (.cells #[.int .i64 z1,.int .i64 z2] 33)) ts tv5∧NewSl wr.heap.size tv5):=⟨below_seq hb5 (below_new _ _),hta,hrow5.below (below_new _ _),hn5⟩;clear hb5 hta hrow5 hn5 HT)
   have hnb:=heap_alloc_new w5 (.cells #[.int .i64 z1,.int .i64 z2] 33)
   generalize w5.alloc (.cells #[.int .i64 z1,.int .i64 z2] 33)=w6 at *
   generalize w5.heap.size=gf at *
   have hne:frsP l tk≠[]:=fun e=>by have h9:=HM.out;rw[e]at h9;simp at h9;omega
   obtain⟨qs,-,ql⟩:=cells_of (l:=[_,_]) hnb
   have q0:=qs 0 _ rfl
   clear qs hnb
   by_cases hz:z1=0
   ·subst hz
    obtain⟨hb6,hta,hrow6,hn6⟩:=H5.out
    have hlt:ts.length=m:=by
     rcases hta with ⟨h9,-,h10⟩|⟨-,h9⟩
     ·rw[← h10]at h9;simp at h9
     ·have h10:=h9.len rfl
      rw[List.length_map,HM.out]at h10
      exact h10
    obtain⟨ad5,c5,rfl,-,hc5,hr5⟩:=hrow6
    rcases hr5 with h9|⟨b5,o5,rfl,hr5⟩
    ·rw[h9]at hlt;simp at hlt;omega
    have hb5:G<b5:=Nat.lt_of_lt_of_le hG (hn6 _ _ _ rfl)
    rw[hlt]at hc5 ⊢
    have H6:Hid (L2 w w6 G tg b5 o5 l.length (lat0 l tk) (frsP l tk) ts):=⟨below_seq HS.out.bel hb6,by rw[(hb6.block _ hG),HS.out.row,← lat0_len l tk,runCells_full],fun q u hq=>below_cell hb6 (HTL.out q u hq),hr5,lat0_len l tk⟩
    have HE:Hid (TmA ((frsP l tk).map (·.2)) ts (0,z2)∧ts.length=m∧w.heap.size≤G):=⟨hta,hlt,HS.out.low⟩
    clear hb6 hta hr5 H5 HTL HS
    go_wp2_with fail
    go_loopw [71] (fun iv wr=>∃k:Nat,k≤m∧iv = .int .i64 (k:Int)∧Hid (∃late,L2 w wr G tg b5 o5 l.length late (frsP l tk) ts∧putAll late (((frsP l tk).map (·.1)).drop k) (ts.drop k)=putAll (lat0 l tk) ((frsP l tk).map (·.1)) ts)) (fun iv _=>m-(intOf iv).toNat)
    case atStart=>exact⟨0,Nat.zero_le _,rfl,⟨_,H6.out,rfl⟩⟩
    case round =>
     obtain⟨k,hk,rfl,HK⟩:=hrel
     clear H6
     by_cases hkm:k<m
     ·obtain⟨late,hL,hput⟩:=HK.out
      obtain⟨y,hy,-⟩:=drop_at (l:=frsP l tk) (k:=k) (by have:=HM.out;omega)
      obtain⟨tz,htz,hdz⟩:=drop_at (l:=ts) (k:=k) (by have:=HE.out.2.1;omega)
      have hyl:y.1<l.length:=by have h9:=(frFrom_idx l tk 0 y (List.mem_of_getElem? hy)).2;omega
      have ck:=hL.tl k (.int .i64 (y.1:Int)) (by rw[List.getElem?_map,hy];rfl)
      have cz:=nu_at hL.tm htz
      obtain⟨rc,rf,rl⟩:=cells_of (l:=late.map (Value.int .i64)) hL.row
      have r0:=rc y.1 _ (List.getElem?_eq_getElem (by rw[List.length_map,hL.len];exact hyl))
      have rf0:=rf y.1
      generalize (late.map (Value.int .i64))[y.1]'_=rold at r0
      have HP:Hid (L2 w (wr.setCell ⟨G,y.1,none⟩ (.int .i64 tz)) G tg b5 o5 l.length (late.set y.1 tz) (frsP l tk) ts∧putAll (late.set y.1 tz) (((frsP l tk).map (·.1)).drop (k+1)) (ts.drop (k+1))=putAll (lat0 l tk) ((frsP l tk).map (·.1)) ts):=by
       refine⟨hL.put HE.out.2.2 (by omega) hb5 _ _,?_⟩
       rw[← hput]
       have hyk:((frsP l tk).map (·.1))[k]?=some y.1:=by rw[List.getElem?_map,hy];rfl
       obtain⟨hk1,hk2⟩:=List.getElem?_eq_some_iff.1 hyk
       rw[List.drop_eq_getElem_cons hk1,hk2,hdz,putAll]
      clear hL hput HK rc rf hy htz hdz
      generalize y.1=yi at *
      have hki:(k:Int)<(m:Int):=by omega
      have hyi:(yi:Int)<(l.length:Int):=by omega
      have lg1:=World.block_lt_of_cell? _ _ ck
      have lg2:=World.block_lt_of_cell? _ _ cz
      go_wp2_with fail
      exact⟨⟨k+1,by omega,by simp,⟨_,HP.out.1,HP.out.2⟩⟩,by simp[intOf];omega⟩
     ·have hke:k=m:=by omega
      subst hke
      have hki:¬ ((k:Nat):Int)<(k:Int):=by omega
      go_wp2_with fail
      refine bodyPost_ret (lateness_ends rfl rfl) rfl ?_
      obtain⟨late,hL,hput⟩:=HK.out
      rw[List.drop_eq_nil_of_le (by rw[List.length_map,HM.out];omega)]at hput
      have hput2:late=putAll (lat0 l tk) ((frsP l tk).map (·.1)) ts:=by rw[← hput];simp[putAll]
      refine⟨some late,.inr ⟨hne,ts,(0,z2),HE.out.1,.inr ⟨rfl,by rw[hput2]⟩⟩,hL.bel,.inr ⟨late,_,rfl,rfl,?_,?_,hL.len⟩⟩
      ·have h9:=row_ints hL.row
       rw[hL.len]at h9
       exact h9
      ·intro a n c e
       cases e
       exact HE.out.2.2
   ·have hzb:(z1 != 0)=true:=by simpa using hz
    go_wp2_with fail
    refine bodyPost_ret (lateness_ends rfl rfl) rfl ?_
    exact⟨none,.inr ⟨hne,ts,(z1,z2),H5.out.2.1,.inl ⟨hz,rfl⟩⟩,below_seq HS.out.bel H5.out.1,.inl ⟨rfl,rfl⟩⟩
end Go.Proofs.YtccoobcggbbcialGreatDoor
