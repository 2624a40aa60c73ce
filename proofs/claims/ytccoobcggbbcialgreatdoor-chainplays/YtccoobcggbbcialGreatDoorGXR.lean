import Derived.Test.YtccoobcggbbcialGreatDoorProg
import Derived.WalkKit
import Derived.ProofKit
import Derived.OpenShut
import Derived.Handy
import Derived.Deep.QuietTactic
import Derived.BigQuiet
import Derived.Deep.RegionHeld3
import Derived.Laws.RangeAny
import Derived.Laws.RangeString
import Derived.Laws.MakeOwn
import Derived.OwnWalk
import Derived.Maps.AppendAt
namespace Go.Proofs.YtccoobcggbbcialGreatDoor
open Go.ChangeShapes Go.WideShapes Go.ChangeAt Go.RowKit
theorem below_cell{w w':World}(hb:Below w.heap.size w w'){p:Addr}{v:Value}(h:w.cell? p=some v):w'.cell? p=some v :=
 (hb.cell (World.block_lt_of_cell? w p h)).trans h
theorem below_seq{a b c:World}(h:Below a.heap.size a b)(h':Below b.heap.size b c):Below a.heap.size a c:=h.trans (h'.mono h.size)
theorem below_new(w:World)(o:Obj):Below w.heap.size w (w.alloc o):=(Below.refl _ w).alloc (Nat.le_refl _) o
theorem flat_length{α:Type}(f:α→List Value)(sz:Nat)(hf:∀x,(f x).length=sz)(l:List α):(l.flatMap f).length=l.length*sz:=by
 induction l with
 | nil=>simp
 | cons x t ih=>rw[List.flatMap_cons,List.length_append,ih,hf,List.length_cons,Nat.succ_mul];omega
theorem flat_at{α:Type}(f:α→List Value)(sz:Nat)(hf:∀x,(f x).length=sz):∀(l:List α) (j k:Nat) (x:α),l[j]?=some x→k<sz→(l.flatMap f)[j*sz+k]?=(f x)[k]?
 | [],j,k,x,h,_=>by simp at h
 | y::t,0,k,x,h,hk=>by
  simp at h
  subst h
  rw[List.flatMap_cons,Nat.zero_mul,Nat.zero_add,List.getElem?_append_left (by rw[hf];exact hk)]
 | y::t,j+1,k,x,h,hk=>by
  have:=flat_at f sz hf t j k x (by simpa using h) hk
  rw[List.flatMap_cons,Nat.succ_mul,List.getElem?_append_right (by rw[hf];omega),hf,← this]
  congr 1
  omega
theorem flat_mem{α:Type}{f:α→List Value}{l:List α}{u:Value}(h:u∈l.flatMap f):∃x,u∈f x:=by
 obtain⟨x,_,h⟩:=List.mem_flatMap.1 h
 exact⟨x,h⟩
def RowSl{α:Type}(f:α→List Value)(w:World)(l:List α)(v:Value):Prop:=∃ad c,v = .slice ad l.length c∧(ad=none→l.length=0∧c=0)∧l.length≤c∧(l=[]∨∃b o,ad=some ⟨b,o,none⟩∧∀q u,(l.flatMap f)[q]?=some u→w.cell? ⟨b,o+q,none⟩=some u)
theorem RowSl.below{α:Type}{f:α→List Value}{w w':World}{l:List α}{v:Value}(h:RowSl f w l v)(hb:Below w.heap.size w w'):RowSl f w' l v:=by
 obtain⟨ad,c,h1,h2,h4,h3⟩:=h
 refine⟨ad,c,h1,h2,h4,h3.imp id ?_⟩
 rintro⟨b,o,e,h⟩
 exact⟨b,o,e,fun q u hq=>below_cell hb (h q u hq)⟩
theorem RowSl.nil{α:Type}(f:α→List Value)(w:World):RowSl f w [] (.slice none 0 0):=⟨none,0,rfl,fun _=>⟨rfl,rfl⟩,Nat.le_refl _,.inl rfl⟩
def Lent{α:Type}(f:α→List Value)(w:World)(l:List α)(m:α)(v:Value):Prop:=∃b o cap,v = .slice (some ⟨b,o,none⟩) l.length cap∧l.length+3≤cap∧∀q u,((l++[m,m,m]).flatMap f)[q]?=some u→w.cell? ⟨b,o+q,none⟩=some u
theorem Lent.below{α:Type}{f:α→List Value}{w w':World}{l:List α}{m:α}{v:Value}(h:Lent f w l m v)(hb:Below w.heap.size w w'):Lent f w' l m v:=by
 obtain⟨b,o,cap,h1,h2,h3⟩:=h
 exact⟨b,o,cap,h1,h2,fun q u hq=>below_cell hb (h3 q u hq)⟩
theorem Lent.plain{α:Type}{f:α→List Value}{w:World}{l:List α}{m:α}{v:Value}(h:Lent f w l m v):RowSl f w l v:=by
 obtain⟨b,o,cap,h1,h2,h3⟩:=h
 refine⟨_,cap,h1,(fun e=>by cases e),by omega,.inr ⟨b,o,rfl,fun q u hq=>h3 q u ?_⟩⟩
 rw[List.flatMap_append,List.getElem?_append_left (List.getElem?_eq_some_iff.1 hq).1]
 exact hq
theorem RowSl.len{α:Type}{f:α→List Value}{w:World}{l:List α}{v:Value}(h:RowSl f w l v):∃ad c,v = .slice ad l.length c:=by
 obtain⟨ad,c,h1,-⟩:=h
 exact⟨ad,c,h1⟩
structure Ta where
 nm:ByteArray
 c:Int
 t:Int
 d:Int
 j:Int
 o:Int
 p:Int
def Ta.vals(x:Ta):List Value:=[.string x.nm,.int .i64 x.c,.int .i64 x.t,.int .i64 x.d,.int .i64 x.j,.int .i64 x.o,.int .i64 x.p]
def Ta.val(x:Ta):Value:=.agg #[.string x.nm,.int .i64 x.c,.int .i64 x.t,.int .i64 x.d,.int .i64 x.j,.int .i64 x.o,.int .i64 x.p]
theorem Ta.len(x:Ta):x.vals.length=7:=rfl
theorem Ta.one{x:Ta}{u:Value}(h:u∈x.vals):u.oneCell'=true:=by
 simp only[Ta.vals,List.mem_cons,List.not_mem_nil,or_false]at h
 rcases h with rfl|rfl|rfl|rfl|rfl|rfl|rfl<;>rfl
def TaAt(w:World)(b o:Nat)(x:Ta):Prop:=w.cell? ⟨b,o,none⟩=some (.string x.nm)∧w.cell? ⟨b,o+1,none⟩=some (.int .i64 x.c)∧w.cell? ⟨b,o+2,none⟩=some (.int .i64 x.t)∧w.cell? ⟨b,o+3,none⟩=some (.int .i64 x.d)∧w.cell? ⟨b,o+4,none⟩=some (.int .i64 x.j)∧w.cell? ⟨b,o+5,none⟩=some (.int .i64 x.o)∧w.cell? ⟨b,o+6,none⟩=some (.int .i64 x.p)
theorem ta_at{w:World}{l:List Ta}{b o j:Nat}{x:Ta}(h:∀q u,(l.flatMap Ta.vals)[q]?=some u→w.cell? ⟨b,o+q,none⟩=some u)(hj:l[j]?=some x):TaAt w b (o+j*7) x:=by
 have key:∀k u,k<7→x.vals[k]?=some u→w.cell? ⟨b,o+j*7+k,none⟩=some u:=fun k u hk hu=>by
  rw[Nat.add_assoc]
  exact h _ _ ((flat_at Ta.vals 7 Ta.len l j k x hj hk).trans hu)
 exact⟨key 0 _ (by omega) rfl,key 1 _ (by omega) rfl,key 2 _ (by omega) rfl,key 3 _ (by omega) rfl,key 4 _ (by omega) rfl,key 5 _ (by omega) rfl,key 6 _ (by omega) rfl⟩
theorem cells_of{w:World}{g:Nat}{l:List Value}{T:TypeId}(h:w.heap[g]?=some (.cells l.toArray T (0,0))):(∀j u,l[j]?=some u→w.cell? ⟨g,j,none⟩=some u)∧(∀j,w.frozen? ⟨g,j,none⟩=false)∧g<w.heap.size:=by
 refine⟨fun j u hj=>?_,fun j=>?_,(Array.getElem?_eq_some_iff.1 h).1⟩
 ·unfold World.cell?;rw[h];simpa using hj
 ·unfold World.frozen?;rw[h];simp
theorem below_drewN'{w:World}{n:Nat}:Below w.heap.size w (w.drewN n):=⟨rfl,rfl,rfl,Nat.le_refl _,fun _ _=>rfl⟩
def allLo(s:ByteArray):Bool:=s.data.toList.all (fun b=>decide (97≤b.toNat) && decide (b.toNat≤122))
def within(n a b:Int):Bool:=decide (a≤n) && decide (n≤b)
def isNm(s:ByteArray):Bool:=within (s.size:Int) 1 10 && allLo s
def stands(x:Ta):Bool:=within x.c 1 10000 && within x.t 1 10000 && within x.d 1 10000 && within x.j 0 10000 && within x.o 0 10000 && within x.p 0 1000
def sameNm(a b:ByteArray):Bool:=a.toList == b.toList
def wrongF(x:Ta)(ahead:List Ta):Int:=if isNm x.nm=false then 4 else if ahead.any (fun y=>sameNm y.nm x.nm)=true then 5 else if stands x=false then 3 else if x.d<x.c then 12 else 0
def chkFrom(l:List Ta):List Ta→Nat→Int × Int
 | [],_=>(0,0)
 | x::r,k=>if wrongF x (l.take k)=0 then chkFrom l r (k+1) else (wrongF x (l.take k),(k:Int))
def chkF(l:List Ta):Int × Int:=if l.length=0∨8<l.length then (2,0) else chkFrom l l 0
theorem chkFrom_at{l r:List Ta}{k:Nat}{x:Ta}(h:r=x::l.drop (k+1)):chkFrom l r k=if wrongF x (l.take k)=0 then chkFrom l (l.drop (k+1)) (k+1) else (wrongF x (l.take k),(k:Int)):=by
 subst h;rfl
theorem drop_at{α:Type}{l:List α}{k:Nat}(h:k<l.length):∃x,l[k]?=some x∧l.drop k=x::l.drop (k+1) :=
 ⟨l[k],by simp[h],List.drop_eq_getElem_cons h⟩
set_option maxRecDepth 20000 in
theorem within_any(w:World)(n a b:Int):Calls Tryz.prog 120 #[.int .i64 n,.int .i64 a,.int .i64 b] w fun r w'=>r = .returned (.bool (within n a b))∧w'=w:=by
 go_enter Tryz.func120,Tryz.ntmps120
 go_wp2_with fail
 all_goals
  go_ret
  refine⟨?_,rfl⟩
  show Ending.returned (Value.bool _)=_
  congr 2
  unfold within
  first|(simp;done)|(simp;omega)
set_option maxRecDepth 20000 in
theorem few_any(w:World)(n:Int):Calls Tryz.prog 17 #[.int .i64 n] w fun r w'=>r = .returned (.bool (decide (n≤5000)))∧w'=w:=by
 go_enter Tryz.func17,Tryz.ntmps17
 go_wp2_with fail
 go_ret
 exact⟨rfl,rfl⟩
theorem all_high{s:ByteArray}{pos:Nat}(h:pos<s.size){P:UInt8→Bool}(hb:P (s[pos]'h)=false):s.data.toList.all P=false:=by
 apply Bool.eq_false_iff.2
 intro ha
 have:=List.all_eq_true.1 ha (s[pos]'h) (by
  have:s.data[pos]'h∈s.data.toList:=Array.getElem_mem_toList h
  exact this)
 rw[hb]at this
 cases this
theorem all_done{s:ByteArray}{P:UInt8→Bool}(ha:∀i (h:i<s.size),P (s[i]'h)=true):s.data.toList.all P=true:=by
 apply List.all_eq_true.2
 intro x hx
 obtain⟨i,hi,rfl⟩:=List.getElem_of_mem hx
 exact ha i (by simpa using hi)
set_option maxRecDepth 20000 in
set_option maxHeartbeats 4000000 in
theorem allWithin_any(w:World)(s:ByteArray):Calls Tryz.prog 228 #[.string s,.int .i32 97,.int .i32 122] w fun r w'=>r = .returned (.bool (allLo s))∧Below w.heap.size w w':=by
 go_enter Tryz.func228,Tryz.ntmps228
 go_wp2_with fail
 go_loopw [11] (fun _ w'=>∃pos:Nat,w'=w.iter s pos∧pos≤s.size∧∀i (h:i<s.size),i<pos→(decide (97≤(s[i]'h).toNat) && decide ((s[i]'h).toNat≤122))=true) (fun _ w'=>s.size-w'.iterPos w.heap.size)
 case atStart=>exact⟨0,rfl,Nat.zero_le _,fun i _ h=>by omega⟩
 case round =>
  obtain⟨pos,rfl,hps,hok⟩:=hrel
  by_cases hp:pos<s.size
  ·by_cases ha:(s[pos]'hp).toNat<128
   ·have hnx:∀ty,(Instr.next (.pointer (some ⟨w.heap.size,0,none⟩)) true ty).run Tryz.prog (w.iter s pos) = .ok (.tuple #[.bool true,.int .i64 pos,.int .i32 (s[pos]'hp).toNat]) (w.iter s (pos+1)):=fun ty=>by rw[run_next_any w s pos ty hp,decode_ascii s pos hp ha]
    have hb:0≤((s[pos]'hp).toNat:Int):=by omega
    by_cases hlo:97≤(s[pos]'hp).toNat
    ·by_cases hhi:(s[pos]'hp).toNat≤122
     ·have g1:¬ ((s[pos]'hp).toNat:Int)<97:=by omega
      have g2:¬ (122:Int)<((s[pos]'hp).toNat:Int):=by omega
      go_wp2_with fail
      go_roundw
      case rel =>
       refine⟨pos+1,rfl,by omega,fun i hi hlt=>?_⟩
       by_cases e:i=pos
       ·subst e;simp[hlo,hhi]
       ·exact hok i hi (by omega)
      case measure=>simp;omega
     ·have g1:¬ ((s[pos]'hp).toNat:Int)<97:=by omega
      have g2:(122:Int)<((s[pos]'hp).toNat:Int):=by omega
      have e:allLo s=false:=all_high (P:=fun b=>decide (97≤b.toNat) && decide (b.toNat≤122)) hp (by simp;omega)
      go_wp2_with fail
      go_ret
      exact⟨by first|rfl|(rw[e];rfl),below_new _ _⟩
    ·have g1:((s[pos]'hp).toNat:Int)<97:=by omega
     have e:allLo s=false:=all_high (P:=fun b=>decide (97≤b.toNat) && decide (b.toNat≤122)) hp (by simp;omega)
     go_wp2_with fail
     go_ret
     exact⟨by first|rfl|(rw[e];rfl),below_new _ _⟩
   ·have hnx:∀ty,(Instr.next (.pointer (some ⟨w.heap.size,0,none⟩)) true ty).run Tryz.prog (w.iter s pos)=_:=fun ty=>run_next_any w s pos ty hp
    have hd:=(decode_high s pos hp (by omega)).1
    have g1:¬ ((Utf8.decode s pos).1:Int)<97:=by omega
    have g2:(122:Int)<((Utf8.decode s pos).1:Int):=by omega
    have e:allLo s=false:=all_high (P:=fun b=>decide (97≤b.toNat) && decide (b.toNat≤122)) hp (by simp;omega)
    go_wp2_with fail
    go_ret
    exact⟨by first|rfl|(rw[e];rfl),below_new _ _⟩
  ·have hnx:∀ty,(Instr.next (.pointer (some ⟨w.heap.size,0,none⟩)) true ty).run Tryz.prog (w.iter s pos)=_:=fun ty=>run_next_end w s pos ty hp
   have e:allLo s=true:=all_done (s:=s) (P:=fun b=>decide (97≤b.toNat) && decide (b.toNat≤122)) (fun i hi=>hok i hi (by omega))
   go_wp2_with fail
   go_ret
   exact⟨by first|rfl|(rw[e];rfl),below_new _ _⟩
set_option maxRecDepth 20000 in
theorem isName_any(w:World)(s:ByteArray):Calls Tryz.prog 179 #[.string s] w fun r w'=>r = .returned (.bool (isNm s))∧Below w.heap.size w w':=by
 unfold isNm
 rcases hg:within (s.size:Int) 1 10 with _|_
 ·go_enter Tryz.func179,Tryz.ntmps179
  go_wp2_with (go_at_call 120;refine(within_any _ _ _ _).mono ?_;rintro r w1 ⟨rfl,rfl⟩;rw[hg])
  go_ret
  exact⟨rfl,Below.refl _ _⟩
 ·go_enter Tryz.func179,Tryz.ntmps179
  go_wp2_with (go_at_call 120;refine(within_any _ _ _ _).mono ?_;rintro r w1 ⟨rfl,rfl⟩;rw[hg])
  go_wp2_with (go_at_call 228;refine(allWithin_any _ _).mono ?_;rintro r w1 ⟨rfl,hb⟩)
  go_ret
  exact⟨rfl,hb⟩
theorem F_ends{w:World}{g:Nat}{c k:Value}{a:Act}(h:w.heap[g]?=some (.cells #[c,k] 33 (0,0)))(h3:a.tmps[4]?.getD undef = .pointer (some ⟨g,0,none⟩)) :
  (results Tryz.f60 a.tmps).run Tryz.prog w = .ok (.agg #[c,k]) w:=by
 obtain⟨c1,f1,l1⟩:=cells_of (l:=[_,_]) h
 have c10:=c1 0 _ rfl
 have c11:=c1 1 _ rfl
 simp[results,Tryz.results60,go_sem,h3,c10,c11]
set_option maxRecDepth 20000 in
theorem F_any(w:World)(a b:Int):Calls Tryz.prog 60 #[.int .i64 a,.int .i64 b] w fun r w'=>r = .returned (.agg #[.int .i64 a,.int .i64 b])∧Below w.heap.size w w':=by
 go_enter Tryz.func60,Tryz.ntmps60
 go_wp2_with fail
 refine bodyPost_ret (F_ends (heap_alloc_new _ _) rfl) rfl ?_
 exact⟨rfl,below_new _ _⟩
set_option maxRecDepth 20000 in
theorem mayStand_any(w:World)(x:Ta):Calls Tryz.prog 181 #[x.val] w fun r w'=>r = .returned (.bool (stands x))∧Below w.heap.size w w':=by
 obtain⟨nm,c,t,d,j,o,p⟩:=x
 unfold stands Ta.val
 dsimp only
 have H1:=below_new w (.cells #[.string nm,.int .i64 c,.int .i64 t,.int .i64 d,.int .i64 j,.int .i64 o,.int .i64 p] 38)
 rcases h1:within c 1 10000 with _|_
 ·go_enter Tryz.func181,Tryz.ntmps181
  go_wp2_with (go_at_call 120;refine(within_any _ _ _ _).mono ?_;rintro r w1 ⟨rfl,rfl⟩;first|rw[h1]|rw[h2]|rw[h3]|rw[h4]|rw[h5]|skip)
  go_ret
  exact⟨rfl,H1⟩
 rcases h2:within t 1 10000 with _|_
 ·go_enter Tryz.func181,Tryz.ntmps181
  go_wp2_with (go_at_call 120;refine(within_any _ _ _ _).mono ?_;rintro r w1 ⟨rfl,rfl⟩;first|rw[h1]|rw[h2]|rw[h3]|rw[h4]|rw[h5]|skip)
  go_ret
  exact⟨rfl,H1⟩
 rcases h3:within d 1 10000 with _|_
 ·go_enter Tryz.func181,Tryz.ntmps181
  go_wp2_with (go_at_call 120;refine(within_any _ _ _ _).mono ?_;rintro r w1 ⟨rfl,rfl⟩;first|rw[h1]|rw[h2]|rw[h3]|rw[h4]|rw[h5]|skip)
  go_ret
  exact⟨rfl,H1⟩
 rcases h4:within j 0 10000 with _|_
 ·go_enter Tryz.func181,Tryz.ntmps181
  go_wp2_with (go_at_call 120;refine(within_any _ _ _ _).mono ?_;rintro r w1 ⟨rfl,rfl⟩;first|rw[h1]|rw[h2]|rw[h3]|rw[h4]|rw[h5]|skip)
  go_ret
  exact⟨rfl,H1⟩
 rcases h5:within o 0 10000 with _|_
 ·go_enter Tryz.func181,Tryz.ntmps181
  go_wp2_with (go_at_call 120;refine(within_any _ _ _ _).mono ?_;rintro r w1 ⟨rfl,rfl⟩;first|rw[h1]|rw[h2]|rw[h3]|rw[h4]|rw[h5]|skip)
  go_ret
  exact⟨rfl,H1⟩
 go_enter Tryz.func181,Tryz.ntmps181
 go_wp2_with (go_at_call 120;refine(within_any _ _ _ _).mono ?_;rintro r w1 ⟨rfl,rfl⟩;first|rw[h1]|rw[h2]|rw[h3]|rw[h4]|rw[h5]|skip)
 go_ret
 exact⟨rfl,H1⟩
set_option maxRecDepth 20000 in
theorem sameName_any(w:World)(y x:Ta)(g:Nat)(hx:w.cell? ⟨g,0,none⟩=some (.string x.nm)):Calls Tryz.prog 178 #[y.val,.pointer (some ⟨g,0,none⟩)] w fun r w'=>r = .returned (.bool (sameNm y.nm x.nm))∧Below w.heap.size w w':=by
 obtain⟨nm,c,t,d,j,o,p⟩:=y
 unfold Ta.val
 dsimp only
 generalize x.nm=s at *
 have hlt:g<w.heap.size:=World.block_lt_of_cell? _ _ hx
 go_enter Tryz.func178,Tryz.ntmps178
 go_wp2_with fail
 go_ret
 exact⟨rfl,below_new _ _⟩
theorem RowSl.take{α:Type}{f:α→List Value}{w:World}{l:List α}{ad:Option Addr}{n c:Nat}(h:RowSl f w l (.slice ad n c))(k:Nat)(hk:k≤l.length):RowSl f w (l.take k) (.slice ad k c):=by
 obtain⟨ad',c',e,h1,h2,h3⟩:=h
 cases e
 have hl:(l.take k).length=k:=by simp;omega
 refine⟨ad,c,by rw[hl],fun e=>⟨by rw[hl];have:=(h1 e).1;omega,(h1 e).2⟩,by omega,?_⟩
 rcases h3 with h3|⟨b,o,e,h3⟩
 ·subst h3;exact .inl (by simp)
 ·refine .inr ⟨b,o,e,fun q u hq=>h3 q u ?_⟩
  have e2:l.flatMap f=(l.take k).flatMap f++(l.drop k).flatMap f:=by rw[← List.flatMap_append,List.take_append_drop]
  rw[e2,List.getElem?_append_left (List.getElem?_eq_some_iff.1 hq).1]
  exact hq
def findNm(s:ByteArray):List Ta→Nat→Int
 | [],_=>-1
 | y::r,k=>if sameNm y.nm s=true then (k:Int) else findNm s r (k+1)
theorem findNm_any(s:ByteArray):∀(l:List Ta) (k:Nat),decide (0≤findNm s l k)=l.any (fun y=>sameNm y.nm s)
 | [],k=>by simp[findNm]
 | y::r,k=>by
  by_cases h:sameNm y.nm s=true
  ·simp[findNm,h]
  ·simp[findNm,h,← findNm_any s r (k+1)]
set_option maxRecDepth 20000 in
set_option maxHeartbeats 4000000 in
theorem indexFunc_any(w:World)(l:List Ta)(v:Value)(x:Ta)(g:Nat)(hl:l.length≤1000000)(hv:RowSl Ta.vals w l v)(hx:w.cell? ⟨g,0,none⟩=some (.string x.nm)):Calls Tryz.prog 130 #[v,.func (Fn.func 178) #[] #[.pointer (some ⟨g,0,none⟩)]] w fun r w'=>r = .returned (.int .i64 (findNm x.nm l 0))∧Below w.heap.size w w':=by
 obtain⟨ad,c,rfl,-,hcap,hrow⟩:=hv
 go_enter Tryz.func130,Tryz.ntmps130
 go_wp2_with fail
 have HR:Hid (_∧_):=⟨hrow,hx⟩
 clear hrow hx
 go_loopw [8] (fun i wr=>∃j:Nat,j≤l.length∧i = .int .i64 j∧Below w.heap.size w wr∧findNm x.nm (l.drop j) j=findNm x.nm l 0) (fun i _=>l.length-(intOf i).toNat)
 case atStart=>exact⟨0,Nat.zero_le _,rfl,Below.refl _ _,rfl⟩
 case round =>
  obtain⟨j,hj,rfl,hb,hf⟩:=hrel
  by_cases hlt:j<l.length
  ·obtain⟨y,hy,hd⟩:=drop_at hlt
   rw[hd,findNm]at hf
   rcases HR.out.1 with h|⟨b,o,rfl,hrow⟩
   ·rw[h]at hlt;simp at hlt
   have ha:=ta_at (fun q u hq=>below_cell hb (hrow q u hq)) hy
   have hx:=below_cell hb HR.out.2
   obtain⟨c0,c1,c2,c3,c4,c5,c6⟩:=ha
   have HY:=sameName_any wr y x g hx
   unfold Ta.val at HY
   have HB:Hid (Below w.heap.size w wr):=hb
   have HF:Hid (_=_):=hf
   clear hrow hb hf
   obtain⟨nm,yc,yt,yd,yj,yo,yp⟩:=y
   dsimp only at *
   go_wp2_with (go_at_call 178;refine HY.mono ?_;rintro r w1 ⟨rfl,hb1⟩)
   ·have e:=HF.out
    rw[if_pos ‹_›]at e
    go_ret
    exact⟨by rw[← e];rfl,below_seq HB.out hb1⟩
   ·have e:=HF.out
    rw[if_neg (by simp[*])]at e
    exact⟨⟨j+1,by omega,by simp,below_seq HB.out hb1,e⟩,by simp[intOf];omega⟩
  ·have hje:j=l.length:=by omega
   subst hje
   rw[List.drop_length,findNm]at hf
   go_wp2_with fail
   go_ret
   exact⟨by rw[← hf];rfl,hb⟩
set_option maxRecDepth 20000 in
theorem containsFunc_any(w:World)(l:List Ta)(v:Value)(x:Ta)(g:Nat)(hl:l.length≤1000000)(hv:RowSl Ta.vals w l v)(hx:w.cell? ⟨g,0,none⟩=some (.string x.nm)):Calls Tryz.prog 180 #[v,.func (Fn.func 178) #[] #[.pointer (some ⟨g,0,none⟩)]] w fun r w'=>r = .returned (.bool (l.any fun y=>sameNm y.nm x.nm))∧Below w.heap.size w w':=by
 rw[← findNm_any x.nm l 0]
 have HI:=indexFunc_any w l v x g hl hv hx
 obtain⟨ad,c,rfl,-⟩:=hv
 go_enter Tryz.func180,Tryz.ntmps180
 go_wp2_with (go_at_call 130;refine HI.mono ?_;rintro r w1 ⟨rfl,hb1⟩)
 go_ret
 exact⟨rfl,hb1⟩
set_option maxRecDepth 20000 in
set_option maxHeartbeats 4000000 in
theorem wrong_any(w:World)(x:Ta)(l:List Ta)(v:Value)(hl:l.length≤1000000)(hv:RowSl Ta.vals w l v):Calls Tryz.prog 121 #[x.val,v] w fun r w'=>r = .returned (.int .i64 (wrongF x l))∧Below w.heap.size w w':=by
 have hv1:=hv.below (below_new w (.cells #[.string x.nm,.int .i64 x.c,.int .i64 x.t,.int .i64 x.d,.int .i64 x.j,.int .i64 x.o,.int .i64 x.p] 38))
 have HV:Hid (RowSl Ta.vals (w.alloc (.cells #[.string x.nm,.int .i64 x.c,.int .i64 x.t,.int .i64 x.d,.int .i64 x.j,.int .i64 x.o,.int .i64 x.p] 38)) l v):=hv1
 have H0:=below_new w (.cells #[.string x.nm,.int .i64 x.c,.int .i64 x.t,.int .i64 x.d,.int .i64 x.j,.int .i64 x.o,.int .i64 x.p] 38)
 obtain⟨ad,c,rfl,-⟩:=hv
 clear hv1
 unfold wrongF
 have HM:=mayStand_any
 unfold Ta.val at HM ⊢
 rcases h1:isNm x.nm with _|_
 ·go_enter Tryz.func121,Tryz.ntmps121
  go_wp2_with (go_at_call 179;refine(isName_any _ _).mono ?_;rintro r w1 ⟨rfl,hb1⟩;rw[h1])
  go_ret
  exact⟨rfl,below_seq H0 hb1⟩
 rcases h2:l.any (fun y=>sameNm y.nm x.nm) with _|_
 ·rcases h3:stands x with _|_
  ·go_enter Tryz.func121,Tryz.ntmps121
   go_wp2_with (go_at_call 179;refine(isName_any _ _).mono ?_;rintro r w1 ⟨rfl,hb1⟩;rw[h1];have hcx:w1.cell? ⟨w.heap.size,0,none⟩=some (.string x.nm):=below_cell hb1 (by go_simp);have HC:=containsFunc_any w1 l (.slice ad l.length c) x w.heap.size hl (HV.out.below hb1) hcx;have H1:Hid (Below (w.alloc (.cells #[.string x.nm,.int .i64 x.c,.int .i64 x.t,.int .i64 x.d,.int .i64 x.j,.int .i64 x.o,.int .i64 x.p] 38)).heap.size (w.alloc (.cells #[.string x.nm,.int .i64 x.c,.int .i64 x.t,.int .i64 x.d,.int .i64 x.j,.int .i64 x.o,.int .i64 x.p] 38)) w1):=hb1;clear hcx hb1)
   go_wp2_with (go_at_call 180;refine HC.mono ?_;rintro r w2 ⟨rfl,hb2⟩;rw[h2];have H2:Hid (Below (w.alloc (.cells #[.string x.nm,.int .i64 x.c,.int .i64 x.t,.int .i64 x.d,.int .i64 x.j,.int .i64 x.o,.int .i64 x.p] 38)).heap.size (w.alloc (.cells #[.string x.nm,.int .i64 x.c,.int .i64 x.t,.int .i64 x.d,.int .i64 x.j,.int .i64 x.o,.int .i64 x.p] 38)) w2):=below_seq H1.out hb2;have d0:w2.cell? ⟨w.heap.size,0,none⟩=some (.string x.nm):=below_cell H2.out (by go_simp);have d1:w2.cell? ⟨w.heap.size,1,none⟩=some (.int .i64 x.c):=below_cell H2.out (by go_simp);have d2:w2.cell? ⟨w.heap.size,2,none⟩=some (.int .i64 x.t):=below_cell H2.out (by go_simp);have d3:w2.cell? ⟨w.heap.size,3,none⟩=some (.int .i64 x.d):=below_cell H2.out (by go_simp);have d4:w2.cell? ⟨w.heap.size,4,none⟩=some (.int .i64 x.j):=below_cell H2.out (by go_simp);have d5:w2.cell? ⟨w.heap.size,5,none⟩=some (.int .i64 x.o):=below_cell H2.out (by go_simp);have d6:w2.cell? ⟨w.heap.size,6,none⟩=some (.int .i64 x.p):=below_cell H2.out (by go_simp);clear HC hb2)
   go_wp2_with (go_at_call 181;refine(HM _ x).mono ?_;rintro r w3 ⟨rfl,hb3⟩;rw[h3])
   go_ret
   exact⟨rfl,below_seq (below_seq H0 H2.out) hb3⟩
  ·go_enter Tryz.func121,Tryz.ntmps121
   go_wp2_with (go_at_call 179;refine(isName_any _ _).mono ?_;rintro r w1 ⟨rfl,hb1⟩;rw[h1];have hcx:w1.cell? ⟨w.heap.size,0,none⟩=some (.string x.nm):=below_cell hb1 (by go_simp);have HC:=containsFunc_any w1 l (.slice ad l.length c) x w.heap.size hl (HV.out.below hb1) hcx;have H1:Hid (Below (w.alloc (.cells #[.string x.nm,.int .i64 x.c,.int .i64 x.t,.int .i64 x.d,.int .i64 x.j,.int .i64 x.o,.int .i64 x.p] 38)).heap.size (w.alloc (.cells #[.string x.nm,.int .i64 x.c,.int .i64 x.t,.int .i64 x.d,.int .i64 x.j,.int .i64 x.o,.int .i64 x.p] 38)) w1):=hb1;clear hcx hb1)
   go_wp2_with (go_at_call 180;refine HC.mono ?_;rintro r w2 ⟨rfl,hb2⟩;rw[h2];have H2:Hid (Below (w.alloc (.cells #[.string x.nm,.int .i64 x.c,.int .i64 x.t,.int .i64 x.d,.int .i64 x.j,.int .i64 x.o,.int .i64 x.p] 38)).heap.size (w.alloc (.cells #[.string x.nm,.int .i64 x.c,.int .i64 x.t,.int .i64 x.d,.int .i64 x.j,.int .i64 x.o,.int .i64 x.p] 38)) w2):=below_seq H1.out hb2;have d0:w2.cell? ⟨w.heap.size,0,none⟩=some (.string x.nm):=below_cell H2.out (by go_simp);have d1:w2.cell? ⟨w.heap.size,1,none⟩=some (.int .i64 x.c):=below_cell H2.out (by go_simp);have d2:w2.cell? ⟨w.heap.size,2,none⟩=some (.int .i64 x.t):=below_cell H2.out (by go_simp);have d3:w2.cell? ⟨w.heap.size,3,none⟩=some (.int .i64 x.d):=below_cell H2.out (by go_simp);have d4:w2.cell? ⟨w.heap.size,4,none⟩=some (.int .i64 x.j):=below_cell H2.out (by go_simp);have d5:w2.cell? ⟨w.heap.size,5,none⟩=some (.int .i64 x.o):=below_cell H2.out (by go_simp);have d6:w2.cell? ⟨w.heap.size,6,none⟩=some (.int .i64 x.p):=below_cell H2.out (by go_simp);clear HC hb2)
   go_wp2_with (go_at_call 181;refine(HM _ x).mono ?_;rintro r w3 ⟨rfl,hb3⟩;rw[h3];have H3:Hid (Below w2.heap.size w2 w3):=hb3;have e1:=below_cell hb3 d1;have e3:=below_cell hb3 d3;clear d0 d1 d2 d3 d4 d5 d6 hb3)
   all_goals
    go_ret
    refine⟨?_,below_seq (below_seq H0 H2.out) H3.out⟩
    first
     | (rw[if_pos (by omega)];rfl)
     | (rw[if_neg (by omega)];rfl)
     | rfl
 ·go_enter Tryz.func121,Tryz.ntmps121
  go_wp2_with (go_at_call 179;refine(isName_any _ _).mono ?_;rintro r w1 ⟨rfl,hb1⟩;rw[h1];have hcx:w1.cell? ⟨w.heap.size,0,none⟩=some (.string x.nm):=below_cell hb1 (by go_simp);have HC:=containsFunc_any w1 l (.slice ad l.length c) x w.heap.size hl (HV.out.below hb1) hcx;have H1:Hid (Below (w.alloc (.cells #[.string x.nm,.int .i64 x.c,.int .i64 x.t,.int .i64 x.d,.int .i64 x.j,.int .i64 x.o,.int .i64 x.p] 38)).heap.size (w.alloc (.cells #[.string x.nm,.int .i64 x.c,.int .i64 x.t,.int .i64 x.d,.int .i64 x.j,.int .i64 x.o,.int .i64 x.p] 38)) w1):=hb1;clear hcx hb1)
  go_wp2_with (go_at_call 180;refine HC.mono ?_;rintro r w2 ⟨rfl,hb2⟩;rw[h2])
  go_ret
  exact⟨rfl,below_seq (below_seq H0 H1.out) hb2⟩
theorem take_at{P:Program}{md:Region.Mode}{ops:Array Oper}{Q:Exit→Act→World→Prop}{S:World→Prop}{i n:Nat}{oi:Oper}{v:Value}{fuel:Nat}{listed:Array Bool}{l:List Value}{ds:List Deferred}{w:World}
  (hi:ops[i]?=some oi) (hd:oi.dst=some n) (hs:Region.noSelect ops=true) (hf:Region.free md ops listed i=true) (hr:(Region.ready md ops listed).contains i=true)
  (hQ:∀c a w,Q (.panic c) (a.put oi.dst v) w→Q (.panic c) a w) (hy:YieldsIf P ops S oi v ⟨l.toArray,ds⟩) (hS:S w)
  (h:wpAnyH P md ops Q S fuel (listed.setIfInBounds i true) ⟨(l.set n v).toArray,ds⟩ w):wpAnyH P md ops Q S (fuel+1) listed ⟨l.toArray,ds⟩ w:=by
 refine wpAnyH_take hi hs hf hr hQ hy hS ?_
 have e:Act.put ⟨l.toArray,ds⟩ oi.dst v=⟨(l.set n v).toArray,ds⟩:=by rw[hd];simp[Act.put]
 rw[e]
 exact h
theorem tk{P:Program}{md:Region.Mode}{ops:Array Oper}{Q:Exit→Act→World→Prop}{S:World→Prop}{i n:Nat}{oi:Oper}{v:Value}{fuel:Nat}{listed:Array Bool}{l:List Value}{ds:List Deferred}{w:World}
  (hy:∀w,S w→(execOp (Act.eval ⟨l.toArray,ds⟩) oi).run P w = .ok (.value v) w) (h:wpAnyH P md ops Q S fuel (listed.setIfInBounds i true) ⟨(l.set n v).toArray,ds⟩ w)
  (hi:ops[i]?=some oi:=by rfl) (hd:oi.dst=some n:=by rfl) (hs:(Region.noSelect ops && Region.free md ops listed i && (Region.ready md ops listed).contains i)=true:=by kernel_rfl)
  (hQ:∀c a w,Q (.panic c) (a.put oi.dst v) w→Q (.panic c) a w:=by exact fun _ _ _ h=>h) (hg:Region.wanted oi (yielded ops l.toArray)=true:=by rfl) (hS:S w:=by assumption):wpAnyH P md ops Q S (fuel+1) listed ⟨l.toArray,ds⟩ w:=by
 simp only[Bool.and_eq_true]at hs
 exact take_at hi hd hs.1.1 hs.1.2 hs.2 hQ (.inl ⟨hg,hy⟩) hS h
theorem ls0(x a:Value)(l:List Value):(x::l).set 0 a=a::l:=rfl
theorem ls1(x a:Value)(l:List Value)(n:Nat):(x::l).set (n+1) a=x::l.set n a:=rfl
theorem setCell_at{w:World}{g i:Nat}{cs:Array Value}{t:TypeId}{fr:Nat × Nat}{u:Value}(h:w.heap[g]?=some (.cells cs t fr)):(w.setCell ⟨g,i,none⟩ u).heap[g]?=some (.cells (cs.setIfInBounds i u) t fr):=by
 have hlt:g<w.heap.size:=(Array.getElem?_eq_some_iff.1 h).1
 have h':w.heap[g] = .cells cs t fr:=by simpa[Array.getElem?_eq_getElem hlt] using h
 show(w.heap.modify g _)[g]?=_
 rw[Array.getElem?_eq_getElem (by simpa using hlt),Array.getElem_modify_self,h']
 rfl
theorem set_two{w9:World}{g:Nat}{a b x y:Value}(h:w9.heap[g]?=some (.cells #[x,y] 33 (0,0))):((w9.setCell ⟨g,0,none⟩ a).setCell ⟨g,1,none⟩ b).heap[g]?=some (.cells #[a,b] 33 (0,0)):=by
 rw[setCell_at (setCell_at h)]
 rfl
structure FB (w W:World) (g:Nat):Prop where
 bel:Below w.heap.size w W
 res:W.heap[g]?=some (.cells #[.int .i64 0,.int .i64 0] 33 (0,0))
 low:w.heap.size≤g
theorem FB.grow{w W W':World}{g:Nat}(h:FB w W g)(hb:Below W.heap.size W W'):FB w W' g :=
 ⟨below_seq h.bel hb,(hb.block g (Array.getElem?_eq_some_iff.1 h.res).1).trans h.res,h.low⟩
theorem FB.start(w:World):FB w (w.alloc (.cells #[.int .i64 0,.int .i64 0] 33)) w.heap.size:=⟨below_new _ _,heap_alloc_new _ _,Nat.le_refl _⟩
theorem FB.lt{w W:World}{g:Nat}(h:FB w W g):g<W.heap.size:=(Array.getElem?_eq_some_iff.1 h.res).1
theorem FB.set{w W:World}{g:Nat}(h:FB w W g)(a b:Value):Below w.heap.size w ((W.setCell ⟨g,0,none⟩ a).setCell ⟨g,1,none⟩ b):=(h.bel.setCell h.low _).setCell h.low _
theorem Check_ends{w:World}{g:Nat}{c k:Value}{a:Act}(h:w.heap[g]?=some (.cells #[c,k] 33 (0,0)))(h3:a.tmps[2]?.getD undef = .pointer (some ⟨g,0,none⟩)) :
  (results Tryz.f69 a.tmps).run Tryz.prog w = .ok (.agg #[c,k]) w:=by
 obtain⟨c1,f1,l1⟩:=cells_of (l:=[_,_]) h
 have c10:=c1 0 _ rfl
 have c11:=c1 1 _ rfl
 simp[results,Tryz.results69,go_sem,h3,c10,c11]
set_option maxRecDepth 20000 in
theorem Check_many(w:World)(n c:Nat)(ad:Option Addr)(h:n=0∨8<n):Calls Tryz.prog 69 #[.slice ad n c] w fun r w'=>r = .returned (.agg #[.int .i64 2,.int .i64 0])∧Below w.heap.size w w':=by
 have hw:within (n:Int) 1 8=false:=by unfold within;simp;omega
 go_enter Tryz.func69,Tryz.ntmps69
 go_wp2_with (go_at_call 120;refine(within_any _ _ _ _).mono ?_;rintro r w1 ⟨rfl,rfl⟩;rw[hw])
 refine bodyPost_ret (Check_ends (heap_alloc_new _ _) rfl) rfl ?_
 exact⟨rfl,below_new _ _⟩
set_option maxRecDepth 20000 in
set_option maxHeartbeats 4000000 in
theorem Check_few(w:World)(l:List Ta)(ad:Option Addr)(c:Nat)(h1:l.length≠0)(h8:l.length≤8)(hv:RowSl Ta.vals w l (.slice ad l.length c)):Calls Tryz.prog 69 #[.slice ad l.length c] w fun r w'=>r = .returned (.agg #[.int .i64 (chkFrom l l 0).1,.int .i64 (chkFrom l l 0).2])∧Below w.heap.size w w':=by
 have hw:within (l.length:Int) 1 8=true:=by unfold within;simp;omega
 have HV:Hid (RowSl Ta.vals w l (.slice ad l.length c)):=hv
 obtain⟨_,_,e,-,hcap,hrow⟩:=hv
 cases e
 rcases hrow with h|⟨b,o,rfl,hrow⟩
 ·rw[h]at h1;simp at h1
 have HR:Hid (∀q u,(l.flatMap Ta.vals)[q]?=some u→w.cell? ⟨b,o+q,none⟩=some u):=hrow
 clear hrow
 go_enter Tryz.func69,Tryz.ntmps69
 go_wp2_with (go_at_call 120;refine(within_any _ _ _ _).mono ?_;rintro r w1 ⟨rfl,rfl⟩;rw[hw])
 go_loopw [13] (fun i wr=>∃j:Nat,j≤l.length∧i = .int .i64 j∧FB w wr w.heap.size∧chkFrom l (l.drop j) j=chkFrom l l 0) (fun i _=>l.length-(intOf i).toNat)
 case atStart=>exact⟨0,Nat.zero_le _,rfl,FB.start _,rfl⟩
 case round =>
  obtain⟨j,hj,rfl,hb,hf⟩:=hrel
  by_cases hlt:j<l.length
  ·obtain⟨x,hx,hd⟩:=drop_at hlt
   rw[chkFrom_at hd]at hf
   have ha:=ta_at (fun q u hq=>below_cell hb.bel (HR.out q u hq)) hx
   have hsl:=(HV.out.below hb.bel).take j hj
   obtain⟨c0,c1,c2,c3,c4,c5,c6⟩:=ha
   have lb:b<wr.heap.size:=World.block_lt_of_cell? _ _ c0
   have hj':(j:Int)≤(l.length:Int):=by omega
   have hjc:(j:Int)≤(c:Int):=by omega
   have HW:=wrong_any ((wr.alloc (.cells #[.string x.nm,.int .i64 x.c,.int .i64 x.t,.int .i64 x.d,.int .i64 x.j,.int .i64 x.o,.int .i64 x.p] 38)).drew) x (l.take j) (.slice (some ⟨b,o,none⟩) j c) (by simp;omega) ((hsl.below (below_new _ _)).below (Below.refl _ _).drew)
   unfold Ta.val at HW
   have HB:Hid (FB w (wr.alloc (.cells #[.string x.nm,.int .i64 x.c,.int .i64 x.t,.int .i64 x.d,.int .i64 x.j,.int .i64 x.o,.int .i64 x.p] 38)).drew w.heap.size):=(hb.grow (below_new _ _)).grow (Below.refl _ _).drew
   have HF:Hid ((if wrongF x (List.take j l)=0 then chkFrom l (List.drop (j+1) l) (j+1) else (wrongF x (List.take j l),(j:Int)))=chkFrom l l 0):=hf
   generalize wrongF x (l.take j)=z at *
   clear hsl hb hf
   go_wp2_with fail
   refine wp_region_noPanic ?_
   refine wp_region_held_drew (S:=fun w'=>w'.cell? ⟨wr.heap.size,0,none⟩=some (.string x.nm)∧w'.cell? ⟨wr.heap.size,1,none⟩=some (.int .i64 x.c)∧w'.cell? ⟨wr.heap.size,2,none⟩=some (.int .i64 x.t)∧w'.cell? ⟨wr.heap.size,3,none⟩=some (.int .i64 x.d)∧w'.cell? ⟨wr.heap.size,4,none⟩=some (.int .i64 x.j)∧w'.cell? ⟨wr.heap.size,5,none⟩=some (.int .i64 x.o)∧w'.cell? ⟨wr.heap.size,6,none⟩=some (.int .i64 x.p)) (by kernel_rfl) (by refine⟨?_,?_,?_,?_,?_,?_,?_⟩<;>go_simp) (fun hHeld=>?_)
   refine tk (i:=0) (n:=18) (v:=?_) ?_ ?_
   rotate_left 1
   ·intro wz hSw
    obtain⟨k0,k1,k2,k3,k4,k5,k6⟩:=hSw
    first|(go_simp;done)|(go_simp;with_reducible rfl)
   simp only[ls0,ls1]
   refine tk (i:=1) (n:=19) (v:=?_) ?_ ?_
   rotate_left 1
   ·intro wz hSw
    first|(go_simp;done)|(go_simp;with_reducible rfl)
   simp only[ls0,ls1]
   refine tk (i:=2) (n:=20) (v:=?_) ?_ ?_
   rotate_left 1
   ·intro wz hSw
    first|(go_simp;done)|(go_simp;with_reducible rfl)
   simp only[ls0,ls1]
   refine tk (i:=3) (n:=21) (v:=?_) ?_ ?_
   rotate_left 1
   ·intro wz hSw
    first|(go_simp;done)|(go_simp;with_reducible rfl)
   simp only[ls0,ls1]
   refine wpAnyH_ready (rs:=[4]) (by kernel_rfl) (by simp) ?_
   refine AllReadyH.cons rfl (fun K hK=>?_) AllReadyH.nil
   go_wp2_with (go_at_call 121;refine HW.mono ?_;rintro r w1 ⟨rfl,hb1⟩)
   have H1:Hid (FB w w1 w.heap.size):=HB.out.grow hb1
   refine hK.out _ _ (by refine⟨?_,?_,?_,?_,?_,?_,?_⟩<;>exact below_cell hb1 (by go_simp)) (fun hHeld=>?_)
   clear hK K HW
   refine tk (i:=5) (n:=5) (v:=?_) ?_ ?_
   rotate_left 1
   ·intro wz hSw
    first|(go_simp;done)|(go_simp;with_reducible rfl)
   simp only[ls0,ls1]
   refine wpAnyH_done (by kernel_rfl) ?_ _
   refine NoPanic.normal ?_
   obtain⟨rs1,rf1,rl1⟩:=cells_of (l:=[_,_]) H1.out.res
   have r10:=rs1 0 _ rfl
   have r11:=rs1 1 _ rfl
   have f10:=rf1 0
   have f11:=rf1 1
   clear rs1 rf1 hb1 hHeld
   by_cases hz:z=0
   ·subst hz
    have e:=HF.out
    rw[if_pos rfl]at e
    go_wp2_with fail
    go_roundw
    case rel=>exact⟨j+1,by omega,by go_num,H1.out,e⟩
    case measure=>simp[intOf];omega
   ·have e:=HF.out
    rw[if_neg hz]at e
    have hzb:(z != 0)=true:=by simpa using hz
    go_wp2_with fail
    refine bodyPost_ret (Check_ends (set_two H1.out.res) rfl) rfl ?_
    exact⟨by rw[← e],H1.out.set _ _⟩
  ·have hje:j=l.length:=by omega
   subst hje
   rw[List.drop_length,chkFrom]at hf
   have H1:Hid (FB w wr w.heap.size):=hb
   obtain⟨rs1,rf1,rl1⟩:=cells_of (l:=[_,_]) hb.res
   have r10:=rs1 0 _ rfl
   have r11:=rs1 1 _ rfl
   have f10:=rf1 0
   have f11:=rf1 1
   clear rs1 rf1 hb
   have HF:Hid ((0,0)=chkFrom l l 0):=hf
   clear hf
   go_wp2_with fail
   refine bodyPost_ret (Check_ends (set_two H1.out.res) rfl) rfl ?_
   exact⟨by rw[← HF.out],H1.out.set _ _⟩
theorem Check_any(w:World)(l:List Ta)(v:Value)(hv:RowSl Ta.vals w l v):Calls Tryz.prog 69 #[v] w fun r w'=>r = .returned (.agg #[.int .i64 (chkF l).1,.int .i64 (chkF l).2])∧Below w.heap.size w w':=by
 obtain⟨ad,c,rfl⟩:=hv.len
 unfold chkF
 by_cases h:l.length=0∨8<l.length
 ·rw[if_pos h]
  exact Check_many w l.length c ad h
 ·rw[if_neg h]
  exact Check_few w l ad c (by omega) (by omega) hv
structure Co where
 k:Int
 a:Int
def Co.vals(x:Co):List Value:=[.int .i64 x.k,.int .i64 x.a]
def Co.val(x:Co):Value:=.agg #[.int .i64 x.k,.int .i64 x.a]
theorem Co.len(x:Co):x.vals.length=2:=rfl
theorem Co.one{x:Co}{u:Value}(h:u∈x.vals):u.oneCell'=true:=by
 simp only[Co.vals,List.mem_cons,List.not_mem_nil,or_false]at h
 rcases h with rfl|rfl<;>rfl
def CoAt(w:World)(b o:Nat)(x:Co):Prop:=w.cell? ⟨b,o,none⟩=some (.int .i64 x.k)∧w.cell? ⟨b,o+1,none⟩=some (.int .i64 x.a)
theorem co_at{w:World}{l:List Co}{b o j:Nat}{x:Co}(h:∀q u,(l.flatMap Co.vals)[q]?=some u→w.cell? ⟨b,o+q,none⟩=some u)(hj:l[j]?=some x):CoAt w b (o+j*2) x:=by
 have key:∀k u,k<2→x.vals[k]?=some u→w.cell? ⟨b,o+j*2+k,none⟩=some u:=fun k u hk hu=>by
  rw[Nat.add_assoc]
  exact h _ _ ((flat_at Co.vals 2 Co.len l j k x hj hk).trans hu)
 exact⟨key 0 _ (by omega) rfl,key 1 _ (by omega) rfl⟩
def nuV(z:Int):List Value:=[.int .i64 z]
theorem nuV_len(z:Int):(nuV z).length=1:=rfl
theorem nu_at{w:World}{l:List Int}{b o j:Nat}{z:Int}(h:∀q u,(l.flatMap nuV)[q]?=some u→w.cell? ⟨b,o+q,none⟩=some u)(hj:l[j]?=some z):w.cell? ⟨b,o+j,none⟩=some (.int .i64 z):=by
 have:=h _ _ ((flat_at nuV 1 nuV_len l j 0 z hj (by omega)).trans (rfl:(nuV z)[0]?=some (.int .i64 z)))
 simpa using this
def ta0:Ta:=⟨⟨#[]⟩,0,0,0,0,0,0⟩
theorem chkFrom_ok{l:List Ta}:∀(r:List Ta) (k:Nat),(chkFrom l r k).1=0→∀x∈r,stands x=true
 | [],_,_,x,hx=>by simp at hx
 | y::r,k,h,x,hx=>by
  rw[chkFrom]at h
  by_cases hw:wrongF y (l.take k)=0
  ·rw[if_pos hw]at h
   rcases List.mem_cons.1 hx with rfl|hx
   ·unfold wrongF at hw
    cases hs:stands x with
    | true=>rfl
    | false =>
     exfalso
     rw[hs]at hw
     split at hw
     ·cases hw
     ·split at hw
      ·cases hw
      ·simp at hw
   ·exact chkFrom_ok r (k+1) h x hx
  ·rw[if_neg hw]at h
   exact absurd h hw
theorem chkF_ok{l:List Ta}(h:(chkF l).1=0):l.length≠0∧l.length≤8∧∀x∈l,stands x=true:=by
 unfold chkF at h
 by_cases h1:l.length=0∨8<l.length
 ·rw[if_pos h1]at h;cases h
 ·rw[if_neg h1]at h
  exact⟨by omega,by omega,chkFrom_ok l 0 h⟩
theorem stands_t{x:Ta}(h:stands x=true):1≤x.t∧x.t≤10000∧1≤x.c∧x.c≤10000∧1≤x.d∧x.d≤10000∧0≤x.j∧x.j≤10000∧0≤x.o∧x.o≤10000:=by
 simp only[stands,within,Bool.and_eq_true,decide_eq_true_eq]at h
 omega
def isFix(ask:Int→Int)(jj d:Int)(n:Nat):Bool:=decide (1≤n) && decide ((n:Int)+jj≤d) && decide (ask n=n)
def wOf(ask:Int→Int)(jj d:Int):Int:=match (List.range (d+1).toNat).find? (isFix ask jj d) with
 | some n=>(n:Int)+jj
 | none=>0
theorem isFix_iff{ask:Int→Int}{jj d:Int}{n:Nat}:isFix ask jj d n=true↔1≤n∧(n:Int)+jj≤d∧ask n=n:=by
 unfold isFix;simp[and_assoc]
theorem wOf_hit{ask:Int→Int}{jj d w:Int}(hj:0≤jj)(h1:1≤w)(h2:w+jj≤d)(h3:ask w=w)(h4:∀v,1≤v→v<w→ask v≠v):wOf ask jj d=w+jj:=by
 obtain⟨n,rfl⟩:∃n:Nat,w=(n:Int):=⟨w.toNat,by omega⟩
 have h:(List.range (d+1).toNat).find? (isFix ask jj d)=some n:=by
  rw[List.find?_range_eq_some]
  refine⟨isFix_iff.2 ⟨by omega,h2,h3⟩,List.mem_range.2 (by omega),fun k hk=>?_⟩
  rw[Bool.not_eq_true',Bool.eq_false_iff]
  intro hf
  obtain⟨g1,g2,g3⟩:=isFix_iff.1 hf
  exact h4 k (by omega) (by omega) g3
 unfold wOf
 rw[h]
theorem wOf_none{ask:Int→Int}{jj d:Int}(h:∀w,1≤w→w+jj≤d→ask w≠w):wOf ask jj d=0:=by
 have h:(List.range (d+1).toNat).find? (isFix ask jj d)=none:=by
  rw[List.find?_range_eq_none]
  intro k hk
  rw[Bool.not_eq_true',Bool.eq_false_iff]
  intro hf
  obtain⟨g1,g2,g3⟩:=isFix_iff.1 hf
  exact h k (by omega) g2 g3
 unfold wOf
 rw[h]
theorem wOf_some{ask:Int→Int}{jj d:Int}(h:wOf ask jj d≠0):∃w,1≤w∧w+jj≤d∧ask w=w∧(∀v,1≤v→v<w→ask v≠v)∧wOf ask jj d=w+jj:=by
 unfold wOf at h ⊢
 cases e:(List.range (d+1).toNat).find? (isFix ask jj d) with
 | none=>rw[e]at h;exact absurd rfl h
 | some n =>
  rw[List.find?_range_eq_some]at e
  obtain⟨g1,g2,g3⟩:=isFix_iff.1 e.1
  refine⟨n,by omega,g2,g3,fun v hv hlt hf=>?_,rfl⟩
  have:=e.2.2 v.toNat (by omega)
  rw[Bool.not_eq_true',Bool.eq_false_iff]at this
  refine this (isFix_iff.2 ⟨by omega,by omega,?_⟩)
  rw[show((v.toNat:Nat):Int)=v by omega]
  exact hf
def up1(w:Int)(o:Ta):Int:=(w+o.j+o.t-1) / o.t*o.c
def sumO(w:Int):List Ta→Int
 | []=>0
 | o::r=>up1 w o+sumO w r
def askF(own:Int)(oth:List Ta)(w:Int):Int:=own+sumO w oth
def othF(A:Nat→Bool)(i:Nat):List Ta→Nat→List Ta
 | [],_=>[]
 | x::r,k=>if k≠i∧A k=true then x::othF A i r (k+1) else othF A i r (k+1)
def Tk(l:List Ta)(n:Nat):Ta:=l.getD n ta0
def aheadP(l:List Ta)(i:Nat)(k:Nat):Bool:=decide ((Tk l i).p≤(Tk l k).p)
def worstF(A:Nat→Bool)(l:List Ta)(i:Nat)(block:Int):Int:=wOf (askF ((Tk l i).c+block) (othF A i l 0)) (Tk l i).j (Tk l i).d
def respR(l:List Ta)(i:Nat)(block:Int):Int:=worstF (aheadP l i) l i block
theorem Tk_at{l:List Ta}{k:Nat}{x:Ta}(h:l[k]?=some x):Tk l k=x:=by
 unfold Tk;rw[List.getD_eq_getElem?_getD,h];rfl
theorem Tk_get{l:List Ta}{k:Nat}(h:k<l.length):l[k]?=some (Tk l k):=by
 unfold Tk;rw[List.getD_eq_getElem?_getD];simp[h]
theorem Tk_mem{l:List Ta}{k:Nat}(h:k<l.length):Tk l k∈l:=List.mem_of_getElem? (Tk_get h)
theorem othF_mem{A:Nat→Bool}{i:Nat}:∀(l:List Ta) (k:Nat),∀x∈othF A i l k,x∈l
 | [],_,x,hx=>by simp[othF]at hx
 | y::r,k,x,hx=>by
  unfold othF at hx
  split at hx
  ·rcases List.mem_cons.1 hx with rfl|hx
   ·exact List.mem_cons_self
   ·exact List.mem_cons_of_mem _ (othF_mem r (k+1) x hx)
  ·exact List.mem_cons_of_mem _ (othF_mem r (k+1) x hx)
theorem up1_range{w:Int}{o:Ta}(h:stands o=true)(h0:0≤w)(h1:w≤10000):0≤up1 w o∧up1 w o≤200000000∧0≤(w+o.j+o.t-1) / o.t∧(w+o.j+o.t-1) / o.t≤20000:=by
 obtain⟨a1,a2,a3,a4,a5,a6,a7,a8,a9,a10⟩:=stands_t h
 have q0:0≤(w+o.j+o.t-1) / o.t:=Int.ediv_nonneg (by omega) (by omega)
 have q1:(w+o.j+o.t-1) / o.t≤20000:=by
  apply Int.le_of_lt_add_one
  apply Int.ediv_lt_of_lt_mul (by omega)
  have:w+o.j≤(w+o.j)*o.t:=by
   have:=Int.mul_le_mul_of_nonneg_left (a:=1) (b:=o.t) (c:=w+o.j) (by omega) (by omega)
   omega
  have h3:(20000+1)*o.t=20000*o.t+o.t:=by rw[Int.add_mul];omega
  omega
 unfold up1
 refine⟨Int.mul_nonneg q0 (by omega),?_,q0,q1⟩
 calc (w+o.j+o.t-1) / o.t*o.c≤20000*o.c:=Int.mul_le_mul_of_nonneg_right q1 (by omega)
  _≤20000*10000:=Int.mul_le_mul_of_nonneg_left (by omega) (by omega)
  _=200000000:=by rfl
theorem up1_mono{w v:Int}{o:Ta}(h:stands o=true)(hw:w≤v):up1 w o≤up1 v o:=by
 obtain⟨a1,a2,a3,a4,a5,a6,a7,a8,a9,a10⟩:=stands_t h
 unfold up1
 exact Int.mul_le_mul_of_nonneg_right (Int.ediv_le_ediv (by omega) (by omega)) (by omega)
theorem sumO_mono{w v:Int}(hw:w≤v):∀(l:List Ta),(∀x∈l,stands x=true)→sumO w l≤sumO v l
 | [],_=>Int.le_refl _
 | x::r,h=>by
  have h1:=up1_mono (h x List.mem_cons_self) hw
  have h2:=sumO_mono hw r (fun y hy=>h y (List.mem_cons_of_mem _ hy))
  unfold sumO
  omega
theorem sumO_range{w:Int}(h0:0≤w)(h1:w≤10000):∀(l:List Ta),(∀x∈l,stands x=true)→0≤sumO w l∧sumO w l≤200000000*(l.length:Int)
 | [],_=>by simp[sumO]
 | x::r,h=>by
  have g1:=up1_range (h x List.mem_cons_self) h0 h1
  have g2:=sumO_range h0 h1 r (fun y hy=>h y (List.mem_cons_of_mem _ hy))
  simp only[sumO,List.length_cons]
  omega
def ordFrom:List Ta→Nat→Int
 | [],_=>-1
 | x::r,k=>if x.t<x.d then (k:Int) else ordFrom r (k+1)
def chkX(l:List Ta):Int × Int:=if (chkF l).1≠0 then chkF l else if 0≤ordFrom l 0 then (12,ordFrom l 0) else (0,0)
theorem ordFrom_ok:∀(l:List Ta) (k:Nat),ordFrom l k<0→∀x∈l,x.d≤x.t
 | [],_,_,x,hx=>by simp at hx
 | y::r,k,h,x,hx=>by
  unfold ordFrom at h
  split at h
  ·omega
  ·rcases List.mem_cons.1 hx with rfl|hx
   ·omega
   ·exact ordFrom_ok r (k+1) h x hx
theorem chkX_ok{l:List Ta}(h:(chkX l).1=0):(chkF l).1=0∧(∀x∈l,x.d≤x.t)∧l.length≠0∧l.length≤8∧(∀x∈l,stands x=true)∧chkX l=(0,0):=by
 unfold chkX at h ⊢
 by_cases h0:(chkF l).1≠0
 ·rw[if_pos h0]at h
  exact absurd h h0
 ·rw[if_neg h0]at h ⊢
  by_cases h1:0≤ordFrom l 0
  ·rw[if_pos h1]at h;cases h
  ·rw[if_neg h1]at h ⊢
   have g:=chkF_ok (l:=l) (by omega)
   exact⟨by omega,ordFrom_ok l 0 (by omega),g.1,g.2.1,g.2.2,rfl⟩
def respF(l:List Ta)(i block:Int):Int × (Int × Int):=if i<0∨(l.length:Int)≤i∨block<0∨10000<block then (0,(3,0)) else if respR l i.toNat block=0 then (0,(13,i)) else (respR l i.toNat block,(0,0))
def respsFrom(l:List Ta):List Int→Nat→List Int→List Int × (Int × Int)
 | [],_,acc=>(acc,(0,0))
 | b::r,k,acc=>if (respF l k b).2.1≠0 then ([],(respF l k b).2) else respsFrom l r (k+1) (acc++[(respF l k b).1])
def responsesF(l:List Ta)(bs:List Int):List Int × (Int × Int):=if (chkX l).1≠0 then ([],chkX l) else if bs.length≠l.length then ([],(2,0)) else respsFrom l bs 0 []
theorem respsFrom_at{l:List Ta}{bs:List Int}{k:Nat}{b:Int}{acc:List Int}(h:bs.drop k=b::bs.drop (k+1)):respsFrom l (bs.drop k) k acc=if (respF l k b).2.1≠0 then ([],(respF l k b).2) else respsFrom l (bs.drop (k+1)) (k+1) (acc++[(respF l k b).1]):=by
 rw[h];rfl
theorem othF_at{A:Nat→Bool}{i k:Nat}{l:List Ta}{x:Ta}(h:l.drop k=x::l.drop (k+1)):othF A i (l.drop k) k=if k≠i∧A k=true then x::othF A i (l.drop (k+1)) (k+1) else othF A i (l.drop (k+1)) (k+1):=by
 rw[h];rfl
theorem stands_mem{l:List Ta}(h:∀x∈l,stands x=true){k:Nat}(hk:k<l.length):stands (Tk l k)=true:=h _ (Tk_mem hk)
theorem heap_new2(w:World)(o o':Obj):((w.alloc o).alloc o').heap[w.heap.size+1]?=some o':=by
 have:=heap_alloc_new (w.alloc o) o'
 rw[show(w.alloc o).heap.size=w.heap.size+1 by simp]at this
 exact this
def isTm(n:Int):Bool:=decide (0≤n) && decide (n≤10000)
set_option maxRecDepth 20000 in
theorem isTime_any(w:World)(n:Int):Calls Tryz.prog 132 #[.int .i64 n] w fun r w'=>r = .returned (.bool (isTm n))∧w'=w:=by
 go_enter Tryz.func132,Tryz.ntmps132
 go_wp2_with fail
 all_goals
  go_ret
  refine⟨?_,rfl⟩
  show Ending.returned (Value.bool _)=_
  congr 2
  unfold isTm
  first|(simp;done)|(simp;omega)
set_option maxRecDepth 20000 in
theorem due_any(w:World)(x:Ta):Calls Tryz.prog 73 #[x.val] w fun r w'=>r = .returned (.bool (decide (x.d≤x.t)))∧Below w.heap.size w w':=by
 obtain⟨nm,c,t,d,j,o,p⟩:=x
 unfold Ta.val
 dsimp only
 go_enter Tryz.func73,Tryz.ntmps73
 go_wp2_with fail
 go_ret
 exact⟨rfl,below_new _ _⟩
set_option maxRecDepth 20000 in
theorem notDue_any(w:World)(x:Ta)(g:Nat)(hx:w.cell? ⟨g,0,none⟩=some (.func (Fn.func 73) #[] #[])):Calls Tryz.prog 131 #[x.val,.pointer (some ⟨g,0,none⟩)] w fun r w'=>r = .returned (.bool (decide (x.t<x.d)))∧Below w.heap.size w w':=by
 have HD:=fun W=>due_any W x
 obtain⟨nm,c,t,d,j,o,p⟩:=x
 unfold Ta.val at HD ⊢
 dsimp only at HD ⊢
 have hlt:g<w.heap.size:=World.block_lt_of_cell? _ _ hx
 go_enter Tryz.func131,Tryz.ntmps131
 go_wp2_with (go_at_call 73;refine(HD _).mono ?_;rintro r w1 ⟨rfl,hb1⟩)
 go_ret
 refine⟨?_,below_seq (below_new _ _) hb1⟩
 show Ending.returned (Value.bool _)=_
 congr 2
 by_cases h:t<d
 ·simp[h]
 ·simp[h];omega
set_option maxRecDepth 20000 in
set_option maxHeartbeats 4000000 in
theorem indexDue_any(w:World)(l:List Ta)(v:Value)(g:Nat)(hl:l.length≤1000000)(hv:RowSl Ta.vals w l v)(hx:w.cell? ⟨g,0,none⟩=some (.func (Fn.func 73) #[] #[])):Calls Tryz.prog 130 #[v,.func (Fn.func 131) #[] #[.pointer (some ⟨g,0,none⟩)]] w fun r w'=>r = .returned (.int .i64 (ordFrom l 0))∧Below w.heap.size w w':=by
 obtain⟨ad,c,rfl,-,hcap,hrow⟩:=hv
 go_enter Tryz.func130,Tryz.ntmps130
 go_wp2_with fail
 have HR:Hid (_∧_):=⟨hrow,hx⟩
 clear hrow hx
 go_loopw [8] (fun i wr=>∃j:Nat,j≤l.length∧i = .int .i64 j∧Below w.heap.size w wr∧ordFrom (l.drop j) j=ordFrom l 0) (fun i _=>l.length-(intOf i).toNat)
 case atStart=>exact⟨0,Nat.zero_le _,rfl,Below.refl _ _,rfl⟩
 case round =>
  obtain⟨j,hj,rfl,hb,hf⟩:=hrel
  by_cases hlt:j<l.length
  ·obtain⟨y,hy,hd⟩:=drop_at hlt
   rw[hd,ordFrom]at hf
   rcases HR.out.1 with h|⟨b,o,rfl,hrow⟩
   ·rw[h]at hlt;simp at hlt
   have ha:=ta_at (fun q u hq=>below_cell hb (hrow q u hq)) hy
   have hx:=below_cell hb HR.out.2
   obtain⟨c0,c1,c2,c3,c4,c5,c6⟩:=ha
   have HY:=notDue_any wr y g hx
   unfold Ta.val at HY
   have HB:Hid (Below w.heap.size w wr):=hb
   have HF:Hid (_=_):=hf
   clear hrow hb hf
   obtain⟨nm,yc,yt,yd,yj,yo,yp⟩:=y
   dsimp only at *
   by_cases hz:yt<yd
   ·have hz':decide (yt<yd)=true:=by simp[hz]
    rw[hz']at HY
    go_wp2_with (go_at_call 131;refine HY.mono ?_;rintro r w1 ⟨rfl,hb1⟩)
    have e:=HF.out
    rw[if_pos hz]at e
    go_ret
    exact⟨by rw[← e];rfl,below_seq HB.out hb1⟩
   ·have hz':decide (yt<yd)=false:=by simp[hz]
    rw[hz']at HY
    go_wp2_with (go_at_call 131;refine HY.mono ?_;rintro r w1 ⟨rfl,hb1⟩)
    have e:=HF.out
    rw[if_neg (by omega)]at e
    exact⟨⟨j+1,by omega,by simp,below_seq HB.out hb1,e⟩,by simp[intOf];omega⟩
  ·have hje:j=l.length:=by omega
   subst hje
   rw[List.drop_length,ordFrom]at hf
   go_wp2_with fail
   go_ret
   exact⟨by rw[← hf];rfl,hb⟩
theorem FB.endA{w W:World}{g:Nat}(h:FB w W g)(a b:Value)(o:Obj):(((W.setCell ⟨g,0,none⟩ a).setCell ⟨g,1,none⟩ b).alloc o).heap[g]?=some (.cells #[a,b] 33 (0,0))∧Below w.heap.size w (((W.setCell ⟨g,0,none⟩ a).setCell ⟨g,1,none⟩ b).alloc o):=by
 have h1:=set_two (a:=a) (b:=b) h.res
 have h2:=h.set a b
 exact⟨((below_new _ o).block g (Array.getElem?_eq_some_iff.1 h1).1).trans h1,h2.alloc h2.size o⟩
theorem check_ends{w:World}{g:Nat}{c k:Value}{a:Act}(h:w.heap[g]?=some (.cells #[c,k] 33 (0,0)))(h3:a.tmps[4]?.getD undef = .pointer (some ⟨g,0,none⟩)) :
  (results Tryz.f72 a.tmps).run Tryz.prog w = .ok (.agg #[c,k]) w:=by
 obtain⟨c1,f1,l1⟩:=cells_of (l:=[_,_]) h
 have c10:=c1 0 _ rfl
 have c11:=c1 1 _ rfl
 simp[results,Tryz.results72,go_sem,h3,c10,c11]
set_option maxRecDepth 20000 in
set_option maxHeartbeats 4000000 in
theorem check_any(w:World)(l:List Ta)(v:Value)(hl:l.length≤1000000)(hv:RowSl Ta.vals w l v):Calls Tryz.prog 72 #[v,.func (Fn.func 73) #[] #[]] w fun r w'=>r = .returned (.agg #[.int .i64 (chkX l).1,.int .i64 (chkX l).2])∧Below w.heap.size w w':=by
 obtain⟨ad,c,rfl⟩:=hv.len
 have HV:Hid (RowSl Ta.vals w l (.slice ad l.length c)):=hv
 clear hv
 unfold chkX
 have HF:Hid (FB w ((w.alloc (.cells #[.func (Fn.func 73) #[] #[]] 153)).alloc (.cells #[.int .i64 0,.int .i64 0] 33)) (w.heap.size+1)):=⟨below_seq (below_new _ _) (below_new _ _),heap_new2 _ _ _,by omega⟩
 have HX:Hid (((w.alloc (.cells #[.func (Fn.func 73) #[] #[]] 153)).alloc (.cells #[.int .i64 0,.int .i64 0] 33)).cell? ⟨w.heap.size,0,none⟩=some (.func (Fn.func 73) #[] #[])):=by
  show _=_
  go_simp
 by_cases h0:(chkF l).1≠0
 ·rw[if_pos h0]
  have hzb:((chkF l).1 != 0)=true:=by simpa using h0
  go_enter Tryz.func72,Tryz.ntmps72
  go_wp2_with (go_at_call 69;refine(Check_any _ l _ (HV.out.below HF.out.bel)).mono ?_;rintro r w1 ⟨rfl,hb1⟩;have H1:Hid (FB w w1 (w.heap.size+1)):=HF.out.grow hb1;obtain⟨rs1,rf1,rl1⟩:=cells_of (l:=[_,_]) H1.out.res;have r10:=rs1 0 _ rfl;have r11:=rs1 1 _ rfl;have f10:=rf1 0;have f11:=rf1 1;clear rs1 rf1 hb1)
  refine bodyPost_ret (check_ends (H1.out.endA _ _ _).1 rfl) rfl ?_
  exact⟨rfl,(H1.out.endA _ _ _).2⟩
 ·rw[if_neg h0]
  have hz:(chkF l).1=0:=by omega
  go_enter Tryz.func72,Tryz.ntmps72
  go_wp2_with (go_at_call 69;refine(Check_any _ l _ (HV.out.below HF.out.bel)).mono ?_;rintro r w1 ⟨rfl,hb1⟩;rw[hz];have H1:Hid (FB w (w1.alloc (.cells #[.int .i64 0,.int .i64 (chkF l).2] 33)) (w.heap.size+1)):=(HF.out.grow hb1).grow (below_new _ _);have HI:=indexDue_any (w1.alloc (.cells #[.int .i64 0,.int .i64 (chkF l).2] 33)) l _ w.heap.size hl (HV.out.below H1.out.bel) (below_cell (below_seq hb1 (below_new _ _)) HX.out);clear hb1)
  go_wp2_with (go_at_call 130;refine HI.mono ?_;rintro r w2 ⟨rfl,hb2⟩;have H2:Hid (FB w w2 (w.heap.size+1)):=H1.out.grow hb2;obtain⟨rs1,rf1,rl1⟩:=cells_of (l:=[_,_]) H2.out.res;have r10:=rs1 0 _ rfl;have r11:=rs1 1 _ rfl;have f10:=rf1 0;have f11:=rf1 1;clear rs1 rf1 hb2 HI)
  all_goals
   refine bodyPost_ret (check_ends (set_two H2.out.res) rfl) rfl ?_
   exact⟨rfl,H2.out.set _ _⟩
theorem ownsRow_same{w w':World}{B n size:Nat}{e:TypeId}{v:Value}{xs:List Value}(h:w.ownsRow B e size v n xs)(hs:∀k,B≤k→k<w.heap.size→w'.heap[k]?=w.heap[k]?):w'.ownsRow B e size v n xs:=by
 obtain⟨hl,h|⟨g,cap,cur,he,hb,hg,hr⟩⟩:=h
 ·exact⟨hl,.inl h⟩
 ·exact⟨hl,.inr ⟨g,cap,cur,he,hb,(hs g hb (Array.getElem?_eq_some_iff.1 hg).1).trans hg,hr⟩⟩
theorem rowArg{α:Type}{f:α→List Value}{w w1:World}{l:List α}{ad:Option Addr}(h:l=[]∨∃b o,ad=some ⟨b,o,none⟩∧∀q u,(l.flatMap f)[q]?=some u→w.cell? ⟨b,o+q,none⟩=some u)(hb:Below w.heap.size w w1):∀ad',ad=some ad'→∀j u,(l.flatMap f)[j]?=some u→w1.cell? (ad'.add j)=some u:=by
 intro ad' hd j u hj
 rcases h with h2|⟨b,o,h2,h3⟩
 ·subst h2;simp at hj
 ·rw[hd]at h2
  cases h2
  rw[Addr.add_lit]
  exact below_cell hb (h3 j u hj)
theorem infoTa:(Tryz.prog.info? 38).map (fun i=>(i.zero,i.size,i.bytes))=some (some (.agg #[.string ⟨#[]⟩,.int .i64 0,.int .i64 0,.int .i64 0,.int .i64 0,.int .i64 0,.int .i64 0]),7,64):=by kernel_rfl
theorem info3:(Tryz.prog.info? 3).map (fun i=>(i.zero,i.size,i.bytes))=some (some (.int .i64 0),1,8):=by kernel_rfl
theorem flatOneN{l:List Int}{u:Value}(h:u∈l.flatMap nuV):u.oneCell'=true:=by
 obtain⟨x,h⟩:=flat_mem h
 simp only[nuV,List.mem_singleton]at h
 subst h
 rfl
theorem ownsRow_below{w w':World}{B n size:Nat}{e:TypeId}{v:Value}{xs:List Value}(h:w.ownsRow B e size v n xs)(hb:Below w.heap.size w w'):w'.ownsRow B e size v n xs:=ownsRow_same h (fun k _ hk=>hb.block k hk)
theorem owns_value{w:World}{B n size:Nat}{e:TypeId}{v:Value}{xs:List Value}(h:w.ownsRow B e size v n xs):∃ad c,v = .slice ad n c:=by
 obtain⟨hl,⟨h,hn⟩|⟨g,cap,cur,he,-⟩⟩:=h
 ·exact⟨none,0,by rw[h];simp_all⟩
 ·exact⟨_,_,he⟩
theorem append_known{P:Program}{w:World}{ops:Array Oper}{rest:List Oper}{o:Oper}{a:Act}{Q:Exit→Act→World→Prop}(hgd:o.guard=none)(s x:Operand)(t:TypeId)
  (ho:o.op = .call { callee:=.builtin .append,args:=#[s,x],argTypes:=#[t,t] }) {v u v':Value} {w':World} (hs:a.eval s=v) (hx:a.eval x=u)
  (hrun:(Builtin.append_ #[t,t] o.type #[v,u]).run P w = .ok v' w') (h:wpList P ops Q rest (a.put o.dst v') w'):wpList P ops Q (o::rest) a w:=by
 refine wpList_plain hgd fun K hK=>?_
 unfold Oper.wp
 simp[execOp,ho,resolve,invoke,builtin,hs,hx,hrun,Result.andThen]
 exact hK _ _ h
structure NO (w wr:World) (g:Nat) (acc:List Int) (av:Value):Prop where
 fb:FB w wr g
 row:wr.ownsRow (g+1) 3 1 av acc.length (acc.flatMap nuV)
theorem NO.grow{w wr wr':World}{g:Nat}{acc:List Int}{av:Value}(h:NO w wr g acc av)(hb:Below wr.heap.size wr wr'):NO w wr' g acc av:=⟨h.fb.grow hb,ownsRow_below h.row hb⟩
theorem NO.start{w wr:World}{g:Nat}(h:FB w wr g):NO w wr g [] (.slice none 0 0):=⟨h,⟨rfl,.inl ⟨rfl,rfl⟩⟩⟩
theorem NO.push{w wr:World}{g:Nat}{acc:List Int}{av:Value}(h:NO w wr g acc av)(x:Int)(hl:acc.length≤100000) :
  ∃ad c w4,(Builtin.append_ #[25,25] 25 #[av,.slice (some ⟨wr.heap.size,0,none⟩) 1 1]).run Tryz.prog (wr.alloc (.cells #[.int .i64 x] 3)) = .ok (.slice ad (acc.length+1) c) w4∧NO w w4 g (acc++[x]) (.slice ad (acc.length+1) c):=by
 obtain⟨i0,hi0,hz0,hz1,hz2⟩:=info_parts info3
 have h1:=h.grow (below_new wr (.cells #[.int .i64 x] 3))
 have hlt:=h.fb.lt
 have hlow:=h.fb.low
 obtain⟨v4,w4,hrun,ho4,hg4,-,hv4⟩:=run_append_own_at (P:=Tryz.prog) (w:=wr.alloc (.cells #[.int .i64 x] 3)) (g+1) 25 25 3 i0 _ 1 8 Tryz.underlying25 hi0 hz0 hz1 hz2 rfl (by decide) av acc.length (acc.flatMap nuV) h1.row ⟨wr.heap.size,0,none⟩ 1 1 (nuV x) rfl (fun j u hj=>by rw[Addr.add_lit];have:=(cells_of (l:=nuV x) (heap_alloc_new wr (.cells #[.int .i64 x] 3))).1 j u hj;simpa using this) (fun u hu=>by simp[nuV]at hu;subst hu;rfl) (by unfold maxLen;omega) (by omega) (by simp;omega)
 obtain⟨ad,c,rfl⟩:=owns_value ho4
 have hne:∀k,k<g+1→some k≠av.ownBlock:=fun k hk e=>by have:=(h.row.lt k e.symm).1;omega
 have hold:∀k,k<wr.heap.size→some k≠av.ownBlock→w4.heap[k]?=wr.heap[k]?:=fun k hk hn=>(hg4.block k (by simp;omega) hn).trans (Below.heap_alloc _ _ _ hk)
 have hbel:Below (g+1) wr w4:=((below_new wr _).mono (by omega)).grown hg4 (by simp;omega) (fun k hk=>(h.row.lt k hk).1)
 refine⟨ad,c,w4,hrun,⟨⟨h.fb.bel.trans (hbel.mono (by omega)),(hold _ hlt (hne _ (by omega))).trans h.fb.res,h.fb.low⟩,?_⟩⟩
 rw[List.length_append,show(acc++[x]).flatMap nuV=acc.flatMap nuV++nuV x by simp]
 exact ho4
theorem NO.rowSl{w wr:World}{g:Nat}{acc:List Int}{av:Value}(h:NO w wr g acc av):RowSl nuV wr acc av:=by
 have h':=h.row
 obtain⟨hl,⟨h1,h2⟩|⟨g,cap,cur,he,hb,hg,hr⟩⟩:=h.row
 ·subst h1
  have:acc=[]:=by
   cases acc with
   | nil=>rfl
   | cons x r=>simp_all
  subst this
  exact RowSl.nil _ _
 ·subst he
  refine⟨_,cap,rfl,(fun e=>by cases e),by omega,.inr ⟨g,0,rfl,fun q u hq=>?_⟩⟩
  have hql:=(List.getElem?_eq_some_iff.1 hq).1
  rw[flat_length nuV 1 nuV_len]at hql
  rw[Nat.zero_add]
  exact(h'.cellAt q (by omega)).trans hq
theorem NO.val{w wr:World}{g:Nat}{acc:List Int}{av:Value}(h:NO w wr g acc av):∃ad c,av = .slice ad acc.length c:=owns_value h.row
theorem ownsRow_two{w:World}{g B n size:Nat}{e:TypeId}{v:Value}{xs:List Value}(h:w.ownsRow B e size v n xs)(hg:g<B)(a b:Value):((w.setCell ⟨g,0,none⟩ a).setCell ⟨g,1,none⟩ b).ownsRow B e size v n xs :=
 ownsRow_same h (fun k hk _=>by rw[Below.heap_setCell _ _ _ _ (by show k≠g;omega),Below.heap_setCell _ _ _ _ (by show k≠g;omega)])
theorem NO.set{w wr:World}{g:Nat}{acc:List Int}{av:Value}(h:NO w wr g acc av)(a b:Value):RowSl nuV ((wr.setCell ⟨g,0,none⟩ a).setCell ⟨g,1,none⟩ b) acc av:=by
 have h':=ownsRow_two h.row (Nat.lt_succ_self g) a b
 obtain⟨hl,⟨h1,h2⟩|⟨g,cap,cur,he,hb,hg,hr⟩⟩:=h.row
 ·subst h1
  have:acc=[]:=by
   cases acc with
   | nil=>rfl
   | cons x r=>simp_all
  subst this
  exact RowSl.nil _ _
 ·subst he
  refine⟨_,cap,rfl,(fun e=>by cases e),by omega,.inr ⟨g,0,rfl,fun q u hq=>?_⟩⟩
  have hql:=(List.getElem?_eq_some_iff.1 hq).1
  rw[flat_length nuV 1 nuV_len]at hql
  rw[Nat.zero_add]
  exact(h'.cellAt q (by omega)).trans hq
end Go.Proofs.YtccoobcggbbcialGreatDoor
