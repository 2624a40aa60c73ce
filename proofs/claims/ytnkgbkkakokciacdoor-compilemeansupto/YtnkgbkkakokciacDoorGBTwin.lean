import Derived.Test.YtnkgbkkakokciacDoorGBNode
import Derived.Deep.CutRange
import Derived.Deep.RegionWith
namespace Go.Proofs.YtnkgbkkakokciacDoor.B
open Go.ChangeShapes Go.WideShapes Go.ChangeAt Go.RowKit
theorem info34:(Tryd.prog.info? 123).map (fun i=>(i.zero,i.size,i.bytes))=some (some (.agg #[.int .i64 0,.int .i64 0,.int .i64 0,.int .i64 0,.slice none 0 0,.int .i64 0,.int .i64 0,.int .i64 0,.slice none 0 0,.int .i64 0,.int .i64 0,.slice none 0 0,.slice none 0 0,.slice none 0 0]),14,192):=by kernel_rfl
def copyIs (w:World) (g:Nat) (x0 x1 x2 x3 x4 x5 x6 x7 x8 x9 x10 x11 x12 x13:Value):Prop :=
  w.heap[g]?=some (.cells #[x0,x1,x2,x3,x4,x5,x6,x7,x8,x9,x10,x11,x12,x13] 123 (0,0))
theorem setCell_at {w:World} {g i:Nat} {cs:Array Value} {t:TypeId} {fr:Nat × Nat} {u:Value} (h:w.heap[g]?=some (.cells cs t fr)):(w.setCell ⟨g,i,none⟩ u).heap[g]?=some (.cells (cs.setIfInBounds i u) t fr):=by
  have hlt:g<w.heap.size:=(Array.getElem?_eq_some_iff.1 h).1
  have h':w.heap[g] = .cells cs t fr:=by simpa [Array.getElem?_eq_getElem hlt] using h
  show (w.heap.modify g _)[g]?=_
  rw [Array.getElem?_eq_getElem (by simpa using hlt),Array.getElem_modify_self,h']
  rfl
theorem copyIs.cell {w:World} {g:Nat} {x0 x1 x2 x3 x4 x5 x6 x7 x8 x9 x10 x11 x12 x13:Value} (h:copyIs w g x0 x1 x2 x3 x4 x5 x6 x7 x8 x9 x10 x11 x12 x13) :
    w.cell? ⟨g,0,none⟩=some x0∧w.cell? ⟨g,1,none⟩=some x1∧w.cell? ⟨g,2,none⟩=some x2∧w.cell? ⟨g,3,none⟩=some x3∧w.cell? ⟨g,4,none⟩=some x4∧w.cell? ⟨g,5,none⟩=some x5∧w.cell? ⟨g,6,none⟩=some x6 ∧
    w.cell? ⟨g,7,none⟩=some x7∧w.cell? ⟨g,8,none⟩=some x8∧w.cell? ⟨g,9,none⟩=some x9∧w.cell? ⟨g,10,none⟩=some x10∧w.cell? ⟨g,11,none⟩=some x11∧w.cell? ⟨g,12,none⟩=some x12∧w.cell? ⟨g,13,none⟩=some x13∧∀ j,w.frozen? ⟨g,j,none⟩=false:=by
  unfold copyIs at h
  refine ⟨?_,?_,?_,?_,?_,?_,?_,?_,?_,?_,?_,?_,?_,?_,?_⟩
  any_goals (unfold World.cell?;rw [h];rfl)
  intro j
  unfold World.frozen?
  rw [h]
  simp
theorem twin_mid {wr W1 w1 w2 w3:World} {se sca scb:Ex} {x0 x1 x2 x3 x4 x5 x6 x7 x8 x9 x10 x11 x12 x13 f0 f1 f2 g0 g1 g2 h0 h1 h2:Value} (hB1:Below wr.heap.size wr W1) (hz:W1.heap.size=wr.heap.size+1)
    (hc:copyIs W1 wr.heap.size x0 x1 x2 x3 x4 x5 x6 x7 x8 x9 x10 x11 x12 x13)
    (b1:Below W1.heap.size W1 w1) (b2:Below w1.heap.size w1 w2) (b3:Below w2.heap.size w2 w3)
    (i1:se.InP (fun b=>W1.heap.size≤b) w1 (.agg #[f0,f1,f2])) (i2:sca.InP (fun b=>W1.heap.size≤b) w2 (.agg #[g0,g1,g2])) (i3:scb.InP (fun b=>W1.heap.size≤b) w3 (.agg #[h0,h1,h2])) :
    copyIs (((((((((w3.setCell ⟨wr.heap.size,2,none⟩ f0).setCell ⟨wr.heap.size,3,none⟩ f1).setCell ⟨wr.heap.size,4,none⟩ f2).setCell ⟨wr.heap.size,6,none⟩ g0).setCell ⟨wr.heap.size,7,none⟩ g1).setCell ⟨wr.heap.size,8,none⟩ g2).setCell ⟨wr.heap.size,9,none⟩ h0).setCell ⟨wr.heap.size,10,none⟩ h1).setCell ⟨wr.heap.size,11,none⟩ h2) wr.heap.size x0 x1 f0 f1 f2 x5 g0 g1 g2 h0 h1 h2 x12 x13 ∧
    se.InP (fun b=>wr.heap.size<b) (((((((((w3.setCell ⟨wr.heap.size,2,none⟩ f0).setCell ⟨wr.heap.size,3,none⟩ f1).setCell ⟨wr.heap.size,4,none⟩ f2).setCell ⟨wr.heap.size,6,none⟩ g0).setCell ⟨wr.heap.size,7,none⟩ g1).setCell ⟨wr.heap.size,8,none⟩ g2).setCell ⟨wr.heap.size,9,none⟩ h0).setCell ⟨wr.heap.size,10,none⟩ h1).setCell ⟨wr.heap.size,11,none⟩ h2) (.agg #[f0,f1,f2]) ∧
    sca.InP (fun b=>wr.heap.size<b) (((((((((w3.setCell ⟨wr.heap.size,2,none⟩ f0).setCell ⟨wr.heap.size,3,none⟩ f1).setCell ⟨wr.heap.size,4,none⟩ f2).setCell ⟨wr.heap.size,6,none⟩ g0).setCell ⟨wr.heap.size,7,none⟩ g1).setCell ⟨wr.heap.size,8,none⟩ g2).setCell ⟨wr.heap.size,9,none⟩ h0).setCell ⟨wr.heap.size,10,none⟩ h1).setCell ⟨wr.heap.size,11,none⟩ h2) (.agg #[g0,g1,g2]) ∧
    scb.InP (fun b=>wr.heap.size<b) (((((((((w3.setCell ⟨wr.heap.size,2,none⟩ f0).setCell ⟨wr.heap.size,3,none⟩ f1).setCell ⟨wr.heap.size,4,none⟩ f2).setCell ⟨wr.heap.size,6,none⟩ g0).setCell ⟨wr.heap.size,7,none⟩ g1).setCell ⟨wr.heap.size,8,none⟩ g2).setCell ⟨wr.heap.size,9,none⟩ h0).setCell ⟨wr.heap.size,10,none⟩ h1).setCell ⟨wr.heap.size,11,none⟩ h2) (.agg #[h0,h1,h2]) ∧
    Below wr.heap.size wr (((((((((w3.setCell ⟨wr.heap.size,2,none⟩ f0).setCell ⟨wr.heap.size,3,none⟩ f1).setCell ⟨wr.heap.size,4,none⟩ f2).setCell ⟨wr.heap.size,6,none⟩ g0).setCell ⟨wr.heap.size,7,none⟩ g1).setCell ⟨wr.heap.size,8,none⟩ g2).setCell ⟨wr.heap.size,9,none⟩ h0).setCell ⟨wr.heap.size,10,none⟩ h1).setCell ⟨wr.heap.size,11,none⟩ h2):=by
  have b13:=below_seq (below_seq b1 b2) b3
  have hc3:copyIs w3 wr.heap.size x0 x1 x2 x3 x4 x5 x6 x7 x8 x9 x10 x11 x12 x13:=(b13.block _ (by omega)).trans hc
  have mv:∀ w,Below w.heap.size w w3→Moves (fun b=>W1.heap.size≤b) (fun b=>wr.heap.size<b) w (((((((((w3.setCell ⟨wr.heap.size,2,none⟩ f0).setCell ⟨wr.heap.size,3,none⟩ f1).setCell ⟨wr.heap.size,4,none⟩ f2).setCell ⟨wr.heap.size,6,none⟩ g0).setCell ⟨wr.heap.size,7,none⟩ g1).setCell ⟨wr.heap.size,8,none⟩ g2).setCell ⟨wr.heap.size,9,none⟩ h0).setCell ⟨wr.heap.size,10,none⟩ h1).setCell ⟨wr.heap.size,11,none⟩ h2):=by
    intro w hw b hb hlt
    refine ⟨by omega,?_⟩
    rw [← hw.block b hlt]
    iterate 9 rw [Below.heap_setCell _ _ _ _ (by simp;omega)]
  refine ⟨?_,i1.move (mv _ (below_seq b2 b3)),i2.move (mv _ b3),i3.move (mv _ (Below.refl _ _)),?_⟩
  · unfold copyIs at hc3 ⊢
    simpa using setCell_at (i:=11) (u:=h2) (setCell_at (i:=10) (u:=h1) (setCell_at (i:=9) (u:=h0) (setCell_at (i:=8) (u:=g2) (setCell_at (i:=7) (u:=g1) (setCell_at (i:=6) (u:=g0) (setCell_at (i:=4) (u:=f2) (setCell_at (i:=3) (u:=f1) (setCell_at (i:=2) (u:=f0) hc3))))))))
  · exact (((((((((below_seq hB1 b13).setCell (by simp) _).setCell (by simp) _).setCell (by simp) _).setCell (by simp) _).setCell (by simp) _).setCell (by simp) _).setCell (by simp) _).setCell (by simp) _).setCell (by simp) _
theorem Ex_at {wr W1 w1:World} {e:Ex} {v:Value} (h:e.In wr v) (h1:Below wr.heap.size wr W1) (h2:Below W1.heap.size W1 w1):e.In w1 v:=Ex.In.below (below_seq h1 h2) _ h
theorem Sl_at {wr W1 w1:World} {b:List St} {v:Value} (h:St.Sl wr b v) (h1:Below wr.heap.size wr W1) (h2:Below W1.heap.size W1 w1):St.Sl w1 b v:=h.below (below_seq h1 h2)
theorem behind {W1 w1 w2:World} (h:Below W1.heap.size W1 w1) (h2:Below w1.heap.size w1 w2):Below W1.heap.size W1 w2∧(∀ b o,b<W1.heap.size→w2.cell? ⟨b,o,none⟩=W1.cell? ⟨b,o,none⟩)∧(∀ b o,b<W1.heap.size→w2.frozen? ⟨b,o,none⟩=W1.frozen? ⟨b,o,none⟩) :=
  ⟨below_seq h h2,fun b o hb=>(below_seq h h2).cell (p:=⟨b,o,none⟩) hb,fun b o hb=>(below_seq h h2).frozen (p:=⟨b,o,none⟩) hb⟩
theorem copyIs.lt {w:World} {g:Nat} {x0 x1 x2 x3 x4 x5 x6 x7 x8 x9 x10 x11 x12 x13:Value} (h:copyIs w g x0 x1 x2 x3 x4 x5 x6 x7 x8 x9 x10 x11 x12 x13):g<w.heap.size:=(Array.getElem?_eq_some_iff.1 h).1
theorem twin_mid2 {wr wc w1 w2:World} {sk sn sck:Int} {se sca scb:Ex} {sy sl:List St} {f0 f1 f2 g0 g1 g2 h0 h1 h2 x12 x13 v1 v2:Value} {q1 q2:List Nat}
    (hc:copyIs wc wr.heap.size (.int .i64 sk) (.int .i64 sn) f0 f1 f2 (.int .i64 sck) g0 g1 g2 h0 h1 h2 x12 x13)
    (i1:se.InP (fun b=>wr.heap.size<b) wc (.agg #[f0,f1,f2])) (i2:sca.InP (fun b=>wr.heap.size<b) wc (.agg #[g0,g1,g2])) (i3:scb.InP (fun b=>wr.heap.size<b) wc (.agg #[h0,h1,h2]))
    (hbc:Below wr.heap.size wr wc) (b1:Below wc.heap.size wc w1) (b2:Below w1.heap.size w1 w2)
    (s1:St.SlQ (fun b=>wc.heap.size≤b) w1 sy v1 q1) (n1:q1.Nodup) (s2:St.SlQ (fun b=>w1.heap.size≤b) w2 sl v2 q2) (n2:q2.Nodup) :
    copyIs ((w2.setCell ⟨wr.heap.size,12,none⟩ v1).setCell ⟨wr.heap.size,13,none⟩ v2) wr.heap.size (.int .i64 sk) (.int .i64 sn) f0 f1 f2 (.int .i64 sck) g0 g1 g2 h0 h1 h2 v1 v2 ∧
    (St.mk sk sn se sck sca scb sy sl).InQ (fun b=>wr.heap.size<b) ((w2.setCell ⟨wr.heap.size,12,none⟩ v1).setCell ⟨wr.heap.size,13,none⟩ v2) (.agg #[.int .i64 sk,.int .i64 sn,f0,f1,f2,.int .i64 sck,g0,g1,g2,h0,h1,h2,v1,v2]) (q1++q2) ∧
    (q1++q2).Nodup∧Below wr.heap.size wr ((w2.setCell ⟨wr.heap.size,12,none⟩ v1).setCell ⟨wr.heap.size,13,none⟩ v2):=by
  have hlt:=hc.lt
  have b12:=below_seq b1 b2
  have hc2:copyIs w2 wr.heap.size (.int .i64 sk) (.int .i64 sn) f0 f1 f2 (.int .i64 sck) g0 g1 g2 h0 h1 h2 x12 x13:=(b12.block _ hlt).trans hc
  have mv:∀ w (p:Nat→Prop),Below w.heap.size w w2→(∀ b,p b→wr.heap.size<b)→Moves p (fun b=>wr.heap.size<b) w ((w2.setCell ⟨wr.heap.size,12,none⟩ v1).setCell ⟨wr.heap.size,13,none⟩ v2):=by
    intro w p hw hp b hb hlt
    have:=hp b hb
    refine ⟨this,?_⟩
    rw [← hw.block b hlt]
    iterate 2 rw [Below.heap_setCell _ _ _ _ (by simp;omega)]
  have z1:=b1.size
  refine ⟨?_,?_,?_,?_⟩
  · unfold copyIs at hc2 ⊢
    simpa using setCell_at (i:=13) (u:=v2) (setCell_at (i:=12) (u:=v1) hc2)
  · unfold St.InQ
    exact ⟨f0,f1,f2,g0,g1,g2,h0,h1,h2,v1,v2,rfl,i1.move (mv _ _ b12 fun _ h=>h),i2.move (mv _ _ b12 fun _ h=>h),i3.move (mv _ _ b12 fun _ h=>h),q1,q2,rfl,
      s1.move (mv _ _ b2 fun b h=>by omega),s2.move (mv _ _ (Below.refl _ _) fun b h=>by omega)⟩
  · refine List.nodup_append.2 ⟨n1,n2,fun x hx y hy e=>?_⟩
    subst e
    have:=(s1.blocks x hx).2
    have:=(s2.blocks x hy).1
    omega
  · exact ((below_seq (below_seq hbc b1) b2).setCell (by simp) _).setCell (by simp) _
theorem twin_step {B:Nat} {w wr wd w3:World} {a:List St} {j:Nat} {out v':Value} {x:Nat→Value} {xs:List Value} {bl q:List Nat} {o:Obj} (hlt:j<a.length) (hw:w.heap.size=B)
    (hcs:St.Cells (offOf B out) wr (a.take j) xs bl) (hnd:bl.Nodup) (hown:wr.ownsRow B 123 14 out j xs) (hB:Below B w wr) (hb':Below wr.heap.size wr wd)
    (he:(a[j]).InQ (fun b=>wr.heap.size<b) wd (stVal x) q) (hq:q.Nodup)
    (hg:(wd.alloc o).grownBy w3 out.ownBlock) (hv:v'.ownBlock=out.ownBlock∨∀ k,v'.ownBlock=some k→(wd.alloc o).heap.size≤k) :
    St.Cells (offOf B v') w3 (a.take (j+1)) (xs++[x 0,x 1,x 2,x 3,x 4,x 5,x 6,x 7,x 8,x 9,x 10,x 11,x 12,x 13]) (bl++q)∧(bl++q).Nodup∧Below B w w3:=by
  subst hw
  have s1:=hB.size
  have s2:=hb'.size
  have lt:∀ k,out.ownBlock=some k→w.heap.size≤k∧k<wr.heap.size:=hown.lt
  refine ⟨?_,?_,?_⟩
  · rw [List.take_succ_eq_append_getElem hlt]
    refine St.Cells.snoc ?_ _ ?_
    · refine St.InQ.move ?_ _ he
      intro b hb hlt2
      have hq:offOf w.heap.size out b:=⟨by omega,fun h=>by have:=(lt b h).2;omega⟩
      have hm:=moves_append (B:=w.heap.size) hg hv b hq (by simp;omega)
      exact ⟨hm.1,hm.2.trans (Below.heap_alloc _ _ _ hlt2)⟩
    · refine St.Cells.move ?_ _ hcs
      intro b hb hlt2
      have hm:=moves_append (B:=w.heap.size) hg hv b hb (by simp;omega)
      exact ⟨hm.1,hm.2.trans ((Below.heap_alloc _ _ _ (by omega)).trans (hb'.block b hlt2))⟩
  · refine List.nodup_append.2 ⟨hnd,hq,fun x hx y hy e=>?_⟩
    subst e
    have:=(hcs.blocks _ x hx).2
    have:=(he.blocks _ x hy).1
    omega
  · refine (hB.trans (hb'.mono s1)).trans ?_
    refine (Below.refl _ _).alloc (by omega) o |>.grown hg (by simp;omega) fun k hk=>(lt k hk).1
theorem getCell34 {w:World} {v:Value} {base n:Nat} {xs:List Value} {size:Nat} (h:w.ownsRow base 123 size v n xs) (hn:0<n):∃ g cap,v = .slice (some ⟨g,0,none⟩) n cap∧base≤g∧rowBlk w g∧∀ j u,xs[j]?=some u→w.cell? ⟨g,0+j,none⟩=some u:=by
  obtain ⟨g,cap,rfl,hb,hc⟩:=getCell h hn
  refine ⟨g,cap,rfl,hb,?_,hc⟩
  rcases h.2 with ⟨h,_⟩ | ⟨g',cap',cur,h,_,hh,_⟩
  · cases h
  · cases h;exact ⟨cur,hh⟩
theorem twin_end {w3:World} {B:Nat} {a:List St} {out:Value} {xs:List Value} {bl:List Nat} (hcs:St.Cells (offOf B out) w3 a xs bl) (hnd:bl.Nodup) (hown:w3.ownsRow B 123 14 out a.length xs) :
    ∃ bl',St.SlQ (fun b=>B≤b) w3 a out bl'∧bl'.Nodup:=by
  by_cases h0:a=[]
  · subst h0
    refine ⟨[],?_,List.nodup_nil⟩
    rcases hown.2 with ⟨rfl,_⟩ | ⟨g,cap,cur,rfl,_⟩
    · exact ⟨_,_,rfl,.inl ⟨rfl,rfl⟩⟩
    · exact ⟨_,_,rfl,.inl ⟨rfl,rfl⟩⟩
  · obtain ⟨g,cap,rfl,hb,hblk,hc⟩:=getCell34 hown (List.length_pos_iff.2 h0)
    refine ⟨g::bl,⟨_,_,rfl,.inr ⟨h0,g,bl,rfl,⟨hb,hblk⟩,rfl,?_⟩⟩,List.nodup_cons.2 ⟨fun h=>?_,hnd⟩⟩
    · exact St.Cells.row a (St.Cells.move (fun b hb _=>⟨hb.1,rfl⟩) _ hcs) hc
    · exact (hcs.blocks _ g h).1.2 rfl
set_option maxRecDepth 20000 in
set_option maxHeartbeats 4000000 in
theorem Twin_own (N:Nat):∀ (a:List St) (w:World) (v:Value),St.bulkAll a<N→N≤1048577→St.Sl w a v →
    Calls Tryd.prog 35 #[v] w fun r w'=>∃ v' xs bl,r = .returned v'∧St.Cells (offOf w.heap.size v') w' a xs bl∧bl.Nodup∧w'.ownsRow w.heap.size 123 14 v' a.length xs∧Below w.heap.size w w':=by
  induction N with
  | zero=>intro a w v h;omega
  | succ N ih =>
    intro a w v hN hle hin
    have hlen:=length_le_bulkAll a
    obtain ⟨ad,c,rfl,hrow⟩:=hin
    have HR:Hid (a=[]∨∃ b o,ad=some ⟨b,o,none⟩∧St.Row w a b o):=hrow
    clear hrow
    have IH:Hid (∀ (a:List St) (w:World) (v:Value),St.bulkAll a<N→N≤1048577→St.Sl w a v→Calls Tryd.prog 35 #[v] w fun r w'=>∃ v' bl,r = .returned v'∧St.SlQ (fun b=>w.heap.size≤b) w' a v' bl∧bl.Nodup∧Below w.heap.size w w'):=fun a w v h1 h2 h3=>(ih a w v h1 h2 h3).mono fun r w' ⟨v',xs,bl,e,hcs,hnd,hown,hb⟩=>by
      obtain ⟨bl',hsl,hnd'⟩:=twin_end hcs hnd hown
      exact ⟨v',bl',e,hsl,hnd',hb⟩
    clear ih
    obtain ⟨i0,hi,hz0,hz1,hz2⟩:=info_parts info34
    go_enter Tryd.func35,Tryd.ntmps35
    go_wp2_with fail
    go_loopw [3,5,8] (fun x _ i wr=>∃ (j:Nat) (xs:List Value) (bl:List Nat),j≤a.length∧i = .int .i64 j∧St.Cells (offOf w.heap.size x) wr (a.take j) xs bl∧bl.Nodup∧wr.ownsRow w.heap.size 123 14 x j xs∧Below w.heap.size w wr) (fun _ _ i _=>a.length - (intOf i).toNat)
    case atStart=>exact ⟨0,[],[],Nat.zero_le _,rfl,⟨rfl,rfl⟩,List.nodup_nil,World.ownsRow_nil _ _ _ _,Below.refl _ _⟩
    case round =>
      obtain ⟨j,xs,bl,hj,rfl,hcs,hnd,hown,hb⟩:=hrel
      by_cases hlt:j<a.length
      · rcases HR.out with h | ⟨b,o,had,hrow⟩
        · subst h;simp at hlt
        subst had
        have hbk:=bulkAll_at a j a[j] (by simp [hlt])
        obtain ⟨sk,sn,se,sck,sca,scb,sy,sl,hs,ek,en,ead,em,ec,ak,an,aad,am,ac,bk,bn,bad,bm,bc,yad,yc,lad,lc,c0,c1,c2,c3,c4,c5,c6,c7,c8,c9,c10,c11,c12,c13,i1,i2,i3,i4,i5⟩:=(St.Row.below hb a hrow).shape hlt
        rw [hs] at hbk
        unfold St.bulk at hbk
        have HI:Hid (_∧_∧_∧_∧_):=⟨i1,i2,i3,i4,i5⟩
        have HJ:Hid (_∧_∧_∧_∧_):=⟨hs,hcs,hnd,hown,hb⟩
        clear hs hrow i1 i2 i3 i4 i5 hcs hnd hown hb
        go_wp2_with fail
        clear c0 c1 c2 c3 c4 c5 c6 c7 c8 c9 c10 c11 c12 c13
        obtain ⟨hB1,d0,d1,d2,d3,d4,d5,d6,d7,d8,d9,d10,d11,d12,d13⟩:=copy14 wr (.int .i64 sk) (.int .i64 sn) (.int .i64 ek) (.int .i64 en) (.slice ead em ec) (.int .i64 sck) (.int .i64 ak) (.int .i64 an) (.slice aad am ac) (.int .i64 bk) (.int .i64 bn) (.slice bad bm bc) (.slice yad sy.length yc) (.slice lad sl.length lc)
        have hW1:copyIs (wr.alloc (.cells #[.int .i64 sk,.int .i64 sn,.int .i64 ek,.int .i64 en,.slice ead em ec,.int .i64 sck,.int .i64 ak,.int .i64 an,.slice aad am ac,.int .i64 bk,.int .i64 bn,.slice bad bm bc,.slice yad sy.length yc,.slice lad sl.length lc] 123)) wr.heap.size (.int .i64 sk) (.int .i64 sn) (.int .i64 ek) (.int .i64 en) (.slice ead em ec) (.int .i64 sck) (.int .i64 ak) (.int .i64 an) (.slice aad am ac) (.int .i64 bk) (.int .i64 bn) (.slice bad bm bc) (.slice yad sy.length yc) (.slice lad sl.length lc):=heap_alloc_new wr _
        have hz:(wr.alloc (.cells #[.int .i64 sk,.int .i64 sn,.int .i64 ek,.int .i64 en,.slice ead em ec,.int .i64 sck,.int .i64 ak,.int .i64 an,.slice aad am ac,.int .i64 bk,.int .i64 bn,.slice bad bm bc,.slice yad sy.length yc,.slice lad sl.length lc] 123)).heap.size=wr.heap.size+1:=by simp
        have hfz:=hW1.cell.2.2.2.2.2.2.2.2.2.2.2.2.2.2
        generalize wr.alloc (.cells #[.int .i64 sk,.int .i64 sn,.int .i64 ek,.int .i64 en,.slice ead em ec,.int .i64 sck,.int .i64 ak,.int .i64 an,.slice aad am ac,.int .i64 bk,.int .i64 bn,.slice bad bm bc,.slice yad sy.length yc,.slice lad sl.length lc] 123)=W1 at *
        have HB1:Hid (_∧_∧_):=⟨hB1,hW1,hz⟩
        have e3:wr.heap.size<W1.heap.size:=by omega
        clear hB1 hW1 hz
        clear d0 d1 d5 d12 d13
        go_cut [] from 9 to 40 (fun wc=>∃ fk fn fad fm fc gk gn gad gm gc hk hn had hm hc,copyIs wc wr.heap.size (.int .i64 sk) (.int .i64 sn) (.int .i64 fk) (.int .i64 fn) (.slice fad fm fc) (.int .i64 sck) (.int .i64 gk) (.int .i64 gn) (.slice gad gm gc) (.int .i64 hk) (.int .i64 hn) (.slice had hm hc) (.slice yad sy.length yc) (.slice lad sl.length lc) ∧
           se.InP (fun b=>wr.heap.size<b) wc (.agg #[.int .i64 fk,.int .i64 fn,.slice fad fm fc])∧sca.InP (fun b=>wr.heap.size<b) wc (.agg #[.int .i64 gk,.int .i64 gn,.slice gad gm gc])∧scb.InP (fun b=>wr.heap.size<b) wc (.agg #[.int .i64 hk,.int .i64 hn,.slice had hm hc])∧Below wr.heap.size wr wc)
        case first =>
          go_region_with (first
            | (go_at_call_of 65 ek;refine (twinExpr_any _ se _ _ (Nat.lt_succ_self _) (by omega) (Ex_at HI.out.1 HB1.out.1 (by first | exact (Below.refl _ _).drew | assumption))).mono ?_;rintro e w1 ⟨v2,rfl,hin,hb1⟩;obtain ⟨k1,n1,ad1,m1,c1,rfl⟩:=hin.shape;obtain ⟨hB1,hc1,hf1⟩:=behind (W1:=W1) (by first | exact (Below.refl _ _).drew | assumption) hb1;replace hin:=InP_weaken (C:=W1.heap.size) hin (by first | exact Nat.le_refl _ | exact Below.size ‹_› | exact (Below.size (by assumption)));have HE1:Hid _:=hin;clear hin)
            | (go_at_call_of 65 ak;refine (twinExpr_any _ sca _ _ (Nat.lt_succ_self _) (by omega) (Ex_at HI.out.2.1 HB1.out.1 (by first | exact (Below.refl _ _).drew | assumption))).mono ?_;rintro e w2 ⟨v2,rfl,hin,hb2⟩;obtain ⟨k2,n2,ad2,m2,c2,rfl⟩:=hin.shape;obtain ⟨hB2,hc2,hf2⟩:=behind (W1:=W1) (by first | exact (Below.refl _ _).drew | assumption) hb2;replace hin:=InP_weaken (C:=W1.heap.size) hin (by first | exact Nat.le_refl _ | exact Below.size ‹_› | exact (Below.size (by assumption)));have HE2:Hid _:=hin;clear hin)
            | (go_at_call_of 65 bk;refine (twinExpr_any _ scb _ _ (Nat.lt_succ_self _) (by omega) (Ex_at HI.out.2.2.1 HB1.out.1 (by first | exact (Below.refl _ _).drew | assumption))).mono ?_;rintro e w3 ⟨v2,rfl,hin,hb3⟩;obtain ⟨k3,n3,ad3,m3,c3,rfl⟩:=hin.shape;obtain ⟨hB3,hc3,hf3⟩:=behind (W1:=W1) (by first | exact (Below.refl _ _).drew | assumption) hb3;replace hin:=InP_weaken (C:=W1.heap.size) hin (by first | exact Nat.le_refl _ | exact Below.size ‹_› | exact (Below.size (by assumption)));have HE3:Hid _:=hin;clear hin))
          all_goals
            go_wp2_with fail
            go_meet
            case rel=>exact ⟨_,_,_,_,_,_,_,_,_,_,_,_,_,_,_,twin_mid HB1.out.1 HB1.out.2.2 HB1.out.2.1 hB1 hb2 hb3 HE1.out HE2.out HE3.out⟩
        case rest =>
          obtain ⟨fk,fn,fad,fm,fc,gk,gn,gad,gm,gc,hk,hn,had,hm,hc,hcopy,j1,j2,j3,hbc⟩:=hcut
          clear d2 d3 d4 d6 d7 d8 d9 d10 d11 hfz e3
          obtain ⟨-,-,-,-,-,-,-,-,-,-,-,-,d12,d13,hfz⟩:=hcopy.cell
          have e4:=hcopy.lt
          have HC:Hid (Below wr.heap.size wr wc):=hbc
          have HD:Hid (_∧_∧_∧_):=⟨hcopy,j1,j2,j3⟩
          clear hcopy j1 j2 j3 hbc
          go_wp2_with fail
          go_cut [] from 9 to 40 (fun wd=>∃ pad pc qad qc q,copyIs wd wr.heap.size (.int .i64 sk) (.int .i64 sn) (.int .i64 fk) (.int .i64 fn) (.slice fad fm fc) (.int .i64 sck) (.int .i64 gk) (.int .i64 gn) (.slice gad gm gc) (.int .i64 hk) (.int .i64 hn) (.slice had hm hc) (.slice pad sy.length pc) (.slice qad sl.length qc) ∧
             (St.mk sk sn se sck sca scb sy sl).InQ (fun b=>wr.heap.size<b) wd (.agg #[.int .i64 sk,.int .i64 sn,.int .i64 fk,.int .i64 fn,.slice fad fm fc,.int .i64 sck,.int .i64 gk,.int .i64 gn,.slice gad gm gc,.int .i64 hk,.int .i64 hn,.slice had hm hc,.slice pad sy.length pc,.slice qad sl.length qc]) q∧q.Nodup∧Below wr.heap.size wr wd)
          case first =>
            go_region_with (first
              | (go_at_call_of 35 sy.length;refine (IH.out sy _ _ (by omega) (by omega) (Sl_at HI.out.2.2.2.1 HC.out (by first | exact (Below.refl _ _).drew | assumption))).mono ?_;rintro e w1 ⟨v1,q1,rfl,hsl1,hnd1,hb1⟩;obtain ⟨ad1,cp1,rfl,-⟩:=id hsl1;obtain ⟨hB1,hc1,hf1⟩:=behind (W1:=wc) (by first | exact (Below.refl _ _).drew | assumption) hb1;have HS1:Hid (_∧_):=⟨hsl1,hnd1⟩;clear hsl1 hnd1)
              | (go_at_call_of 35 sl.length;refine (IH.out sl _ _ (by omega) (by omega) (Sl_at HI.out.2.2.2.2 HC.out (by first | exact (Below.refl _ _).drew | assumption))).mono ?_;rintro e w2 ⟨v2,q2,rfl,hsl2,hnd2,hb2⟩;obtain ⟨ad2,cp2,rfl,-⟩:=id hsl2;obtain ⟨hB2,hc2,hf2⟩:=behind (W1:=wc) (by first | exact (Below.refl _ _).drew | assumption) hb2;have HS2:Hid (_∧_):=⟨hsl2,hnd2⟩;clear hsl2 hnd2))
            all_goals
              go_wp2_with fail
              go_meet
              case rel=>exact ⟨_,_,_,_,_,twin_mid2 HD.out.1 HD.out.2.1 HD.out.2.2.1 HD.out.2.2.2 HC.out hB1 hb2 HS1.out.1 HS1.out.2 HS2.out.1 HS2.out.2⟩
          case rest =>
            clear d12 d13 hfz e4
            obtain ⟨pad,pc,qad,qc,q,hcopy,hinq,hqn,hbd⟩:=hcut
            obtain ⟨d0,d1,d2,d3,d4,d5,d6,d7,d8,d9,d10,d11,d12,d13,-⟩:=hcopy.cell
            have HQ:Hid (_∧_∧_):=⟨hinq,hqn,hbd⟩
            clear hcopy hinq hqn hbd
            go_wp2_with (first
              | (at_builtin;refine append_mine _ rfl (.tmp 36) (.tmp 38) 63 rfl w.heap.size 123 i0 _ 14 192 Tryd.underlying63 hi hz0 hz1 hz2 rfl (by decide) _ j xs rfl (ownsRow_below HJ.out.2.2.2.1 (below_seq HQ.out.2.2 ((Below.refl _ _).alloc (Nat.le_refl _) _))) ⟨wc.heap.size,0,none⟩ 1 1 [.int .i64 sk,.int .i64 sn,.int .i64 fk,.int .i64 fn,.slice fad fm fc,.int .i64 sck,.int .i64 gk,.int .i64 gn,.slice gad gm gc,.int .i64 hk,.int .i64 hn,.slice had hm hc,.slice pad sy.length pc,.slice qad sl.length qc] rfl rfl ?qc ?q1 (by decide) ?q3 ?q4 ?q5 ?_;rotate_left 5;intro v3 w3 hown3 hg3 hv3;have HI3:Hid (_∧_∧_):=⟨hown3,hg3,hv3⟩;clear hown3 hg3 hv3))
            case qc=>exact fresh_cells wc _ 123
            case q1=>intro u hu;simp at hu;rcases hu with rfl | rfl | rfl | rfl | rfl | rfl | rfl | rfl | rfl | rfl | rfl | rfl | rfl | rfl <;> rfl
            case q3=>unfold maxLen;omega
            case q4=>omega
            case q5=>have:=HJ.out.2.2.2.2.size;have:=HQ.out.2.2.size;simp;omega
            have he:(a[j]).InQ (fun b=>wr.heap.size<b) wc (stVal (fun i=>([.int .i64 sk,.int .i64 sn,.int .i64 fk,.int .i64 fn,.slice fad fm fc,.int .i64 sck,.int .i64 gk,.int .i64 gn,.slice gad gm gc,.int .i64 hk,.int .i64 hn,.slice had hm hc,.slice pad sy.length pc,.slice qad sl.length qc]:List Value).getD i undef)) q:=by rw [HJ.out.1];exact HQ.out.1
            have R:=twin_step hlt rfl HJ.out.2.1 HJ.out.2.2.1 HJ.out.2.2.2.1 HJ.out.2.2.2.2 HQ.out.2.2 he HQ.out.2.1 HI3.out.2.1 HI3.out.2.2
            go_roundw
            case rel=>exact ⟨j+1,_,_,by omega,by go_num,R.1,R.2.1,HI3.out.1,R.2.2⟩
            case measure=>simp [intOf];omega
      · have hje:j=a.length:=by omega
        subst hje
        rw [List.take_length] at hcs
        have HE:Hid (_∧_∧_∧_):=⟨hcs,hnd,hown,hb⟩
        clear hcs hnd hown hb
        go_wp2_with fail
        go_ret
        exact ⟨_,_,_,rfl,HE.out.1,HE.out.2.1,HE.out.2.2.1,HE.out.2.2.2⟩
theorem Twin_any (N:Nat) (a:List St) (w:World) (v:Value) (h1:St.bulkAll a<N) (h2:N≤1048577) (h3:St.Sl w a v) :
    Calls Tryd.prog 35 #[v] w fun r w'=>∃ v' bl,r = .returned v'∧St.SlQ (fun b=>w.heap.size≤b) w' a v' bl∧bl.Nodup∧Below w.heap.size w w' :=
  (Twin_own N a w v h1 h2 h3).mono fun r w' ⟨v',xs,bl,e,hcs,hnd,hown,hb⟩=>by
    obtain ⟨bl',hsl,hnd'⟩:=twin_end hcs hnd hown
    exact ⟨v',bl',e,hsl,hnd',hb⟩
end Go.Proofs.YtnkgbkkakokciacDoor.B
