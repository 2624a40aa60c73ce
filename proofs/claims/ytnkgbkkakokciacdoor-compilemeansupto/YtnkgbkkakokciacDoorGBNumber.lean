import Derived.Test.YtnkgbkkakokciacDoorGMOver
import Derived.Test.YtnkgbkkakokciacDoorGRB
import Derived.Deep.RegionHeldLaw
namespace Go.Proofs.YtnkgbkkakokciacDoor.B
open Go.ChangeShapes Go.WideShapes Go.ChangeAt Go.RowKit
theorem info83:(Tryd.prog.info? 177).map (fun i=>(i.zero,i.size,i.bytes))=some (some (.agg #[.int .i64 0,.int .i64 0,.int .i64 0,.int .i64 0,.slice none 0 0,.int .i64 0,.int .i64 0,.int .i64 0,.slice none 0 0,.int .i64 0,.int .i64 0,.slice none 0 0,.slice none 0 0,.slice none 0 0,.int .i64 0,.int .i64 0]),16,208):=by kernel_rfl
def NumOk (w0:World) (B N:Nat):Prop:=∀ (a:List St) (w:World) (nv lv:Value) (L:List Nd) (xs:List Value),St.bulkAll a<N→L.length+St.bulkAll a≤2097152→Below w0.heap.size w0 w→w0.heap.size≤B→B≤w.heap.size→St.Sl w0 a lv→w.ownsRow B 177 16 nv L.length xs→Nd.Cells w0 L xs →
 Calls Tryd.prog 73 #[nv,lv] w fun r w'=>∃ nv' xs',r = .returned nv'∧w'.ownsRow B 177 16 nv' (L++St.numAll a L.length).length xs'∧Nd.Cells w0 (L++St.numAll a L.length) xs'∧GR w w' nv nv'
theorem owns_some16 {w:World} {B n:Nat} {v:Value} {xs:List Value} (h:w.ownsRow B 177 16 v n xs) (hn:0<n):∃ g cap,v = .slice (some ⟨g,0,none⟩) n cap∧B≤g∧(∀ j,w.frozen? ⟨g,j,none⟩=false)∧g<w.heap.size∧(∀ i u,xs[i]?=some u→w.cell? ⟨g,i,none⟩=some u)∧n≤cap:=by
 obtain ⟨g,cap,rfl,hb,hc⟩:=getCell h hn
 rcases h.2 with ⟨h0,_⟩ | ⟨g',cap',cur,hv,hb',hh,hnc,-⟩
 ·cases h0
 ·cases hv
  refine ⟨g,cap,rfl,hb,fun j=>?_,(Array.getElem?_eq_some_iff.1 hh).1,fun i u hu=>by simpa using hc i u hu,hnc⟩
  unfold World.frozen?
  rw [hh]
  simp
theorem num_split (x:St) (b l:List St) (k n:Int) (e:Ex) (ck:Int) (ca cb:Ex) (h:x = .mk k n e ck ca cb b l) (P:Nat):St.num x P=⟨x,P+1+St.countAll b,P+1+St.countAll b+St.countAll l⟩::(St.numAll b (P+1)++St.numAll l (P+1+St.countAll b)):=by
 subst h
 rw [St.num]
set_option maxRecDepth 20000 in
set_option maxHeartbeats 8000000 in
theorem number_step (w0:World) (B N:Nat) (hN:N≤1048577) (ih:NumOk w0 B N):NumOk w0 B (N+1):=by
 intro a w nv lv L xs hb hL hB0 hwB hBw hsl hown hcs
 have hlen:=length_le_bulkAll a
 have hcl:=St.countAll_le a
 obtain ⟨ad,c,rfl,hrow⟩:=hsl
 have HR:Hid ((a=[]∨∃ b o,ad=some ⟨b,o,none⟩∧St.Row w0 a b o)∧Below w0.heap.size w0 w∧NumOk w0 B N∧w.ownsRow B 177 16 nv L.length xs∧Nd.Cells w0 L xs):=⟨hrow,hB0,ih,hown,hcs⟩
 clear hrow hB0 ih hown hcs
 obtain ⟨i0,hi0,hz0,hz1,hz2⟩:=info_parts info83
 go_enter Tryd.func73,Tryd.ntmps73
 go_wp2_with fail
 go_loopw [0,6,7,10] (fun t _ _ x wr=>∃ (j:Nat) (ys:List Value),j≤a.length∧x = .int .i64 j∧wr.ownsRow B 177 16 t (L++St.numAll (a.take j) L.length).length ys∧Nd.Cells w0 (L++St.numAll (a.take j) L.length) ys∧GR w wr nv t) (fun _ _ _ x _=>a.length - (intOf x).toNat)
 case atStart=>exact ⟨0,xs,Nat.zero_le _,rfl,by simpa [St.numAll] using HR.out.2.2.2.1,by simpa [St.numAll] using HR.out.2.2.2.2,GR.refl _ _⟩
 case round =>
  obtain ⟨j,ys,hj,rfl,hown,hcs,hgr⟩:=hrel
  have htl:(L++St.numAll (a.take j) L.length).length=L.length+St.countAll (a.take j):=by rw [List.length_append,St.numAll_length]
  have htc:=countAll_take_le a j
  by_cases hlt:j<a.length
  ·have hnt:=numAll_take a j hlt L.length
   have htb:=take_bulk a j hlt
   have hbj:=bulkAll_at a j a[j] (by simp [hlt])
   generalize hM:L++St.numAll (a.take j) L.length=M at *
   obtain ⟨tad,tcap,rfl⟩:=owns_value hown
   rcases HR.out.1 with h | ⟨b,o,had,hrow⟩
   ·subst h;simp at hlt
   subst had
   have hlow:Below w0.heap.size w0 wr:=hgr.low HR.out.2.2.2.1 hwB HR.out.2.1
   obtain ⟨sk,sn,se,sck,sca,scb,sy,sl,hs,ek,en,ead,em,ec,ak,an,aad,am,ac,bk,bn,bad,bm,bc,yad,yc,lad,lc,c0,c1,c2,c3,c4,c5,c6,c7,c8,c9,c10,c11,c12,c13,i1,i2,i3,i4,i5⟩:=hrow.shape hlt
   have hin:(a[j]).In w0 (.agg #[.int .i64 sk,.int .i64 sn,.int .i64 ek,.int .i64 en,.slice ead em ec,.int .i64 sck,.int .i64 ak,.int .i64 an,.slice aad am ac,.int .i64 bk,.int .i64 bn,.slice bad bm bc,.slice yad sy.length yc,.slice lad sl.length lc]):=by
    rw [hs]
    unfold St.In
    exact ⟨_,_,_,_,_,_,_,_,_,_,_,rfl,i1,i2,i3,i4,i5⟩
   replace c0:=below_cell hlow c0
   replace c1:=below_cell hlow c1
   replace c2:=below_cell hlow c2
   replace c3:=below_cell hlow c3
   replace c4:=below_cell hlow c4
   replace c5:=below_cell hlow c5
   replace c6:=below_cell hlow c6
   replace c7:=below_cell hlow c7
   replace c8:=below_cell hlow c8
   replace c9:=below_cell hlow c9
   replace c10:=below_cell hlow c10
   replace c11:=below_cell hlow c11
   replace c12:=below_cell hlow c12
   replace c13:=below_cell hlow c13
   have hbs:(a[j]).bulk=1+se.nodes+sca.nodes+scb.nodes+St.bulkAll sy+St.bulkAll sl:=by rw [hs,St.bulk]
   have hsp:=num_split a[j] sy sl sk sn se sck sca scb hs M.length
   have hcy:=St.countAll_le sy
   have hcL:=St.countAll_le sl
   have hfin:L++St.numAll (a.take (j+1)) L.length=M++⟨a[j],M.length+1+St.countAll sy,M.length+1+St.countAll sy+St.countAll sl⟩::(St.numAll sy (M.length+1)++St.numAll sl (M.length+1+St.countAll sy)):=by
    rw [hnt,← List.append_assoc,hM,← htl,hsp]
   have hsz:B≤wr.heap.size:=Nat.le_trans hBw hgr.size
   have HX:Hid ((a[j]).In w0 (.agg #[.int .i64 sk,.int .i64 sn,.int .i64 ek,.int .i64 en,.slice ead em ec,.int .i64 sck,.int .i64 ak,.int .i64 an,.slice aad am ac,.int .i64 bk,.int .i64 bn,.slice bad bm bc,.slice yad sy.length yc,.slice lad sl.length lc])∧(St.Sl w0 sy (.slice yad sy.length yc)∧St.Sl w0 sl (.slice lad sl.length lc))∧Below w0.heap.size w0 wr∧wr.ownsRow B 177 16 (.slice tad M.length tcap) M.length ys∧Nd.Cells w0 M ys∧GR w wr nv (.slice tad M.length tcap)∧L++St.numAll (a.take (j+1)) L.length=M++⟨a[j],M.length+1+St.countAll sy,M.length+1+St.countAll sy+St.countAll sl⟩::(St.numAll sy (M.length+1)++St.numAll sl (M.length+1+St.countAll sy))):=⟨hin,⟨i4,i5⟩,hlow,hown,hcs,hgr,hfin⟩
   have HQ:Hid (copyIs (wr.alloc (.cells #[.int .i64 sk,.int .i64 sn,.int .i64 ek,.int .i64 en,.slice ead em ec,.int .i64 sck,.int .i64 ak,.int .i64 an,.slice aad am ac,.int .i64 bk,.int .i64 bn,.slice bad bm bc,.slice yad sy.length yc,.slice lad sl.length lc] 123)) wr.heap.size (.int .i64 sk) (.int .i64 sn) (.int .i64 ek) (.int .i64 en) (.slice ead em ec) (.int .i64 sck) (.int .i64 ak) (.int .i64 an) (.slice aad am ac) (.int .i64 bk) (.int .i64 bn) (.slice bad bm bc) (.slice yad sy.length yc) (.slice lad sl.length lc)):=heap_alloc_new wr _
   have HQN:Hid (some wr.heap.size≠(Value.slice tad M.length tcap).ownBlock):=fun e=>by have:=(hown.lt _ e.symm).2;omega
   have hml:M.length+(1+St.bulkAll sy+St.bulkAll sl)≤2097152:=by omega
   have hys:St.bulkAll sy<N∧St.bulkAll sl<N:=by omega
   clear hin hs hrow i1 i2 i3 i4 i5 hlow hown hcs hgr hfin hsp hnt hM htl htc htb hbs hbj
   generalize a[j]=x at *
   go_upto_region 5 with fail
   refine wp_region_held_drew (S:=(fun w'=>copyIs w' wr.heap.size (.int .i64 sk) (.int .i64 sn) (.int .i64 ek) (.int .i64 en) (.slice ead em ec) (.int .i64 sck) (.int .i64 ak) (.int .i64 an) (.slice aad am ac) (.int .i64 bk) (.int .i64 bn) (.slice bad bm bc) (.slice yad sy.length yc) (.slice lad sl.length lc))) (by kernel_rfl) HQ.out (fun hHeld=>?_)
   refine tk (i:=0) (n:=16) (v:=?_) ?_ ?_
   rotate_left 1
   ·intro wz hSw
    first | (go_simp;done) | (go_simp;with_reducible rfl)
   simp only [ls0,ls1]
   refine tk (i:=1) (n:=17) (v:=?_) ?_ ?_
   rotate_left 1
   ·intro wz hSw
    obtain ⟨u0,u1,u2,u3,u4,u5,u6,u7,u8,u9,u10,u11,u12,u13,-⟩:=copyIs.cell hSw
    clear hSw
    first | (go_simp;done) | (go_simp;with_reducible rfl)
   simp only [ls0,ls1]
   refine tk (i:=2) (n:=18) (v:=?_) ?_ ?_
   rotate_left 1
   ·intro wz hSw
    first | (go_simp;done) | (go_simp;with_reducible rfl)
   simp only [ls0,ls1]
   refine tk (i:=5) (n:=21) (v:=?_) ?_ ?_
   rotate_left 1
   ·intro wz hSw
    first | (go_simp;done) | (go_simp;with_reducible rfl)
   simp only [ls0,ls1]
   refine tk (i:=6) (n:=22) (v:=?_) ?_ ?_
   rotate_left 1
   ·intro wz hSw
    obtain ⟨u0,u1,u2,u3,u4,u5,u6,u7,u8,u9,u10,u11,u12,u13,-⟩:=copyIs.cell hSw
    clear hSw
    first | (go_simp;done) | (go_simp;with_reducible rfl)
   simp only [ls0,ls1]
   refine wpAnyH_ready (rs:=[3]) (by kernel_rfl) (by simp) ?_
   refine AllReadyH.cons rfl (fun K hK=>?_) AllReadyH.nil
   go_simp
   refine hK.out _ _ ((Below.heap_alloc _ _ _ hHeld.lt).trans hHeld) (fun hHeld=>?_)
   clear hK K
   refine wpAnyH_ready (rs:=[4]) (by kernel_rfl) (by simp) ?_
   refine AllReadyH.cons rfl (fun K hK=>?_) AllReadyH.nil
   refine step_append_mine rfl (.tmp 16) (.tmp 19) 136 rfl B 177 i0 _ 16 208 Tryd.underlying136 hi0 hz0 hz1 hz2 rfl (by decide) (.slice tad M.length tcap) M.length ys (by simp [Act.eval]) (ownsRow_below HX.out.2.2.2.1 (below_seq ((Below.refl _ wr).alloc (Nat.le_refl _) _).drew ((Below.refl _ _).alloc (Nat.le_refl _) _))) ⟨(wr.alloc (.cells #[.int .i64 sk,.int .i64 sn,.int .i64 ek,.int .i64 en,.slice ead em ec,.int .i64 sck,.int .i64 ak,.int .i64 an,.slice aad am ac,.int .i64 bk,.int .i64 bn,.slice bad bm bc,.slice yad sy.length yc,.slice lad sl.length lc] 123)).drew.heap.size,0,none⟩ 1 1 [.int .i64 sk,.int .i64 sn,.int .i64 ek,.int .i64 en,.slice ead em ec,.int .i64 sck,.int .i64 ak,.int .i64 an,.slice aad am ac,.int .i64 bk,.int .i64 bn,.slice bad bm bc,.slice yad sy.length yc,.slice lad sl.length lc,.int .i64 0,.int .i64 0] (by simp [Act.eval]) rfl (fresh_cells (wr.alloc (.cells #[.int .i64 sk,.int .i64 sn,.int .i64 ek,.int .i64 en,.slice ead em ec,.int .i64 sck,.int .i64 ak,.int .i64 an,.slice aad am ac,.int .i64 bk,.int .i64 bn,.slice bad bm bc,.slice yad sy.length yc,.slice lad sl.length lc] 123)).drew _ 177) (by intro u hu;simp at hu;rcases hu with rfl | rfl | rfl | rfl | rfl | rfl | rfl | rfl | rfl | rfl | rfl | rfl | rfl | rfl | rfl | rfl <;> rfl) (by unfold maxLen;omega) (by omega) (by simp;omega) ?_
   intro v3 w3 hown3 hg3 hv3
   have hg3':GR wr w3 (.slice tad M.length tcap) v3:=(GR.of_below (below_seq ((Below.refl _ wr).alloc (Nat.le_refl _) _).drew ((Below.refl _ _).alloc (Nat.le_refl _) _))).trans (GR.of_grown hg3 hv3)
   have hc3:Nd.Cells w0 (M++[⟨x,0,0⟩]) (ys++[.int .i64 sk,.int .i64 sn,.int .i64 ek,.int .i64 en,.slice ead em ec,.int .i64 sck,.int .i64 ak,.int .i64 an,.slice aad am ac,.int .i64 bk,.int .i64 bn,.slice bad bm bc,.slice yad sy.length yc,.slice lad sl.length lc,.int .i64 0,.int .i64 0]):=Nd.Cells.append _ _ HX.out.2.2.2.2.1 ⟨fun i=>([.int .i64 sk,.int .i64 sn,.int .i64 ek,.int .i64 en,.slice ead em ec,.int .i64 sck,.int .i64 ak,.int .i64 an,.slice aad am ac,.int .i64 bk,.int .i64 bn,.slice bad bm bc,.slice yad sy.length yc,.slice lad sl.length lc]:List Value).getD i undef,[],rfl,HX.out.1,rfl⟩
   have hS3:copyIs w3 wr.heap.size (.int .i64 sk) (.int .i64 sn) (.int .i64 ek) (.int .i64 en) (.slice ead em ec) (.int .i64 sck) (.int .i64 ak) (.int .i64 an) (.slice aad am ac) (.int .i64 bk) (.int .i64 bn) (.slice bad bm bc) (.slice yad sy.length yc) (.slice lad sl.length lc):=(World.grownBy.block hg3 wr.heap.size (Nat.lt_of_lt_of_le hHeld.lt (Nat.le_refl _)) HQN.out).trans hHeld
   have hQ3:some wr.heap.size≠v3.ownBlock:=by
    intro e
    rcases hv3 with h | h
    ·exact HQN.out (e.trans h)
    ·have:=h _ e.symm;simp at this;omega
   obtain ⟨ad3,cap3,rfl⟩:=owns_value hown3
   have H3:Hid (w3.ownsRow B 177 16 (.slice ad3 (M.length+1) cap3) (M.length+1) (ys++[.int .i64 sk,.int .i64 sn,.int .i64 ek,.int .i64 en,.slice ead em ec,.int .i64 sck,.int .i64 ak,.int .i64 an,.slice aad am ac,.int .i64 bk,.int .i64 bn,.slice bad bm bc,.slice yad sy.length yc,.slice lad sl.length lc,.int .i64 0,.int .i64 0])∧GR wr w3 (.slice tad M.length tcap) (.slice ad3 (M.length+1) cap3)∧Nd.Cells w0 (M++[⟨x,0,0⟩]) (ys++[.int .i64 sk,.int .i64 sn,.int .i64 ek,.int .i64 en,.slice ead em ec,.int .i64 sck,.int .i64 ak,.int .i64 an,.slice aad am ac,.int .i64 bk,.int .i64 bn,.slice bad bm bc,.slice yad sy.length yc,.slice lad sl.length lc,.int .i64 0,.int .i64 0])∧some wr.heap.size≠(Value.slice ad3 (M.length+1) cap3).ownBlock):=⟨hown3,hg3',hc3,hQ3⟩
   clear hown3 hg3 hv3 hg3' hc3 hQ3 hHeld
   refine hK.out _ _ hS3 (fun hHeld=>?_)
   clear hK K
   have hS3l:=hS3.lt
   clear hS3
   refine wpAnyH_ready (rs:=[7]) (by kernel_rfl) (by simp) ?_
   refine AllReadyH.cons rfl (fun K hK=>?_) AllReadyH.nil
   go_simp
   go_wp2_with (go_at_call 73;refine (HR.out.2.2.1 sy _ _ _ (M++[⟨x,0,0⟩]) (ys++[.int .i64 sk,.int .i64 sn,.int .i64 ek,.int .i64 en,.slice ead em ec,.int .i64 sck,.int .i64 ak,.int .i64 an,.slice aad am ac,.int .i64 bk,.int .i64 bn,.slice bad bm bc,.slice yad sy.length yc,.slice lad sl.length lc,.int .i64 0,.int .i64 0]) (by omega) (by simp;omega) (H3.out.2.1.low HX.out.2.2.2.1 hwB HX.out.2.2.1) hwB (Nat.le_trans hsz H3.out.2.1.size) HX.out.2.1.1 (by simpa using H3.out.1) H3.out.2.2.1).mono ?_;rintro r w4 ⟨nv4,ys4,rfl,ho4,hc4,hg4⟩;have hS4:copyIs w4 wr.heap.size (.int .i64 sk) (.int .i64 sn) (.int .i64 ek) (.int .i64 en) (.slice ead em ec) (.int .i64 sck) (.int .i64 ak) (.int .i64 an) (.slice aad am ac) (.int .i64 bk) (.int .i64 bn) (.slice bad bm bc) (.slice yad sy.length yc) (.slice lad sl.length lc):=(hg4.block _ hHeld.lt H3.out.2.2.2).trans hHeld;have H4:Hid (_∧_∧GR w3 w4 (.slice ad3 (M.length+1) cap3) nv4):=⟨ho4,hc4,hg4⟩;clear ho4 hc4 hg4 hHeld)
   refine hK.out _ _ hS4 (fun hHeld=>?_)
   clear hK K
   refine tk (i:=8) (n:=0) (v:=?_) ?_ ?_
   rotate_left 1
   ·intro wz hSw
    first | (go_simp;done) | (go_simp;with_reducible rfl)
   simp only [List.set_cons_zero]
   refine wpAnyH_done (by kernel_rfl) ?_ _
   obtain ⟨P2,hP2⟩:∃ P2,P2=M.length+1+St.countAll sy:=⟨_,rfl⟩
   have ho4:w4.ownsRow B 177 16 nv4 P2 ys4:=by
    have:=H4.out.1
    rw [List.length_append,St.numAll_length,List.length_append,List.length_singleton] at this
    rw [hP2];exact this
   have hc4:Nd.Cells w0 (M++⟨x,0,0⟩::St.numAll sy (M.length+1)) ys4:=by
    have:=H4.out.2.1
    rw [List.length_append,List.length_singleton,List.append_assoc] at this
    exact this
   have hMP:M.length<P2:=by omega
   have hq4:=H4.out.2.2.off (hS3l:wr.heap.size<w3.heap.size) H3.out.2.2.2
   obtain ⟨g4,cap4,rfl,hBg4,hf4,hlt4,hcell4,hcap4⟩:=owns_some16 ho4 (by omega)
   obtain ⟨-,-,-,a14,a15⟩:=hc4.at
   have k4:=hcell4 _ _ a14
   have hne4:wr.heap.size≠g4:=fun e=>hq4 (by simp [Value.ownBlock,e])
   obtain ⟨-,-,-,-,-,-,-,-,-,-,-,-,d12,d13,-⟩:=copyIs.cell hHeld
   have hql:wr.heap.size<w4.heap.size:=hHeld.lt
   have hlow4:=H4.out.2.2.low H3.out.1 hwB (H3.out.2.1.low HX.out.2.2.2.1 hwB HX.out.2.2.1)
   have HW4:Hid (w4.ownsRow B 177 16 (.slice (some ⟨g4,0,none⟩) P2 cap4) P2 ys4∧Nd.Cells w0 (M++⟨x,0,0⟩::St.numAll sy (M.length+1)) ys4∧Below w0.heap.size w0 w4∧GR w3 w4 (.slice ad3 (M.length+1) cap3) (.slice (some ⟨g4,0,none⟩) P2 cap4)∧P2=M.length+1+St.countAll sy∧copyIs w4 wr.heap.size (.int .i64 sk) (.int .i64 sn) (.int .i64 ek) (.int .i64 en) (.slice ead em ec) (.int .i64 sck) (.int .i64 ak) (.int .i64 an) (.slice aad am ac) (.int .i64 bk) (.int .i64 bn) (.slice bad bm bc) (.slice yad sy.length yc) (.slice lad sl.length lc)):=⟨ho4,hc4,hlow4,H4.out.2.2,hP2,hHeld⟩
   have hp2:P2+(1+St.bulkAll sl)≤2097153:=by omega
   clear ho4 hc4 hlow4 hq4 hcell4 a14 a15 hP2 hHeld H4 hS4 c0 c1 c2 c3 c4 c5 c6 c7 c8 c9 c10 c11 c12 c13
   go_wp2_with fail
   refine (HR.out.2.2.1 sl _ _ _ (M++⟨x,P2,0⟩::St.numAll sy (M.length+1)) (ys4.set (M.length*16+14) (.int .i64 P2)) hys.2 (by have:=HW4.out.2.2.2.2.1;simp only [List.length_append,List.length_cons,St.numAll_length];omega) (HW4.out.2.2.1.setCell (by show w0.heap.size≤g4;omega) _) hwB (by rw [set_size];have:=HW4.out.2.2.2.1.size;have:=H3.out.2.1.size;omega) HX.out.2.1.2 (by have:=HW4.out.2.2.2.2.1;have hst:=(World.ownsRow.stored HW4.out.1 (M.length*16+14) (.int .i64 P2)).1;simp only [List.length_append,List.length_cons,St.numAll_length];rw [show M.length+(St.countAll sy+1)=P2 by omega];exact hst) (Nd.Cells.setO HW4.out.2.1 P2)).mono ?_
   rintro r w5 ⟨nv5,ys5,rfl,ho5,hc5,hg5⟩
   obtain ⟨P3,hP3⟩:∃ P3,P3=P2+St.countAll sl:=⟨_,rfl⟩
   have ho5':w5.ownsRow B 177 16 nv5 P3 ys5:=(by have h0:=HW4.out.2.2.2.2.1;simp only [List.length_append,List.length_cons,St.numAll_length] at ho5;rw [show M.length+(St.countAll sy+1)+St.countAll sl=P3 by omega] at ho5;exact ho5)
   have hMP3:M.length<P3:=by omega
   obtain ⟨g5,cap5,rfl,hBg5,hf5,hlt5,hcell5,hcap5⟩:=owns_some16 ho5' (by omega)
   have hc5':Nd.Cells w0 (M++⟨x,P2,0⟩::(St.numAll sy (M.length+1)++St.numAll sl P2)) ys5:=(by have h0:=HW4.out.2.2.2.2.1;simp only [List.length_append,List.length_cons,St.numAll_length,List.append_assoc,List.cons_append] at hc5;rw [show M.length+(St.countAll sy+1)=P2 by omega] at hc5;exact hc5)
   obtain ⟨-,-,-,b14,b15⟩:=hc5'.at
   have k5:=hcell5 _ _ b15
   have H5:Hid (w5.ownsRow B 177 16 (.slice (some ⟨g5,0,none⟩) P3 cap5) P3 ys5∧Nd.Cells w0 (M++⟨x,P2,0⟩::(St.numAll sy (M.length+1)++St.numAll sl P2)) ys5∧GR (w4.setCell ⟨g4,M.length*16+14,none⟩ (.int .i64 P2)) w5 (.slice (some ⟨g4,0,none⟩) P2 cap4) (.slice (some ⟨g5,0,none⟩) P3 cap5)∧P3=P2+St.countAll sl):=⟨ho5',hc5',hg5,hP3⟩
   clear ho5 ho5' hc5 hc5' hg5 hP3 hcell5 b14 b15
   go_wp2_with fail
   have R5:=World.ownsRow.stored H5.out.1 (M.length*16+15) (.int .i64 P3)
   go_roundw
   case rel =>
    have h2:=HW4.out.2.2.2.2.1
    have h3:=H5.out.2.2.2
    refine ⟨j+1,ys5.set (M.length*16+15) (.int .i64 P3),by omega,by go_num,?_,?_,?_⟩
    ·rw [HX.out.2.2.2.2.2.2]
     simp only [List.length_append,List.length_cons,St.numAll_length]
     rw [show M.length+(St.countAll sy+St.countAll sl+1)=P3 by omega]
     exact R5.1
    ·rw [HX.out.2.2.2.2.2.2,← h2,← h3]
     exact Nd.Cells.setN H5.out.2.1 P3
    ·exact HX.out.2.2.2.2.2.1.trans (H3.out.2.1.trans (HW4.out.2.2.2.1.trans ((GR.of_grown (World.ownsRow.stored HW4.out.1 (M.length*16+14) (.int .i64 P2)).2 (.inl rfl)).trans (H5.out.2.2.1.trans (GR.of_grown R5.2 (.inl rfl))))))
   case measure=>simp [intOf];omega
  ·have hje:j=a.length:=by omega
   subst hje
   rw [List.take_length] at hown hcs
   have HX:Hid (_∧_∧_):=⟨hown,hcs,hgr⟩
   clear hown hcs hgr htl htc
   go_wp2_with fail
   go_ret
   exact ⟨_,ys,rfl,HX.out.1,HX.out.2.1,HX.out.2.2⟩
theorem number_any (w0:World) (B:Nat):∀ N,N≤1048577→NumOk w0 B N:=by
 intro N
 induction N with
 | zero=>intro _ a w nv lv L xs h;omega
 | succ N ih=>intro hN;exact number_step w0 B N (by omega) (ih (by omega))
end Go.Proofs.YtnkgbkkakokciacDoor.B
