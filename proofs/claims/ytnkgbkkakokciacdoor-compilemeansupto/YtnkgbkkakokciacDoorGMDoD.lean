import Derived.Test.YtnkgbkkakokciacDoorGBNumber
import Derived.Test.YtnkgbkkakokciacDoorGMDo
import Derived.Test.YtnkgbkkakokciacDoorGMDoA
namespace Go.Proofs.YtnkgbkkakokciacDoor.B
open Go.ChangeShapes Go.WideShapes Go.ChangeAt Go.RowKit
def Sub (L:List Nd) (a:List St) (at_:Nat):Prop:=∃ L1 L2,L=L1++(St.numAll a at_++L2)∧L1.length=at_
def AtNd (L:List Nd) (f:Nd) (at_:Nat):Prop:=∃ L1 L2,L=L1++f::L2∧L1.length=at_
theorem Sub.drop {L:List Nd} {a:List St} {at_:Nat} (h:Sub L a at_):∀ j,Sub L (a.drop j) (at_+St.countAll (a.take j)):=by
 intro j
 obtain ⟨L1,L2,hL,hl⟩:=h
 induction a generalizing at_ L1 j with
 | nil=>exact ⟨L1,L2,by simpa [St.countAll] using hL,by simp [St.countAll,hl]⟩
 | cons x r ih =>
  cases j with
  | zero=>exact ⟨L1,L2,by simpa [St.countAll] using hL,by simp [St.countAll,hl]⟩
  | succ j =>
   rw [St.numAll] at hL
   have:=ih (at_:=at_+x.count) j (L1++St.num x at_) (by rw [hL];simp) (by rw [List.length_append,hl,St.num_length])
   simp only [List.drop_succ_cons,List.take_succ_cons,St.countAll]
   rw [← Nat.add_assoc]
   exact this
theorem Sub.parts {L:List Nd} {r:List St} {at_:Nat} {k n:Int} {e:Ex} {ck:Int} {ca cb:Ex} {b l:List St} (h:Sub L (.mk k n e ck ca cb b l::r) at_) :
  AtNd L ⟨.mk k n e ck ca cb b l,at_+1+St.countAll b,at_+1+St.countAll b+St.countAll l⟩ at_∧Sub L b (at_+1)∧Sub L l (at_+1+St.countAll b):=by
 obtain ⟨L1,L2,hL,hl⟩:=h
 rw [St.numAll,St.num] at hL
 refine ⟨⟨L1,St.numAll b (at_+1)++St.numAll l (at_+1+St.countAll b)++St.numAll r (at_+(St.mk k n e ck ca cb b l).count)++L2,by rw [hL];simp only [List.cons_append],hl⟩,⟨L1++[⟨.mk k n e ck ca cb b l,at_+1+St.countAll b,at_+1+St.countAll b+St.countAll l⟩],St.numAll l (at_+1+St.countAll b)++(St.numAll r (at_+(St.mk k n e ck ca cb b l).count)++L2),by rw [hL];simp,by simp [hl]⟩,
  ⟨L1++(⟨.mk k n e ck ca cb b l,at_+1+St.countAll b,at_+1+St.countAll b+St.countAll l⟩::St.numAll b (at_+1)),St.numAll r (at_+(St.mk k n e ck ca cb b l).count)++L2,by rw [hL];simp,by simp [hl,St.numAll_length];omega⟩⟩
def TabIs (w0 w:World) (nb:Nat) (L:List Nd):Prop:=∃ xs,(∀ i u,xs[i]?=some u→w.cell? ⟨nb,i,none⟩=some u)∧Nd.Cells w0 L xs
theorem TabIs.of {w0 w w':World} {nb:Nat} {L:List Nd} (h:TabIs w0 w nb L) (hb:w'.heap[nb]?=w.heap[nb]?):TabIs w0 w' nb L:=by
 obtain ⟨xs,h1,h2⟩:=h
 exact ⟨xs,fun i u hu=>(World.cell?_of_block hb).trans (h1 i u hu),h2⟩
theorem TabIs.at {w0 w:World} {nb:Nat} {L:List Nd} {f:Nd} {at_:Nat} (h:TabIs w0 w nb L) (ha:AtNd L f at_):∃ x:Nat→Value,f.s.In w0 (stVal x)∧(∀ i,i<14→w.cell? ⟨nb,at_*16+i,none⟩=some (x i))∧w.cell? ⟨nb,at_*16+14,none⟩=some (.int .i64 f.o)∧w.cell? ⟨nb,at_*16+15,none⟩=some (.int .i64 f.n):=by
 obtain ⟨xs,h1,h2⟩:=h
 obtain ⟨L1,L2,rfl,rfl⟩:=ha
 obtain ⟨x,g1,g2,g3,g4⟩:=h2.at
 exact ⟨x,g1,fun i hi=>h1 _ _ (g2 i hi),h1 _ _ g3,h1 _ _ g4⟩
theorem AtNd.lt {L:List Nd} {f:Nd} {at_:Nat} (h:AtNd L f at_):at_<L.length:=by
 obtain ⟨L1,L2,rfl,rfl⟩:=h
 simp
def thrown (z:Nat):List PanicEntry:=[{ v:=.iface 179 (.int .i64 z),recovered:=false }]
def RunPost (rb vb B vc:Nat) (iv nv:Value) (w:World) (pv:Value) (r:Ms × Option Nat) (e:Ending) (w':World):Prop :=
 match r.2 with
 | none=>e = .returned (.tuple #[])∧∃ pv',Rn w' rb vb B vc 139 iv nv pv' r.1∧RR rb vb w w' pv pv'
 | some z=>e = .panicked (thrown z)∧∃ pv',RR rb vb w w' pv pv'
structure Here (w0 w:World) (rb vb B vc nb nc:Nat) (iv pv:Value) (L:List Nd) (is:List Int) (s:Ms):Prop where
 rn:Rn w rb vb B vc 139 iv (.slice (some ⟨nb,0,none⟩) L.length nc) pv s
 tab:TabIs w0 w nb L
 ins:InsIs w0 iv is
 low:Below w0.heap.size w0 w
 nr:nb≠rb
 nv:nb≠vb
 nB:nb<B
 lr:w0.heap.size≤rb
 lv:w0.heap.size≤vb
 st:s.steps≤20000
 pt:s.puts.length≤s.steps
theorem Here.next {w0 w w':World} {rb vb B vc nb nc:Nat} {iv pv pv':Value} {L:List Nd} {is:List Int} {s s':Ms} (h:Here w0 w rb vb B vc nb nc iv pv L is s) (hr:Rn w' rb vb B vc 139 iv (.slice (some ⟨nb,0,none⟩) L.length nc) pv' s') (hR:RR rb vb w w' pv pv') (hs:s'.steps≤20000) (hp:s'.puts.length≤s'.steps) (hnl:nb<w.heap.size) :
  Here w0 w' rb vb B vc nb nc iv pv' L is s' :=
 ⟨hr,h.tab.of (hR.block nb hnl h.nr h.nv fun e=>by have:=(h.rn.own_lt nb e.symm).1;have:=h.nB;omega),h.ins,hR.low h.rn h.lr h.lv h.low,h.nr,h.nv,h.nB,h.lr,h.lv,hs,hp⟩
theorem Here.below {w0 w w':World} {rb vb B vc nb nc:Nat} {iv pv:Value} {L:List Nd} {is:List Int} {s:Ms} (h:Here w0 w rb vb B vc nb nc iv pv L is s) (hb:Below w.heap.size w w') (hnl:nb<w.heap.size):Here w0 w' rb vb B vc nb nc iv pv L is s :=
 h.next (h.rn.below hb) (RR.of_below hb) h.st h.pt hnl
def StepP (w0:World) (rb vb B vc nb nc:Nat) (iv:Value) (L:List Nd) (is:List Int) (N:Nat):Prop:=∀ (x:St) (r:List St) (w:World) (pv:Value) (s:Ms) (at_:Nat),x.bulk≤N→x.Ok→Sub L (x::r) at_→Here w0 w rb vb B vc nb nc iv pv L is s →
 Calls Tryd.prog 134 #[.pointer (some ⟨rb,0,none⟩),.int .i64 at_] w (RunPost rb vb B vc iv (.slice (some ⟨nb,0,none⟩) L.length nc) w pv (St.run is x at_ s))
def ListP (w0:World) (rb vb B vc nb nc:Nat) (iv:Value) (L:List Nd) (is:List Int) (N:Nat):Prop:=∀ (a:List St) (w:World) (pv:Value) (s:Ms) (at_:Nat),St.bulkAll a≤N→St.OkAll a→Sub L a at_→Here w0 w rb vb B vc nb nc iv pv L is s →
 Calls Tryd.prog 108 #[.pointer (some ⟨rb,0,none⟩),.int .i64 at_,.int .i64 ((at_+St.countAll a:Nat):Int)] w (RunPost rb vb B vc iv (.slice (some ⟨nb,0,none⟩) L.length nc) w pv (St.runAll is a at_ s))
end Go.Proofs.YtnkgbkkakokciacDoor.B
namespace Go.Proofs.YtnkgbkkakokciacDoor
open Go.ChangeShapes Go.WideShapes Go.ChangeAt Go.RowKit
section
variable (w:World) (mb B:Nat) (l:List In) (iv ov:Value) (ins:List Int) (sp:Int) (s:MS) (sv pv:Value)
set_option maxRecDepth 20000 in
set_option maxHeartbeats 4000000 in
theorem do_4 (a b:Int) (n:Nat) (h:MM w mb B l iv ov ins sp s sv pv) (hl:s.st.length≤1000) (hpc:s.pc≤1000000) (hn:s.st.length=n+2):Calls Tryd.prog 49 #[.pointer (some ⟨mb,0,none⟩),.agg #[.int .i64 4,.int .i64 a,.int .i64 b]] w (Does w mb B l iv ov ins sp s sv pv ⟨4,a,b⟩):=by
 have HM:Hid (DS w (w.alloc (.cells #[.int .i64 4,.int .i64 a,.int .i64 b] 35)) mb B l iv ov ins sp ⟨4,a,b⟩ s sv pv sv pv):=DS.start h ⟨4,a,b⟩
 have c23:=h.c_pc
 have lm:=h.lt
 obtain ⟨q,g,hov,hq,hg,hqm,hgm⟩:=h.ops
 subst hov
 have HO:Hid (MM w mb B l iv (.map (some q)) ins sp s sv pv∧q<mb∧g<mb∧w.heap[q]?=some (.map (opsEs g) 5)∧w.heap[g]?=some (.cells #[.func (Fn.func 87) #[] #[]] 151 (0,0))):=⟨h,hq,hg,hqm,hgm⟩
 clear h hqm hgm hq hg
 go_enter Tryd.func49,Tryd.ntmps49
 go_wp2_with (go_at_call 48;refine (over_other _ mb 4 _ _ (by first | decide | omega) (by first | decide | omega) (by first | decide | omega)).mono ?_;rintro r w3 ⟨rfl,hb3⟩;have H3:Hid (DS _ w3 _ _ _ _ _ _ _ _ _ _ _ _ _):=HM.out.grow hb3;obtain ⟨x0,x1,x2,y0,y1,yf,ym,yx,yn⟩:=H3.out.reads;clear hb3)
 have H4:Hid (DS w (w3.setCell ⟨mb,23,none⟩ (.int .i64 ((s.pc:Int)+1))) _ _ _ _ _ _ _ _ _ _ _ _ _):=H3.out.setA1
 generalize hw4:(w3.setCell ⟨mb,23,none⟩ (.int .i64 ((s.pc:Int)+1)))=w4 at *
 clear hw4
 have hqk:=(H4.out.old HO.out.1 HO.out.2.1).trans HO.out.2.2.2.1
 obtain ⟨ku0,-,-,-,kv1,-,-,-,-⟩:=H4.out.reads
 have hlk:=look_found (w:=w4.drew) (z:=4) hqk (ops_find g).1
 have hS0:w4.drew.cell? ⟨w.heap.size,0,none⟩=some (.int .i64 4)∧w4.drew.cell? ⟨mb,25,none⟩=some (.map (some q)):=⟨ku0,kv1⟩
 refine wp_region_noPanic ?_
 refine wp_region_held_drew (S:=fun w'=>w'.cell? ⟨w.heap.size,0,none⟩=some (.int .i64 4)∧w'.cell? ⟨mb,25,none⟩=some (.map (some q))) (by kernel_rfl) hS0 (fun hHeld=>?_)
 refine tk (i:=0) (n:=125) (v:=?_) ?_ ?_
 rotate_left 1
 ·intro wz hSw
  first | (go_simp;done) | (go_simp;with_reducible rfl)
 simp only [ls0,ls1]
 refine tk (i:=1) (n:=126) (v:=?_) ?_ ?_
 rotate_left 1
 ·intro wz hSw
  first | (go_simp;done) | (go_simp;with_reducible rfl)
 simp only [ls0,ls1]
 refine tk (i:=2) (n:=127) (v:=?_) ?_ ?_
 rotate_left 1
 ·intro wz hSw
  first | (go_simp;done) | (go_simp;with_reducible rfl)
 simp only [ls0,ls1]
 refine tk (i:=3) (n:=128) (v:=?_) ?_ ?_
 rotate_left 1
 ·intro wz hSw
  first | (go_simp;done) | (go_simp;with_reducible rfl)
 simp only [ls0,ls1]
 refine tk (i:=4) (n:=129) (v:=?_) ?_ ?_
 rotate_left 1
 ·intro wz hSw
  first | (go_simp;done) | (go_simp;with_reducible rfl)
 simp only [ls0,ls1]
 refine tk (i:=5) (n:=130) (v:=?_) ?_ ?_
 rotate_left 1
 ·intro wz hSw
  first | (go_simp;done) | (go_simp;with_reducible rfl)
 simp only [ls0,ls1]
 refine wpAnyH_ready (rs:=[6]) (by kernel_rfl) (by simp) ?_
 refine AllReadyH.cons rfl (fun K hK=>?_) AllReadyH.nil
 go_simp
 refine hK.out _ _ hS0 (fun hHeld=>?_)
 clear hK K
 refine tk (i:=7) (n:=124) (v:=?_) ?_ ?_
 rotate_left 1
 ·intro wz hSw
  first | (go_simp;done) | (go_simp;with_reducible rfl)
 simp only [ls0,ls1]
 refine tk (i:=8) (n:=132) (v:=?_) ?_ ?_
 rotate_left 1
 ·intro wz hSw
  first | (go_simp;done) | (go_simp;with_reducible rfl)
 simp only [ls0,ls1]
 refine tk (i:=9) (n:=133) (v:=?_) ?_ ?_
 rotate_left 1
 ·intro wz hSw
  first | (go_simp;done) | (go_simp;with_reducible rfl)
 simp only [ls0,ls1]
 refine tk (i:=10) (n:=5) (v:=?_) ?_ ?_
 rotate_left 1
 ·intro wz hSw
  first | (go_simp;done) | (go_simp;with_reducible rfl)
 simp only [ls0,ls1]
 refine tk (i:=11) (n:=6) (v:=?_) ?_ ?_
 rotate_left 1
 ·intro wz hSw
  first | (go_simp;done) | (go_simp;with_reducible rfl)
 simp only [ls0,ls1]
 refine wpAnyH_done (by kernel_rfl) ?_ _
 refine NoPanic.normal ?_
 have H4d:Hid (DS w w4.drew _ _ _ _ _ _ _ _ _ _ _ _ _):=H4.out.grow (Below.refl _ _).drew
 have htop:({ pc:=s.pc+1,st:=s.st.dropLast,vs:=s.vs,cs:=s.cs,ps:=s.ps }:MS).top=s.second:=rfl
 go_wp2_with (first
  | (go_at_call 85;guard_hyp H4d:Hid _;refine (pop_any _ mb B l iv _ ins sp _ _ _ (n+1) H4d.out.mm (by dsimp only;omega) (by omega)).mono ?_;rintro r w5 ⟨rfl,sv5,hm5,hr5⟩;have H5:Hid (DS w w5 _ _ _ _ _ _ _ _ _ _ _ _ _):=H4d.out.step hm5 hr5;clear hm5 hr5 H4d)
  | (go_at_call 85;refine (pop_any _ mb B l iv _ ins sp _ _ _ n H5.out.mm (by dsimp only;simp only [List.length_dropLast];omega) (by omega)).mono ?_;rw [htop];rintro r w6 ⟨rfl,sv6,hm6,hr6⟩;have H6:Hid (DS w w6 _ _ _ _ _ _ _ _ _ _ _ _ _):=H5.out.step hm6 hr6;clear hm6 hr6)
  | (go_at_call 88;refine (add_any _ s.second s.top).mono ?_;rintro r w7 ⟨rfl,rfl⟩)
  | (go_at_call 84;refine (push_any _ mb B l iv _ ins sp _ _ _ (wrap64 (s.second+s.top)) H6.out.mm (by dsimp only;simp only [List.length_dropLast];omega)).mono ?_;rintro r w8 ⟨rfl,sv8,hm5,hr5⟩;have H8:Hid (DS w w8 _ _ _ _ _ _ _ _ _ _ _ _ _):=H6.out.step hm5 hr5;obtain ⟨u0,u1,u2,v0,v1,vf,vm,vx,vn⟩:=H8.out.reads;clear hm5 hr5))
 go_end0
 exact ⟨rfl,sv8,pv,H8.out.mm,H8.out.mr⟩
set_option maxRecDepth 20000 in
set_option maxHeartbeats 4000000 in
theorem do_5 (a b:Int) (n:Nat) (h:MM w mb B l iv ov ins sp s sv pv) (hl:s.st.length≤1000) (hpc:s.pc≤1000000) (hn:s.st.length=n+2):Calls Tryd.prog 49 #[.pointer (some ⟨mb,0,none⟩),.agg #[.int .i64 5,.int .i64 a,.int .i64 b]] w (Does w mb B l iv ov ins sp s sv pv ⟨5,a,b⟩):=by
 have HM:Hid (DS w (w.alloc (.cells #[.int .i64 5,.int .i64 a,.int .i64 b] 35)) mb B l iv ov ins sp ⟨5,a,b⟩ s sv pv sv pv):=DS.start h ⟨5,a,b⟩
 have c23:=h.c_pc
 have lm:=h.lt
 obtain ⟨q,g,hov,hq,hg,hqm,hgm⟩:=h.ops
 subst hov
 have HO:Hid (MM w mb B l iv (.map (some q)) ins sp s sv pv∧q<mb∧g<mb∧w.heap[q]?=some (.map (opsEs g) 5)∧w.heap[g]?=some (.cells #[.func (Fn.func 87) #[] #[]] 151 (0,0))):=⟨h,hq,hg,hqm,hgm⟩
 clear h hqm hgm hq hg
 go_enter Tryd.func49,Tryd.ntmps49
 go_wp2_with (go_at_call 48;refine (over_other _ mb 5 _ _ (by first | decide | omega) (by first | decide | omega) (by first | decide | omega)).mono ?_;rintro r w3 ⟨rfl,hb3⟩;have H3:Hid (DS _ w3 _ _ _ _ _ _ _ _ _ _ _ _ _):=HM.out.grow hb3;obtain ⟨x0,x1,x2,y0,y1,yf,ym,yx,yn⟩:=H3.out.reads;clear hb3)
 have H4:Hid (DS w (w3.setCell ⟨mb,23,none⟩ (.int .i64 ((s.pc:Int)+1))) _ _ _ _ _ _ _ _ _ _ _ _ _):=H3.out.setA1
 generalize hw4:(w3.setCell ⟨mb,23,none⟩ (.int .i64 ((s.pc:Int)+1)))=w4 at *
 clear hw4
 have hqk:=(H4.out.old HO.out.1 HO.out.2.1).trans HO.out.2.2.2.1
 obtain ⟨ku0,-,-,-,kv1,-,-,-,-⟩:=H4.out.reads
 have hlk:=look_found (w:=w4.drew) (z:=5) hqk (ops_find g).2.1
 have hS0:w4.drew.cell? ⟨w.heap.size,0,none⟩=some (.int .i64 5)∧w4.drew.cell? ⟨mb,25,none⟩=some (.map (some q)):=⟨ku0,kv1⟩
 refine wp_region_noPanic ?_
 refine wp_region_held_drew (S:=fun w'=>w'.cell? ⟨w.heap.size,0,none⟩=some (.int .i64 5)∧w'.cell? ⟨mb,25,none⟩=some (.map (some q))) (by kernel_rfl) hS0 (fun hHeld=>?_)
 refine tk (i:=0) (n:=125) (v:=?_) ?_ ?_
 rotate_left 1
 ·intro wz hSw
  first | (go_simp;done) | (go_simp;with_reducible rfl)
 simp only [ls0,ls1]
 refine tk (i:=1) (n:=126) (v:=?_) ?_ ?_
 rotate_left 1
 ·intro wz hSw
  first | (go_simp;done) | (go_simp;with_reducible rfl)
 simp only [ls0,ls1]
 refine tk (i:=2) (n:=127) (v:=?_) ?_ ?_
 rotate_left 1
 ·intro wz hSw
  first | (go_simp;done) | (go_simp;with_reducible rfl)
 simp only [ls0,ls1]
 refine tk (i:=3) (n:=128) (v:=?_) ?_ ?_
 rotate_left 1
 ·intro wz hSw
  first | (go_simp;done) | (go_simp;with_reducible rfl)
 simp only [ls0,ls1]
 refine tk (i:=4) (n:=129) (v:=?_) ?_ ?_
 rotate_left 1
 ·intro wz hSw
  first | (go_simp;done) | (go_simp;with_reducible rfl)
 simp only [ls0,ls1]
 refine tk (i:=5) (n:=130) (v:=?_) ?_ ?_
 rotate_left 1
 ·intro wz hSw
  first | (go_simp;done) | (go_simp;with_reducible rfl)
 simp only [ls0,ls1]
 refine wpAnyH_ready (rs:=[6]) (by kernel_rfl) (by simp) ?_
 refine AllReadyH.cons rfl (fun K hK=>?_) AllReadyH.nil
 go_simp
 refine hK.out _ _ hS0 (fun hHeld=>?_)
 clear hK K
 refine tk (i:=7) (n:=124) (v:=?_) ?_ ?_
 rotate_left 1
 ·intro wz hSw
  first | (go_simp;done) | (go_simp;with_reducible rfl)
 simp only [ls0,ls1]
 refine tk (i:=8) (n:=132) (v:=?_) ?_ ?_
 rotate_left 1
 ·intro wz hSw
  first | (go_simp;done) | (go_simp;with_reducible rfl)
 simp only [ls0,ls1]
 refine tk (i:=9) (n:=133) (v:=?_) ?_ ?_
 rotate_left 1
 ·intro wz hSw
  first | (go_simp;done) | (go_simp;with_reducible rfl)
 simp only [ls0,ls1]
 refine tk (i:=10) (n:=5) (v:=?_) ?_ ?_
 rotate_left 1
 ·intro wz hSw
  first | (go_simp;done) | (go_simp;with_reducible rfl)
 simp only [ls0,ls1]
 refine tk (i:=11) (n:=6) (v:=?_) ?_ ?_
 rotate_left 1
 ·intro wz hSw
  first | (go_simp;done) | (go_simp;with_reducible rfl)
 simp only [ls0,ls1]
 refine wpAnyH_done (by kernel_rfl) ?_ _
 refine NoPanic.normal ?_
 have H4d:Hid (DS w w4.drew _ _ _ _ _ _ _ _ _ _ _ _ _):=H4.out.grow (Below.refl _ _).drew
 have htop:({ pc:=s.pc+1,st:=s.st.dropLast,vs:=s.vs,cs:=s.cs,ps:=s.ps }:MS).top=s.second:=rfl
 go_wp2_with (first
  | (go_at_call 85;guard_hyp H4d:Hid _;refine (pop_any _ mb B l iv _ ins sp _ _ _ (n+1) H4d.out.mm (by dsimp only;omega) (by omega)).mono ?_;rintro r w5 ⟨rfl,sv5,hm5,hr5⟩;have H5:Hid (DS w w5 _ _ _ _ _ _ _ _ _ _ _ _ _):=H4d.out.step hm5 hr5;clear hm5 hr5 H4d)
  | (go_at_call 85;refine (pop_any _ mb B l iv _ ins sp _ _ _ n H5.out.mm (by dsimp only;simp only [List.length_dropLast];omega) (by omega)).mono ?_;rw [htop];rintro r w6 ⟨rfl,sv6,hm6,hr6⟩;have H6:Hid (DS w w6 _ _ _ _ _ _ _ _ _ _ _ _ _):=H5.out.step hm6 hr6;clear hm6 hr6)
  | (go_at_call 89;refine (sub_any _ s.second s.top).mono ?_;rintro r w7 ⟨rfl,rfl⟩)
  | (go_at_call 84;refine (push_any _ mb B l iv _ ins sp _ _ _ (wrap64 (s.second - s.top)) H6.out.mm (by dsimp only;simp only [List.length_dropLast];omega)).mono ?_;rintro r w8 ⟨rfl,sv8,hm5,hr5⟩;have H8:Hid (DS w w8 _ _ _ _ _ _ _ _ _ _ _ _ _):=H6.out.step hm5 hr5;obtain ⟨u0,u1,u2,v0,v1,vf,vm,vx,vn⟩:=H8.out.reads;clear hm5 hr5))
 go_end0
 exact ⟨rfl,sv8,pv,H8.out.mm,H8.out.mr⟩
set_option maxRecDepth 20000 in
set_option maxHeartbeats 4000000 in
theorem do_6 (a b:Int) (n:Nat) (h:MM w mb B l iv ov ins sp s sv pv) (hl:s.st.length≤1000) (hpc:s.pc≤1000000) (hn:s.st.length=n+2):Calls Tryd.prog 49 #[.pointer (some ⟨mb,0,none⟩),.agg #[.int .i64 6,.int .i64 a,.int .i64 b]] w (Does w mb B l iv ov ins sp s sv pv ⟨6,a,b⟩):=by
 have HM:Hid (DS w (w.alloc (.cells #[.int .i64 6,.int .i64 a,.int .i64 b] 35)) mb B l iv ov ins sp ⟨6,a,b⟩ s sv pv sv pv):=DS.start h ⟨6,a,b⟩
 have c23:=h.c_pc
 have lm:=h.lt
 obtain ⟨q,g,hov,hq,hg,hqm,hgm⟩:=h.ops
 subst hov
 have HO:Hid (MM w mb B l iv (.map (some q)) ins sp s sv pv∧q<mb∧g<mb∧w.heap[q]?=some (.map (opsEs g) 5)∧w.heap[g]?=some (.cells #[.func (Fn.func 87) #[] #[]] 151 (0,0))):=⟨h,hq,hg,hqm,hgm⟩
 clear h hqm hgm hq hg
 go_enter Tryd.func49,Tryd.ntmps49
 go_wp2_with (go_at_call 48;refine (over_other _ mb 6 _ _ (by first | decide | omega) (by first | decide | omega) (by first | decide | omega)).mono ?_;rintro r w3 ⟨rfl,hb3⟩;have H3:Hid (DS _ w3 _ _ _ _ _ _ _ _ _ _ _ _ _):=HM.out.grow hb3;obtain ⟨x0,x1,x2,y0,y1,yf,ym,yx,yn⟩:=H3.out.reads;clear hb3)
 have H4:Hid (DS w (w3.setCell ⟨mb,23,none⟩ (.int .i64 ((s.pc:Int)+1))) _ _ _ _ _ _ _ _ _ _ _ _ _):=H3.out.setA1
 generalize hw4:(w3.setCell ⟨mb,23,none⟩ (.int .i64 ((s.pc:Int)+1)))=w4 at *
 clear hw4
 have hqk:=(H4.out.old HO.out.1 HO.out.2.1).trans HO.out.2.2.2.1
 obtain ⟨ku0,-,-,-,kv1,-,-,-,-⟩:=H4.out.reads
 have hlk:=look_found (w:=w4.drew) (z:=6) hqk (ops_find g).2.2.1
 have hS0:w4.drew.cell? ⟨w.heap.size,0,none⟩=some (.int .i64 6)∧w4.drew.cell? ⟨mb,25,none⟩=some (.map (some q)):=⟨ku0,kv1⟩
 refine wp_region_noPanic ?_
 refine wp_region_held_drew (S:=fun w'=>w'.cell? ⟨w.heap.size,0,none⟩=some (.int .i64 6)∧w'.cell? ⟨mb,25,none⟩=some (.map (some q))) (by kernel_rfl) hS0 (fun hHeld=>?_)
 refine tk (i:=0) (n:=125) (v:=?_) ?_ ?_
 rotate_left 1
 ·intro wz hSw
  first | (go_simp;done) | (go_simp;with_reducible rfl)
 simp only [ls0,ls1]
 refine tk (i:=1) (n:=126) (v:=?_) ?_ ?_
 rotate_left 1
 ·intro wz hSw
  first | (go_simp;done) | (go_simp;with_reducible rfl)
 simp only [ls0,ls1]
 refine tk (i:=2) (n:=127) (v:=?_) ?_ ?_
 rotate_left 1
 ·intro wz hSw
  first | (go_simp;done) | (go_simp;with_reducible rfl)
 simp only [ls0,ls1]
 refine tk (i:=3) (n:=128) (v:=?_) ?_ ?_
 rotate_left 1
 ·intro wz hSw
  first | (go_simp;done) | (go_simp;with_reducible rfl)
 simp only [ls0,ls1]
 refine tk (i:=4) (n:=129) (v:=?_) ?_ ?_
 rotate_left 1
 ·intro wz hSw
  first | (go_simp;done) | (go_simp;with_reducible rfl)
 simp only [ls0,ls1]
 refine tk (i:=5) (n:=130) (v:=?_) ?_ ?_
 rotate_left 1
 ·intro wz hSw
  first | (go_simp;done) | (go_simp;with_reducible rfl)
 simp only [ls0,ls1]
 refine wpAnyH_ready (rs:=[6]) (by kernel_rfl) (by simp) ?_
 refine AllReadyH.cons rfl (fun K hK=>?_) AllReadyH.nil
 go_simp
 refine hK.out _ _ hS0 (fun hHeld=>?_)
 clear hK K
 refine tk (i:=7) (n:=124) (v:=?_) ?_ ?_
 rotate_left 1
 ·intro wz hSw
  first | (go_simp;done) | (go_simp;with_reducible rfl)
 simp only [ls0,ls1]
 refine tk (i:=8) (n:=132) (v:=?_) ?_ ?_
 rotate_left 1
 ·intro wz hSw
  first | (go_simp;done) | (go_simp;with_reducible rfl)
 simp only [ls0,ls1]
 refine tk (i:=9) (n:=133) (v:=?_) ?_ ?_
 rotate_left 1
 ·intro wz hSw
  first | (go_simp;done) | (go_simp;with_reducible rfl)
 simp only [ls0,ls1]
 refine tk (i:=10) (n:=5) (v:=?_) ?_ ?_
 rotate_left 1
 ·intro wz hSw
  first | (go_simp;done) | (go_simp;with_reducible rfl)
 simp only [ls0,ls1]
 refine tk (i:=11) (n:=6) (v:=?_) ?_ ?_
 rotate_left 1
 ·intro wz hSw
  first | (go_simp;done) | (go_simp;with_reducible rfl)
 simp only [ls0,ls1]
 refine wpAnyH_done (by kernel_rfl) ?_ _
 refine NoPanic.normal ?_
 have H4d:Hid (DS w w4.drew _ _ _ _ _ _ _ _ _ _ _ _ _):=H4.out.grow (Below.refl _ _).drew
 have htop:({ pc:=s.pc+1,st:=s.st.dropLast,vs:=s.vs,cs:=s.cs,ps:=s.ps }:MS).top=s.second:=rfl
 go_wp2_with (first
  | (go_at_call 85;guard_hyp H4d:Hid _;refine (pop_any _ mb B l iv _ ins sp _ _ _ (n+1) H4d.out.mm (by dsimp only;omega) (by omega)).mono ?_;rintro r w5 ⟨rfl,sv5,hm5,hr5⟩;have H5:Hid (DS w w5 _ _ _ _ _ _ _ _ _ _ _ _ _):=H4d.out.step hm5 hr5;clear hm5 hr5 H4d)
  | (go_at_call 85;refine (pop_any _ mb B l iv _ ins sp _ _ _ n H5.out.mm (by dsimp only;simp only [List.length_dropLast];omega) (by omega)).mono ?_;rw [htop];rintro r w6 ⟨rfl,sv6,hm6,hr6⟩;have H6:Hid (DS w w6 _ _ _ _ _ _ _ _ _ _ _ _ _):=H5.out.step hm6 hr6;clear hm6 hr6)
  | (go_at_call 90;refine (mul_any _ s.second s.top).mono ?_;rintro r w7 ⟨rfl,rfl⟩)
  | (go_at_call 84;refine (push_any _ mb B l iv _ ins sp _ _ _ (wrap64 (s.second*s.top)) H6.out.mm (by dsimp only;simp only [List.length_dropLast];omega)).mono ?_;rintro r w8 ⟨rfl,sv8,hm5,hr5⟩;have H8:Hid (DS w w8 _ _ _ _ _ _ _ _ _ _ _ _ _):=H6.out.step hm5 hr5;obtain ⟨u0,u1,u2,v0,v1,vf,vm,vx,vn⟩:=H8.out.reads;clear hm5 hr5))
 go_end0
 exact ⟨rfl,sv8,pv,H8.out.mm,H8.out.mr⟩
set_option maxRecDepth 20000 in
set_option maxHeartbeats 4000000 in
theorem do_7 (a b:Int) (n:Nat) (h:MM w mb B l iv ov ins sp s sv pv) (hl:s.st.length≤1000) (hpc:s.pc≤1000000) (hn:s.st.length=n+2):Calls Tryd.prog 49 #[.pointer (some ⟨mb,0,none⟩),.agg #[.int .i64 7,.int .i64 a,.int .i64 b]] w (Does w mb B l iv ov ins sp s sv pv ⟨7,a,b⟩):=by
 have HM:Hid (DS w (w.alloc (.cells #[.int .i64 7,.int .i64 a,.int .i64 b] 35)) mb B l iv ov ins sp ⟨7,a,b⟩ s sv pv sv pv):=DS.start h ⟨7,a,b⟩
 have c23:=h.c_pc
 have lm:=h.lt
 obtain ⟨q,g,hov,hq,hg,hqm,hgm⟩:=h.ops
 subst hov
 have HO:Hid (MM w mb B l iv (.map (some q)) ins sp s sv pv∧q<mb∧g<mb∧w.heap[q]?=some (.map (opsEs g) 5)∧w.heap[g]?=some (.cells #[.func (Fn.func 87) #[] #[]] 151 (0,0))):=⟨h,hq,hg,hqm,hgm⟩
 clear h hqm hgm hq hg
 go_enter Tryd.func49,Tryd.ntmps49
 go_wp2_with (go_at_call 48;refine (over_other _ mb 7 _ _ (by first | decide | omega) (by first | decide | omega) (by first | decide | omega)).mono ?_;rintro r w3 ⟨rfl,hb3⟩;have H3:Hid (DS _ w3 _ _ _ _ _ _ _ _ _ _ _ _ _):=HM.out.grow hb3;obtain ⟨x0,x1,x2,y0,y1,yf,ym,yx,yn⟩:=H3.out.reads;clear hb3)
 have H4:Hid (DS w (w3.setCell ⟨mb,23,none⟩ (.int .i64 ((s.pc:Int)+1))) _ _ _ _ _ _ _ _ _ _ _ _ _):=H3.out.setA1
 generalize hw4:(w3.setCell ⟨mb,23,none⟩ (.int .i64 ((s.pc:Int)+1)))=w4 at *
 clear hw4
 have hqk:=(H4.out.old HO.out.1 HO.out.2.1).trans HO.out.2.2.2.1
 obtain ⟨ku0,-,-,-,kv1,-,-,-,-⟩:=H4.out.reads
 have hlk:=look_found (w:=w4.drew) (z:=7) hqk (ops_find g).2.2.2.1
 have hS0:w4.drew.cell? ⟨w.heap.size,0,none⟩=some (.int .i64 7)∧w4.drew.cell? ⟨mb,25,none⟩=some (.map (some q)):=⟨ku0,kv1⟩
 refine wp_region_noPanic ?_
 refine wp_region_held_drew (S:=fun w'=>w'.cell? ⟨w.heap.size,0,none⟩=some (.int .i64 7)∧w'.cell? ⟨mb,25,none⟩=some (.map (some q))) (by kernel_rfl) hS0 (fun hHeld=>?_)
 refine tk (i:=0) (n:=125) (v:=?_) ?_ ?_
 rotate_left 1
 ·intro wz hSw
  first | (go_simp;done) | (go_simp;with_reducible rfl)
 simp only [ls0,ls1]
 refine tk (i:=1) (n:=126) (v:=?_) ?_ ?_
 rotate_left 1
 ·intro wz hSw
  first | (go_simp;done) | (go_simp;with_reducible rfl)
 simp only [ls0,ls1]
 refine tk (i:=2) (n:=127) (v:=?_) ?_ ?_
 rotate_left 1
 ·intro wz hSw
  first | (go_simp;done) | (go_simp;with_reducible rfl)
 simp only [ls0,ls1]
 refine tk (i:=3) (n:=128) (v:=?_) ?_ ?_
 rotate_left 1
 ·intro wz hSw
  first | (go_simp;done) | (go_simp;with_reducible rfl)
 simp only [ls0,ls1]
 refine tk (i:=4) (n:=129) (v:=?_) ?_ ?_
 rotate_left 1
 ·intro wz hSw
  first | (go_simp;done) | (go_simp;with_reducible rfl)
 simp only [ls0,ls1]
 refine tk (i:=5) (n:=130) (v:=?_) ?_ ?_
 rotate_left 1
 ·intro wz hSw
  first | (go_simp;done) | (go_simp;with_reducible rfl)
 simp only [ls0,ls1]
 refine wpAnyH_ready (rs:=[6]) (by kernel_rfl) (by simp) ?_
 refine AllReadyH.cons rfl (fun K hK=>?_) AllReadyH.nil
 go_simp
 refine hK.out _ _ hS0 (fun hHeld=>?_)
 clear hK K
 refine tk (i:=7) (n:=124) (v:=?_) ?_ ?_
 rotate_left 1
 ·intro wz hSw
  first | (go_simp;done) | (go_simp;with_reducible rfl)
 simp only [ls0,ls1]
 refine tk (i:=8) (n:=132) (v:=?_) ?_ ?_
 rotate_left 1
 ·intro wz hSw
  first | (go_simp;done) | (go_simp;with_reducible rfl)
 simp only [ls0,ls1]
 refine tk (i:=9) (n:=133) (v:=?_) ?_ ?_
 rotate_left 1
 ·intro wz hSw
  first | (go_simp;done) | (go_simp;with_reducible rfl)
 simp only [ls0,ls1]
 refine tk (i:=10) (n:=5) (v:=?_) ?_ ?_
 rotate_left 1
 ·intro wz hSw
  first | (go_simp;done) | (go_simp;with_reducible rfl)
 simp only [ls0,ls1]
 refine tk (i:=11) (n:=6) (v:=?_) ?_ ?_
 rotate_left 1
 ·intro wz hSw
  first | (go_simp;done) | (go_simp;with_reducible rfl)
 simp only [ls0,ls1]
 refine wpAnyH_done (by kernel_rfl) ?_ _
 refine NoPanic.normal ?_
 have H4d:Hid (DS w w4.drew _ _ _ _ _ _ _ _ _ _ _ _ _):=H4.out.grow (Below.refl _ _).drew
 have htop:({ pc:=s.pc+1,st:=s.st.dropLast,vs:=s.vs,cs:=s.cs,ps:=s.ps }:MS).top=s.second:=rfl
 go_wp2_with (first
  | (go_at_call 85;guard_hyp H4d:Hid _;refine (pop_any _ mb B l iv _ ins sp _ _ _ (n+1) H4d.out.mm (by dsimp only;omega) (by omega)).mono ?_;rintro r w5 ⟨rfl,sv5,hm5,hr5⟩;have H5:Hid (DS w w5 _ _ _ _ _ _ _ _ _ _ _ _ _):=H4d.out.step hm5 hr5;clear hm5 hr5 H4d)
  | (go_at_call 85;refine (pop_any _ mb B l iv _ ins sp _ _ _ n H5.out.mm (by dsimp only;simp only [List.length_dropLast];omega) (by omega)).mono ?_;rw [htop];rintro r w6 ⟨rfl,sv6,hm6,hr6⟩;have H6:Hid (DS w w6 _ _ _ _ _ _ _ _ _ _ _ _ _):=H5.out.step hm6 hr6;clear hm6 hr6)
  | (go_at_call 91;refine (less_any _ s.second s.top g ((cells_of (l:=[_]) ((H6.out.old HO.out.1 HO.out.2.2.1).trans HO.out.2.2.2.2)).1 0 _ rfl)).mono ?_;rintro r w7 ⟨rfl,rfl⟩)
  | (go_at_call 84;refine (push_any _ mb B l iv _ ins sp _ _ _ (if s.second<s.top then 1 else 0) H6.out.mm (by dsimp only;simp only [List.length_dropLast];omega)).mono ?_;rintro r w8 ⟨rfl,sv8,hm5,hr5⟩;have H8:Hid (DS w w8 _ _ _ _ _ _ _ _ _ _ _ _ _):=H6.out.step hm5 hr5;obtain ⟨u0,u1,u2,v0,v1,vf,vm,vx,vn⟩:=H8.out.reads;clear hm5 hr5))
 all_goals go_end0
 all_goals exact ⟨rfl,sv8,pv,H8.out.mm,H8.out.mr⟩
set_option maxRecDepth 20000 in
set_option maxHeartbeats 4000000 in
theorem do_8 (a b:Int) (n:Nat) (h:MM w mb B l iv ov ins sp s sv pv) (hl:s.st.length≤1000) (hpc:s.pc≤1000000) (hn:s.st.length=n+2):Calls Tryd.prog 49 #[.pointer (some ⟨mb,0,none⟩),.agg #[.int .i64 8,.int .i64 a,.int .i64 b]] w (Does w mb B l iv ov ins sp s sv pv ⟨8,a,b⟩):=by
 have HM:Hid (DS w (w.alloc (.cells #[.int .i64 8,.int .i64 a,.int .i64 b] 35)) mb B l iv ov ins sp ⟨8,a,b⟩ s sv pv sv pv):=DS.start h ⟨8,a,b⟩
 have c23:=h.c_pc
 have lm:=h.lt
 obtain ⟨q,g,hov,hq,hg,hqm,hgm⟩:=h.ops
 subst hov
 have HO:Hid (MM w mb B l iv (.map (some q)) ins sp s sv pv∧q<mb∧g<mb∧w.heap[q]?=some (.map (opsEs g) 5)∧w.heap[g]?=some (.cells #[.func (Fn.func 87) #[] #[]] 151 (0,0))):=⟨h,hq,hg,hqm,hgm⟩
 clear h hqm hgm hq hg
 go_enter Tryd.func49,Tryd.ntmps49
 go_wp2_with (go_at_call 48;refine (over_other _ mb 8 _ _ (by first | decide | omega) (by first | decide | omega) (by first | decide | omega)).mono ?_;rintro r w3 ⟨rfl,hb3⟩;have H3:Hid (DS _ w3 _ _ _ _ _ _ _ _ _ _ _ _ _):=HM.out.grow hb3;obtain ⟨x0,x1,x2,y0,y1,yf,ym,yx,yn⟩:=H3.out.reads;clear hb3)
 have H4:Hid (DS w (w3.setCell ⟨mb,23,none⟩ (.int .i64 ((s.pc:Int)+1))) _ _ _ _ _ _ _ _ _ _ _ _ _):=H3.out.setA1
 generalize hw4:(w3.setCell ⟨mb,23,none⟩ (.int .i64 ((s.pc:Int)+1)))=w4 at *
 clear hw4
 have hqk:=(H4.out.old HO.out.1 HO.out.2.1).trans HO.out.2.2.2.1
 obtain ⟨ku0,-,-,-,kv1,-,-,-,-⟩:=H4.out.reads
 have hlk:=look_found (w:=w4.drew) (z:=8) hqk (ops_find g).2.2.2.2
 have hS0:w4.drew.cell? ⟨w.heap.size,0,none⟩=some (.int .i64 8)∧w4.drew.cell? ⟨mb,25,none⟩=some (.map (some q)):=⟨ku0,kv1⟩
 refine wp_region_noPanic ?_
 refine wp_region_held_drew (S:=fun w'=>w'.cell? ⟨w.heap.size,0,none⟩=some (.int .i64 8)∧w'.cell? ⟨mb,25,none⟩=some (.map (some q))) (by kernel_rfl) hS0 (fun hHeld=>?_)
 refine tk (i:=0) (n:=125) (v:=?_) ?_ ?_
 rotate_left 1
 ·intro wz hSw
  first | (go_simp;done) | (go_simp;with_reducible rfl)
 simp only [ls0,ls1]
 refine tk (i:=1) (n:=126) (v:=?_) ?_ ?_
 rotate_left 1
 ·intro wz hSw
  first | (go_simp;done) | (go_simp;with_reducible rfl)
 simp only [ls0,ls1]
 refine tk (i:=2) (n:=127) (v:=?_) ?_ ?_
 rotate_left 1
 ·intro wz hSw
  first | (go_simp;done) | (go_simp;with_reducible rfl)
 simp only [ls0,ls1]
 refine tk (i:=3) (n:=128) (v:=?_) ?_ ?_
 rotate_left 1
 ·intro wz hSw
  first | (go_simp;done) | (go_simp;with_reducible rfl)
 simp only [ls0,ls1]
 refine tk (i:=4) (n:=129) (v:=?_) ?_ ?_
 rotate_left 1
 ·intro wz hSw
  first | (go_simp;done) | (go_simp;with_reducible rfl)
 simp only [ls0,ls1]
 refine tk (i:=5) (n:=130) (v:=?_) ?_ ?_
 rotate_left 1
 ·intro wz hSw
  first | (go_simp;done) | (go_simp;with_reducible rfl)
 simp only [ls0,ls1]
 refine wpAnyH_ready (rs:=[6]) (by kernel_rfl) (by simp) ?_
 refine AllReadyH.cons rfl (fun K hK=>?_) AllReadyH.nil
 go_simp
 refine hK.out _ _ hS0 (fun hHeld=>?_)
 clear hK K
 refine tk (i:=7) (n:=124) (v:=?_) ?_ ?_
 rotate_left 1
 ·intro wz hSw
  first | (go_simp;done) | (go_simp;with_reducible rfl)
 simp only [ls0,ls1]
 refine tk (i:=8) (n:=132) (v:=?_) ?_ ?_
 rotate_left 1
 ·intro wz hSw
  first | (go_simp;done) | (go_simp;with_reducible rfl)
 simp only [ls0,ls1]
 refine tk (i:=9) (n:=133) (v:=?_) ?_ ?_
 rotate_left 1
 ·intro wz hSw
  first | (go_simp;done) | (go_simp;with_reducible rfl)
 simp only [ls0,ls1]
 refine tk (i:=10) (n:=5) (v:=?_) ?_ ?_
 rotate_left 1
 ·intro wz hSw
  first | (go_simp;done) | (go_simp;with_reducible rfl)
 simp only [ls0,ls1]
 refine tk (i:=11) (n:=6) (v:=?_) ?_ ?_
 rotate_left 1
 ·intro wz hSw
  first | (go_simp;done) | (go_simp;with_reducible rfl)
 simp only [ls0,ls1]
 refine wpAnyH_done (by kernel_rfl) ?_ _
 refine NoPanic.normal ?_
 have H4d:Hid (DS w w4.drew _ _ _ _ _ _ _ _ _ _ _ _ _):=H4.out.grow (Below.refl _ _).drew
 have htop:({ pc:=s.pc+1,st:=s.st.dropLast,vs:=s.vs,cs:=s.cs,ps:=s.ps }:MS).top=s.second:=rfl
 go_wp2_with (first
  | (go_at_call 85;guard_hyp H4d:Hid _;refine (pop_any _ mb B l iv _ ins sp _ _ _ (n+1) H4d.out.mm (by dsimp only;omega) (by omega)).mono ?_;rintro r w5 ⟨rfl,sv5,hm5,hr5⟩;have H5:Hid (DS w w5 _ _ _ _ _ _ _ _ _ _ _ _ _):=H4d.out.step hm5 hr5;clear hm5 hr5 H4d)
  | (go_at_call 85;refine (pop_any _ mb B l iv _ ins sp _ _ _ n H5.out.mm (by dsimp only;simp only [List.length_dropLast];omega) (by omega)).mono ?_;rw [htop];rintro r w6 ⟨rfl,sv6,hm6,hr6⟩;have H6:Hid (DS w w6 _ _ _ _ _ _ _ _ _ _ _ _ _):=H5.out.step hm6 hr6;clear hm6 hr6)
  | (go_at_call 92;refine (same_any _ s.second s.top g ((cells_of (l:=[_]) ((H6.out.old HO.out.1 HO.out.2.2.1).trans HO.out.2.2.2.2)).1 0 _ rfl)).mono ?_;rintro r w7 ⟨rfl,rfl⟩)
  | (go_at_call 84;refine (push_any _ mb B l iv _ ins sp _ _ _ (if s.second=s.top then 1 else 0) H6.out.mm (by dsimp only;simp only [List.length_dropLast];omega)).mono ?_;rintro r w8 ⟨rfl,sv8,hm5,hr5⟩;have H8:Hid (DS w w8 _ _ _ _ _ _ _ _ _ _ _ _ _):=H6.out.step hm5 hr5;obtain ⟨u0,u1,u2,v0,v1,vf,vm,vx,vn⟩:=H8.out.reads;clear hm5 hr5))
 all_goals go_end0
 all_goals exact ⟨rfl,sv8,pv,H8.out.mm,H8.out.mr⟩
end
end Go.Proofs.YtnkgbkkakokciacDoor
