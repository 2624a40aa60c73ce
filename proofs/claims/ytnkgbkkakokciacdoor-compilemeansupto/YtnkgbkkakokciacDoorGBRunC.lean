import Derived.Test.YtnkgbkkakokciacDoorGBRunA
import Derived.Test.YtnkgbkkakokciacDoorGBStmtAll
import Derived.Test.YtnkgbkkakokciacDoorGBNumber
namespace Go.Proofs.YtnkgbkkakokciacDoor.B
open Go.ChangeShapes Go.WideShapes Go.ChangeAt Go.RowKit
theorem whole_all (w0 w:World) (rb vb B vc B0:Nat) (iv nv:Value) (is:List Int) (s:Ms) (a:List St) (xs:List Value)
  (hr:Rn w rb vb B vc 139 iv nv (.slice none 0 0) s) (ho:w.ownsRow B0 177 16 nv (St.numAll a 0).length xs) (hc:Nd.Cells w0 (St.numAll a 0) xs) (hi:InsIs w0 iv is) (hlow:Below w0.heap.size w0 w)
  (hv:w0.heap.size≤vb) (hvB:vb<B0) (hrB:nv.ownBlock≠some rb) (hr0:w0.heap.size≤rb) (hnB:∀ k,nv.ownBlock=some k→k<B) (hs:s.steps≤20000) (hp:s.puts.length≤s.steps) (hb:St.bulkAll a≤1048576) (hok:St.OkAll a) :
  Calls Tryd.prog 74 #[.pointer (some ⟨rb,0,none⟩)] w (WholePost rb vb B vc iv nv w (.slice none 0 0) (St.runAll is a 0 s)):=by
 cases a with
 | nil =>
  obtain ⟨ad,cap,rfl⟩:=owns_value ho
  have:=whole_nil w rb vb B vc iv _ s ad cap hr
  rw [St.runAll]
  exact this
 | cons x r =>
  have hpos:0<(St.numAll (x::r) 0).length:=by rw [St.numAll_length];have:=count_pos x;simp only [St.countAll];omega
  obtain ⟨nb,nc,rfl,hb0,hf,hl,hcell,-⟩:=owns_some16 ho hpos
  exact whole_any w0 w rb vb B vc nb nc iv _ is s (x::r) ⟨hr,⟨xs,hcell,hc⟩,hi,hlow,fun e=>hrB (by simp [Value.ownBlock,e]),by omega,hnB nb (by simp [Value.ownBlock]),hr0,hv,hs,hp⟩ hb hok
def RunEnd (w:World) (r:Ms × Option Nat) (e:Ending) (w':World):Prop :=
 match r.2 with
 | none=>∃ vb vc B pad pcap,e = .returned (.tuple #[.agg #[.slice (some ⟨vb,0,none⟩) 8 vc,.slice pad r.1.puts.length pcap,.int .i64 r.1.steps],.agg #[.int .i64 0,.int .i64 0]])∧VarBlk w' vb vc r.1.vars∧w'.ownsRow B 43 2 (.slice pad r.1.puts.length pcap) r.1.puts.length (putVs r.1.puts)∧w.heap.size≤vb∧vb<B∧Below w.heap.size w w'
 | some z=>e = .returned (.tuple #[.agg #[.slice none 0 0,.slice none 0 0,.int .i64 0],.agg #[.int .i64 11,.int .i64 z]])∧Below w.heap.size w w'
theorem RR.under {rb vb N:Nat} {w W w':World} {pv pv':Value} (h:RR rb vb W w' pv pv') (hb:Below N w W) (hN:N≤W.heap.size) (h1:N≤rb) (h2:N≤vb) (h3:∀ k,pv.ownBlock=some k→N≤k):Below N w w' :=
 ⟨h.os.trans hb.os,h.tape.trans hb.tape,h.output.trans hb.output,Nat.le_trans hb.size h.size,fun k hk=>(h.block k (by omega) (by omega) (by omega) (fun e=>by have:=h3 k e.symm;omega)).trans (hb.block k hk)⟩
theorem Kept2.rr {rb vb g:Nat} {W w':World} {pv pv' x y z c k:Value} (hk:Kept2 W g x y z c k) (h:RR rb vb W w' pv pv') (h1:g+1<rb) (h2:g+1<vb) (h3:pv.ownBlock=none):Kept2 w' g x y z c k:=by
 have l1:=(Array.getElem?_eq_some_iff.1 hk.1).1
 have l2:=(Array.getElem?_eq_some_iff.1 hk.2).1
 exact ⟨(h.block g l1 (by omega) (by omega) (by rw [h3];simp)).trans hk.1,(h.block (g+1) l2 (by omega) (by omega) (by rw [h3];simp)).trans hk.2⟩
theorem below_gr {w w':World} {n c:Nat} {v':Value} (h:GR w w' (.slice none n c) v'):Below w.heap.size w w' :=
 ⟨h.os,h.tape,h.output,h.size,fun k hk=>h.block k hk (by simp [Value.ownBlock])⟩
theorem Rn.aside5 {w:World} {rb vb B vc g:Nat} {T:TypeId} {iv x4 pv:Value} {s:Ms} (h:Rn w rb vb B vc T iv x4 pv s) (h1:g+1<rb) (h2:g+1<vb) (x y z c k:Value):Rn (((((w.setCell ⟨g,0,none⟩ x).setCell ⟨g,1,none⟩ y).setCell ⟨g,2,none⟩ z).setCell ⟨g+1,0,none⟩ c).setCell ⟨g+1,1,none⟩ k) rb vb B vc T iv x4 pv s:=by
 have hB:=h.ltr
 have ho:∀ j,j≤g+1→pv.ownBlock≠some j:=fun j hj e=>by have:=(h.own_lt j e).1;omega
 exact (((((h.aside (a:=⟨g,0,none⟩) (by show rb≠g;omega) (by show vb≠g;omega) (ho _ (by show g≤g+1;omega)) x).aside (a:=⟨g,1,none⟩) (by show rb≠g;omega) (by show vb≠g;omega) (ho _ (by show g≤g+1;omega)) y).aside (a:=⟨g,2,none⟩) (by show rb≠g;omega) (by show vb≠g;omega) (ho _ (by show g≤g+1;omega)) z).aside (a:=⟨g+1,0,none⟩) (by show rb≠g+1;omega) (by show vb≠g+1;omega) (ho _ (by show g+1≤g+1;omega)) c).aside (a:=⟨g+1,1,none⟩) (by show rb≠g+1;omega) (by show vb≠g+1;omega) (ho _ (by show g+1≤g+1;omega)) k)
theorem run_mid (w w3 w4 w5:World) (iv:Value) (a:List St) (vs is:List Int) (vb vc ncap:Nat) (nad:Option Addr) (xs:List Value) (hi:InsIs w iv is) (hb:St.bulkAll a≤1048576) (hok:St.OkAll a)
  (h3:Below w.heap.size w w3) (h4:Below w3.heap.size w3 w4) (hv4:VarBlk w4 vb vc vs) (hvb:w3.heap.size≤vb)
  (ho:w5.ownsRow w4.heap.size 177 16 (.slice nad (St.numAll a 0).length ncap) (St.numAll a 0).length xs) (hc:Nd.Cells w (St.numAll a 0) xs) (hg:Below w4.heap.size w4 w5) :
  Calls Tryd.prog 74 #[.pointer (some ⟨w5.heap.size,0,none⟩)] (w5.alloc (.cells #[.slice (some ⟨vb,0,none⟩) 8 vc,.slice none 0 0,.int .i64 0,iv,.slice nad (St.numAll a 0).length ncap] 139)) (WholePost w5.heap.size vb (w5.heap.size+1) vc iv (.slice nad (St.numAll a 0).length ncap) (w5.alloc (.cells #[.slice (some ⟨vb,0,none⟩) 8 vc,.slice none 0 0,.int .i64 0,iv,.slice nad (St.numAll a 0).length ncap] 139)) (.slice none 0 0) (St.runAll is a 0 ⟨vs,[],0⟩)):=by
 obtain ⟨hl,cs,g1,g2,g3⟩:=hv4
 have lv:vb<w4.heap.size:=(Array.getElem?_eq_some_iff.1 g1).1
 have s3:=h3.size
 have s4:=h4.size
 have s5:=hg.size
 have hal:Below w5.heap.size w5 (w5.alloc (.cells #[.slice (some ⟨vb,0,none⟩) 8 vc,.slice none 0 0,.int .i64 0,iv,.slice nad (St.numAll a 0).length ncap] 139)):=(Below.refl _ _).alloc (Nat.le_refl _) _
 refine whole_all w _ w5.heap.size vb (w5.heap.size+1) vc w4.heap.size iv _ is ⟨vs,[],0⟩ a xs ⟨heap_alloc_new w5 _,⟨hl,cs,((below_seq hg hal).block vb lv).trans g1,g2,g3⟩,⟨by simp [putVs],.inl ⟨rfl,rfl⟩⟩,by omega,by omega,by omega,by simp⟩ (ownsRow_below ho hal) hc hi (h3.trans ((below_seq h4 (below_seq hg hal)).mono s3)) (by omega) lv ?_ (by omega) ?_ (Nat.zero_le _) (Nat.le_refl _) hb hok
 ·intro e;have:=(ho.lt _ e).2;omega
 ·intro k e;have:=(ho.lt _ e).2;omega
set_option maxRecDepth 20000 in
set_option maxHeartbeats 4000000 in
theorem Run_good (w:World) (v iv:Value) (a:List St) (b o c:Nat) (ia:Option Addr) (ic:Nat) (vs is:List Int) (s3:Ms) (hiv:iv = .slice ia 4 ic) (hl:vs.length=8) (hv:∀ j,j<8→w.cell? ⟨b,o+j,none⟩=some (.int .i64 (vs.getD j 0))) (hi:InsIs w iv is) (hsl:St.Sl w a v) (hb:St.bulkAll a≤1048576) (hok:St.OkAll a)
  (hC:∀ W,Below w.heap.size w W→Calls Tryd.prog 59 #[v] W fun r w'=>r = .returned (.agg #[.int .i64 0,.int .i64 0])∧Below W.heap.size W w') (hz:St.runAll is a 0 ⟨vs,[],0⟩=(s3,none)) :
  Calls Tryd.prog 39 #[v,.slice (some ⟨b,o,none⟩) 8 c,iv] w (RunEnd w (s3,none)):=by
 have HC:Hid (∀ W,Below w.heap.size w W→Calls Tryd.prog 59 #[v] W fun r w'=>r = .returned (.agg #[.int .i64 0,.int .i64 0])∧Below W.heap.size W w'):=hC
 have HI:Hid (InsIs w iv is∧St.Sl w a v∧St.OkAll a∧(∀ j,j<8→w.cell? ⟨b,o+j,none⟩=some (.int .i64 (vs.getD j 0)))∧vs.length=8):=⟨hi,hsl,hok,hv,hl⟩
 have HZ:Hid (St.runAll is a 0 ⟨vs,[],0⟩=(s3,none)):=hz
 clear hC hi hsl hok hv hl hz
 subst hiv
 go_enter Tryd.func39,Tryd.ntmps39
 go_wp2_with (go_at_call 59;refine (HC.out _ (((Below.refl _ w).alloc (Nat.le_refl _) _).alloc (by simp) _)).mono ?_;rintro r w3 ⟨rfl,hb3⟩;have HB:Hid (Kept2 w3 w.heap.size (.slice none 0 0) (.slice none 0 0) (.int .i64 0) (.int .i64 0) (.int .i64 0)∧Below w.heap.size w w3):=⟨(Kept2.made w _ _ _ _ _).below hb3,below_seq (((Below.refl _ w).alloc (Nat.le_refl _) _).alloc (by simp) _) hb3⟩;clear hb3)
 have HB':Hid (Kept2 (w3.alloc (.cells #[.int .i64 0,.int .i64 0] 30)) w.heap.size (.slice none 0 0) (.slice none 0 0) (.int .i64 0) (.int .i64 0) (.int .i64 0)∧Below w.heap.size w (w3.alloc (.cells #[.int .i64 0,.int .i64 0] 30))):=⟨HB.out.1.alloc _,HB.out.2.alloc HB.out.2.size _⟩
 have hs1:w.heap.size+1<w3.heap.size:=(Array.getElem?_eq_some_iff.1 HB.out.1.2).1
 clear HB
 go_wp2_with (go_at_call 72;refine (clone_any _ b o c vs HI.out.2.2.2.2 (fun j hj=>below_cell HB'.out.2 (HI.out.2.2.2.1 j hj))).mono ?_;rintro r w4 ⟨vb,vc,rfl,⟨hvb,hle⟩,hb4⟩;have H4:Hid (VarBlk w4 vb vc vs∧(w3.alloc (.cells #[.int .i64 0,.int .i64 0] 30)).heap.size≤vb∧Below (w3.alloc (.cells #[.int .i64 0,.int .i64 0] 30)).heap.size (w3.alloc (.cells #[.int .i64 0,.int .i64 0] 30)) w4):=⟨hvb,hle,hb4⟩;clear hvb hle hb4)
 have hs2:w.heap.size≤w4.heap.size:=Nat.le_trans HB'.out.2.size H4.out.2.2.size
 go_wp2_with (go_at_call 73;refine (number_any w w4.heap.size (St.bulkAll a+1) (by omega) a w4 (.slice none 0 0) v [] [] (Nat.lt_succ_self _) (by simp;omega) (HB'.out.2.trans (H4.out.2.2.mono HB'.out.2.size)) hs2 (Nat.le_refl _) HI.out.2.1 ⟨rfl,.inl ⟨rfl,rfl⟩⟩ rfl).mono ?_;rintro r w5 ⟨nv,xs,rfl,ho5,hc5,hg5⟩;obtain ⟨nad,ncap,rfl⟩:=owns_value ho5;have H5:Hid (w5.ownsRow w4.heap.size 177 16 (.slice nad (St.numAll a 0).length ncap) (St.numAll a 0).length xs∧Nd.Cells w (St.numAll a 0) xs∧Below w4.heap.size w4 w5):=⟨ho5,hc5,below_gr hg5⟩;clear ho5 hc5 hg5)
 have HW:Hid (Calls Tryd.prog 74 #[.pointer (some ⟨w5.heap.size,0,none⟩)] (w5.alloc (.cells #[.slice (some ⟨vb,0,none⟩) 8 vc,.slice none 0 0,.int .i64 0,.slice ia 4 ic,.slice nad (St.numAll a 0).length ncap] 139)) (WholePost w5.heap.size vb (w5.heap.size+1) vc (.slice ia 4 ic) (.slice nad (St.numAll a 0).length ncap) (w5.alloc (.cells #[.slice (some ⟨vb,0,none⟩) 8 vc,.slice none 0 0,.int .i64 0,.slice ia 4 ic,.slice nad (St.numAll a 0).length ncap] 139)) (.slice none 0 0) (St.runAll is a 0 ⟨vs,[],0⟩))):=run_mid w _ w4 w5 _ a vs is vb vc ncap nad xs HI.out.1 hb HI.out.2.2.1 HB'.out.2 H4.out.2.2 H4.out.1 H4.out.2.1 H5.out.1 H5.out.2.1 H5.out.2.2
 have HB5:Hid (Kept2 (w5.alloc (.cells #[.slice (some ⟨vb,0,none⟩) 8 vc,.slice none 0 0,.int .i64 0,.slice ia 4 ic,.slice nad (St.numAll a 0).length ncap] 139)) w.heap.size (.slice none 0 0) (.slice none 0 0) (.int .i64 0) (.int .i64 0) (.int .i64 0)∧Below w.heap.size w (w5.alloc (.cells #[.slice (some ⟨vb,0,none⟩) 8 vc,.slice none 0 0,.int .i64 0,.slice ia 4 ic,.slice nad (St.numAll a 0).length ncap] 139))):=⟨((HB'.out.1.below H4.out.2.2).below H5.out.2.2).alloc _,((HB'.out.2.trans (H4.out.2.2.mono HB'.out.2.size)).trans (H5.out.2.2.mono hs2)).alloc (Nat.le_trans hs2 H5.out.2.2.size) _⟩
 have hs5:w.heap.size+1<vb:=by have:=H4.out.2.1;simp at this;omega
 have hs6:w.heap.size+1<w5.heap.size:=by have h1:=H5.out.2.2.size;have h2:=H4.out.2.2.size;simp at h2;omega
 clear HB' H4 H5 hs1 hs2
 go_wp2_with (go_at_call 74;refine HW.out.mono ?_;intro r w6 hpost;unfold WholePost at hpost;rw [HZ.out] at hpost;obtain ⟨rfl,pv6,hk6,hr6⟩:=hpost;obtain ⟨pad,pcap,rfl⟩:=owns_value hk6.puts;have HB6:Hid (Kept2 w6 w.heap.size (.slice none 0 0) (.slice none 0 0) (.int .i64 0) (.int .i64 0) (.int .i64 0)∧Below w.heap.size w w6):=⟨HB5.out.1.rr hr6 hs6 hs5 rfl,hr6.under HB5.out.2 HB5.out.2.size (by omega) (by omega) (by simp [Value.ownBlock])⟩;obtain ⟨c1,f1,l1⟩:=cells_of (l:=[_,_,_]) HB6.out.1.1;obtain ⟨c2,f2,l2⟩:=cells_of (l:=[_,_]) HB6.out.1.2;have c10:=c1 0 _ rfl;have c11:=c1 1 _ rfl;have c12:=c1 2 _ rfl;have c20:=c2 0 _ rfl;have c21:=c2 1 _ rfl;clear c1 c2;obtain ⟨r0,r1,r2,-,-,rf,rl⟩:=hk6.cells;have H6:Hid _:=hk6;clear hk6 hr6)
 have hrn:=(H6.out.aside5 hs6 hs5 (.slice (some ⟨vb,0,none⟩) 8 vc) (.slice pad s3.puts.length pcap) (.int .i64 s3.steps) (.int .i64 0) (.int .i64 0)).below ((Below.refl _ _).alloc (Nat.le_refl _) (.cells #[.int .i64 0,.int .i64 0] 30))
 exact bodyPost_ret (v:=.tuple #[.agg #[.slice (some ⟨vb,0,none⟩) 8 vc,.slice pad s3.puts.length pcap,.int .i64 s3.steps],.agg #[.int .i64 0,.int .i64 0]]) (Run_ends ((HB6.out.1.put _ _ _ _ _).alloc _) rfl rfl) rfl ⟨vb,vc,_,pad,pcap,rfl,hrn.vars,hrn.puts,by omega,hrn.ltv,((((((HB6.out.2.setCell (Nat.le_refl _) _).setCell (Nat.le_refl _) _).setCell (Nat.le_refl _) _).setCell (Nat.le_succ _) _).setCell (Nat.le_succ _) _).alloc (by simp;omega) _)⟩
end Go.Proofs.YtnkgbkkakokciacDoor.B
