import Derived.Test.YtnkgbkkakokciacDoorGBWhole
import Derived.Lib.SliceRun
import Derived.Shelf.RegionOpenPlain
import Derived.Test.YtnkgbkkakokciacDoorGBStmtR1
import Derived.Test.YtnkgbkkakokciacDoorGBStmtR2
import Derived.Test.YtnkgbkkakokciacDoorGBStmtR3
import Derived.Test.YtnkgbkkakokciacDoorGBStmtR4
import Derived.Test.YtnkgbkkakokciacDoorGBStmtR5
import Derived.Test.YtnkgbkkakokciacDoorGBStmtR6
import Derived.Test.YtnkgbkkakokciacDoorGAny
import Derived.Test.YtnkgbkkakokciacDoorGBStepA
namespace Go.Proofs.YtnkgbkkakokciacDoor.B
open Go.ChangeShapes Go.WideShapes Go.ChangeAt Go.RowKit
theorem VarBlk.of_owns {w:World} {B:Nat} {v:Value} {vs:List Int} (h:w.ownsRow B 3 1 v 8 (intVs vs)) (hl:vs.length=8):∃ vb vc,v = .slice (some ⟨vb,0,none⟩) 8 vc∧VarBlk w vb vc vs∧B≤vb:=by
 rcases h.2 with ⟨_,h0⟩ | ⟨g,cap,cur,rfl,hb,hh,hnc,hcm,hcs,htk⟩
 ·omega
 refine ⟨g,cap,rfl,⟨hl,cur,hh,by omega,fun j hj=>?_⟩,hb⟩
 have e:(cur.toList.take (8*1))[j]?=(intVs vs)[j]?:=by rw [htk]
 rw [List.getElem?_take_of_lt (by omega)] at e
 have e2:cur[j]?=cur.toList[j]?:=by simp
 rw [e2,e]
 have:j<vs.length:=by omega
 simp [intVs,List.getD,this]
set_option maxRecDepth 20000 in
set_option maxHeartbeats 2000000 in
theorem clone_any (w:World) (b o c:Nat) (vs:List Int) (hl:vs.length=8) (hv:∀ j,j<8→w.cell? ⟨b,o+j,none⟩=some (.int .i64 (vs.getD j 0))) :
  Calls Tryd.prog 72 #[.slice (some ⟨b,o,none⟩) 8 c] w fun r w'=>∃ vb vc,r = .returned (.slice (some ⟨vb,0,none⟩) 8 vc)∧(VarBlk w' vb vc vs∧w.heap.size≤vb)∧Below w.heap.size w w':=by
 obtain ⟨i0,hi0,hz0,hz1,hz2⟩:=info_parts info3
 have q22:∀ (w:World) (a:Option Addr) (n c n' c':Nat),(binOp .eql 23 (.slice a n c) (.slice none n' c')).run Tryd.prog w = .ok (.bool a.isNone) w:=fun w a n c n' c'=>Lib.run_eql_slice_nil w _ _ a n c n' c' Tryd.underlying23
 have HV:Hid ((∀ j,j<8→w.cell? ⟨b,o+j,none⟩=some (.int .i64 (vs.getD j 0)))∧vs.length=8):=⟨hv,hl⟩
 clear hv hl
 go_enter Tryd.func72,Tryd.ntmps72
 go_wp2_with (at_builtin;(refine append_mine _ rfl (.tmp 5) (.tmp 6) 23 rfl w.heap.size 3 i0 _ 1 8 Tryd.underlying23 hi0 hz0 hz1 hz2 rfl (by decide) (.slice (some ⟨w.heap.size,0,none⟩) 0 0) 0 [] rfl (World.ownsRow_made w #[] 0 (Nat.le_refl _) (Nat.zero_le _) rfl) ⟨b,o,none⟩ 8 c (intVs vs) rfl ?ql ?qc ?q1 (by decide) (by decide) (by decide) (by simp) ?_))
 case ql=>have:=HV.out.2;simpa [intVs] using this
 case q1=>intro u hu;obtain ⟨x,_,rfl⟩:=List.mem_map.1 hu;rfl
 case qc =>
  intro j u hj
  have hjl:j<vs.length:=by have:=(List.getElem?_eq_some_iff.1 hj).1;simpa [intVs] using this
  rw [Addr.add_lit]
  refine Lib.cell?_alloc_some _ ?_
  rw [HV.out.1 j (by have:=HV.out.2;omega)]
  have e:(intVs vs)[j]?=some (Value.int .i64 (vs.getD j 0)):=by simp [intVs,List.getD,hjl]
  rw [e] at hj
  exact hj
 intro v3 w3 hown3 hg3 hv3
 have H3:Hid (w3.ownsRow w.heap.size 3 1 v3 8 (intVs vs)∧Below w.heap.size w w3):=⟨by simpa using hown3,((Below.refl _ w).alloc (Nat.le_refl _) _).grown hg3 (by simp) (by intro k hk;simp [Value.ownBlock] at hk;omega)⟩
 clear hown3 hg3 hv3
 go_wp2
 go_ret
 obtain ⟨vb,vc,rfl,hb,hle⟩:=VarBlk.of_owns H3.out.1 HV.out.2
 exact ⟨vb,vc,rfl,⟨hb,hle⟩,H3.out.2⟩
set_option maxRecDepth 20000 in
set_option maxHeartbeats 4000000 in
theorem list_nil (w:World) (p:Addr) :
  Calls Tryd.prog 108 #[.pointer (some p),.int .i64 0,.int .i64 0] w fun r w'=>r = .returned (.tuple #[])∧w'=w:=by
 go_enter Tryd.func108,Tryd.ntmps108
 go_wp2_with fail
 go_loopw [6] (fun x wr=>x = .int .i64 0∧wr=w) (fun x _=>0)
 case atStart=>exact ⟨rfl,rfl⟩
 case round =>
  obtain ⟨rfl,rfl⟩:=hrel
  go_wp2_with fail
  go_end0
  exact ⟨rfl,rfl⟩
set_option maxRecDepth 20000 in
set_option maxHeartbeats 4000000 in
theorem whole_nil (w:World) (rb vb B vc:Nat) (iv pv:Value) (s:Ms) (ad:Option Addr) (cap:Nat) (hr:Rn w rb vb B vc 139 iv (.slice ad 0 cap) pv s) :
  Calls Tryd.prog 74 #[.pointer (some ⟨rb,0,none⟩)] w (WholePost rb vb B vc iv (.slice ad 0 cap) w pv (s,none)):=by
 obtain ⟨r0,r1,r2,r3,r4,rf,rl⟩:=hr.cells
 have hmf:∀ (fn:Fn) (first cap:Array Value) (w:World),(Instr.makeFunc fn first cap).run Tryd.prog w = .ok (.func fn first cap) w:=fun _ _ _ _=>rfl
 have HQ:Hid ((w.alloc (.cells #[.int .i64 0,.int .i64 0] 30)).heap[w.heap.size]?=some (.cells #[.int .i64 0,.int .i64 0] 30 (0,0))∧Rn (w.alloc (.cells #[.int .i64 0,.int .i64 0] 30)) rb vb B vc 139 iv (.slice ad 0 cap) pv s∧RR rb vb w (w.alloc (.cells #[.int .i64 0,.int .i64 0] 30)) pv pv∧(w.heap.size≠rb∧w.heap.size≠vb∧some w.heap.size≠pv.ownBlock)) :=
  ⟨heap_alloc_new w _,hr.below ((Below.refl _ _).alloc (Nat.le_refl _) _),RR.of_below ((Below.refl _ _).alloc (Nat.le_refl _) _),by omega,by have:=hr.vcells.2.2;omega,fun e=>by have:=(hr.own_lt _ e.symm).2;omega⟩
 clear hr
 go_enter_defers Tryd.func74,Tryd.ntmps74
 go_wp2_with (go_at_call 108;refine (list_nil _ ⟨rb,0,none⟩).mono ?_;rintro r w3 ⟨rfl,rfl⟩;have p0:(w.alloc (.cells #[.int .i64 0,.int .i64 0] 30)).cell? ⟨w.heap.size,0,none⟩=some (.int .i64 0):=(by unfold World.cell?;rw [HQ.out.1];rfl);have p1:(w.alloc (.cells #[.int .i64 0,.int .i64 0] 30)).cell? ⟨w.heap.size,1,none⟩=some (.int .i64 0):=(by unfold World.cell?;rw [HQ.out.1];rfl);have pf:∀ j,(w.alloc (.cells #[.int .i64 0,.int .i64 0] 30)).frozen? ⟨w.heap.size,j,none⟩=false:=(by intro j;unfold World.frozen?;rw [HQ.out.1];simp))
 refine leaves_cons (f:=107) (args:=#[.pointer (some ⟨w.heap.size,0,none⟩)]) (by simp) (by simp [go_sem]) ?_
 refine (catch_idle ⟨w.heap.size,0,none⟩ _).mono ?_
 rintro e u' w'' ⟨rfl,rfl,rfl⟩
 simp [Leaves,settle,results,Tryd.results74,go_sem,p0,p1]
 exact ⟨rfl,pv,HQ.out.2.1,HQ.out.2.2.1⟩
set_option maxHeartbeats 1000000 in
theorem stmt_of_list (w0:World) (hr:Ready w0) (N:Nat) (hN:N≤1048576) (hL:ListOk w0 N):StmtOk w0 (N+1):=by
 intro s w wb B i v sv ar hb hwb hB0 hin hwk hi1 hi2 har
 have h0s:2<w0.heap.size:=World.block_lt_of_cell? _ _ (hr.1 1 (by omega) (by omega)).1
 obtain ⟨k,n,e,ck,ca,cb,b,l⟩:=s
 unfold St.In at hin
 obtain ⟨e0,e1,e2,a0,a1,a2,b0,b1,b2,sb,sl,rfl,he,hca,hcb,⟨yad,yc,rfl,hy⟩,⟨lad,lc,rfl,hl⟩⟩:=hin
 have hy':St.Sl w0 b (.slice yad b.length yc):=⟨yad,yc,rfl,hy⟩
 have hl':St.Sl w0 l (.slice lad l.length lc):=⟨lad,lc,rfl,hl⟩
 clear hy hl
 simp only [St.bulk] at hb hi2 har
 obtain ⟨ek,en,ea⟩:=e
 obtain ⟨ak,an,aa⟩:=ca
 obtain ⟨bk,bn,ba⟩:=cb
 have he':=he
 have hca':=hca
 have hcb':=hcb
 unfold Ex.In at he' hca' hcb'
 obtain ⟨ead,ec,hve,-⟩:=he'
 obtain ⟨aad,ac,hva,-⟩:=hca'
 obtain ⟨bad,bc,hvb,-⟩:=hcb'
 simp at hve hva hvb
 obtain ⟨rfl,rfl,rfl⟩:=hve
 obtain ⟨rfl,rfl,rfl⟩:=hva
 obtain ⟨rfl,rfl,rfl⟩:=hvb
 by_cases hk:k<1∨8≤k
 ·rw [none_chk _ _ _ _ _ _ _ _ _ _ hk]
  exact stmt_none w wb B i v ar hwk hi1 (by omega) k n ek en ck ak an bk bn ead aad bad yad lad _ ec _ ac _ bc _ yc _ lc hk
 ·obtain ⟨m,rfl⟩:∃ m:Nat,k=m:=⟨k.toNat,by omega⟩
  obtain ⟨t0,t1,t2,t3,t4,t5⟩:=hr.1.below h0s hB0 m (by omega) (by omega)
  have hbk:(Ex.mk ek en ea).nodes+(Ex.mk ak an aa).nodes+(Ex.mk bk bn ba).nodes+St.bulkAll b+St.bulkAll l≤N:=by omega
  have hj2:i+1+(St.bulkAll b+St.bulkAll l:Nat)≤2097152:=by omega
  have hja:ar.length+1+(St.bulkAll b+St.bulkAll l)≤2097152:=by omega
  have look:=look_chk m n (.mk ek en ea) ck (.mk ak an aa) (.mk bk bn ba) b l ar i hk
  rw [← look]
  clear look
  by_cases hlo:lowN m≤n
  ·have eb0:decide (lowN m≤n∧n≤highN m)=decide (n≤highN m):=by simp [hlo]
   rw [eb0]
   cases hinn:innK m
   ·have hm6:m≠6:=by rintro rfl;simp [innK] at hinn
    have e6:decide ((m:Int)=6)=false:=decide_eq_false (by omega)
    rw [hinn] at t4
    rw [e6]
    simp only [Bool.not_false,Bool.true_or]
    exact stmt_r1 w0 N hN hL w wb B i v ar m n ek en ck ak an bk bn _ _ ead aad bad yad lad _ ec _ ac _ bc yc lc _ _ _ (.mk ek en ea) (.mk ak an aa) (.mk bk bn ba) b l hbk hwb (by omega) hB0 hr.2 he hca hcb hy' hl' hwk hi1 hj2 hja t0 t1 t2 t3 t4 t5 (by omega) (by omega) hm6 hlo
   ·rw [hinn] at t4
    by_cases hm6:m=6
    ·subst hm6
     have e6:decide (((6:Nat):Int)=6)=true:=by decide
     rw [e6]
     simp only [Bool.not_true,Bool.false_or]
     exact stmt_r5 w0 N hN hL w wb B i v ar n ek en ck ak an bk bn _ _ ead aad bad yad lad _ ec _ ac _ bc yc lc _ _ _ (.mk ek en ea) (.mk ak an aa) (.mk bk bn ba) b l hbk hwb (by omega) hB0 hr.2 he hca hcb hy' hl' hwk hi1 hj2 hja t0 t1 t2 t3 t4 t5 hlo
    ·have e6:decide ((m:Int)=6)=false:=decide_eq_false (by omega)
     rw [e6]
     simp only [Bool.not_true,Bool.false_or,Bool.not_false,Bool.true_or]
     exact stmt_r3 w0 N hN hL w wb B i v ar m n ek en ck ak an bk bn _ _ ead aad bad yad lad _ ec _ ac _ bc yc lc _ _ _ (.mk ek en ea) (.mk ak an aa) (.mk bk bn ba) b l hbk hwb (by omega) hB0 hr.2 he hca hcb hy' hl' hwk hi1 hj2 hja t0 t1 t2 t3 t4 t5 (by omega) (by omega) hm6 hlo
  ·have eb0:decide (lowN m≤n∧n≤highN m)=false:=by simp [hlo]
   rw [eb0]
   cases hinn:innK m
   ·have hm6:m≠6:=by rintro rfl;simp [innK] at hinn
    have e6:decide ((m:Int)=6)=false:=decide_eq_false (by omega)
    rw [hinn] at t4
    rw [e6]
    simp only [Bool.not_false,Bool.true_or]
    exact stmt_r2 w0 N hN hL w wb B i v ar m n ek en ck ak an bk bn _ _ ead aad bad yad lad _ ec _ ac _ bc yc lc _ _ _ (.mk ek en ea) (.mk ak an aa) (.mk bk bn ba) b l hbk hwb (by omega) hB0 hr.2 he hca hcb hy' hl' hwk hi1 hj2 hja t0 t1 t2 t3 t4 t5 (by omega) (by omega) hm6 hlo
   ·rw [hinn] at t4
    by_cases hm6:m=6
    ·subst hm6
     have e6:decide (((6:Nat):Int)=6)=true:=by decide
     rw [e6]
     simp only [Bool.not_true,Bool.false_or]
     exact stmt_r6 w0 N hN hL w wb B i v ar n ek en ck ak an bk bn _ _ ead aad bad yad lad _ ec _ ac _ bc yc lc _ _ _ (.mk ek en ea) (.mk ak an aa) (.mk bk bn ba) b l hbk hwb (by omega) hB0 hr.2 he hca hcb hy' hl' hwk hi1 hj2 hja t0 t1 t2 t3 t4 t5 hlo
    ·have e6:decide ((m:Int)=6)=false:=decide_eq_false (by omega)
     rw [e6]
     simp only [Bool.not_true,Bool.false_or,Bool.not_false,Bool.true_or]
     exact stmt_r4 w0 N hN hL w wb B i v ar m n ek en ck ak an bk bn _ _ ead aad bad yad lad _ ec _ ac _ bc yc lc _ _ _ (.mk ek en ea) (.mk ak an aa) (.mk bk bn ba) b l hbk hwb (by omega) hB0 hr.2 he hca hcb hy' hl' hwk hi1 hj2 hja t0 t1 t2 t3 t4 t5 (by omega) (by omega) hm6 hlo
theorem every_list (W:World) (hr:Ready W):ListOk W 1048576:=list_all W (fun N hN hL=>stmt_of_list W hr N hN hL) 1048576 (Nat.le_refl _)
end Go.Proofs.YtnkgbkkakokciacDoor.B
