import Derived.Test.YtnkgbkkakokciacDoorGBStepD
import Derived.Defers
import Derived.Recover
namespace Go.Proofs.YtnkgbkkakokciacDoor.B
open Go.ChangeShapes Go.WideShapes Go.ChangeAt Go.RowKit
theorem run_assert85 (z:Int) (W:World):(Instr.typeAssert (.iface 179 (.int .i64 z)) 20 179 true).run Tryd.prog W = .ok (.tuple #[.int .i64 z,.bool true]) W:=by
 have:=run_underlying (w:=W) Tryd.underlying179
 simp [Instr.typeAssert,this,Result.andThen]
set_option maxRecDepth 20000 in
set_option maxHeartbeats 2000000 in
theorem catch_idle (p:Addr) (w:World) :
  CallsD Tryd.prog 107 #[.pointer (some p)] .returning w fun e u' w'=>e = .returned (.tuple #[])∧u' = .returning∧w'=w:=by
 refine callsD_of_wpS Tryd.func107 rfl fun c₀ cs hu=>?_
 apply wpS_seq
 apply wpS_region
 simp [wpOpsS,go_sem,recoverD,hu,Tryd.ntmps107,Exit.thenS]
 refine wpS_of_wp ?_
 go_wp2_with fail
 cases c₀
 simp_all [bodyPostS,results,Tryd.results107]
set_option maxRecDepth 20000 in
set_option maxHeartbeats 2000000 in
theorem catch_thrown (g:Nat) (z:Int) (older:List PanicEntry) (w:World) (h0:w.cell? ⟨g,0,none⟩=some (.int .i64 0)) (h1:w.cell? ⟨g,1,none⟩=some (.int .i64 0)) (hf:∀ j,w.frozen? ⟨g,j,none⟩=false) :
  CallsD Tryd.prog 107 #[.pointer (some ⟨g,0,none⟩)] (.panicking ({ v:=.iface 179 (.int .i64 z),recovered:=false } :: older)) w fun e u' w' =>
   e = .returned (.tuple #[])∧u' = .panicking ({ v:=.iface 179 (.int .i64 z),recovered:=true } :: older)∧w'=(w.setCell ⟨g,0,none⟩ (.int .i64 11)).setCell ⟨g,1,none⟩ (.int .i64 z):=by
 have hta:=run_assert85 z
 refine callsD_of_wpS Tryd.func107 rfl fun c₀ cs hu=>?_
 apply wpS_seq
 apply wpS_region
 simp [wpOpsS,go_sem,recoverD,hu,Tryd.ntmps107,Exit.thenS]
 refine wpS_of_wp ?_
 rw [show (#[Value.pointer (some ⟨g,0,none⟩)]++((Array.replicate 16 undef).setIfInBounds 3 (Value.iface 179 (Value.int IntKind.i64 z))).setIfInBounds 0 (Value.iface 179 (Value.int IntKind.i64 z)):Array Value)=#[Value.pointer (some ⟨g,0,none⟩),Value.iface 179 (Value.int IntKind.i64 z),undef,undef,Value.iface 179 (Value.int IntKind.i64 z),undef,undef,undef,undef,undef,undef,undef,undef,undef,undef,undef,undef] from rfl]
 go_wp2_with fail
 simp [bodyPostS,results,Tryd.results107]
theorem RR.aside {rb vb:Nat} {w w3:World} {pv pv3:Value} (h:RR rb vb w w3 pv pv3) {a:Addr} (ha:w.heap.size≤a.block) (u:Value):RR rb vb w (w3.setCell a u) pv pv3 :=
 ⟨h.os,h.tape,h.output,by rw [set_size];exact h.size,fun k hk h1 h2 h3=>(Below.heap_setCell _ _ _ _ (by omega)).trans (h.block k hk h1 h2 h3),h.own⟩
theorem Rn.aside {w:World} {rb vb B vc:Nat} {T:TypeId} {iv x4 pv:Value} {s:Ms} (h:Rn w rb vb B vc T iv x4 pv s) {a:Addr} (h1:rb≠a.block) (h2:vb≠a.block) (h3:pv.ownBlock≠some a.block) (u:Value):Rn (w.setCell a u) rb vb B vc T iv x4 pv s:=by
 obtain ⟨hl,cs,g1,g2,g3⟩:=h.vars
 refine ⟨(Below.heap_setCell _ _ _ _ h1).trans h.blk,⟨hl,cs,(Below.heap_setCell _ _ _ _ h2).trans g1,g2,g3⟩,?_,h.ltr,h.ltv,h.ne,by rw [set_size];exact h.le⟩
 refine h.puts.kept (row:=some a.block) ⟨rfl,rfl,rfl,by rw [set_size];exact Nat.le_refl _,fun k _ hk=>Below.heap_setCell _ _ _ _ (fun e=>hk (by rw [e]))⟩ ?_
 exact .inr h3
def WholePost (rb vb B vc:Nat) (iv nv:Value) (w:World) (pv:Value) (r:Ms × Option Nat) (e:Ending) (w':World):Prop :=
 match r.2 with
 | none=>e = .returned (.agg #[.int .i64 0,.int .i64 0])∧∃ pv',Rn w' rb vb B vc 139 iv nv pv' r.1∧RR rb vb w w' pv pv'
 | some z=>e = .returned (.agg #[.int .i64 11,.int .i64 z])∧∃ pv',RR rb vb w w' pv pv'
set_option maxRecDepth 20000 in
set_option maxHeartbeats 4000000 in
theorem whole_any (w0 w:World) (rb vb B vc nb nc:Nat) (iv pv:Value) (is:List Int) (s:Ms) (a:List St) (hh:Here w0 w rb vb B vc nb nc iv pv (St.numAll a 0) is s) (hb:St.bulkAll a≤1048576) (hok:St.OkAll a) :
  Calls Tryd.prog 74 #[.pointer (some ⟨rb,0,none⟩)] w (WholePost rb vb B vc iv (.slice (some ⟨nb,0,none⟩) (St.numAll a 0).length nc) w pv (St.runAll is a 0 s)):=by
 have hll:(St.numAll a 0).length=0+St.countAll a:=by rw [St.numAll_length];omega
 have hcl:=St.countAll_le a
 have HL:Hid (∀ W,Here w0 W rb vb B vc nb nc iv pv (St.numAll a 0) is s→Calls Tryd.prog 108 #[.pointer (some ⟨rb,0,none⟩),.int .i64 0,.int .i64 ((St.numAll a 0).length:Nat)] W (RunPost rb vb B vc iv (.slice (some ⟨nb,0,none⟩) (St.numAll a 0).length nc) W pv (St.runAll is a 0 s))):=by
  intro W hW
  have:=run_all w0 rb vb B vc nb nc iv (St.numAll a 0) is (by omega) 1048576 (Nat.le_refl _) a W pv s 0 hb hok ⟨[],[],by simp,rfl⟩ hW
  rw [← hll] at this
  exact this
 obtain ⟨r0,r1,r2,r3,r4,rf,rl⟩:=hh.rn.cells
 have hmf:∀ (fn:Fn) (first cap:Array Value) (w:World),(Instr.makeFunc fn first cap).run Tryd.prog w = .ok (.func fn first cap) w:=fun _ _ _ _=>rfl
 have HA:Hid (Below w.heap.size w (w.alloc (.cells #[.int .i64 0,.int .i64 0] 30))):=(Below.refl _ _).alloc (Nat.le_refl _) _
 have HH:Hid (Here w0 (w.alloc (.cells #[.int .i64 0,.int .i64 0] 30)) rb vb B vc nb nc iv pv (St.numAll a 0) is s):=hh.below HA.out hh.nl
 have HQ:Hid ((w.alloc (.cells #[.int .i64 0,.int .i64 0] 30)).heap[w.heap.size]?=some (.cells #[.int .i64 0,.int .i64 0] 30 (0,0))∧w.heap.size≠rb∧w.heap.size≠vb∧some w.heap.size≠pv.ownBlock):=⟨heap_alloc_new w _,by omega,by have:=hh.rn.vcells.2.2;omega,fun e=>by have:=(hh.rn.own_lt _ e.symm).2;omega⟩
 clear hh hll hcl
 generalize (St.numAll a 0).length=len at *
 rcases hz:St.runAll is a 0 s with ⟨s3,_ | z⟩
 ·have HZ:Hid (_=_):=hz
  go_enter_defers Tryd.func74,Tryd.ntmps74
  go_wp2_with (go_at_call 108;refine (HL.out _ HH.out).mono ?_;intro r w3 hpost;unfold RunPost at hpost;rw [HZ.out] at hpost;obtain ⟨rfl,pv3,hk3,hr3⟩:=hpost;have hb3:=(hr3.block w.heap.size (by simp) HQ.out.2.1 HQ.out.2.2.1 HQ.out.2.2.2).trans HQ.out.1;have p0:w3.cell? ⟨w.heap.size,0,none⟩=some (.int .i64 0):=(by unfold World.cell?;rw [hb3];rfl);have p1:w3.cell? ⟨w.heap.size,1,none⟩=some (.int .i64 0):=(by unfold World.cell?;rw [hb3];rfl);have pf:∀ j,w3.frozen? ⟨w.heap.size,j,none⟩=false:=(by intro j;unfold World.frozen?;rw [hb3];simp);have H3:Hid (_∧_):=⟨hk3,hr3⟩;clear hk3 hr3 hb3)
  refine leaves_cons (f:=107) (args:=#[.pointer (some ⟨w.heap.size,0,none⟩)]) (by simp) (by simp [go_sem]) ?_
  refine (catch_idle ⟨w.heap.size,0,none⟩ _).mono ?_
  rintro e u' w'' ⟨rfl,rfl,rfl⟩
  have hq3:some w.heap.size≠pv3.ownBlock:=by
   intro e
   rcases H3.out.2.own with ho | ho
   ·exact HQ.out.2.2.2 (e.trans ho)
   ·have h1:=ho _ e.symm
    have h2:(w.alloc (.cells #[.int .i64 0,.int .i64 0] 30)).heap.size=w.heap.size+1:=by simp
    omega
  have hrn:=((H3.out.1.aside (a:=⟨w.heap.size,0,none⟩) (Ne.symm HQ.out.2.1) (Ne.symm HQ.out.2.2.1) (fun e=>hq3 e.symm) (.int .i64 0)).aside (a:=⟨w.heap.size,1,none⟩) (Ne.symm HQ.out.2.1) (Ne.symm HQ.out.2.2.1) (fun e=>hq3 e.symm) (.int .i64 0))
  have hrr:=((((RR.of_below HA.out).trans H3.out.2).aside (a:=⟨w.heap.size,0,none⟩) (Nat.le_refl _) (.int .i64 0)).aside (a:=⟨w.heap.size,1,none⟩) (Nat.le_refl _) (.int .i64 0))
  simp [Leaves,settle,results,Tryd.results74,go_sem,p0,p1]
  exact ⟨rfl,pv3,hrn,hrr⟩
 ·have HZ:Hid (_=_):=hz
  go_enter_defers Tryd.func74,Tryd.ntmps74
  go_wp2_with (go_at_call 108;refine (HL.out _ HH.out).mono ?_;intro r w3 hpost;unfold RunPost at hpost;rw [HZ.out] at hpost;obtain ⟨rfl,pv3,hr3⟩:=hpost;have hb3:=(hr3.block w.heap.size (by simp) HQ.out.2.1 HQ.out.2.2.1 HQ.out.2.2.2).trans HQ.out.1;have p0:w3.cell? ⟨w.heap.size,0,none⟩=some (.int .i64 0):=(by unfold World.cell?;rw [hb3];rfl);have p1:w3.cell? ⟨w.heap.size,1,none⟩=some (.int .i64 0):=(by unfold World.cell?;rw [hb3];rfl);have pf:∀ j,w3.frozen? ⟨w.heap.size,j,none⟩=false:=(by intro j;unfold World.frozen?;rw [hb3];simp);have H3:Hid _:=hr3;clear hr3 hb3)
  refine leaves_cons (f:=107) (args:=#[.pointer (some ⟨w.heap.size,0,none⟩)]) (by simp) (by simp [go_sem]) ?_
  refine (catch_thrown w.heap.size z [] _ p0 p1 pf).mono ?_
  rintro e u' w'' ⟨rfl,rfl,rfl⟩
  have hrr:=((((RR.of_below HA.out).trans H3.out).aside (a:=⟨w.heap.size,0,none⟩) (Nat.le_refl _) (.int .i64 11)).aside (a:=⟨w.heap.size,1,none⟩) (Nat.le_refl _) (.int .i64 z))
  simp [Leaves,settle,results,Tryd.results74,go_sem,p0,p1]
  exact ⟨rfl,pv3,hrr⟩
end Go.Proofs.YtnkgbkkakokciacDoor.B
