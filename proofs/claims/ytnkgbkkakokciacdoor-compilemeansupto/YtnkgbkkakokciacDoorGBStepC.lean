import Derived.Test.YtnkgbkkakokciacDoorGBStepA
import Derived.Test.YtnkgbkkakokciacDoorGMOver
namespace Go.Proofs.YtnkgbkkakokciacDoor.B
open Go.ChangeShapes Go.WideShapes Go.ChangeAt Go.RowKit
theorem keepN4 {X Y:World} {q o:Nat} {x1 x2 x3 x4:Value} (hq:Y.heap[q]?=X.heap[q]?) (h:X.cell? ⟨q,o+1,none⟩=some x1∧X.cell? ⟨q,o+2,none⟩=some x2∧X.cell? ⟨q,o+3,none⟩=some x3∧X.cell? ⟨q,o+4,none⟩=some x4) :
  Y.cell? ⟨q,o+1,none⟩=some x1∧Y.cell? ⟨q,o+2,none⟩=some x2∧Y.cell? ⟨q,o+3,none⟩=some x3∧Y.cell? ⟨q,o+4,none⟩=some x4 :=
 ⟨(World.cell?_of_block hq).trans h.1,(World.cell?_of_block hq).trans h.2.1,(World.cell?_of_block hq).trans h.2.2.1,(World.cell?_of_block hq).trans h.2.2.2⟩
set_option maxRecDepth 20000 in
set_option maxHeartbeats 4000000 in
theorem step_2 (w0 w:World) (rb vb B vc nb nc:Nat) (iv pv:Value) (L:List Nd) (is:List Int) (s:Ms) (at_:Nat) (hh:Here w0 w rb vb B vc nb nc iv pv L is s) (hst:s.steps<20000) (hA:at_<L.length) (_:L.length≤2097152) (n ek en:Int) (ead:Option Addr) (em ec:Nat) (e:Ex) (hne:e.nodes≤1048576) (hoke:e.Ok) (hein:e.In w0 (.agg #[.int .i64 ek,.int .i64 en,.slice ead em ec]))
  (c0:w.cell? ⟨nb,at_*16,none⟩=some (.int .i64 2)) (c1:w.cell? ⟨nb,at_*16+1,none⟩=some (.int .i64 n)) (c2:w.cell? ⟨nb,at_*16+2,none⟩=some (.int .i64 ek)) (c3:w.cell? ⟨nb,at_*16+3,none⟩=some (.int .i64 en)) (c4:w.cell? ⟨nb,at_*16+4,none⟩=some (.slice ead em ec)) :
  Calls Tryd.prog 134 #[.pointer (some ⟨rb,0,none⟩),.int .i64 at_] w (RunPost rb vb B vc iv (.slice (some ⟨nb,0,none⟩) L.length nc) w pv ({ s with steps:=s.steps+1,puts:=s.puts++[(n,e.val s.vars is)] },none)):=by
 obtain ⟨pad,pcap,rfl⟩:∃ pad pcap,pv = .slice pad s.puts.length pcap:=owns_value hh.rn.puts
 have hpt:=hh.pt
 obtain ⟨r0,r1,r2,r3,r4,rf,rl⟩:=hh.rn.cells
 have hd:((s.steps:Int) == 20000)=false:=by simp;omega
 have hnr:nb≠rb:=hh.nr
 have hE:=hh.rn.stepped (s.steps+1)
 have HE:Hid (Here w0 (w.setCell ⟨rb,2,none⟩ (.int .i64 ((s.steps:Int)+1))) rb vb B vc nb nc iv (.slice pad s.puts.length pcap) L is { s with steps:=s.steps+1 }∧RR rb vb w (w.setCell ⟨rb,2,none⟩ (.int .i64 ((s.steps:Int)+1))) (.slice pad s.puts.length pcap) (.slice pad s.puts.length pcap)):=⟨hh.next hE.1 hE.2 (by simp only;omega) (by have:=hh.pt;simp only;omega) hh.nl,hE.2⟩
 obtain ⟨q0,q1,-,q3,q4,qf,ql⟩:=HE.out.1.rn.cells
 have e0:=cell_set' (u:=.int .i64 ((s.steps:Int)+1)) (a:=⟨rb,2,none⟩) hnr c0
 have e1:=cell_set' (u:=.int .i64 ((s.steps:Int)+1)) (a:=⟨rb,2,none⟩) hnr c1
 have e2:=cell_set' (u:=.int .i64 ((s.steps:Int)+1)) (a:=⟨rb,2,none⟩) hnr c2
 have e3:=cell_set' (u:=.int .i64 ((s.steps:Int)+1)) (a:=⟨rb,2,none⟩) hnr c3
 have e4:=cell_set' (u:=.int .i64 ((s.steps:Int)+1)) (a:=⟨rb,2,none⟩) hnr c4
 have HN:Hid (nb<w.heap.size):=hh.nl
 clear hE hh c0 c1 c2 c3 c4
 have HY:Hid (e.Ok∧e.In w0 (.agg #[.int .i64 ek,.int .i64 en,.slice ead em ec])):=⟨hoke,hein⟩
 have HNO:Hid (some nb≠(Value.slice pad s.puts.length pcap).ownBlock):=fun e=>by have:=(HE.out.1.rn.own_lt nb e.symm).1;have:=HE.out.1.nB;omega
 obtain ⟨i0,hi0,hz0,hz1,hz2⟩:=info_parts info42
 clear hoke hein
 go_enter Tryd.func134,Tryd.ntmps134
 go_wp2_with fail
 refine wp_region_held_drew (S:=fun w'=>w'.cell? ⟨nb,at_*16+1,none⟩=some (.int .i64 n)∧w'.cell? ⟨nb,at_*16+2,none⟩=some (.int .i64 ek)∧w'.cell? ⟨nb,at_*16+3,none⟩=some (.int .i64 en)∧w'.cell? ⟨nb,at_*16+4,none⟩=some (.slice ead em ec)) (by kernel_rfl) ⟨e1,e2,e3,e4⟩ (fun hHeld=>?_)
 refine tk (i:=0) (n:=55) (v:=?_) ?_ ?_
 rotate_left 1
 ·intro wz hSw
  first | (go_simp;done) | (go_simp;with_reducible rfl)
 simp only [ls0,ls1]
 refine tk (i:=1) (n:=56) (v:=?_) ?_ ?_
 rotate_left 1
 ·intro wz hSw
  first | (go_simp;done) | (go_simp;with_reducible rfl)
 simp only [ls0,ls1]
 refine tk (i:=2) (n:=57) (v:=?_) ?_ ?_
 rotate_left 1
 ·intro wz hSw
  first | (go_simp;done) | (go_simp;with_reducible rfl)
 simp only [ls0,ls1]
 refine tk (i:=3) (n:=58) (v:=?_) ?_ ?_
 rotate_left 1
 ·intro wz hSw
  first | (go_simp;done) | (go_simp;with_reducible rfl)
 simp only [ls0,ls1]
 refine tk (i:=4) (n:=59) (v:=?_) ?_ ?_
 rotate_left 1
 ·intro wz hSw
  first | (go_simp;done) | (go_simp;with_reducible rfl)
 simp only [ls0,ls1]
 refine tk (i:=6) (n:=61) (v:=?_) ?_ ?_
 rotate_left 1
 ·intro wz hSw
  first | (go_simp;done) | (go_simp;with_reducible rfl)
 simp only [ls0,ls1]
 refine tk (i:=7) (n:=62) (v:=?_) ?_ ?_
 rotate_left 1
 ·intro wz hSw
  first | (go_simp;done) | (go_simp;with_reducible rfl)
 simp only [ls0,ls1]
 refine tk (i:=8) (n:=63) (v:=?_) ?_ ?_
 rotate_left 1
 ·intro wz hSw
  first | (go_simp;done) | (go_simp;with_reducible rfl)
 simp only [ls0,ls1]
 refine tk (i:=9) (n:=64) (v:=?_) ?_ ?_
 rotate_left 1
 ·intro wz hSw
  first | (go_simp;done) | (go_simp;with_reducible rfl)
 simp only [ls0,ls1]
 refine tk (i:=10) (n:=65) (v:=?_) ?_ ?_
 rotate_left 1
 ·intro wz hSw
  first | (go_simp;done) | (go_simp;with_reducible rfl)
 simp only [ls0,ls1]
 refine tk (i:=11) (n:=66) (v:=?_) ?_ ?_
 rotate_left 1
 ·intro wz hSw
  first | (go_simp;done) | (go_simp;with_reducible rfl)
 simp only [ls0,ls1]
 refine tk (i:=12) (n:=67) (v:=?_) ?_ ?_
 rotate_left 1
 ·intro wz hSw
  first | (go_simp;done) | (go_simp;with_reducible rfl)
 simp only [ls0,ls1]
 refine tk (i:=13) (n:=68) (v:=?_) ?_ ?_
 rotate_left 1
 ·intro wz hSw
  first | (go_simp;done) | (go_simp;with_reducible rfl)
 simp only [ls0,ls1]
 refine tk (i:=14) (n:=69) (v:=?_) ?_ ?_
 rotate_left 1
 ·intro wz hSw
  first | (go_simp;done) | (go_simp;with_reducible rfl)
 simp only [ls0,ls1]
 refine tk (i:=15) (n:=70) (v:=?_) ?_ ?_
 rotate_left 1
 ·intro wz hSw
  first | (go_simp;done) | (go_simp;with_reducible rfl)
 simp only [ls0,ls1]
 refine tk (i:=16) (n:=71) (v:=?_) ?_ ?_
 rotate_left 1
 ·intro wz hSw
  first | (go_simp;done) | (go_simp;with_reducible rfl)
 simp only [ls0,ls1]
 refine wpAnyH_ready (rs:=[5,17]) (by kernel_rfl) (by simp) ?_
 refine AllReadyH.cons rfl (fun K hK=>?_) (AllReadyH.cons rfl (fun K hK=>?_) AllReadyH.nil)
 ·go_simp
  refine hK.out _ _ hHeld (fun hHeld=>?_)
  clear hK K
  refine wpAnyH_ready (rs:=[17]) (by kernel_rfl) (by simp) ?_
  refine AllReadyH.cons rfl (fun K hK=>?_) AllReadyH.nil
  go_simp
  go_wp2_with (go_at_call 148;refine (value_any rb s.vars is 1048577 e _ _ (by omega) (by omega) HY.out.1 ((HE.out.1.rn.below (Below.refl _ _).drew).val HE.out.1.ins HE.out.1.low.drew) (HY.out.2.below HE.out.1.low.drew)).mono ?_;rintro r w6 ⟨rfl,hb6⟩;have hS6:=keepN4 (hb6.block nb (World.block_lt_of_cell? _ _ e1)) hHeld;have HC6:Hid (Rn w6 rb vb B vc 139 iv (.slice (some ⟨nb,0,none⟩) L.length nc) (.slice pad s.puts.length pcap) { s with steps:=s.steps+1 }∧Below (w.setCell ⟨rb,2,none⟩ (.int .i64 ((s.steps:Int)+1))).heap.size (w.setCell ⟨rb,2,none⟩ (.int .i64 ((s.steps:Int)+1))) w6):=⟨HE.out.1.rn.below (below_seq (Below.refl _ _).drew hb6),below_seq (Below.refl _ _).drew hb6⟩;clear hb6 hHeld)
  refine hK.out _ _ hS6 (fun hHeld=>?_)
  clear hK K hS6
  have k6:=HC6.out.1.cells.2.1
  have k6l:=World.block_lt_of_cell? _ _ k6
  refine tk (i:=18) (n:=73) (v:=?_) ?_ ?_
  rotate_left 1
  ·intro wz hSw
   first | (go_simp;done) | (go_simp;with_reducible rfl)
  simp only [ls0,ls1]
  refine wpAnyH_ready (rs:=[19]) (by kernel_rfl) (by simp) ?_
  refine AllReadyH.cons rfl (fun K hK=>?_) AllReadyH.nil
  go_simp
  refine hK.out _ _ (keepN4 (Below.heap_alloc _ _ _ (World.block_lt_of_cell? _ _ hHeld.1)) hHeld) (fun hHeld=>?_)
  clear hK K
  refine wpAnyH_ready (rs:=[20]) (by kernel_rfl) (by simp) ?_
  refine AllReadyH.cons rfl (fun K hK=>?_) AllReadyH.nil
  refine step_append_mine rfl (.tmp 60) (.tmp 74) 25 rfl B 43 i0 _ 2 16 Tryd.underlying25 hi0 hz0 hz1 hz2 rfl (by decide) (.slice pad s.puts.length pcap) s.puts.length (putVs s.puts) (by simp [Act.eval]) (ownsRow_below HC6.out.1.puts ((Below.refl _ _).alloc (Nat.le_refl _) _)) ⟨w6.heap.size,0,none⟩ 1 1 [.int .i64 n,.int .i64 (e.val s.vars is)] (by simp [Act.eval]) rfl (fresh_cells w6 _ 43) (by intro u hu;simp at hu;rcases hu with rfl | rfl <;> rfl) (by unfold maxLen;omega) (by omega) (by have:=HC6.out.1.le;simp;omega) ?_
  intro v3 w7 hown3 hg3 hv3
  obtain ⟨ad3,cap3,rfl⟩:=owns_value hown3
  have R:=HC6.out.1.putted hown3 hg3 hv3
  have r1:=R.2.1
  have r2:=R.2.2.1
  have HR7:Hid (_∧_):=R.1
  have hlt6:nb<w6.heap.size:=Nat.lt_of_lt_of_le (World.block_lt_of_cell? _ _ e1) HC6.out.2.size
  have hS7:=keepN4 (q:=nb) (Y:=w7) (R.2.2.2 _ hlt6 HNO.out) (keepN4 (Below.heap_alloc _ _ _ hlt6).symm hHeld)
  clear hown3 hg3 hv3 R hHeld
  refine hK.out _ _ hS7 (fun hHeld=>?_)
  clear hK K hS7
  refine tk (i:=21) (n:=76) (v:=?_) ?_ ?_
  rotate_left 1
  ·intro wz hSw
   first | (go_simp;done) | (go_simp;with_reducible rfl)
  simp only [ls0,ls1]
  refine tk (i:=22) (n:=77) (v:=?_) ?_ ?_
  rotate_left 1
  ·intro wz hSw
   first | (go_simp;done) | (go_simp;with_reducible rfl)
  simp only [ls0,ls1]
  refine tk (i:=23) (n:=78) (v:=?_) ?_ ?_
  rotate_left 1
  ·intro wz hSw
   first | (go_simp;done) | (go_simp;with_reducible rfl)
  simp only [ls0,ls1]
  refine wpAnyH_ready (rs:=[24]) (by kernel_rfl) (by simp) ?_
  refine AllReadyH.cons rfl (fun K hK=>?_) AllReadyH.nil
  go_simp
  refine hK.out _ _ (keepN4 (Below.heap_setCell w7 ⟨rb,1,none⟩ (.slice ad3 (s.puts.length+1) cap3) nb hnr) hHeld) (fun hHeld=>?_)
  clear hK K
  refine wpAnyH_done (by kernel_rfl) ?_ _
  go_wp2_with fail
  go_end0
  exact ⟨rfl,_,HR7.out.1,HE.out.2.trans ((RR.of_below HC6.out.2).trans HR7.out.2)⟩
 ·go_simp
  go_wp2_with (go_at_call 148;refine (value_any rb s.vars is 1048577 e _ _ (by omega) (by omega) HY.out.1 ((HE.out.1.rn.below (Below.refl _ _).drew).val HE.out.1.ins HE.out.1.low.drew) (HY.out.2.below HE.out.1.low.drew)).mono ?_;rintro r w6 ⟨rfl,hb6⟩;have hS6:=keepN4 (hb6.block nb (World.block_lt_of_cell? _ _ e1)) hHeld;have HC6:Hid (Rn w6 rb vb B vc 139 iv (.slice (some ⟨nb,0,none⟩) L.length nc) (.slice pad s.puts.length pcap) { s with steps:=s.steps+1 }∧Below (w.setCell ⟨rb,2,none⟩ (.int .i64 ((s.steps:Int)+1))).heap.size (w.setCell ⟨rb,2,none⟩ (.int .i64 ((s.steps:Int)+1))) w6):=⟨HE.out.1.rn.below (below_seq (Below.refl _ _).drew hb6),below_seq (Below.refl _ _).drew hb6⟩;clear hb6 hHeld)
  refine hK.out _ _ hS6 (fun hHeld=>?_)
  clear hK K hS6
  have k6:=HC6.out.1.cells.2.1
  have k6l:=World.block_lt_of_cell? _ _ k6
  refine tk (i:=18) (n:=73) (v:=?_) ?_ ?_
  rotate_left 1
  ·intro wz hSw
   first | (go_simp;done) | (go_simp;with_reducible rfl)
  simp only [ls0,ls1]
  refine wpAnyH_ready (rs:=[5,19]) (by kernel_rfl) (by simp) ?_
  refine AllReadyH.cons rfl (fun K hK=>?_) (AllReadyH.cons rfl (fun K hK=>?_) AllReadyH.nil)
  ·go_simp
   refine hK.out _ _ hHeld (fun hHeld=>?_)
   clear hK K
   refine wpAnyH_ready (rs:=[19]) (by kernel_rfl) (by simp) ?_
   refine AllReadyH.cons rfl (fun K hK=>?_) AllReadyH.nil
   go_simp
   refine hK.out _ _ (keepN4 (Below.heap_alloc _ _ _ (World.block_lt_of_cell? _ _ hHeld.1)) hHeld) (fun hHeld=>?_)
   clear hK K
   refine wpAnyH_ready (rs:=[20]) (by kernel_rfl) (by simp) ?_
   refine AllReadyH.cons rfl (fun K hK=>?_) AllReadyH.nil
   refine step_append_mine rfl (.tmp 60) (.tmp 74) 25 rfl B 43 i0 _ 2 16 Tryd.underlying25 hi0 hz0 hz1 hz2 rfl (by decide) (.slice pad s.puts.length pcap) s.puts.length (putVs s.puts) (by simp [Act.eval]) (ownsRow_below HC6.out.1.puts ((Below.refl _ _).alloc (Nat.le_refl _) _)) ⟨w6.heap.size,0,none⟩ 1 1 [.int .i64 n,.int .i64 (e.val s.vars is)] (by simp [Act.eval]) rfl (fresh_cells w6 _ 43) (by intro u hu;simp at hu;rcases hu with rfl | rfl <;> rfl) (by unfold maxLen;omega) (by omega) (by have:=HC6.out.1.le;simp;omega) ?_
   intro v3 w7 hown3 hg3 hv3
   obtain ⟨ad3,cap3,rfl⟩:=owns_value hown3
   have R:=HC6.out.1.putted hown3 hg3 hv3
   have r1:=R.2.1
   have r2:=R.2.2.1
   have HR7:Hid (_∧_):=R.1
   have hlt6:nb<w6.heap.size:=Nat.lt_of_lt_of_le (World.block_lt_of_cell? _ _ e1) HC6.out.2.size
   have hS7:=keepN4 (q:=nb) (Y:=w7) (R.2.2.2 _ hlt6 HNO.out) (keepN4 (Below.heap_alloc _ _ _ hlt6).symm hHeld)
   clear hown3 hg3 hv3 R hHeld
   refine hK.out _ _ hS7 (fun hHeld=>?_)
   clear hK K hS7
   refine tk (i:=21) (n:=76) (v:=?_) ?_ ?_
   rotate_left 1
   ·intro wz hSw
    first | (go_simp;done) | (go_simp;with_reducible rfl)
   simp only [ls0,ls1]
   refine tk (i:=22) (n:=77) (v:=?_) ?_ ?_
   rotate_left 1
   ·intro wz hSw
    first | (go_simp;done) | (go_simp;with_reducible rfl)
   simp only [ls0,ls1]
   refine tk (i:=23) (n:=78) (v:=?_) ?_ ?_
   rotate_left 1
   ·intro wz hSw
    first | (go_simp;done) | (go_simp;with_reducible rfl)
   simp only [ls0,ls1]
   refine wpAnyH_ready (rs:=[24]) (by kernel_rfl) (by simp) ?_
   refine AllReadyH.cons rfl (fun K hK=>?_) AllReadyH.nil
   go_simp
   refine hK.out _ _ (keepN4 (Below.heap_setCell w7 ⟨rb,1,none⟩ (.slice ad3 (s.puts.length+1) cap3) nb hnr) hHeld) (fun hHeld=>?_)
   clear hK K
   refine wpAnyH_done (by kernel_rfl) ?_ _
   go_wp2_with fail
   go_end0
   exact ⟨rfl,_,HR7.out.1,HE.out.2.trans ((RR.of_below HC6.out.2).trans HR7.out.2)⟩
  ·go_simp
   refine hK.out _ _ (keepN4 (Below.heap_alloc _ _ _ (World.block_lt_of_cell? _ _ hHeld.1)) hHeld) (fun hHeld=>?_)
   clear hK K
   refine wpAnyH_ready (rs:=[5]) (by kernel_rfl) (by simp) ?_
   refine AllReadyH.cons rfl (fun K hK=>?_) AllReadyH.nil
   go_simp
   refine hK.out _ _ hHeld (fun hHeld=>?_)
   clear hK K
   refine wpAnyH_ready (rs:=[20]) (by kernel_rfl) (by simp) ?_
   refine AllReadyH.cons rfl (fun K hK=>?_) AllReadyH.nil
   refine step_append_mine rfl (.tmp 60) (.tmp 74) 25 rfl B 43 i0 _ 2 16 Tryd.underlying25 hi0 hz0 hz1 hz2 rfl (by decide) (.slice pad s.puts.length pcap) s.puts.length (putVs s.puts) (by simp [Act.eval]) (ownsRow_below HC6.out.1.puts ((Below.refl _ _).alloc (Nat.le_refl _) _)) ⟨w6.heap.size,0,none⟩ 1 1 [.int .i64 n,.int .i64 (e.val s.vars is)] (by simp [Act.eval]) rfl (fresh_cells w6 _ 43) (by intro u hu;simp at hu;rcases hu with rfl | rfl <;> rfl) (by unfold maxLen;omega) (by omega) (by have:=HC6.out.1.le;simp;omega) ?_
   intro v3 w7 hown3 hg3 hv3
   obtain ⟨ad3,cap3,rfl⟩:=owns_value hown3
   have R:=HC6.out.1.putted hown3 hg3 hv3
   have r1:=R.2.1
   have r2:=R.2.2.1
   have HR7:Hid (_∧_):=R.1
   have hlt6:nb<w6.heap.size:=Nat.lt_of_lt_of_le (World.block_lt_of_cell? _ _ e1) HC6.out.2.size
   have hS7:=keepN4 (q:=nb) (Y:=w7) (R.2.2.2 _ hlt6 HNO.out) (keepN4 (Below.heap_alloc _ _ _ hlt6).symm hHeld)
   clear hown3 hg3 hv3 R hHeld
   refine hK.out _ _ hS7 (fun hHeld=>?_)
   clear hK K hS7
   refine tk (i:=21) (n:=76) (v:=?_) ?_ ?_
   rotate_left 1
   ·intro wz hSw
    first | (go_simp;done) | (go_simp;with_reducible rfl)
   simp only [ls0,ls1]
   refine tk (i:=22) (n:=77) (v:=?_) ?_ ?_
   rotate_left 1
   ·intro wz hSw
    first | (go_simp;done) | (go_simp;with_reducible rfl)
   simp only [ls0,ls1]
   refine tk (i:=23) (n:=78) (v:=?_) ?_ ?_
   rotate_left 1
   ·intro wz hSw
    first | (go_simp;done) | (go_simp;with_reducible rfl)
   simp only [ls0,ls1]
   refine wpAnyH_ready (rs:=[24]) (by kernel_rfl) (by simp) ?_
   refine AllReadyH.cons rfl (fun K hK=>?_) AllReadyH.nil
   go_simp
   refine hK.out _ _ (keepN4 (Below.heap_setCell w7 ⟨rb,1,none⟩ (.slice ad3 (s.puts.length+1) cap3) nb hnr) hHeld) (fun hHeld=>?_)
   clear hK K
   refine wpAnyH_done (by kernel_rfl) ?_ _
   go_wp2_with fail
   go_end0
   exact ⟨rfl,_,HR7.out.1,HE.out.2.trans ((RR.of_below HC6.out.2).trans HR7.out.2)⟩
end Go.Proofs.YtnkgbkkakokciacDoor.B
