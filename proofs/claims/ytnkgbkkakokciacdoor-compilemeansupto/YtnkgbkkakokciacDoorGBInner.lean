import Derived.Test.YtnkgbkkakokciacDoorGAny
import Derived.Deep.DeepCutAuto
import Derived.Deep.CutRange
import Derived.Deep.RegionHeldLaw
namespace Go.Proofs.YtnkgbkkakokciacDoor.B
open Go.ChangeShapes Go.WideShapes Go.ChangeAt Go.RowKit
theorem keepB {w w':World} {p1 p2:Nat} {x x0 x1 x2 x3 x4 x5 x6 x7 x8 x9 x10 x11 x12 x13:Value} (h:w.cell? ⟨p1,0,none⟩=some x∧w.cell? ⟨p2,0,none⟩=some x0∧w.cell? ⟨p2,1,none⟩=some x1∧w.cell? ⟨p2,2,none⟩=some x2∧w.cell? ⟨p2,3,none⟩=some x3∧w.cell? ⟨p2,4,none⟩=some x4∧w.cell? ⟨p2,5,none⟩=some x5∧w.cell? ⟨p2,6,none⟩=some x6∧w.cell? ⟨p2,7,none⟩=some x7∧w.cell? ⟨p2,8,none⟩=some x8∧w.cell? ⟨p2,9,none⟩=some x9∧w.cell? ⟨p2,10,none⟩=some x10∧w.cell? ⟨p2,11,none⟩=some x11∧w.cell? ⟨p2,12,none⟩=some x12∧w.cell? ⟨p2,13,none⟩=some x13) (h1:w'.heap[p1]?=w.heap[p1]?) (h2:w'.heap[p2]?=w.heap[p2]?) :
  w'.cell? ⟨p1,0,none⟩=some x∧w'.cell? ⟨p2,0,none⟩=some x0∧w'.cell? ⟨p2,1,none⟩=some x1∧w'.cell? ⟨p2,2,none⟩=some x2∧w'.cell? ⟨p2,3,none⟩=some x3∧w'.cell? ⟨p2,4,none⟩=some x4∧w'.cell? ⟨p2,5,none⟩=some x5∧w'.cell? ⟨p2,6,none⟩=some x6∧w'.cell? ⟨p2,7,none⟩=some x7∧w'.cell? ⟨p2,8,none⟩=some x8∧w'.cell? ⟨p2,9,none⟩=some x9∧w'.cell? ⟨p2,10,none⟩=some x10∧w'.cell? ⟨p2,11,none⟩=some x11∧w'.cell? ⟨p2,12,none⟩=some x12∧w'.cell? ⟨p2,13,none⟩=some x13 :=
 ⟨(World.cell?_of_block h1).trans h.1,(World.cell?_of_block h2).trans h.2.1,(World.cell?_of_block h2).trans h.2.2.1,(World.cell?_of_block h2).trans h.2.2.2.1,(World.cell?_of_block h2).trans h.2.2.2.2.1,(World.cell?_of_block h2).trans h.2.2.2.2.2.1,(World.cell?_of_block h2).trans h.2.2.2.2.2.2.1,(World.cell?_of_block h2).trans h.2.2.2.2.2.2.2.1,(World.cell?_of_block h2).trans h.2.2.2.2.2.2.2.2.1,(World.cell?_of_block h2).trans h.2.2.2.2.2.2.2.2.2.1,(World.cell?_of_block h2).trans h.2.2.2.2.2.2.2.2.2.2.1,(World.cell?_of_block h2).trans h.2.2.2.2.2.2.2.2.2.2.2.1,(World.cell?_of_block h2).trans h.2.2.2.2.2.2.2.2.2.2.2.2.1,(World.cell?_of_block h2).trans h.2.2.2.2.2.2.2.2.2.2.2.2.2.1,(World.cell?_of_block h2).trans h.2.2.2.2.2.2.2.2.2.2.2.2.2.2⟩
theorem keepB_alloc {w:World} {o:Obj} {p1 p2:Nat} {x x0 x1 x2 x3 x4 x5 x6 x7 x8 x9 x10 x11 x12 x13:Value} (h:w.cell? ⟨p1,0,none⟩=some x∧w.cell? ⟨p2,0,none⟩=some x0∧w.cell? ⟨p2,1,none⟩=some x1∧w.cell? ⟨p2,2,none⟩=some x2∧w.cell? ⟨p2,3,none⟩=some x3∧w.cell? ⟨p2,4,none⟩=some x4∧w.cell? ⟨p2,5,none⟩=some x5∧w.cell? ⟨p2,6,none⟩=some x6∧w.cell? ⟨p2,7,none⟩=some x7∧w.cell? ⟨p2,8,none⟩=some x8∧w.cell? ⟨p2,9,none⟩=some x9∧w.cell? ⟨p2,10,none⟩=some x10∧w.cell? ⟨p2,11,none⟩=some x11∧w.cell? ⟨p2,12,none⟩=some x12∧w.cell? ⟨p2,13,none⟩=some x13) :
  (w.alloc o).cell? ⟨p1,0,none⟩=some x∧(w.alloc o).cell? ⟨p2,0,none⟩=some x0∧(w.alloc o).cell? ⟨p2,1,none⟩=some x1∧(w.alloc o).cell? ⟨p2,2,none⟩=some x2∧(w.alloc o).cell? ⟨p2,3,none⟩=some x3∧(w.alloc o).cell? ⟨p2,4,none⟩=some x4∧(w.alloc o).cell? ⟨p2,5,none⟩=some x5∧(w.alloc o).cell? ⟨p2,6,none⟩=some x6∧(w.alloc o).cell? ⟨p2,7,none⟩=some x7∧(w.alloc o).cell? ⟨p2,8,none⟩=some x8∧(w.alloc o).cell? ⟨p2,9,none⟩=some x9∧(w.alloc o).cell? ⟨p2,10,none⟩=some x10∧(w.alloc o).cell? ⟨p2,11,none⟩=some x11∧(w.alloc o).cell? ⟨p2,12,none⟩=some x12∧(w.alloc o).cell? ⟨p2,13,none⟩=some x13 :=
 keepB h (Below.heap_alloc _ _ _ (World.block_lt_of_cell? _ _ h.1)) (Below.heap_alloc _ _ _ (World.block_lt_of_cell? _ _ h.2.1))
theorem keepB_set {w:World} {a:Addr} {u:Value} {p1 p2:Nat} (h1:p1≠a.block) (h2:p2≠a.block) {x x0 x1 x2 x3 x4 x5 x6 x7 x8 x9 x10 x11 x12 x13:Value} (h:w.cell? ⟨p1,0,none⟩=some x∧w.cell? ⟨p2,0,none⟩=some x0∧w.cell? ⟨p2,1,none⟩=some x1∧w.cell? ⟨p2,2,none⟩=some x2∧w.cell? ⟨p2,3,none⟩=some x3∧w.cell? ⟨p2,4,none⟩=some x4∧w.cell? ⟨p2,5,none⟩=some x5∧w.cell? ⟨p2,6,none⟩=some x6∧w.cell? ⟨p2,7,none⟩=some x7∧w.cell? ⟨p2,8,none⟩=some x8∧w.cell? ⟨p2,9,none⟩=some x9∧w.cell? ⟨p2,10,none⟩=some x10∧w.cell? ⟨p2,11,none⟩=some x11∧w.cell? ⟨p2,12,none⟩=some x12∧w.cell? ⟨p2,13,none⟩=some x13) :
  (w.setCell a u).cell? ⟨p1,0,none⟩=some x∧(w.setCell a u).cell? ⟨p2,0,none⟩=some x0∧(w.setCell a u).cell? ⟨p2,1,none⟩=some x1∧(w.setCell a u).cell? ⟨p2,2,none⟩=some x2∧(w.setCell a u).cell? ⟨p2,3,none⟩=some x3∧(w.setCell a u).cell? ⟨p2,4,none⟩=some x4∧(w.setCell a u).cell? ⟨p2,5,none⟩=some x5∧(w.setCell a u).cell? ⟨p2,6,none⟩=some x6∧(w.setCell a u).cell? ⟨p2,7,none⟩=some x7∧(w.setCell a u).cell? ⟨p2,8,none⟩=some x8∧(w.setCell a u).cell? ⟨p2,9,none⟩=some x9∧(w.setCell a u).cell? ⟨p2,10,none⟩=some x10∧(w.setCell a u).cell? ⟨p2,11,none⟩=some x11∧(w.setCell a u).cell? ⟨p2,12,none⟩=some x12∧(w.setCell a u).cell? ⟨p2,13,none⟩=some x13 :=
 keepB h (Below.heap_setCell _ _ _ _ h1) (Below.heap_setCell _ _ _ _ h2)
theorem keepC_alloc {w:World} {o:Obj} {p1 p2:Nat} {x y z:Value} (h:w.cell? ⟨p1,0,none⟩=some x∧w.cell? ⟨p2,12,none⟩=some y∧w.cell? ⟨p2,13,none⟩=some z):(w.alloc o).cell? ⟨p1,0,none⟩=some x∧(w.alloc o).cell? ⟨p2,12,none⟩=some y∧(w.alloc o).cell? ⟨p2,13,none⟩=some z :=
 have hb:Below w.heap.size w (w.alloc o):=(Below.refl _ _).alloc (Nat.le_refl _) o
 ⟨below_cell hb h.1,below_cell hb h.2.1,below_cell hb h.2.2⟩
theorem keepC_wr {w w':World} {wb p1 p2:Nat} {v v' x y z:Value} (hr:WR wb w w' v v') (h1:p1≠wb) (h2:p2≠wb) (g1:some p1≠v.ownBlock) (g2:some p2≠v.ownBlock) (h:w.cell? ⟨p1,0,none⟩=some x∧w.cell? ⟨p2,12,none⟩=some y∧w.cell? ⟨p2,13,none⟩=some z):w'.cell? ⟨p1,0,none⟩=some x∧w'.cell? ⟨p2,12,none⟩=some y∧w'.cell? ⟨p2,13,none⟩=some z :=
 ⟨hr.cell h1 g1 h.1,hr.cell h2 g2 h.2.1,hr.cell h2 g2 h.2.2⟩
theorem five_below {w:World} {o1 o2 o3 o4 o5:Obj}:Below w.heap.size w (((((w.alloc o1).alloc o2).alloc o3).alloc o4).alloc o5).drew :=
 ((((((Below.refl _ w).alloc (Nat.le_refl _) o1).alloc (by simp) o2).alloc (by simp;omega) o3).alloc (by simp;omega) o4).alloc (by simp;omega) o5).drew
theorem five_below0 {w0 w:World} {o1 o2 o3 o4 o5:Obj} (h:Below w0.heap.size w0 w):Below w0.heap.size w0 (((((w.alloc o1).alloc o2).alloc o3).alloc o4).alloc o5).drew :=
 h.trans (five_below.mono h.size)
theorem cell_set {w:World} {p o:Nat} {a:Addr} {u x:Value} (h:p≠a.block) (hc:w.cell? ⟨p,o,none⟩=some x):(w.setCell a u).cell? ⟨p,o,none⟩=some x :=
 (World.cell?_of_block (Below.heap_setCell _ _ _ _ h)).trans hc
theorem owns_cap {w:World} {base n:Nat} {v:Value} {xs:List Value} (h:w.ownsRow base 123 14 v (n+1) xs):∃ g cap,v = .slice (some ⟨g,0,none⟩) (n+1) cap∧n+1≤cap:=by
 rcases h.2 with ⟨_,h⟩ | ⟨g,cap,cur,rfl,_,_,hc,_⟩
 ·omega
 ·exact ⟨g,cap,rfl,hc⟩
set_option maxRecDepth 20000 in
set_option maxHeartbeats 4000000 in
theorem inner1_of_list (w0:World) (N:Nat) (hL:ListOk w0 N) (W:World) (wb B p1 p2:Nat) (i:Int) (v:Value) (b l:List St) (ar:List (Int × Int))
  (sk sn ek en ck ak an bk bn:Int) (ead aad bad yad lad:Option Addr) (em ec am ac bm bc yc lc:Nat) (hbk:St.bulkAll b+St.bulkAll l≤N) (hwb:w0.heap.size≤wb) (hB0:Below w0.heap.size w0 W)
  (hy:St.Sl w0 b (.slice yad b.length yc)) (hl:St.Sl w0 l (.slice lad l.length lc)) (hwk:Wk W wb B i v ar) (hi1 : -1≤i) (hi2:i+(St.bulkAll b+St.bulkAll l:Nat)≤2097152) (har:ar.length+1+(St.bulkAll b+St.bulkAll l)≤2097152)
  (hc:copyIs W p2 (.int .i64 sk) (.int .i64 sn) (.int .i64 ek) (.int .i64 en) (.slice ead em ec) (.int .i64 ck) (.int .i64 ak) (.int .i64 an) (.slice aad am ac) (.int .i64 bk) (.int .i64 bn) (.slice bad bm bc) (.slice yad b.length yc) (.slice lad l.length lc))
  (h1:W.cell? ⟨p1,0,none⟩=some (.pointer (some ⟨wb,0,none⟩))) (n1:p1≠wb∧some p1≠v.ownBlock) (n2:p2≠wb∧some p2≠v.ownBlock) :
  Calls Tryd.prog 157 #[.pointer (some ⟨p1,0,none⟩),.pointer (some ⟨p2,0,none⟩)] W fun r w'=>r = .returned (.int .i64 (chk2 b l (ar++[(sk,sn)]) i).1)∧∃ v',Wk w' wb B (chk2 b l (ar++[(sk,sn)]) i).2 v' ar∧WR wb W w' v v':=by
 have HH:Hid (ListOk w0 N∧Below w0.heap.size w0 W∧St.Sl w0 b (.slice yad b.length yc)∧St.Sl w0 l (.slice lad l.length lc)∧Wk W wb B i v ar):=⟨hL,hB0,hy,hl,hwk⟩
 have HN:Hid ((p1≠wb∧some p1≠v.ownBlock)∧(p2≠wb∧some p2≠v.ownBlock)):=⟨n1,n2⟩
 have HC:Hid (copyIs W p2 (.int .i64 sk) (.int .i64 sn) (.int .i64 ek) (.int .i64 en) (.slice ead em ec) (.int .i64 ck) (.int .i64 ak) (.int .i64 an) (.slice aad am ac) (.int .i64 bk) (.int .i64 bn) (.slice bad bm bc) (.slice yad b.length yc) (.slice lad l.length lc)):=hc
 have H1:Hid (W.cell? ⟨p1,0,none⟩=some (.pointer (some ⟨wb,0,none⟩))):=h1
 clear hL hB0 hy hl hwk n1 n2 hc h1
 obtain ⟨i0,hi,hz0,hz1,hz2⟩:=info_parts info34
 go_enter Tryd.func157,Tryd.ntmps157
 go_upto_region 1 with fail
 go_cut [5] (fun c wc=>∃ bv:Bool,c = .bool bv∧Below W.heap.size W wc)
 case first =>
  go_region
  all_goals
   go_wp2_with fail
   go_meet
   case rel=>exact ⟨_,rfl,by first | exact ((Below.refl _ _).alloc (Nat.le_refl _) _) | exact ((Below.refl _ _).alloc (Nat.le_refl _) _).drew⟩
 case rest =>
  rename World=>W1
  obtain ⟨bv,rfl,hb1⟩:=hcut
  have hk1:=HH.out.2.2.2.2.below hb1
  obtain ⟨xs,ho,hac⟩:=hk1.owns
  obtain ⟨vad,vcap,rfl⟩:=owns_value ho
  have hcp:copyIs W1 p2 (.int .i64 sk) (.int .i64 sn) (.int .i64 ek) (.int .i64 en) (.slice ead em ec) (.int .i64 ck) (.int .i64 ak) (.int .i64 an) (.slice aad am ac) (.int .i64 bk) (.int .i64 bn) (.slice bad bm bc) (.slice yad b.length yc) (.slice lad l.length lc):=(hb1.block _ (copyIs.lt HC.out)).trans HC.out
  have hp2:p2<W1.heap.size:=copyIs.lt hcp
  have e1:=below_cell hb1 H1.out
  have hp1:p1<W1.heap.size:=World.block_lt_of_cell? _ _ e1
  obtain ⟨d0,d1,d2,d3,d4,d5,d6,d7,d8,d9,d10,d11,d12,d13,hfz⟩:=hcp.cell
  have b1:W1.cell? ⟨wb,1,none⟩=some (.slice vad ar.length vcap):=by unfold World.cell?;rw [hk1.blk];rfl
  have hwl:wb<W1.heap.size:=World.block_lt_of_cell? _ _ b1
  have hwf:∀ j,W1.frozen? ⟨wb,j,none⟩=false:=by intro j;unfold World.frozen?;rw [hk1.blk];simp
  have HK:Hid (Wk W1 wb B i (.slice vad ar.length vcap) ar∧W1.ownsRow B 123 14 (.slice vad ar.length vcap) ar.length xs∧ArCells ar xs∧Below W.heap.size W W1):=⟨hk1,ho,hac,hb1⟩
  have HCP:Hid (copyIs W1 p2 (.int .i64 sk) (.int .i64 sn) (.int .i64 ek) (.int .i64 en) (.slice ead em ec) (.int .i64 ck) (.int .i64 ak) (.int .i64 an) (.slice aad am ac) (.int .i64 bk) (.int .i64 bn) (.slice bad bm bc) (.slice yad b.length yc) (.slice lad l.length lc)):=hcp
  clear hk1 ho hac hb1 hcp
  have hpw:p2≠wb:=HN.out.2.1
  have hpv:p1≠wb:=HN.out.1.1
  go_upto_if 5 with fail
  go_cut [] (fun wd=>∃ g cap,Wk wd wb B i (.slice (some ⟨g,0,none⟩) (ar.length+1) cap) (ar++[(sk,sn)])∧WR wb W1 wd (.slice vad ar.length vcap) (.slice (some ⟨g,0,none⟩) (ar.length+1) cap))
  case first =>
   cases bv
   ·go_wp2_with fail
    refine wp_region_held_drew (S:=(fun w'=>w'.cell? ⟨p1,0,none⟩=some (.pointer (some ⟨wb,0,none⟩))∧w'.cell? ⟨p2,0,none⟩=some (.int .i64 sk)∧w'.cell? ⟨p2,1,none⟩=some (.int .i64 sn)∧w'.cell? ⟨p2,2,none⟩=some (.int .i64 ek)∧w'.cell? ⟨p2,3,none⟩=some (.int .i64 en)∧w'.cell? ⟨p2,4,none⟩=some (.slice ead em ec)∧w'.cell? ⟨p2,5,none⟩=some (.int .i64 ck)∧w'.cell? ⟨p2,6,none⟩=some (.int .i64 ak)∧w'.cell? ⟨p2,7,none⟩=some (.int .i64 an)∧w'.cell? ⟨p2,8,none⟩=some (.slice aad am ac)∧w'.cell? ⟨p2,9,none⟩=some (.int .i64 bk)∧w'.cell? ⟨p2,10,none⟩=some (.int .i64 bn)∧w'.cell? ⟨p2,11,none⟩=some (.slice bad bm bc)∧w'.cell? ⟨p2,12,none⟩=some (.slice yad b.length yc)∧w'.cell? ⟨p2,13,none⟩=some (.slice lad l.length lc))) (by kernel_rfl) ⟨e1,d0,d1,d2,d3,d4,d5,d6,d7,d8,d9,d10,d11,d12,d13⟩ (fun hHeld=>?_)
    refine tk (i:=0) (n:=17) (v:=?_) ?_ ?_
    rotate_left 1
    ·intro w hSw
     first | (go_simp;done) | (go_simp;with_reducible rfl)
    simp only [ls0,ls1]
    refine tk (i:=1) (n:=18) (v:=?_) ?_ ?_
    rotate_left 1
    ·intro w hSw
     first | (go_simp;done) | (go_simp;with_reducible rfl)
    simp only [ls0,ls1]
    refine tk (i:=2) (n:=19) (v:=?_) ?_ ?_
    rotate_left 1
    ·intro w hSw
     first | (go_simp;done) | (go_simp;with_reducible rfl)
    simp only [ls0,ls1]
    refine tk (i:=3) (n:=20) (v:=?_) ?_ ?_
    rotate_left 1
    ·intro w hSw
     first | (go_simp;done) | (go_simp;with_reducible rfl)
    simp only [ls0,ls1]
    refine tk (i:=5) (n:=22) (v:=?_) ?_ ?_
    rotate_left 1
    ·intro w hSw
     first | (go_simp;done) | (go_simp;with_reducible rfl)
    simp only [ls0,ls1]
    refine wpAnyH_ready (rs:=[4,6]) (by kernel_rfl) (by simp) ?_
    refine AllReadyH.cons rfl (fun K hK=>?_) (AllReadyH.cons rfl (fun K hK=>?_) AllReadyH.nil)
    ·go_simp
     refine hK.out _ _ ?_ (fun hHeld=>?_)
     ·first | assumption | exact keepB_alloc (by assumption) | exact keepB_set (by simpa using hpv) (by simpa using hpw) (by assumption)
     clear hK K
     refine wpAnyH_ready (rs:=[6]) (by kernel_rfl) (by simp) ?_
     refine AllReadyH.cons rfl (fun K hK=>?_) AllReadyH.nil
     go_simp
     refine hK.out _ _ ?_ (fun hHeld=>?_)
     ·first | assumption | exact keepB_alloc (by assumption) | exact keepB_set (by simpa using hpv) (by simpa using hpw) (by assumption)
     clear hK K
     refine wpAnyH_ready (rs:=[7]) (by kernel_rfl) (by simp) ?_
     refine AllReadyH.cons rfl (fun K hK=>?_) AllReadyH.nil
     refine step_append_mine rfl (.tmp 21) (.tmp 23) 63 rfl B 123 i0 _ 14 192 Tryd.underlying63 hi hz0 hz1 hz2 rfl (by decide) (.slice vad ar.length vcap) ar.length xs (by simp [Act.eval]) (by first | exact ownsRow_below HK.out.2.1 ((Below.refl _ _).alloc (Nat.le_refl _) _).drew | exact ownsRow_below HK.out.2.1 ((Below.refl _ _).drew.alloc (Nat.le_refl _) _)) ⟨W1.heap.size,0,none⟩ 1 1 [.int .i64 sk,.int .i64 sn,.int .i64 ek,.int .i64 en,.slice ead em ec,.int .i64 ck,.int .i64 ak,.int .i64 an,.slice aad am ac,.int .i64 bk,.int .i64 bn,.slice bad bm bc,.slice yad b.length yc,.slice lad l.length lc] (by simp [Act.eval]) rfl (fresh_cells W1.drew _ 123) (by intro u hu;simp at hu;rcases hu with rfl | rfl | rfl | rfl | rfl | rfl | rfl | rfl | rfl | rfl | rfl | rfl | rfl | rfl <;> rfl) (by unfold maxLen;omega) (by omega) (by have:=HK.out.1.le;simp;omega) ?_
     intro v3 w3 hown3 hg3 hv3
     obtain ⟨g3,cap3,rfl,hbg3,hfr3,hlg3⟩:=owns_some hown3
     have hS3:=keepB (w':=w3) (by assumption) (World.grownBy.block hg3 p1 (by simp;omega) HN.out.1.2) (World.grownBy.block hg3 p2 (by simp;omega) HN.out.2.2)
     have hw3:=grown_wb (HK.out.1.below (Below.refl _ _).drew) hg3
     have HI3:Hid (_∧_∧_):=⟨hown3,hg3,hv3⟩
     clear hown3 hg3 hv3
     refine hK.out _ _ hS3 (fun hHeld=>?_)
     clear hK K
     refine tk (i:=8) (n:=25) (v:=?_) ?_ ?_
     rotate_left 1
     ·intro w hSw
      first | (go_simp;done) | (go_simp;with_reducible rfl)
     simp only [ls0,ls1]
     refine tk (i:=9) (n:=26) (v:=?_) ?_ ?_
     rotate_left 1
     ·intro w hSw
      first | (go_simp;done) | (go_simp;with_reducible rfl)
     simp only [ls0,ls1]
     refine wpAnyH_ready (rs:=[10]) (by kernel_rfl) (by simp) ?_
     refine AllReadyH.cons rfl (fun K hK=>?_) AllReadyH.nil
     go_simp
     refine hK.out _ _ ?_ (fun hHeld=>?_)
     ·first | assumption | exact keepB_alloc (by assumption) | exact keepB_set (by simpa using hpv) (by simpa using hpw) (by assumption)
     clear hK K
     refine wpAnyH_done (by kernel_rfl) ?_ _
     go_wp2_with fail
     go_meet
     case rel =>
      have R1:=Wk.push (x:=fun i=>([.int .i64 sk,.int .i64 sn,.int .i64 ek,.int .i64 en,.slice ead em ec,.int .i64 ck,.int .i64 ak,.int .i64 an,.slice aad am ac,.int .i64 bk,.int .i64 bn,.slice bad bm bc,.slice yad b.length yc,.slice lad l.length lc]:List Value).getD i undef) (k:=sk) (n:=sn) (by first | exact HK.out.1.below ((Below.refl _ _).alloc (Nat.le_refl _) _).drew | exact HK.out.1.below ((Below.refl _ _).drew.alloc (Nat.le_refl _) _)) ⟨_,_,_,_,_,_,_,_,_,_,_,_,_,_,_,_,_,_,_,_,_,_,rfl,rfl,rfl,rfl,rfl,rfl,rfl,rfl,rfl,rfl,rfl,rfl,rfl,rfl⟩ HK.out.2.2.1 HI3.out.1 HI3.out.2.1 HI3.out.2.2
      exact ⟨g3,cap3,R1.1,(WR.of_below (by first | exact ((Below.refl _ _).alloc (Nat.le_refl _) _).drew | exact ((Below.refl _ _).drew.alloc (Nat.le_refl _) _))).trans R1.2⟩
    ·go_simp
     refine hK.out _ _ ?_ (fun hHeld=>?_)
     ·first | assumption | exact keepB_alloc (by assumption) | exact keepB_set (by simpa using hpv) (by simpa using hpw) (by assumption)
     clear hK K
     refine wpAnyH_ready (rs:=[4]) (by kernel_rfl) (by simp) ?_
     refine AllReadyH.cons rfl (fun K hK=>?_) AllReadyH.nil
     go_simp
     refine hK.out _ _ ?_ (fun hHeld=>?_)
     ·first | assumption | exact keepB_alloc (by assumption) | exact keepB_set (by simpa using hpv) (by simpa using hpw) (by assumption)
     clear hK K
     refine wpAnyH_ready (rs:=[7]) (by kernel_rfl) (by simp) ?_
     refine AllReadyH.cons rfl (fun K hK=>?_) AllReadyH.nil
     refine step_append_mine rfl (.tmp 21) (.tmp 23) 63 rfl B 123 i0 _ 14 192 Tryd.underlying63 hi hz0 hz1 hz2 rfl (by decide) (.slice vad ar.length vcap) ar.length xs (by simp [Act.eval]) (by first | exact ownsRow_below HK.out.2.1 ((Below.refl _ _).alloc (Nat.le_refl _) _).drew | exact ownsRow_below HK.out.2.1 ((Below.refl _ _).drew.alloc (Nat.le_refl _) _)) ⟨W1.heap.size,0,none⟩ 1 1 [.int .i64 sk,.int .i64 sn,.int .i64 ek,.int .i64 en,.slice ead em ec,.int .i64 ck,.int .i64 ak,.int .i64 an,.slice aad am ac,.int .i64 bk,.int .i64 bn,.slice bad bm bc,.slice yad b.length yc,.slice lad l.length lc] (by simp [Act.eval]) rfl (fresh_cells W1.drew _ 123) (by intro u hu;simp at hu;rcases hu with rfl | rfl | rfl | rfl | rfl | rfl | rfl | rfl | rfl | rfl | rfl | rfl | rfl | rfl <;> rfl) (by unfold maxLen;omega) (by omega) (by have:=HK.out.1.le;simp;omega) ?_
     intro v3 w3 hown3 hg3 hv3
     obtain ⟨g3,cap3,rfl,hbg3,hfr3,hlg3⟩:=owns_some hown3
     have hS3:=keepB (w':=w3) (by assumption) (World.grownBy.block hg3 p1 (by simp;omega) HN.out.1.2) (World.grownBy.block hg3 p2 (by simp;omega) HN.out.2.2)
     have hw3:=grown_wb (HK.out.1.below (Below.refl _ _).drew) hg3
     have HI3:Hid (_∧_∧_):=⟨hown3,hg3,hv3⟩
     clear hown3 hg3 hv3
     refine hK.out _ _ hS3 (fun hHeld=>?_)
     clear hK K
     refine tk (i:=8) (n:=25) (v:=?_) ?_ ?_
     rotate_left 1
     ·intro w hSw
      first | (go_simp;done) | (go_simp;with_reducible rfl)
     simp only [ls0,ls1]
     refine tk (i:=9) (n:=26) (v:=?_) ?_ ?_
     rotate_left 1
     ·intro w hSw
      first | (go_simp;done) | (go_simp;with_reducible rfl)
     simp only [ls0,ls1]
     refine wpAnyH_ready (rs:=[10]) (by kernel_rfl) (by simp) ?_
     refine AllReadyH.cons rfl (fun K hK=>?_) AllReadyH.nil
     go_simp
     refine hK.out _ _ ?_ (fun hHeld=>?_)
     ·first | assumption | exact keepB_alloc (by assumption) | exact keepB_set (by simpa using hpv) (by simpa using hpw) (by assumption)
     clear hK K
     refine wpAnyH_done (by kernel_rfl) ?_ _
     go_wp2_with fail
     go_meet
     case rel =>
      have R1:=Wk.push (x:=fun i=>([.int .i64 sk,.int .i64 sn,.int .i64 ek,.int .i64 en,.slice ead em ec,.int .i64 ck,.int .i64 ak,.int .i64 an,.slice aad am ac,.int .i64 bk,.int .i64 bn,.slice bad bm bc,.slice yad b.length yc,.slice lad l.length lc]:List Value).getD i undef) (k:=sk) (n:=sn) (by first | exact HK.out.1.below ((Below.refl _ _).alloc (Nat.le_refl _) _).drew | exact HK.out.1.below ((Below.refl _ _).drew.alloc (Nat.le_refl _) _)) ⟨_,_,_,_,_,_,_,_,_,_,_,_,_,_,_,_,_,_,_,_,_,_,rfl,rfl,rfl,rfl,rfl,rfl,rfl,rfl,rfl,rfl,rfl,rfl,rfl,rfl⟩ HK.out.2.2.1 HI3.out.1 HI3.out.2.1 HI3.out.2.2
      exact ⟨g3,cap3,R1.1,(WR.of_below (by first | exact ((Below.refl _ _).alloc (Nat.le_refl _) _).drew | exact ((Below.refl _ _).drew.alloc (Nat.le_refl _) _))).trans R1.2⟩
   ·go_wp2_with (first
     | (at_builtin;refine append_mine _ rfl (.tmp 9) (.tmp 11) 63 rfl B 123 i0 _ 14 192 Tryd.underlying63 hi hz0 hz1 hz2 rfl (by decide) _ ar.length xs rfl (ownsRow_below HK.out.2.1 ((Below.refl _ _).alloc (Nat.le_refl _) _)) ⟨W1.heap.size,0,none⟩ 1 1 [.int .i64 0,.int .i64 0,.int .i64 0,.int .i64 0,.slice none 0 0,.int .i64 0,.int .i64 0,.int .i64 0,.slice none 0 0,.int .i64 0,.int .i64 0,.slice none 0 0,.slice none 0 0,.slice none 0 0] rfl rfl ?qc ?q1 (by decide) ?q3 ?q4 ?q5 ?_;rotate_left 5;intro v3 w3 hown3 hg3 hv3;obtain ⟨g3,cap3,rfl,hbg3,hfr3,hlg3⟩:=owns_some hown3;obtain ⟨f0,f1,f2,f3,f4,f5,f6,f7,f8,f9,f10,f11,f12,f13,-⟩:=copyIs.cell (grown_copy HCP.out hg3 HN.out.2.2);have hw3:=grown_wb HK.out.1 hg3;have hgw:=Nat.ne_of_gt (Nat.lt_of_lt_of_le HK.out.1.lt hbg3);obtain ⟨z0,z1,z2,z3,z4,z5,z6,z7,z8,z9,z10,z11,z12,z13⟩:=owns_tail hown3 HK.out.2.1.1;have HI3:Hid (_∧_∧_):=⟨hown3,hg3,hv3⟩;clear hown3 hg3 hv3))
    case qc=>exact fresh_cells W1 _ 123
    case q1=>intro u hu;simp at hu;rcases hu with rfl | rfl | rfl | rfl | rfl | rfl <;> rfl
    case q3=>unfold maxLen;omega
    case q4=>omega
    case q5=>have:=HK.out.1.le;simp;omega
    go_meet
    case rel =>
     have k1:Wk (W1.alloc (.cells #[.int .i64 0,.int .i64 0,.int .i64 0,.int .i64 0,.slice none 0 0,.int .i64 0,.int .i64 0,.int .i64 0,.slice none 0 0,.int .i64 0,.int .i64 0,.slice none 0 0,.slice none 0 0,.slice none 0 0] 123)) wb B i (.slice vad ar.length vcap) ar:=HK.out.1.below ((Below.refl _ _).alloc (Nat.le_refl _) _)
     have R1:=Wk.push (x:=fun i=>([.int .i64 0,.int .i64 0,.int .i64 0,.int .i64 0,.slice none 0 0,.int .i64 0,.int .i64 0,.int .i64 0,.slice none 0 0,.int .i64 0,.int .i64 0,.slice none 0 0,.slice none 0 0,.slice none 0 0]:List Value).getD i undef) (k:=0) (n:=0) k1 ⟨_,_,_,_,_,_,_,_,_,_,_,_,_,_,_,_,_,_,_,_,_,_,rfl,rfl,rfl,rfl,rfl,rfl,rfl,rfl,rfl,rfl,rfl,rfl,rfl,rfl⟩ HK.out.2.2.1 HI3.out.1 HI3.out.2.1 HI3.out.2.2
     have R2:=Wk.over (x:=fun i=>([.int .i64 sk,.int .i64 sn,.int .i64 ek,.int .i64 en,.slice ead em ec,.int .i64 ck,.int .i64 ak,.int .i64 an,.slice aad am ac,.int .i64 bk,.int .i64 bn,.slice bad bm bc,.slice yad b.length yc,.slice lad l.length lc]:List Value).getD i undef) (k:=sk) (n:=sn) R1.1 ⟨_,_,_,_,_,_,_,_,_,_,_,_,_,_,_,_,_,_,_,_,_,_,rfl,rfl,rfl,rfl,rfl,rfl,rfl,rfl,rfl,rfl,rfl,rfl,rfl,rfl⟩
     exact ⟨g3,cap3,R2.1,(WR.of_below ((Below.refl _ _).alloc (Nat.le_refl _) _)).trans (R1.2.trans R2.2)⟩
  case rest =>
   obtain ⟨g,cap,hkd,hrd⟩:=hcut
   clear d0 d1 d2 d3 d4 d5 d6 d7 d8 d9 d10 d11 d12 d13 hfz b1 hwf
   have a1:=hrd.cell HN.out.1.1 HN.out.1.2 e1
   have a12:=hrd.cell HN.out.2.1 HN.out.2.2 (HCP.out.cell.2.2.2.2.2.2.2.2.2.2.2.2.1)
   have a13:=hrd.cell HN.out.2.1 HN.out.2.2 (HCP.out.cell.2.2.2.2.2.2.2.2.2.2.2.2.2.1)
   have hq1:p1<wc.heap.size:=World.block_lt_of_cell? _ _ a1
   have hq2:p2<wc.heap.size:=World.block_lt_of_cell? _ _ a12
   have hqw:wb<wc.heap.size:=(Array.getElem?_eq_some_iff.1 hkd.blk).1
   have hqg:g<wc.heap.size:=(hkd.own_lt g rfl).2
   have hlow:=hrd.low HK.out.1 hwb (HH.out.2.1.trans (HK.out.2.2.2.mono HH.out.2.1.size))
   have HO1:Hid (some p1≠(Value.slice (some ⟨g,0,none⟩) (ar.length+1) cap).ownBlock∧some p2≠(Value.slice (some ⟨g,0,none⟩) (ar.length+1) cap).ownBlock):=⟨hrd.off hp1 HN.out.1.2,hrd.off hp2 HN.out.2.2⟩
   have HD:Hid (Wk wc wb B i (.slice (some ⟨g,0,none⟩) (ar.length+1) cap) (ar++[(sk,sn)])∧WR wb W1 wc (.slice vad ar.length vcap) (.slice (some ⟨g,0,none⟩) (ar.length+1) cap)∧Below w0.heap.size w0 wc):=⟨hkd,hrd,hlow⟩
   clear hkd hrd hlow e1
   go_wp2_with fail
   go_region_held3 (fun w'=>w'.cell? ⟨p1,0,none⟩=some (.pointer (some ⟨wb,0,none⟩))∧w'.cell? ⟨p2,12,none⟩=some (.slice yad b.length yc)∧w'.cell? ⟨p2,13,none⟩=some (.slice lad l.length lc))
    (first | assumption | exact ⟨a1,a12,a13⟩ | exact keepC_alloc (by assumption) | exact keepC_alloc (keepC_alloc (by assumption)))
    (first
     | (go_at_call 94;refine (list_any _ _ _ _ _).mono ?_;rintro r w1 ⟨rfl,rfl⟩)
     | (go_at_call 136;refine (inner_looks w0 N HH.out.1 _ wb B (wc.heap.size+1+1+1+1) (wc.heap.size+1) wc.heap.size (wc.heap.size+1+1+1) (wc.heap.size+1+1) _ i (.slice (some ⟨g,0,none⟩) (ar.length+1) cap) _ _ b l (ar++[(sk,sn)]) hbk hwb (by exact five_below0 HD.out.2.2) HH.out.2.2.1 HH.out.2.2.2.1 (by exact HD.out.1.below five_below) hi1 hi2 (by simp;omega) (by simp [go_sem]) (by simp [go_sem]) (by simp [go_sem]) (by simp [go_sem]) (by simp [go_sem]) (by simp [go_sem]) (by rintro q (rfl | rfl | rfl | rfl | rfl) <;> exact ⟨by omega,by simp [Value.ownBlock];omega⟩)).mono ?_;rintro r w9 ⟨rfl,v9,hk9,hr9⟩;have hS9:w9.cell? ⟨p1,0,none⟩=some (.pointer (some ⟨wb,0,none⟩))∧w9.cell? ⟨p2,12,none⟩=some (.slice yad b.length yc)∧w9.cell? ⟨p2,13,none⟩=some (.slice lad l.length lc):=keepC_wr hr9 HN.out.1.1 HN.out.2.1 HO1.out.1 HO1.out.2 (by assumption);have HR9:Hid (_∧_):=⟨hk9,hr9⟩;clear hk9 hr9))
   obtain ⟨ys9,ho9,-⟩:=HR9.out.1.owns
   rw [List.length_append,List.length_singleton] at ho9
   obtain ⟨g9,cap9,hv9,hcap9⟩:=owns_cap ho9
   subst hv9
   have b9:w9.cell? ⟨wb,1,none⟩=some (.slice (some ⟨g9,0,none⟩) (ar.length+1) cap9):=by unfold World.cell?;rw [HR9.out.1.blk];rfl
   have f9:∀ j,w9.frozen? ⟨wb,j,none⟩=false:=by intro j;unfold World.frozen?;rw [HR9.out.1.blk];simp
   have hw9:wb<w9.heap.size:=World.block_lt_of_cell? _ _ b9
   have hc9:=hS9.1
   have hwr:IntKind.i64.wrap (ar.length:Int)=ar.length:=IntWalk.i64_in _ (by omega)
   clear ho9 hS9 a1 a12 a13
   go_wp2_with fail
   refine wp_region_held_drew (S:=(fun w'=>w'.cell? ⟨p1,0,none⟩=some (.pointer (some ⟨wb,0,none⟩)))) (by kernel_rfl) hc9 (fun hHeld=>?_)
   refine tk (i:=0) (n:=37) (v:=?_) ?_ ?_
   rotate_left 1
   ·intro w hSw
    first | (go_simp;done) | (go_simp;with_reducible rfl)
   simp only [ls0,ls1]
   refine tk (i:=1) (n:=38) (v:=?_) ?_ ?_
   rotate_left 1
   ·intro w hSw
    first | (go_simp;done) | (go_simp;with_reducible rfl)
   simp only [ls0,ls1]
   refine tk (i:=2) (n:=39) (v:=?_) ?_ ?_
   rotate_left 1
   ·intro w hSw
    first | (go_simp;done) | (go_simp;with_reducible rfl)
   simp only [ls0,ls1]
   refine tk (i:=3) (n:=40) (v:=?_) ?_ ?_
   rotate_left 1
   ·intro w hSw
    first | (go_simp;done) | (go_simp;with_reducible rfl)
   simp only [ls0,ls1]
   refine tk (i:=5) (n:=42) (v:=?_) ?_ ?_
   rotate_left 1
   ·intro w hSw
    first | (go_simp;done) | (go_simp;with_reducible rfl)
   simp only [ls0,ls1]
   refine tk (i:=6) (n:=43) (v:=?_) ?_ ?_
   rotate_left 1
   ·intro w hSw
    first | (go_simp;done) | (go_simp;with_reducible rfl)
   simp only [ls0,ls1]
   refine tk (i:=7) (n:=44) (v:=?_) ?_ ?_
   rotate_left 1
   ·intro w hSw
    first | (go_simp;done) | (go_simp;with_reducible rfl)
   simp only [ls0,ls1]
   refine wpAnyH_ready (rs:=[4,8]) (by kernel_rfl) (by simp) ?_
   refine AllReadyH.cons rfl (fun K hK=>?_) (AllReadyH.cons rfl (fun K hK=>?_) AllReadyH.nil)
   ·go_simp
    refine hK.out _ _ ?_ (fun hHeld=>?_)
    ·first | assumption | exact cell_set (by simpa using hpv) (by assumption)
    clear hK K
    refine wpAnyH_ready (rs:=[8]) (by kernel_rfl) (by simp) ?_
    refine AllReadyH.cons rfl (fun K hK=>?_) AllReadyH.nil
    go_simp
    refine hK.out _ _ ?_ (fun hHeld=>?_)
    ·first | assumption | exact cell_set (by simpa using hpv) (by assumption)
    clear hK K
    refine tk (i:=9) (n:=46) (v:=?_) ?_ ?_
    rotate_left 1
    ·intro w hSw
     first | (go_simp;done) | (go_simp;with_reducible rfl)
    simp only [ls0,ls1]
    refine tk (i:=10) (n:=47) (v:=.int .i64 ar.length) ?_ ?_
    rotate_left 0
    ·intro w hSw
     first | (go_simp;done) | (go_simp;rw [hwr];done) | (go_simp;rw [hwr])
    simp only [ls0,ls1]
    refine tk (i:=11) (n:=48) (v:=.slice (some ⟨g9,0,none⟩) ar.length cap9) ?_ ?_
    rotate_left 0
    ·intro w hSw
     first | (go_simp;done) | (go_simp;intro h;omega)
    simp only [ls0,ls1]
    refine tk (i:=12) (n:=49) (v:=?_) ?_ ?_
    rotate_left 1
    ·intro w hSw
     first | (go_simp;done) | (go_simp;with_reducible rfl)
    simp only [ls0,ls1]
    refine tk (i:=13) (n:=50) (v:=?_) ?_ ?_
    rotate_left 1
    ·intro w hSw
     first | (go_simp;done) | (go_simp;with_reducible rfl)
    simp only [ls0,ls1]
    refine wpAnyH_ready (rs:=[14]) (by kernel_rfl) (by simp) ?_
    refine AllReadyH.cons rfl (fun K hK=>?_) AllReadyH.nil
    go_simp
    refine hK.out _ _ ?_ (fun hHeld=>?_)
    ·first | assumption | exact cell_set (by simpa using hpv) (by assumption)
    clear hK K
    refine wpAnyH_done (by kernel_rfl) ?_ _
    go_wp2_with fail
    go_ret
    have R:=Wk.pop (HR9.out.1.below (Below.refl _ _).drew)
    exact ⟨rfl,_,R.1,(WR.of_below HK.out.2.2.2).trans (HD.out.2.1.trans ((WR.of_below five_below).trans (HR9.out.2.trans ((WR.of_below (Below.refl _ _).drew).trans R.2))))⟩
   ·go_simp
    refine hK.out _ _ ?_ (fun hHeld=>?_)
    ·first | assumption | exact cell_set (by simpa using hpv) (by assumption)
    clear hK K
    refine tk (i:=9) (n:=46) (v:=?_) ?_ ?_
    rotate_left 1
    ·intro w hSw
     first | (go_simp;done) | (go_simp;with_reducible rfl)
    simp only [ls0,ls1]
    refine tk (i:=10) (n:=47) (v:=.int .i64 ar.length) ?_ ?_
    rotate_left 0
    ·intro w hSw
     first | (go_simp;done) | (go_simp;rw [hwr];done) | (go_simp;rw [hwr])
    simp only [ls0,ls1]
    refine wpAnyH_ready (rs:=[4]) (by kernel_rfl) (by simp) ?_
    refine AllReadyH.cons rfl (fun K hK=>?_) AllReadyH.nil
    go_simp
    refine hK.out _ _ ?_ (fun hHeld=>?_)
    ·first | assumption | exact cell_set (by simpa using hpv) (by assumption)
    clear hK K
    refine tk (i:=11) (n:=48) (v:=.slice (some ⟨g9,0,none⟩) ar.length cap9) ?_ ?_
    rotate_left 0
    ·intro w hSw
     first | (go_simp;done) | (go_simp;intro h;omega)
    simp only [ls0,ls1]
    refine tk (i:=12) (n:=49) (v:=?_) ?_ ?_
    rotate_left 1
    ·intro w hSw
     first | (go_simp;done) | (go_simp;with_reducible rfl)
    simp only [ls0,ls1]
    refine tk (i:=13) (n:=50) (v:=?_) ?_ ?_
    rotate_left 1
    ·intro w hSw
     first | (go_simp;done) | (go_simp;with_reducible rfl)
    simp only [ls0,ls1]
    refine wpAnyH_ready (rs:=[14]) (by kernel_rfl) (by simp) ?_
    refine AllReadyH.cons rfl (fun K hK=>?_) AllReadyH.nil
    go_simp
    refine hK.out _ _ ?_ (fun hHeld=>?_)
    ·first | assumption | exact cell_set (by simpa using hpv) (by assumption)
    clear hK K
    refine wpAnyH_done (by kernel_rfl) ?_ _
    go_wp2_with fail
    go_ret
    have R:=Wk.pop (HR9.out.1.below (Below.refl _ _).drew)
    exact ⟨rfl,_,R.1,(WR.of_below HK.out.2.2.2).trans (HD.out.2.1.trans ((WR.of_below five_below).trans (HR9.out.2.trans ((WR.of_below (Below.refl _ _).drew).trans R.2))))⟩
end Go.Proofs.YtnkgbkkakokciacDoor.B
