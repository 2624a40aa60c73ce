import Derived.Test.YtnkgbkkakokciacDoorGBState
import Derived.Test.YtnkgbkkakokciacDoorGKinds
import Derived.Test.YtnkgbkkakokciacDoorGJumps
import Derived.Test.YtnkgbkkakokciacDoorGDB
namespace Go.Proofs.YtnkgbkkakokciacDoor.B
open Go.ChangeShapes Go.WideShapes Go.ChangeAt Go.RowKit
def StmtOk (w0:World) (N:Nat):Prop :=
 ∀ (s:St) (w:World) (wb B:Nat) (i:Int) (v sv:Value) (ar:List (Int × Int)),s.bulk≤N→w0.heap.size≤wb→Below w0.heap.size w0 w→s.In w0 sv→Wk w wb B i v ar→-1≤i→i+s.bulk≤2097152→ar.length+s.bulk≤2097152 →
  Calls Tryd.prog 120 #[.pointer (some ⟨wb,0,none⟩),sv] w fun r w'=>r = .returned (.int .i64 (s.chk ar i).1)∧∃ v',Wk w' wb B (s.chk ar i).2 v' ar∧WR wb w w' v v'
def ListOk (w0:World) (N:Nat):Prop :=
 ∀ (a:List St) (w:World) (wb B p1 p2:Nat) (i:Int) (v lv:Value) (ar:List (Int × Int)),St.bulkAll a≤N→w0.heap.size≤wb→Below w0.heap.size w0 w→St.Sl w0 a lv→Wk w wb B i v ar→-1≤i→i+St.bulkAll a≤2097152→ar.length+St.bulkAll a≤2097152 →
  w.cell? ⟨p1,0,none⟩=some lv→w.cell? ⟨p2,0,none⟩=some (.pointer (some ⟨wb,0,none⟩))→p2≠wb→some p2≠v.ownBlock →
  Calls Tryd.prog 119 #[.pointer (some ⟨p1,0,none⟩),.pointer (some ⟨p2,0,none⟩)] w fun r w'=>r = .returned (.int .i64 (St.chkAll a ar i).1)∧∃ v',Wk w' wb B (St.chkAll a ar i).2 v' ar∧WR wb w w' v v'
theorem St.chkAll_drop {a:List St} {j:Nat} (h:j<a.length) (ar:List (Int × Int)) (i:Int):St.chkAll (a.drop j) ar i=if ((a[j]).chk ar i).1≠0 then (a[j]).chk ar i else St.chkAll (a.drop (j+1)) ar ((a[j]).chk ar i).2:=by
 rw [drop_at h,St.chkAll]
theorem bulkAll_drop {a:List St} {j:Nat} (h:j<a.length):St.bulkAll (a.drop j)=(a[j]).bulk+St.bulkAll (a.drop (j+1)):=by
 rw [drop_at h,St.bulkAll]
set_option maxRecDepth 20000 in
set_option maxHeartbeats 2000000 in
theorem list_of_stmt (w0:World) (N:Nat) (_hN:N≤1048576) (hst:StmtOk w0 N):ListOk w0 N:=by
 intro a w wb B p1 p2 i v lv ar hb hwb hB0 hsl hwk hi1 hi2 har hp1 hp2 hpw hpo
 have hlen:=length_le_bulkAll a
 obtain ⟨ad,c,rfl,hrow⟩:=hsl
 have HR:Hid (_∧_∧_∧(a=[]∨∃ b o,ad=some ⟨b,o,none⟩∧St.Row w0 a b o)):=⟨hB0,hwk,hpo,hrow⟩
 have hp2l:p2<w.heap.size:=World.block_lt_of_cell? _ _ hp2
 have HP2:Hid _:=hp2
 have HS:Hid (StmtOk w0 N):=hst
 clear hrow hB0 hwk hpo hst hp2
 go_enter Tryd.func119,Tryd.ntmps119
 go_wp2_with fail
 go_loopw [4,5,8] (fun _ _ x wr=>∃ (j:Nat) (i':Int) (v':Value),j≤a.length∧x = .int .i64 j∧St.chkAll (a.drop j) ar i'=St.chkAll a ar i∧-1≤i'∧i'+St.bulkAll (a.drop j)≤2097152∧Wk wr wb B i' v' ar∧WR wb w wr v v') (fun _ _ x _=>a.length - (intOf x).toNat)
 case atStart=>exact ⟨0,i,v,Nat.zero_le _,rfl,rfl,hi1,hi2,HR.out.2.1,WR.refl _ _ _⟩
 case round =>
  obtain ⟨j,i',v',hj,rfl,hch,hi1',hi2',hwk',hwr⟩:=hrel
  by_cases hlt:j<a.length
  ·rcases HR.out.2.2.2 with h | ⟨b,o,had,hrow⟩
   ·subst h;simp at hlt
   subst had
   have hlow:=hwr.low HR.out.2.1 hwb HR.out.1
   have hq2:=hwr.cell hpw HR.out.2.2.1 HP2.out
   have hbk:=bulkAll_at a j a[j] (by simp [hlt])
   have hbd:=bulkAll_drop hlt
   obtain ⟨sk,sn,se,sck,sca,scb,sy,sl,hs,ek,en,ead,em,ec,ak,an,aad,am,ac,bk,bn,bad,bm,bc,yad,yc,lad,lc,c0,c1,c2,c3,c4,c5,c6,c7,c8,c9,c10,c11,c12,c13,i1,i2,i3,i4,i5⟩:=hrow.shape hlt
   have hin:(a[j]).In w0 (.agg #[.int .i64 sk,.int .i64 sn,.int .i64 ek,.int .i64 en,.slice ead em ec,.int .i64 sck,.int .i64 ak,.int .i64 an,.slice aad am ac,.int .i64 bk,.int .i64 bn,.slice bad bm bc,.slice yad sy.length yc,.slice lad sl.length lc]):=by
    rw [hs]
    unfold St.In
    exact ⟨_,_,_,_,_,_,_,_,_,_,_,rfl,i1,i2,i3,i4,i5⟩
   replace c0:=below_cell hlow c0
   replace c1:=below_cell hlow c1
   replace c2:=below_cell hlow c2
   replace c3:=below_cell hlow c3
   replace c4:=below_cell hlow c4
   replace c5:=below_cell hlow c5
   replace c6:=below_cell hlow c6
   replace c7:=below_cell hlow c7
   replace c8:=below_cell hlow c8
   replace c9:=below_cell hlow c9
   replace c10:=below_cell hlow c10
   replace c11:=below_cell hlow c11
   replace c12:=below_cell hlow c12
   replace c13:=below_cell hlow c13
   have hq2l:p2<wr.heap.size:=World.block_lt_of_cell? _ _ hq2
   rw [St.chkAll_drop hlt] at hch
   have HX:Hid (_∧_∧_∧_∧_):=⟨hin,hlow,hch,hwk',hwr⟩
   clear hin hlow hch hwk' hwr hs hrow i1 i2 i3 i4 i5
   generalize a[j]=s at *
   have hcl:=St.count_le s
   by_cases he:(s.chk ar i').1=0
   ·have HE:Hid ((s.chk ar i').1=0):=he
    go_wp2_with (first
     | (go_at_call 120;refine (HS.out s _ wb B i' v' _ ar (by omega) hwb ?h1 HX.out.1 ?h2 hi1' (by omega) (by omega)).mono ?_;rotate_left 2;rintro e w3 ⟨rfl,v3,hk3,hr3⟩;have H3:Hid (_∧_):=⟨hk3,hr3⟩;clear hk3 hr3))
    case h1=>exact HX.out.2.1.alloc HX.out.2.1.size _
    case h2=>exact HX.out.2.2.2.1.below ((Below.refl _ _).alloc (Nat.le_refl _) _)
    have hch:=HX.out.2.2.1
    rw [if_neg (by simpa using HE.out)] at hch
    have hat:=St.chk_at s ar i' HE.out
    go_roundw
    case rel=>exact ⟨j+1,(s.chk ar i').2,v3,by omega,by go_num,hch,by omega,by omega,H3.out.1,(HX.out.2.2.2.2.trans (WR.of_below ((Below.refl _ _).alloc (Nat.le_refl _) _))).trans H3.out.2⟩
    case measure=>simp [intOf];omega
   ·have he':((s.chk ar i').1 == 0)=false:=by simpa using he
    have HE:Hid (¬ (s.chk ar i').1=0):=he
    clear he
    go_wp2_with (first
     | (go_at_call 120;refine (HS.out s _ wb B i' v' _ ar (by omega) hwb ?h1 HX.out.1 ?h2 hi1' (by omega) (by omega)).mono ?_;rotate_left 2;rintro e w3 ⟨rfl,v3,hk3,hr3⟩;have H3:Hid (_∧_):=⟨hk3,hr3⟩;clear hk3 hr3))
    case h1=>exact HX.out.2.1.alloc HX.out.2.1.size _
    case h2=>exact HX.out.2.2.2.1.below ((Below.refl _ _).alloc (Nat.le_refl _) _)
    have hch:=HX.out.2.2.1
    rw [if_pos HE.out] at hch
    go_ret
    exact ⟨ret_int (by rw [← hch]),v3,by rw [← hch];exact H3.out.1,(HX.out.2.2.2.2.trans (WR.of_below ((Below.refl _ _).alloc (Nat.le_refl _) _))).trans H3.out.2⟩
  ·have hje:j=a.length:=by omega
   subst hje
   rw [List.drop_length,St.chkAll] at hch
   have HX:Hid (_∧_∧_):=⟨hch,hwk',hwr⟩
   clear hch hwk' hwr
   go_wp2_with fail
   go_ret
   exact ⟨ret_int (by rw [← HX.out.1]),v',by rw [← HX.out.1];exact HX.out.2.1,HX.out.2.2⟩
theorem list_any (w:World) (wb:Nat) (ad:Option Addr) (m c:Nat):Calls Tryd.prog 94 #[.pointer (some ⟨wb,0,none⟩),.slice ad m c] w fun r w' =>
  r = .returned (.func (.func 119) #[] #[.pointer (some ⟨w.heap.size+1,0,none⟩),.pointer (some ⟨w.heap.size,0,none⟩)])∧w'=(w.alloc (.cells #[.pointer (some ⟨wb,0,none⟩)] 190)).alloc (.cells #[.slice ad m c] 63):=by
 go_enter Tryd.func94,Tryd.ntmps94
 go_wp2
 go_ret
 exact ⟨rfl,rfl⟩
theorem inner_any (w:World) (wb:Nat) (sk sn ek en ck ak an bk bn:Int) (ead aad bad yad lad:Option Addr) (em ec am ac bm bc ly yc ll lc:Nat) :
  Calls Tryd.prog 143 #[.pointer (some ⟨wb,0,none⟩),.agg #[.int .i64 sk,.int .i64 sn,.int .i64 ek,.int .i64 en,.slice ead em ec,.int .i64 ck,.int .i64 ak,.int .i64 an,.slice aad am ac,.int .i64 bk,.int .i64 bn,.slice bad bm bc,.slice yad ly yc,.slice lad ll lc]] w fun r w' =>
  r = .returned (.func (.func 157) #[] #[.pointer (some ⟨w.heap.size,0,none⟩),.pointer (some ⟨w.heap.size+1,0,none⟩)])∧w'=(w.alloc (.cells #[.pointer (some ⟨wb,0,none⟩)] 190)).alloc (.cells #[.int .i64 sk,.int .i64 sn,.int .i64 ek,.int .i64 en,.slice ead em ec,.int .i64 ck,.int .i64 ak,.int .i64 an,.slice aad am ac,.int .i64 bk,.int .i64 bn,.slice bad bm bc,.slice yad ly yc,.slice lad ll lc] 123):=by
 go_enter Tryd.func143,Tryd.ntmps143
 go_wp2
 go_ret
 exact ⟨rfl,rfl⟩
theorem ent22 (cp:Array Value) (w:World):(callFunc 119 cp).run Tryd.prog w = .ok (.enter 119 cp) w:=run_enter Tryd.func119 (by kernel_rfl) (by kernel_rfl) cp w
theorem ent42 (cp:Array Value) (w:World):(callFunc 157 cp).run Tryd.prog w = .ok (.enter 157 cp) w:=run_enter Tryd.func157 (by kernel_rfl) (by kernel_rfl) cp w
theorem Ex.In.open {w:World}:∀ {e:Ex} {v:Value},e.In w v→∃ k n ad m c,v = .agg #[.int .i64 k,.int .i64 n,.slice ad m c]
 | .mk k n a,v,h=>by
  unfold Ex.In at h
  obtain ⟨ad,c,rfl,-⟩:=h
  exact ⟨k,n,ad,_,c,rfl⟩
theorem St.In.open {w:World} {k n ck:Int} {e ca cb:Ex} {y l:List St} {v:Value} (h:(St.mk k n e ck ca cb y l).In w v):∃ ek en ead em ec ak an aad am ac bk bn bad bm bc yad yc lad lc,v = .agg #[.int .i64 k,.int .i64 n,.int .i64 ek,.int .i64 en,.slice ead em ec,.int .i64 ck,.int .i64 ak,.int .i64 an,.slice aad am ac,.int .i64 bk,.int .i64 bn,.slice bad bm bc,.slice yad y.length yc,.slice lad l.length lc]∧e.In w (.agg #[.int .i64 ek,.int .i64 en,.slice ead em ec])∧ca.In w (.agg #[.int .i64 ak,.int .i64 an,.slice aad am ac])∧cb.In w (.agg #[.int .i64 bk,.int .i64 bn,.slice bad bm bc])∧St.Sl w y (.slice yad y.length yc)∧St.Sl w l (.slice lad l.length lc):=by
 unfold St.In at h
 obtain ⟨e0,e1,e2,a0,a1,a2,b0,b1,b2,sb,sl,rfl,h1,h2,h3,⟨yad,yc,rfl,h4⟩,⟨lad,lc,rfl,h5⟩⟩:=h
 obtain ⟨ek,en,ead,em,ec,q1⟩:=Ex.In.open h1
 obtain ⟨ak,an,aad,am,ac,q2⟩:=Ex.In.open h2
 obtain ⟨bk,bn,bad,bm,bc,q3⟩:=Ex.In.open h3
 simp at q1 q2 q3
 obtain ⟨rfl,rfl,rfl⟩:=q1
 obtain ⟨rfl,rfl,rfl⟩:=q2
 obtain ⟨rfl,rfl,rfl⟩:=q3
 exact ⟨ek,en,ead,em,ec,ak,an,aad,am,ac,bk,bn,bad,bm,bc,yad,yc,lad,lc,rfl,h1,h2,h3,⟨_,_,rfl,h4⟩,⟨_,_,rfl,h5⟩⟩
set_option maxRecDepth 20000 in
set_option maxHeartbeats 400000 in
theorem stmt1_any (w0:World) (bb N:Nat) (hL:ListC w0 bb N) (y l:List St) (k n ek en ck ak an bk bn:Int) (ead aad bad yad lad:Option Addr) (em ec am ac bm bc yc lc:Nat) (i4:St.Sl w0 y (.slice yad y.length yc)) (hly:St.LayAll y) (hN:St.bulkAll y≤N) (w:World) (img:List Io) (loops i:Int) (iv:Value) (q p:Nat) (hw:BW w0 w bb img loops iv) (hq:Kp w bb iv q (.cells #[.pointer (some ⟨bb,0,none⟩)] 163 (0,0))) (hp:Kp w bb iv p (.cells #[.int .i64 k,.int .i64 n,.int .i64 ek,.int .i64 en,.slice ead em ec,.int .i64 ck,.int .i64 ak,.int .i64 an,.slice aad am ac,.int .i64 bk,.int .i64 bn,.slice bad bm bc,.slice yad y.length yc,.slice lad l.length lc] 123 (0,0))) (hlen:img.length+8*(St.bulkAll y)≤600000) (hlo:0≤loops∧loops+(St.bulkAll y:Nat)≤1000000) :
  Calls Tryd.prog 125 #[.int .i64 i,.pointer (some ⟨q,0,none⟩),.pointer (some ⟨p,0,none⟩)] w fun r w'=>r = .returned (.tuple #[])∧∃ iv',BW w0 w' bb (img++mv img.length (St.pcAll y loops)) loops iv'∧BG bb w w' iv iv':=by
 have HC:=hL y w _ img loops iv hN i4 hly hw hlen hlo
 obtain ⟨d1,e1,l1⟩:=cells_of (l:=[_]) hq.blk
 have x0:=d1 0 _ rfl
 obtain ⟨d2,e2,l2⟩:=cells_of (l:=[_,_,_,_,_,_,_,_,_,_,_,_,_,_]) hp.blk
 have x12:=d2 12 _ rfl
 clear d1 e1 d2 e2 hq hp hw i4 hly hL
 go_enter Tryd.func125,Tryd.ntmps125
 go_wp2_with (go_at_call 60;refine HC.mono ?_;rintro r w2 ⟨rfl,iv2,hw2,hg2⟩;have H2:Hid (_∧_):=⟨hw2,hg2⟩;clear hw2 hg2 HC)
 go_end0
 exact ⟨rfl,iv2,H2.out.1,H2.out.2⟩
set_option maxRecDepth 20000 in
set_option maxHeartbeats 400000 in
theorem stmt2_any (w0:World) (bb N:Nat) (hE:EndsIn w0) (hK:CompsIn w0) (hL:ListC w0 bb N) (ca cb:Ex) (y l:List St) (k n ek en ck ak an bk bn:Int) (ead aad bad yad lad:Option Addr) (em ec am ac bm bc yc lc:Nat) (i2:ca.In w0 (.agg #[.int .i64 ak,.int .i64 an,.slice aad am ac])) (i3:cb.In w0 (.agg #[.int .i64 bk,.int .i64 bn,.slice bad bm bc])) (i4:St.Sl w0 y (.slice yad y.length yc)) (hck:1≤ck∧ck≤4) (hla:ca.Lay) (hlb:cb.Lay) (hly:St.LayAll y) (hN:St.bulkAll y≤N) (w:World) (img:List Io) (loops i:Int) (iv:Value) (q p:Nat) (hw:BW w0 w bb img loops iv) (hq:Kp w bb iv q (.cells #[.pointer (some ⟨bb,0,none⟩)] 163 (0,0))) (hp:Kp w bb iv p (.cells #[.int .i64 k,.int .i64 n,.int .i64 ek,.int .i64 en,.slice ead em ec,.int .i64 ck,.int .i64 ak,.int .i64 an,.slice aad am ac,.int .i64 bk,.int .i64 bn,.slice bad bm bc,.slice yad y.length yc,.slice lad l.length lc] 123 (0,0))) (hlen:img.length+8*(ca.nodes+cb.nodes+St.bulkAll y)≤600000) (hlo:0≤loops∧loops+(St.bulkAll y:Nat)≤1000000) :
  Calls Tryd.prog 126 #[.int .i64 i,.pointer (some ⟨q,0,none⟩),.pointer (some ⟨p,0,none⟩)] w fun r w'=>r = .returned (.tuple #[])∧∃ iv',BW w0 w' bb (img++mv img.length (whP (cdP ck ca cb) (St.pcAll y loops) i)) loops iv'∧BG bb w w' iv iv':=by
 have HC:=while_any w0 bb N hE hK hL ca cb y l k n ek en ck ak an bk bn ead aad bad yad lad em ec am ac bm bc yc lc i2 i3 i4 hck hla hlb hly hN w img loops i iv hw hlen hlo
 obtain ⟨d1,e1,l1⟩:=cells_of (l:=[_]) hq.blk
 have x0:=d1 0 _ rfl
 obtain ⟨d2,e2,l2⟩:=cells_of (l:=[_,_,_,_,_,_,_,_,_,_,_,_,_,_]) hp.blk
 have y0:=d2 0 _ rfl
 have y1:=d2 1 _ rfl
 have y2:=d2 2 _ rfl
 have y3:=d2 3 _ rfl
 have y4:=d2 4 _ rfl
 have y5:=d2 5 _ rfl
 have y6:=d2 6 _ rfl
 have y7:=d2 7 _ rfl
 have y8:=d2 8 _ rfl
 have y9:=d2 9 _ rfl
 have y10:=d2 10 _ rfl
 have y11:=d2 11 _ rfl
 have y12:=d2 12 _ rfl
 have y13:=d2 13 _ rfl
 clear d1 e1 d2 e2 hq hp hw i2 i3 i4 hly hL hE hK
 go_enter Tryd.func126,Tryd.ntmps126
 go_wp2_with (go_at_call 127;refine HC.mono ?_;rintro r w2 ⟨rfl,iv2,hw2,hg2⟩;have H2:Hid (_∧_):=⟨hw2,hg2⟩;clear hw2 hg2 HC)
 go_end0
 exact ⟨rfl,iv2,H2.out.1,H2.out.2⟩
set_option maxRecDepth 20000 in
set_option maxHeartbeats 400000 in
theorem stmt_of_listC (w0:World) (bb N:Nat) (hE:EndsIn w0) (hK:CompsIn w0) (hL:ListC w0 bb N):StmtC w0 bb (N+1):=by
 intro s w v img loops iv hN hin hlay hw hlen hlo
 rcases s with ⟨k,n,e,ck,ca,cb,y,l⟩
 obtain ⟨ek,en,ead,em,ec,ak,an,aad,am,ac,bk,bn,bad,bm,bc,yad,yc,lad,lc,rfl,i1,i2,i3,i4,i5⟩:=St.In.open hin
 clear hin
 rw [St.bulk] at hN hlen hlo
 rw [St.Lay] at hlay
 have p6:=Ex.nodes_pos ca
 have p7:=Ex.nodes_pos cb
 have p8:=Ex.nodes_pos e
 have p9:=Ex.pc_len e
 have hq1:=Kp.new hw (.cells #[.pointer (some ⟨bb,0,none⟩)] 163)
 have hw1:=hw.below (below_new w (.cells #[.pointer (some ⟨bb,0,none⟩)] 163))
 have hp1:=Kp.new hw1 (.cells #[.int .i64 k,.int .i64 n,.int .i64 ek,.int .i64 en,.slice ead em ec,.int .i64 ck,.int .i64 ak,.int .i64 an,.slice aad am ac,.int .i64 bk,.int .i64 bn,.slice bad bm bc,.slice yad y.length yc,.slice lad l.length lc] 123)
 rw [World.size_alloc] at hp1
 have hg1:BG bb (w.alloc (.cells #[.pointer (some ⟨bb,0,none⟩)] 163)) ((w.alloc (.cells #[.pointer (some ⟨bb,0,none⟩)] 163)).alloc (.cells #[.int .i64 k,.int .i64 n,.int .i64 ek,.int .i64 en,.slice ead em ec,.int .i64 ck,.int .i64 ak,.int .i64 an,.slice aad am ac,.int .i64 bk,.int .i64 bn,.slice bad bm bc,.slice yad y.length yc,.slice lad l.length lc] 123)) iv iv:=BG.of_below (below_new _ _)
 have HB2:Hid ((Kp ((w.alloc (.cells #[.pointer (some ⟨bb,0,none⟩)] 163)).alloc (.cells #[.int .i64 k,.int .i64 n,.int .i64 ek,.int .i64 en,.slice ead em ec,.int .i64 ck,.int .i64 ak,.int .i64 an,.slice aad am ac,.int .i64 bk,.int .i64 bn,.slice bad bm bc,.slice yad y.length yc,.slice lad l.length lc] 123)) bb iv w.heap.size (.cells #[.pointer (some ⟨bb,0,none⟩)] 163 (0,0))∧Kp ((w.alloc (.cells #[.pointer (some ⟨bb,0,none⟩)] 163)).alloc (.cells #[.int .i64 k,.int .i64 n,.int .i64 ek,.int .i64 en,.slice ead em ec,.int .i64 ck,.int .i64 ak,.int .i64 an,.slice aad am ac,.int .i64 bk,.int .i64 bn,.slice bad bm bc,.slice yad y.length yc,.slice lad l.length lc] 123)) bb iv (w.heap.size+1) (.cells #[.int .i64 k,.int .i64 n,.int .i64 ek,.int .i64 en,.slice ead em ec,.int .i64 ck,.int .i64 ak,.int .i64 an,.slice aad am ac,.int .i64 bk,.int .i64 bn,.slice bad bm bc,.slice yad y.length yc,.slice lad l.length lc] 123 (0,0)))∧BW w0 ((w.alloc (.cells #[.pointer (some ⟨bb,0,none⟩)] 163)).alloc (.cells #[.int .i64 k,.int .i64 n,.int .i64 ek,.int .i64 en,.slice ead em ec,.int .i64 ck,.int .i64 ak,.int .i64 an,.slice aad am ac,.int .i64 bk,.int .i64 bn,.slice bad bm bc,.slice yad y.length yc,.slice lad l.length lc] 123)) bb img loops iv∧BG bb w ((w.alloc (.cells #[.pointer (some ⟨bb,0,none⟩)] 163)).alloc (.cells #[.int .i64 k,.int .i64 n,.int .i64 ek,.int .i64 en,.slice ead em ec,.int .i64 ck,.int .i64 ak,.int .i64 an,.slice aad am ac,.int .i64 bk,.int .i64 bn,.slice bad bm bc,.slice yad y.length yc,.slice lad l.length lc] 123)) iv iv):=⟨⟨hq1.go hg1,hp1⟩,hw1.below (below_new _ _),(BG.of_below (below_new _ _)).trans hg1⟩
 have hlt:=hw.cells.2.2.2
 clear hq1 hw1 hp1 hg1 hw
 have hk:k=1∨k=2∨k=3∨k=4∨k=5∨k=6∨k=7:=by have:=hlay.1;omega
 rcases hk with hk | hk | hk | hk | hk | hk | hk
 ·subst hk
  have hE1:=hlay.2.1 (.inl rfl)
  have HLE:Hid e.Lay:=hE1
  have HC1:=bexpr_any w0 bb loops hE 1048577 e _ _ img iv (by omega) (by omega) i1 hE1 HB2.out.2.1 (by omega)
  clear hE1
  go_enter Tryd.func95,Tryd.ntmps95
  go_wp2_with (go_at_call 121;refine HC1.mono ?_;rintro r w2 ⟨rfl,iv2,hw2,hg2⟩;have hk:=HB2.out.1.1.go hg2;obtain ⟨d1,e1,lq2⟩:=cells_of (l:=[_]) hk.blk;have q2_0:=d1 0 _ rfl;clear d1 e1;have hk2:=HB2.out.1.2.go hg2;obtain ⟨d1,e1,lk2⟩:=cells_of (l:=[_,_,_,_,_,_,_,_,_,_,_,_,_,_]) hk2.blk;have x2_1:=d1 1 _ rfl;clear d1 e1;have HC2:=put_any w0 w2 bb _ loops iv2 3 n hw2 (by rw [List.length_append];omega);have H2:Hid (BG bb w w2 iv iv2):=HB2.out.2.2.trans hg2;clear hw2 hg2 hk hk2 HC1)
  go_wp2_with (go_at_call 122;refine HC2.mono ?_;rintro r w3 ⟨rfl,iv3,hw3,hg3⟩;have H3:Hid (_∧BG bb w w3 iv iv3):=⟨hw3,H2.out.trans hg3⟩;clear hw3 hg3 HC2)
  go_end0
  refine ⟨rfl,iv3,?_,H3.out.2⟩
  have hq:=H3.out.1
  rw [List.append_assoc] at hq
  rw [St.pc]
  simp only [if_true]
  rw [mv_append,Ex.pc_mv _ e HLE.out]
  exact hq
 ·subst hk
  have hE1:=hlay.2.1 (.inr rfl)
  have HLE:Hid e.Lay:=hE1
  have HC1:=bexpr_any w0 bb loops hE 1048577 e _ _ img iv (by omega) (by omega) i1 hE1 HB2.out.2.1 (by omega)
  clear hE1
  go_enter Tryd.func95,Tryd.ntmps95
  go_wp2_with (go_at_call 121;refine HC1.mono ?_;rintro r w2 ⟨rfl,iv2,hw2,hg2⟩;have hk:=HB2.out.1.1.go hg2;obtain ⟨d1,e1,lq2⟩:=cells_of (l:=[_]) hk.blk;have q2_0:=d1 0 _ rfl;clear d1 e1;have hk2:=HB2.out.1.2.go hg2;obtain ⟨d1,e1,lk2⟩:=cells_of (l:=[_,_,_,_,_,_,_,_,_,_,_,_,_,_]) hk2.blk;have x2_1:=d1 1 _ rfl;clear d1 e1;have HC2:=put_any w0 w2 bb _ loops iv2 10 n hw2 (by rw [List.length_append];omega);have H2:Hid (BG bb w w2 iv iv2):=HB2.out.2.2.trans hg2;clear hw2 hg2 hk hk2 HC1)
  go_wp2_with (go_at_call 122;refine HC2.mono ?_;rintro r w3 ⟨rfl,iv3,hw3,hg3⟩;have H3:Hid (_∧BG bb w w3 iv iv3):=⟨hw3,H2.out.trans hg3⟩;clear hw3 hg3 HC2)
  go_end0
  refine ⟨rfl,iv3,?_,H3.out.2⟩
  have hq:=H3.out.1
  rw [List.append_assoc] at hq
  rw [St.pc]
  simp only [show ¬ ((2:Int)=1) by decide,if_true,if_false]
  rw [mv_append,Ex.pc_mv _ e HLE.out]
  exact hq
 ·subst hk
  obtain ⟨hck,hla,hlb⟩:=hlay.2.2.1 (.inl rfl)
  have HC1:=choice_any w0 bb N hE hK hL ca cb y l 3 n ek en ck ak an bk bn ead aad bad yad lad em ec am ac bm bc yc lc i2 i3 i4 i5 hck hla hlb hlay.2.2.2.2.1 hlay.2.2.2.2.2 (by omega) _ img loops iv HB2.out.2.1 (by omega) (by omega)
  go_enter Tryd.func95,Tryd.ntmps95
  go_wp2_with (go_at_call 123;refine HC1.mono ?_;rintro r w2 ⟨rfl,iv2,hw2,hg2⟩;have H2:Hid (_∧BG bb w w2 iv iv2):=⟨hw2,HB2.out.2.2.trans hg2⟩;clear hw2 hg2 HC1)
  go_end0
  refine ⟨rfl,iv2,?_,H2.out.2⟩
  have hq:=H2.out.1
  rw [St.pc]
  simp only [show ¬ ((3:Int)=1) by decide,show ¬ ((3:Int)=2) by decide,if_true,if_false]
  exact hq
 ·subst hk
  have hn:=hlay.2.2.2.1 (.inl rfl)
  have hyl:=St.pcAll_len y (loops+1)
  have hcl:=cdP_len ck ca cb
  have HC1:=loop125_any w0 bb n w.heap.size (w.heap.size+1) _ img (St.pcAll y (loops+1)) loops iv HB2.out.2.1 hn (by omega) (by omega) (fun hn0 W iv1 hW hG=>stmt1_any w0 bb N hL y l 4 n ek en ck ak an bk bn ead aad bad yad lad em ec am ac bm bc yc lc i4 hlay.2.2.2.2.1 (by omega) W _ (loops+1) loops iv1 (w.heap.size) (w.heap.size+1) hW (HB2.out.1.1.go hG) (HB2.out.1.2.go hG) (by rw [List.length_append];simp;omega) (by omega))
  go_enter Tryd.func95,Tryd.ntmps95
  go_wp2_with (go_at_call 124;refine HC1.mono ?_;rintro r w2 ⟨rfl,iv2,hw2,hg2⟩;have H2:Hid (_∧BG bb w w2 iv iv2):=⟨hw2,HB2.out.2.2.trans hg2⟩;clear hw2 hg2 HC1)
  go_end0
  refine ⟨rfl,iv2,?_,H2.out.2⟩
  have hq:=H2.out.1
  rw [St.pc]
  simp only [show ¬ ((4:Int)=1) by decide,show ¬ ((4:Int)=2) by decide,show ¬ ((4:Int)=3) by decide,if_true,if_false]
  exact hq
 ·subst hk
  obtain ⟨hck,hla,hlb⟩:=hlay.2.2.1 (.inr rfl)
  have hn:=hlay.2.2.2.1 (.inr rfl)
  have hyl:=St.pcAll_len y (loops+1)
  have hcl:=cdP_len ck ca cb
  have HC1:=loop126_any w0 bb n w.heap.size (w.heap.size+1) _ img (whP (cdP ck ca cb) (St.pcAll y (loops+1)) loops) loops iv HB2.out.2.1 hn (by simp only [whP,jn_len,List.length_append,List.length_cons,List.length_nil];omega) (by omega) (fun hn0 W iv1 hW hG=>stmt2_any w0 bb N hE hK hL ca cb y l 5 n ek en ck ak an bk bn ead aad bad yad lad em ec am ac bm bc yc lc i2 i3 i4 hck hla hlb hlay.2.2.2.2.1 (by omega) W _ (loops+1) loops iv1 (w.heap.size) (w.heap.size+1) hW (HB2.out.1.1.go hG) (HB2.out.1.2.go hG) (by rw [List.length_append];simp;omega) (by omega))
  go_enter Tryd.func95,Tryd.ntmps95
  go_wp2_with (go_at_call 124;refine HC1.mono ?_;rintro r w2 ⟨rfl,iv2,hw2,hg2⟩;have H2:Hid (_∧BG bb w w2 iv iv2):=⟨hw2,HB2.out.2.2.trans hg2⟩;clear hw2 hg2 HC1)
  go_end0
  refine ⟨rfl,iv2,?_,H2.out.2⟩
  have hq:=H2.out.1
  rw [St.pc]
  simp only [show ¬ ((5:Int)=1) by decide,show ¬ ((5:Int)=2) by decide,show ¬ ((5:Int)=3) by decide,show ¬ ((5:Int)=4) by decide,if_true,if_false]
  exact hq
 ·subst hk
  have HC1:=put_any w0 _ bb img loops iv 16 n HB2.out.2.1 (by omega)
  have hyl:=St.pcAll_len y loops
  have HI:Hid (St.Sl w0 y (.slice yad y.length yc)∧St.LayAll y∧ListC w0 bb N):=⟨i4,hlay.2.2.2.2.1,hL⟩
  go_enter Tryd.func95,Tryd.ntmps95
  go_wp2_with (go_at_call 122;refine HC1.mono ?_;rintro r w2 ⟨rfl,iv2,hw2,hg2⟩;have hk:=HB2.out.1.1.go hg2;obtain ⟨d1,e1,lq2⟩:=cells_of (l:=[_]) hk.blk;have q2_0:=d1 0 _ rfl;clear d1 e1;have hk2:=HB2.out.1.2.go hg2;obtain ⟨d1,e1,lk2⟩:=cells_of (l:=[_,_,_,_,_,_,_,_,_,_,_,_,_,_]) hk2.blk;have x2_12:=d1 12 _ rfl;clear d1 e1;have HC2:=HI.out.2.2 y w2 _ _ loops iv2 (by omega) HI.out.1 HI.out.2.1 hw2 (by simp only [List.length_append,List.length_cons,List.length_nil];omega) (by omega);have H2:Hid (BG bb w w2 iv iv2∧Kp w2 bb iv2 w.heap.size (.cells #[.pointer (some ⟨bb,0,none⟩)] 163 (0,0))∧Kp w2 bb iv2 (w.heap.size+1) (.cells #[.int .i64 6,.int .i64 n,.int .i64 ek,.int .i64 en,.slice ead em ec,.int .i64 ck,.int .i64 ak,.int .i64 an,.slice aad am ac,.int .i64 bk,.int .i64 bn,.slice bad bm bc,.slice yad y.length yc,.slice lad l.length lc] 123 (0,0))):=⟨HB2.out.2.2.trans hg2,hk,hk2⟩;clear hw2 hg2 hk hk2 HC1)
  go_wp2_with (go_at_call 60;refine HC2.mono ?_;rintro r w3 ⟨rfl,iv3,hw3,hg3⟩;have hk:=H2.out.2.1.go hg3;obtain ⟨d1,e1,lq3⟩:=cells_of (l:=[_]) hk.blk;have q3_0:=d1 0 _ rfl;clear d1 e1;have hk2:=H2.out.2.2.go hg3;obtain ⟨d1,e1,lk3⟩:=cells_of (l:=[_,_,_,_,_,_,_,_,_,_,_,_,_,_]) hk2.blk;have x3_1:=d1 1 _ rfl;clear d1 e1;have HC3:=put_any w0 w3 bb _ loops iv3 17 n hw3 (by simp only [List.length_append,mv_len,List.length_cons,List.length_nil];omega);have H3:Hid (BG bb w w3 iv iv3):=H2.out.1.trans hg3;clear hw3 hg3 hk hk2 HC2)
  go_wp2_with (go_at_call 122;refine HC3.mono ?_;rintro r w4 ⟨rfl,iv4,hw4,hg4⟩;have H4:Hid (_∧BG bb w w4 iv iv4):=⟨hw4,H3.out.trans hg4⟩;clear hw4 hg4 HC3)
  go_end0
  refine ⟨rfl,iv4,?_,H4.out.2⟩
  have hq:=H4.out.1
  rw [St.pc]
  simp only [show ¬ ((6:Int)=1) by decide,show ¬ ((6:Int)=2) by decide,show ¬ ((6:Int)=3) by decide,show ¬ ((6:Int)=4) by decide,show ¬ ((6:Int)=5) by decide,if_true,if_false]
  rw [mv_append,mv_jn,mv_one,mv_one,mvI_id (by show (16:Int)≠11∧(16:Int)≠12∧(16:Int)≠14;decide),mvI_id (by show (17:Int)≠11∧(17:Int)≠12∧(17:Int)≠14;decide)]
  simp only [List.append_assoc,List.length_append,List.length_cons,List.length_nil] at hq ⊢
  exact hq
 ·subst hk
  have HC1:=put_any w0 _ bb img loops iv 18 n HB2.out.2.1 (by omega)
  go_enter Tryd.func95,Tryd.ntmps95
  go_wp2_with (go_at_call 122;refine HC1.mono ?_;rintro r w2 ⟨rfl,iv2,hw2,hg2⟩;have H2:Hid (_∧BG bb w w2 iv iv2):=⟨hw2,HB2.out.2.2.trans hg2⟩;clear hw2 hg2 HC1)
  go_end0
  refine ⟨rfl,iv2,?_,H2.out.2⟩
  have hq:=H2.out.1
  rw [St.pc]
  simp only [show ¬ ((7:Int)=1) by decide,show ¬ ((7:Int)=2) by decide,show ¬ ((7:Int)=3) by decide,show ¬ ((7:Int)=4) by decide,show ¬ ((7:Int)=5) by decide,show ¬ ((7:Int)=6) by decide,if_false]
  exact hq
theorem all_listC (w0:World) (bb:Nat) (hE:EndsIn w0) (hK:CompsIn w0):∀ N,ListC w0 bb N
 | 0=>list_of_stmtC w0 bb 0 (fun s w v img loops iv hN=>by cases s;rw [St.bulk] at hN;omega)
 | N+1=>list_of_stmtC w0 bb (N+1) (stmt_of_listC w0 bb N hE hK (all_listC w0 bb hE hK N))
def listRest (is:List Int) (l:List St) (at_:Nat):Ms × Option Nat→Ms × Option Nat
 | (s,none)=>St.runAll is l at_ s
 | (s,some z)=>(s,some z)
theorem listRest_step {is:List Int} {a:List St} {j at_:Nat} {s:Ms} (h:j<a.length):listRest is (a.drop j) at_ (s,none)=listRest is (a.drop (j+1)) (at_+(a[j]).count) (St.run is a[j] at_ s):=by
 show St.runAll is (a.drop j) at_ s=_
 rw [List.drop_eq_getElem_cons h,St.runAll]
 rcases St.run is a[j] at_ s with ⟨s',_ | z⟩ <;> rfl
theorem countAll_take:∀ (a:List St) (j:Nat) (h:j<a.length),St.countAll (a.take (j+1))=St.countAll (a.take j)+(a[j]).count
 | [],j,h=>by simp at h
 | x::r,0,h=>by simp [St.countAll]
 | x::r,j+1,h=>by
  have:=countAll_take r j (by simpa using h)
  simp only [List.take_succ_cons,St.countAll,List.getElem_cons_succ]
  omega
theorem countAll_take_le:∀ (a:List St) (j:Nat),St.countAll (a.take j)≤St.countAll a
 | [],j=>by simp
 | x::r,0=>by simp [St.countAll]
 | x::r,j+1=>by
  have:=countAll_take_le r j
  simp only [List.take_succ_cons,St.countAll]
  omega
theorem take_bulk:∀ (a:List St) (j:Nat) (h:j<a.length),St.countAll (a.take j)+(a[j]).bulk≤St.bulkAll a
 | [],j,h=>by simp at h
 | x::r,0,h=>by simp [St.countAll,St.bulkAll]
 | x::r,j+1,h=>by
  have:=take_bulk r j (by simpa using h)
  have:=St.count_le x
  simp only [List.take_succ_cons,St.countAll,St.bulkAll,List.getElem_cons_succ]
  omega
theorem StOkAll_at:∀ (a:List St) (j:Nat) (h:j<a.length),St.OkAll a→(a[j]).Ok
 | [],j,h,_=>by simp at h
 | x::r,0,h,ha=>by unfold St.OkAll at ha;exact ha.1
 | x::r,j+1,h,ha=>by unfold St.OkAll at ha;exact StOkAll_at r j (by simpa using h) ha.2
end Go.Proofs.YtnkgbkkakokciacDoor.B
namespace Go.Proofs.YtnkgbkkakokciacDoor.B
theorem err_kind (k n:Int) (a:List Ex) (h:(Ex.mk k n a).err=0):(k=1∧a=[])∨(k=2∧0≤n∧n≤7∧a=[])∨(k=3∧0≤n∧n≤3∧a=[])∨(k=4∧a.length=1)∨((k=5∨k=6∨k=7)∧a.length=2):=by
 unfold Ex.err at h
 by_cases h1:((Ex.mk k n a).a.length:Int)≠arity (Ex.mk k n a).k
 ·rw [if_pos h1] at h;omega
 rw [if_neg h1] at h
 by_cases h2:(Ex.mk k n a).n<0∨(Ex.mk k n a).n > mostN (Ex.mk k n a).k
 ·rw [if_pos h2] at h;omega
 have h1':(a.length:Int)=arity k:=by simpa [Ex.a,Ex.k] using h1
 have h2':¬ (n<0∨n > mostN k):=h2
 unfold arity at h1'
 unfold mostN at h2'
 by_cases k1:k=1
 ·subst k1;simp at h1';exact .inl ⟨rfl,h1'⟩
 by_cases k2:k=2
 ·subst k2;simp at h1' h2';exact .inr (.inl ⟨rfl,by omega,by omega,h1'⟩)
 by_cases k3:k=3
 ·subst k3;simp at h1' h2';exact .inr (.inr (.inl ⟨rfl,by omega,by omega,h1'⟩))
 by_cases k4:k=4
 ·subst k4;simp at h1';exact .inr (.inr (.inr (.inl ⟨rfl,by omega⟩)))
 by_cases k5:k=5∨k=6∨k=7
 ·rw [if_neg (by omega),if_neg k4,if_pos k5] at h1'
  exact .inr (.inr (.inr (.inr ⟨k5,by omega⟩)))
 ·rw [if_neg (by omega),if_neg k4,if_neg k5] at h1'
  omega
mutual
theorem Ex.node_ok:∀ (e:Ex) (c:Nat),(e.node c).1=0→e.Ok
 | .mk k n a,c,h=>by
  unfold Ex.node at h
  by_cases h30:30<c+1
  ·rw [if_pos h30] at h;simp at h
  rw [if_neg h30] at h
  by_cases hE:(Ex.mk k n a).err≠0
  ·rw [if_pos hE] at h;exact absurd h hE
  rw [if_neg hE] at h
  unfold Ex.Ok
  exact ⟨Ex.nodeAll_ok a (c+1) h,err_kind k n a (by simpa using hE)⟩
theorem Ex.nodeAll_ok:∀ (a:List Ex) (c:Nat),(Ex.nodeAll a c).1=0→Ex.OkAll a
 | [],c,h=>by unfold Ex.OkAll;trivial
 | x::r,c,h=>by
  unfold Ex.nodeAll at h
  by_cases hx:(x.node c).1≠0
  ·rw [if_pos hx] at h;exact absurd h hx
  rw [if_neg hx] at h
  unfold Ex.OkAll
  exact ⟨Ex.node_ok x c (by simpa using hx),Ex.nodeAll_ok r _ h⟩
end
theorem cond_ok (ck:Int) (ca cb:Ex) (h:condErr ck ca cb=0):(1≤ck∧ck≤4)∧ca.Ok∧cb.Ok:=by
 unfold condErr at h
 by_cases h1:ck<1∨4<ck
 ·rw [if_pos h1] at h;omega
 rw [if_neg h1] at h
 by_cases h2:(ca.node 0).1≠0
 ·rw [if_pos h2] at h;exact absurd h h2
 rw [if_neg h2] at h
 exact ⟨by omega,Ex.node_ok ca 0 (by simpa using h2),Ex.node_ok cb 0 h⟩
theorem prog_ok (k n:Int) (eN:Bool) (nE ck:Int) (aN bN:Bool) (nC:Int) (ly ll:Nat) (d:Int) (lk:Bool) (h:progErr k n eN nE ck aN bN nC ly ll d lk=0) :
  (1≤k∧k≤7)∧(lowN k≤n∧n≤highN k)∧(valK k=true→nE=0)∧(conK k=true→nC=0)∧(othK k=false→ll=0):=by
 unfold progErr at h
 by_cases h1:k<1∨8≤k
 ·rw [if_pos h1] at h;omega
 rw [if_neg h1] at h
 by_cases h2:¬ (lowN k≤n∧n≤highN k)
 ·rw [if_pos h2] at h;omega
 rw [if_neg h2] at h
 by_cases h3:moreS (valK k) (conK k) (innK k) (othK k) eN ck aN bN ly ll=true
 ·rw [if_pos h3] at h;omega
 rw [if_neg h3] at h
 by_cases h4:valK k=true∧nE≠0
 ·rw [if_pos h4] at h;exact absurd h h4.2
 rw [if_neg h4] at h
 by_cases h5:conK k=true∧nC≠0
 ·rw [if_pos h5] at h;exact absurd h h5.2
 refine ⟨by omega,by simpa using h2,fun hv=>?_,fun hv=>?_,fun ho=>?_⟩
 ·by_cases hz:nE=0
  ·exact hz
  ·exact absurd ⟨hv,hz⟩ h4
 ·by_cases hz:nC=0
  ·exact hz
  ·exact absurd ⟨hv,hz⟩ h5
 ·unfold moreS at h3
  rw [ho] at h3
  simp at h3
  omega
mutual
theorem St.chk_ok:∀ (x:St) (ar:List (Int × Int)) (i:Int),(x.chk ar i).1=0→x.Ok
 | .mk k n e ck ca cb b l,ar,i,h=>by
  unfold St.chk at h
  by_cases h1:(St.mk k n e ck ca cb b l).perr ar≠0
  ·rw [if_pos h1] at h;exact absurd h h1
  rw [if_neg h1] at h
  by_cases h2:(St.chkAll b (ar++[(k,n)]) (i+1)).1≠0
  ·rw [if_pos h2] at h;exact absurd h h2
  rw [if_neg h2] at h
  have hp:progErr k n (exNone e.k e.n e.a.length) (e.node 0).1 ck (exNone ca.k ca.n ca.a.length) (exNone cb.k cb.n cb.a.length) (condErr ck ca cb) b.length l.length ar.length (decide ((6,n) ∈ ar))=0:=by simpa [St.perr] using h1
  obtain ⟨g1,g2,g3,g4,g5⟩:=prog_ok _ _ _ _ _ _ _ _ _ _ _ _ hp
  unfold St.Ok
  refine ⟨g1,fun hk=>?_,fun hk=>?_,fun hk=>?_,fun hk=>?_,fun hk=>?_,St.chkAll_ok b _ _ (by simpa using h2),St.chkAll_ok l _ _ h⟩
  ·subst hk
   simp [lowN,highN] at g2
   exact ⟨g2.1,g2.2,Ex.node_ok e 0 (g3 (by simp [valK]))⟩
  ·subst hk
   exact Ex.node_ok e 0 (g3 (by simp [valK]))
  ·exact cond_ok ck ca cb (g4 (by rcases hk with rfl | rfl <;> simp [conK]))
  ·rcases hk with rfl | rfl <;> (simp [lowN,highN] at g2;exact g2)
  ·exact List.length_eq_zero_iff.1 (g5 (by simp [othK,hk]))
theorem St.chkAll_ok:∀ (a:List St) (ar:List (Int × Int)) (i:Int),(St.chkAll a ar i).1=0→St.OkAll a
 | [],ar,i,h=>by unfold St.OkAll;trivial
 | x::r,ar,i,h=>by
  unfold St.chkAll at h
  by_cases hx:(x.chk ar i).1≠0
  ·rw [if_pos hx] at h;exact absurd h hx
  rw [if_neg hx] at h
  unfold St.OkAll
  exact ⟨St.chk_ok x ar i (by simpa using hx),St.chkAll_ok r _ _ h⟩
end
theorem found_ok (a:List St) (h:(firstErr (St.flatAll a 0 []) 0).1=0):St.OkAll a:=by
 rw [chk_body] at h
 by_cases h1:(St.chkAll a [] (-1)).1≠0
 ·rw [if_pos h1] at h;exact absurd h h1
 ·exact St.chkAll_ok a [] (-1) (by simpa using h1)
end Go.Proofs.YtnkgbkkakokciacDoor.B
namespace Go.Proofs.YtnkgbkkakokciacDoor
open Go.ChangeShapes Go.WideShapes Go.ChangeAt Go.RowKit
theorem ints_of_own {w:World} {B:Nat} {v:Value} {ts:List Int} (h:w.ownsRow B 3 1 v ts.length (intVs ts)):IntSl w ts v:=by
 obtain ⟨ad,cap,rfl⟩:=owns_value h
 refine ⟨ad,cap,rfl,?_⟩
 by_cases h0:ts=[]
 ·exact .inl h0
 obtain ⟨-,⟨e,he⟩ | ⟨g,cap',cur,e,-,hg,-,-,-,ht⟩⟩:=h
 ·exact absurd (List.length_eq_zero_iff.1 he) h0
 cases e
 refine .inr ⟨g,0,rfl,fun j hj=>?_⟩
 have h1:(intVs ts)[j]?=some (.int .i64 (ts.getD j 0)):=by simp [intVs,List.getD,hj]
 rw [← ht,List.getElem?_take,if_pos (by omega)] at h1
 unfold World.cell?
 rw [hg]
 simpa using h1
section
variable {w wr w':World} {mb:Nat} {iv:Value} {l:List In} {os:List Nat} {ov:Value} {rs:List (Nat × Nat)} {gv:Value}
end
theorem wp_push2 {w:World} {ops:Array Oper} {rest:List Oper} {o:Oper} {a:Act} {Q:Exit→Act→World→Prop} (hgd:o.guard=none) (s x:Operand)
  (ho:o.op = .call { callee:=.builtin .append,args:=#[s,x],argTypes:=#[23,23] }) (B:Nat) (v:Value) (ts:List Int) (t:Int) (g n:Nat) (hgg:w.heap.size=g) (hn:ts.length=n) (hs:a.eval s=v) (hx:a.eval x = .slice (some ⟨g,0,none⟩) 1 1)
  (hown:w.ownsRow B 3 1 v n (intVs ts)) (hB:B≤w.heap.size) (hl:n≤4000000)
  (h:∀ ad c w',w'.ownsRow B 3 1 (.slice ad (n+1) c) (n+1) (intVs (ts++[t]))→(w.alloc (.cells #[.int .i64 t] 3)).grownBy w' v.ownBlock→((Value.slice ad (n+1) c).ownBlock=v.ownBlock∨∀ k,(Value.slice ad (n+1) c).ownBlock=some k→(w.alloc (.cells #[.int .i64 t] 3)).heap.size≤k)→wpList Tryd.prog ops Q rest (a.put o.dst (.slice ad (n+1) c)) w'):wpList Tryd.prog ops Q (o::rest) a (w.alloc (.cells #[.int .i64 t] 3)):=by
 subst hgg hn
 obtain ⟨i0,hi0,hz0,hz1,hz2⟩:=info_parts infoI
 have hown':(w.alloc (.cells #[.int .i64 t] 3)).ownsRow B 3 1 v ts.length (intVs ts):=ownsRow_same hown (fun k _ hk=>(below_new w _).block k hk)
 obtain ⟨v4,w4,hrun,ho4,hg4,hv4⟩:=append_two (P:=Tryd.prog) (w.alloc (.cells #[.int .i64 t] 3)) B w.heap.size 23 o.type 3 i0 _ 1 8 Tryd.underlying23 hi0 hz0 hz1 hz2 rfl (by decide) v ts.length (intVs ts) hown' _ 1 [.int .i64 t] (World.ownsRow_lit w #[.int .i64 t] 1 (Nat.le_refl _) (by decide) rfl) (by intro u hu;simp at hu;subst hu;rfl) (by unfold maxLen;omega) (by omega) (by simp;omega)
 obtain ⟨vad,vcap,rfl⟩:=owns_value ho4
 refine append_known hgd s x 23 ho hs hx hrun ?_
 exact h vad vcap w4 (by simpa [intVs] using ho4) hg4 hv4
section
variable {l:List In} {j:Nat} {os:List Nat} {a b:Int}
end
theorem take_at {P:Program} {md:Region.Mode} {ops:Array Oper} {Q:Exit→Act→World→Prop} {S:World→Prop} {i n:Nat} {oi:Oper} {v:Value} {fuel:Nat} {listed:Array Bool} {l:List Value} {ds:List Deferred} {w:World}
  (hi:ops[i]?=some oi) (hd:oi.dst=some n) (hs:Region.noSelect ops=true) (hf:Region.free md ops listed i=true) (hr:(Region.ready md ops listed).contains i=true)
  (hQ:∀ c a w,Q (.panic c) (a.put oi.dst v) w→Q (.panic c) a w) (hy:YieldsIf P ops S oi v ⟨l.toArray,ds⟩) (hS:S w)
  (h:wpAnyH P md ops Q S fuel (listed.setIfInBounds i true) ⟨(l.set n v).toArray,ds⟩ w):wpAnyH P md ops Q S (fuel+1) listed ⟨l.toArray,ds⟩ w:=by
 refine wpAnyH_take hi hs hf hr hQ hy hS ?_
 have e:Act.put ⟨l.toArray,ds⟩ oi.dst v=⟨(l.set n v).toArray,ds⟩:=by rw [hd];simp [Act.put]
 rw [e]
 exact h
theorem tk {P:Program} {md:Region.Mode} {ops:Array Oper} {Q:Exit→Act→World→Prop} {S:World→Prop} {i n:Nat} {oi:Oper} {v:Value} {fuel:Nat} {listed:Array Bool} {l:List Value} {ds:List Deferred} {w:World}
  (hy:∀ w,S w→(execOp (Act.eval ⟨l.toArray,ds⟩) oi).run P w = .ok (.value v) w) (h:wpAnyH P md ops Q S fuel (listed.setIfInBounds i true) ⟨(l.set n v).toArray,ds⟩ w)
  (hi:ops[i]?=some oi:=by rfl) (hd:oi.dst=some n:=by rfl) (hs:(Region.noSelect ops&&Region.free md ops listed i&&(Region.ready md ops listed).contains i)=true:=by kernel_rfl)
  (hQ:∀ c a w,Q (.panic c) (a.put oi.dst v) w→Q (.panic c) a w:=by exact fun _ _ _ h=>h) (hg:Region.wanted oi (yielded ops l.toArray)=true:=by rfl) (hS:S w:=by assumption):wpAnyH P md ops Q S (fuel+1) listed ⟨l.toArray,ds⟩ w:=by
 simp only [Bool.and_eq_true] at hs
 exact take_at hi hd hs.1.1 hs.1.2 hs.2 hQ (.inl ⟨hg,hy⟩) hS h
theorem ls0 (x a:Value) (l:List Value):(x::l).set 0 a=a::l:=rfl
theorem ls1 (x a:Value) (l:List Value) (n:Nat):(x::l).set (n+1) a=x::l.set n a:=rfl
theorem set_alloc {w9:World} {g:Nat} {a b:Value} {o:Obj} (h:w9.heap[g]?=some (.cells #[.int .i64 0,.int .i64 0] 30 (0,0))):(((w9.setCell ⟨g,0,none⟩ a).setCell ⟨g,1,none⟩ b).alloc o).heap[g]?=some (.cells #[a,b] 30 (0,0)):=by
 have h1:=setCell_at (i:=1) (u:=b) (setCell_at (i:=0) (u:=a) h)
 rw [Below.heap_alloc _ _ _ (Array.getElem?_eq_some_iff.1 h1).1,h1]
 simp
end Go.Proofs.YtnkgbkkakokciacDoor
