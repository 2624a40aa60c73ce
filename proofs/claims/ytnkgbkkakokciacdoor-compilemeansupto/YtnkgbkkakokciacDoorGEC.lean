import Derived.Test.YtnkgbkkakokciacDoorGEB
namespace Go.Proofs.YtnkgbkkakokciacDoor.B
open Go.ChangeShapes Go.WideShapes Go.ChangeAt Go.RowKit
set_option maxRecDepth 20000 in
set_option maxHeartbeats 2000000 in
theorem means_false (w:World) (a:List St) (ad va ia:Option Addr) (c vc ic:Nat) (vs is:List Int) (hr:Ready w∧EndsIn w∧CompsIn w) (hkk:KindsIn w) (h:St.Sl w a (.slice ad a.length c)) (hv:IntSl w vs (.slice va vs.length vc)) (hi:IntSl w is (.slice ia is.length ic)) (hN:St.bulkAll a≤1048576) (hc:(decide (St.deepAll 0 a≤300)&&decide ((St.countAll a:Int)≤2000))=false):Calls Tryd.prog 7 #[.slice ad a.length c,.slice va vs.length vc,.slice ia is.length ic] w fun r w'=>r = .returned (.bool true)∧Below w.heap.size w w':=by
 have HP:=plain_m every_list w hr
 have HW:Hid ((Ready w∧EndsIn w∧CompsIn w)∧KindsIn w∧St.Sl w a (.slice ad a.length c)∧IntSl w vs (.slice va vs.length vc)∧IntSl w is (.slice ia is.length ic)):=⟨hr,hkk,h,hv,hi⟩
 have HC:Hid ((decide (St.deepAll 0 a≤300)&&decide ((St.countAll a:Int)≤2000))=false):=hc
 clear hr hkk h hv hi hc
 go_enter Tryd.func7,Tryd.ntmps7
 go_wp2_with (go_at_call 31;refine HP.mono ?_;rintro r w1 ⟨v1,L,rfl,HL,hLl,hb1⟩;have H1:Hid (Below w.heap.size w w1):=hb1;clear hb1 HP)
 go_wp2_with (go_at_call 30;refine (HL.out.2 _ (Below.refl _ _)).mono ?_;rintro r w2 ⟨ad2,c2,rfl,ho2,hb2⟩;have H2:Hid (Ow w2 w1.heap.size (.slice ad2 L.length c2) L∧Below w.heap.size w w2):=⟨ho2,below_seq H1.out hb2⟩;clear ho2 hb2)
 go_wp2_with (go_at_call 20;refine (image_m L HL.out.1 _).mono ?_;rintro r w3 ⟨ad3,c3,rfl,hi3,hb3⟩;have H3:Hid ((InSl w3 L (.slice ad2 L.length c2)∧InSl w3 L (.slice ad3 L.length c3))∧w3.heap[w2.heap.size]?=some (.cells #[.int .i64 0,.int .i64 0] 30 (0,0))∧w2.heap.size<w3.heap.size∧Below w.heap.size w w3):=⟨⟨(H2.out.1.sl.below (below_new _ _)).below hb3,hi3⟩,(hb3.block w2.heap.size (by simp)).trans (heap_alloc_new _ _),Nat.lt_of_lt_of_le (by simp) hb3.size,below_seq (below_seq H2.out.2 (below_new _ _)) hb3⟩;clear hi3 hb3)
 go_wp2_with (go_at_call 32;refine (SameN_any _ L ad2 ad3 c2 c3 (by omega) H3.out.1.1 H3.out.1.2).mono ?_;rintro r w4 ⟨rfl,hb4⟩;have H4:Hid (w4.heap[w2.heap.size]?=some (.cells #[.int .i64 0,.int .i64 0] 30 (0,0))∧w2.heap.size<w4.heap.size∧Below w.heap.size w w4):=⟨(hb4.block _ H3.out.2.2.1).trans H3.out.2.1,Nat.lt_of_lt_of_le H3.out.2.2.1 hb4.size,below_seq H3.out.2.2.2 hb4⟩;clear hb4)
 go_wp2_with (go_at_call 37;refine (does_any _ (HW.out.1.1.below H4.out.2.2)).mono ?_;rintro r w5 ⟨rfl,hb5⟩;have H5:Hid (w5.heap[w2.heap.size]?=some (.cells #[.int .i64 0,.int .i64 0] 30 (0,0))∧w2.heap.size<w5.heap.size∧Below w.heap.size w w5):=⟨(hb5.block _ H4.out.2.1).trans H4.out.1,Nat.lt_of_lt_of_le H4.out.2.1 hb5.size,below_seq H4.out.2.2 hb5⟩;clear hb5)
 go_wp2_with (go_at_call 9;refine (works_any _ (HW.out.2.1.below H5.out.2.2)).mono ?_;rintro r w6 ⟨rfl,hb6⟩;have H6:Hid (w6.heap[w2.heap.size]?=some (.cells #[.int .i64 0,.int .i64 0] 30 (0,0))∧w2.heap.size<w6.heap.size∧Below w.heap.size w w6):=⟨(hb6.block _ H5.out.2.1).trans H5.out.1,Nat.lt_of_lt_of_le H5.out.2.1 hb6.size,below_seq H5.out.2.2 hb6⟩;clear hb6)
 go_wp2_with (go_at_call 33;refine (claims_b a _ _ false hN (HW.out.2.2.1.below H6.out.2.2) HC.out).mono ?_;rintro r w7 ⟨rfl,hb7⟩;have H7:Hid (w7.heap[w2.heap.size]?=some (.cells #[.int .i64 0,.int .i64 0] 30 (0,0))∧w2.heap.size<w7.heap.size∧Below w.heap.size w w7):=⟨(hb7.block _ H6.out.2.1).trans H6.out.1,Nat.lt_of_lt_of_le H6.out.2.1 hb7.size,below_seq H6.out.2.2 hb7⟩;clear hb7)
 go_ret
 exact ⟨rfl,H7.out.2.2⟩
set_option maxRecDepth 20000 in
set_option maxHeartbeats 2000000 in
theorem means_bad (w:World) (a:List St) (ad va ia:Option Addr) (c vc ic:Nat) (vs is:List Int) (hr:Ready w∧EndsIn w∧CompsIn w) (hkk:KindsIn w) (h:St.Sl w a (.slice ad a.length c)) (hv:IntSl w vs (.slice va vs.length vc)) (hi:IntSl w is (.slice ia is.length ic)) (hN:St.bulkAll a≤1048576) (hc:(decide (St.deepAll 0 a≤300)&&decide ((St.countAll a:Int)≤2000))=true) (cx cy mx my:Int) (hx:checkV a = .agg #[.int .i64 cx,.int .i64 cy]∧imF a cx cy=((mx,my),[])) (h0:mx≠0):Calls Tryd.prog 7 #[.slice ad a.length c,.slice va vs.length vc,.slice ia is.length ic] w fun r w'=>r = .returned (.bool true)∧Below w.heap.size w w':=by
 have HP:=plain_m every_list w hr
 have HW:Hid ((Ready w∧EndsIn w∧CompsIn w)∧KindsIn w∧St.Sl w a (.slice ad a.length c)∧IntSl w vs (.slice va vs.length vc)∧IntSl w is (.slice ia is.length ic)):=⟨hr,hkk,h,hv,hi⟩
 have HX:Hid (checkV a = .agg #[.int .i64 cx,.int .i64 cy]∧imF a cx cy=((mx,my),[])):=hx
 clear hx
 have HC:Hid ((decide (St.deepAll 0 a≤300)&&decide ((St.countAll a:Int)≤2000))=true):=hc
 clear hr hkk h hv hi hc
 go_enter Tryd.func7,Tryd.ntmps7
 go_wp2_with (go_at_call 31;refine HP.mono ?_;rintro r w1 ⟨v1,L,rfl,HL,hLl,hb1⟩;have H1:Hid (Below w.heap.size w w1):=hb1;clear hb1 HP)
 go_wp2_with (go_at_call 30;refine (HL.out.2 _ (Below.refl _ _)).mono ?_;rintro r w2 ⟨ad2,c2,rfl,ho2,hb2⟩;have H2:Hid (Ow w2 w1.heap.size (.slice ad2 L.length c2) L∧Below w.heap.size w w2):=⟨ho2,below_seq H1.out hb2⟩;clear ho2 hb2)
 go_wp2_with (go_at_call 20;refine (image_m L HL.out.1 _).mono ?_;rintro r w3 ⟨ad3,c3,rfl,hi3,hb3⟩;have H3:Hid ((InSl w3 L (.slice ad2 L.length c2)∧InSl w3 L (.slice ad3 L.length c3))∧w3.heap[w2.heap.size]?=some (.cells #[.int .i64 0,.int .i64 0] 30 (0,0))∧w2.heap.size<w3.heap.size∧Below w.heap.size w w3):=⟨⟨(H2.out.1.sl.below (below_new _ _)).below hb3,hi3⟩,(hb3.block w2.heap.size (by simp)).trans (heap_alloc_new _ _),Nat.lt_of_lt_of_le (by simp) hb3.size,below_seq (below_seq H2.out.2 (below_new _ _)) hb3⟩;clear hi3 hb3)
 go_wp2_with (go_at_call 32;refine (SameN_any _ L ad2 ad3 c2 c3 (by omega) H3.out.1.1 H3.out.1.2).mono ?_;rintro r w4 ⟨rfl,hb4⟩;have H4:Hid (w4.heap[w2.heap.size]?=some (.cells #[.int .i64 0,.int .i64 0] 30 (0,0))∧w2.heap.size<w4.heap.size∧Below w.heap.size w w4):=⟨(hb4.block _ H3.out.2.2.1).trans H3.out.2.1,Nat.lt_of_lt_of_le H3.out.2.2.1 hb4.size,below_seq H3.out.2.2.2 hb4⟩;clear hb4)
 go_wp2_with (go_at_call 37;refine (does_any _ (HW.out.1.1.below H4.out.2.2)).mono ?_;rintro r w5 ⟨rfl,hb5⟩;have H5:Hid (w5.heap[w2.heap.size]?=some (.cells #[.int .i64 0,.int .i64 0] 30 (0,0))∧w2.heap.size<w5.heap.size∧Below w.heap.size w w5):=⟨(hb5.block _ H4.out.2.1).trans H4.out.1,Nat.lt_of_lt_of_le H4.out.2.1 hb5.size,below_seq H4.out.2.2 hb5⟩;clear hb5)
 go_wp2_with (go_at_call 9;refine (works_any _ (HW.out.2.1.below H5.out.2.2)).mono ?_;rintro r w6 ⟨rfl,hb6⟩;have H6:Hid (w6.heap[w2.heap.size]?=some (.cells #[.int .i64 0,.int .i64 0] 30 (0,0))∧w2.heap.size<w6.heap.size∧Below w.heap.size w w6):=⟨(hb6.block _ H5.out.2.1).trans H5.out.1,Nat.lt_of_lt_of_le H5.out.2.1 hb6.size,below_seq H5.out.2.2 hb6⟩;clear hb6)
 go_wp2_with (go_at_call 33;refine (claims_b a _ _ true hN (HW.out.2.2.1.below H6.out.2.2) HC.out).mono ?_;rintro r w7 ⟨rfl,hb7⟩;have H7:Hid (w7.heap[w2.heap.size]?=some (.cells #[.int .i64 0,.int .i64 0] 30 (0,0))∧w2.heap.size<w7.heap.size∧Below w.heap.size w w7):=⟨(hb7.block _ H6.out.2.1).trans H6.out.1,Nat.lt_of_lt_of_le H6.out.2.1 hb7.size,below_seq H6.out.2.2 hb7⟩;clear hb7)
 go_wp2_with (go_at_call 35;refine (Twin_any 1048577 a _ _ (by omega) (Nat.le_refl _) (HW.out.2.2.1.below H7.out.2.2)).mono ?_;rintro r w8 ⟨v8,bl,rfl,hq8,hn8,hb8⟩;have H8:Hid ((St.SlQ (fun b=>w7.heap.size≤b) w8 a v8 bl∧bl.Nodup)∧w8.heap[w2.heap.size]?=some (.cells #[.int .i64 0,.int .i64 0] 30 (0,0))∧w2.heap.size<w8.heap.size∧Below w.heap.size w w8):=⟨⟨hq8,hn8⟩,(hb8.block _ H7.out.2.1).trans H7.out.1,Nat.lt_of_lt_of_le H7.out.2.1 hb8.size,below_seq H7.out.2.2 hb8⟩;clear hq8 hn8 hb8)
 go_wp2_with (go_at_call 30;refine (Image_m every_list a cx cy mx my [] _ _ _ bl ⟨HW.out.1.1.below H8.out.2.2.2,HW.out.1.2.1.below H8.out.2.2.2,HW.out.1.2.2.below H8.out.2.2.2⟩ H8.out.1 hN HX.out).mono ?_;rintro r w9 ⟨ad9,c9,rfl,ho9,hb9⟩;have hf9:w9.heap[w2.heap.size]?=some (.cells #[.int .i64 0,.int .i64 0] 30 (0,0)):=(hb9.block _ H8.out.2.2.1).trans H8.out.2.1;obtain ⟨d9,e9,m9⟩:=cells_of (l:=[_,_]) hf9;have k0:=d9 0 _ rfl;have k1:=d9 1 _ rfl;have z0:=e9 0;have z1:=e9 1;have hg2:w.heap.size≤w2.heap.size:=H2.out.2.size;have H9:Hid (Ow w9 w8.heap.size (.slice ad9 ([]).length c9) []∧w2.heap.size<w8.heap.size∧w9.heap[w2.heap.size]?=some (.cells #[.int .i64 0,.int .i64 0] 30 (0,0))∧Below w.heap.size w w9):=⟨ho9,H8.out.2.2.1,hf9,below_seq H8.out.2.2.2 hb9⟩;clear ho9 hb9 hf9 d9 e9)
 go_wp2_with fail
 go_ret
 exact ⟨rfl,(H9.out.2.2.2.setCell hg2 _).setCell hg2 _⟩
set_option maxRecDepth 20000 in
set_option maxHeartbeats 2000000 in
theorem means_good (w:World) (a:List St) (ad va ia:Option Addr) (c vc ic:Nat) (vs is:List Int) (hr:Ready w∧EndsIn w∧CompsIn w) (hkk:KindsIn w) (h:St.Sl w a (.slice ad a.length c)) (hv:IntSl w vs (.slice va vs.length vc)) (hi:IntSl w is (.slice ia is.length ic)) (hN:St.bulkAll a≤1048576) (hc:(decide (St.deepAll 0 a≤300)&&decide ((St.countAll a:Int)≤2000))=true) (my:Int) (hx:checkV a = .agg #[.int .i64 0,.int .i64 0]∧imF a 0 0=((0,my),St.pcAll a 0)) (hn:(St.pcAll a 0).length≤2000):Calls Tryd.prog 7 #[.slice ad a.length c,.slice va vs.length vc,.slice ia is.length ic] w fun r w'=>r = .returned (.bool true)∧Below w.heap.size w w':=by
 have HP:=plain_m every_list w hr
 have HW:Hid ((Ready w∧EndsIn w∧CompsIn w)∧KindsIn w∧St.Sl w a (.slice ad a.length c)∧IntSl w vs (.slice va vs.length vc)∧IntSl w is (.slice ia is.length ic)):=⟨hr,hkk,h,hv,hi⟩
 have HX:Hid (checkV a = .agg #[.int .i64 0,.int .i64 0]∧imF a 0 0=((0,my),St.pcAll a 0)):=hx
 obtain ⟨cc,ck,V,Q,t,cc',ck',V',Q',t',hm1,hm2,hl,hag⟩:=agree_c a vs is hx.1 hn
 have HM:Hid ((meanOf a vs is 0 0=((cc,ck),⟨V,Q,t⟩)∧resF (St.pcAll a 0) vs is=((cc',ck'),V',Q',t'))∧(V.length≤8∧Q.length≤20000)∧((cc=0∧cc'=0∧V=V'∧Q=Q')∨(cc=3∧cc'=3)∨cc=11∨(cc=0∧cc'=11)∨(cc=3∧cc'=11))):=⟨⟨hm1,hm2⟩,hl,hag⟩
 clear hx hm1 hm2 hl hag
 have hfd:∀ W:World,(Instr.field 30 (.agg #[.int .i64 0,.int .i64 0]) 0).run Tryd.prog W = .ok (.int .i64 0) W:=fun _=>by kernel_rfl
 have HC:Hid ((decide (St.deepAll 0 a≤300)&&decide ((St.countAll a:Int)≤2000))=true):=hc
 clear hr hkk h hv hi hc
 go_enter Tryd.func7,Tryd.ntmps7
 go_wp2_with (go_at_call 31;refine HP.mono ?_;rintro r w1 ⟨v1,L,rfl,HL,hLl,hb1⟩;have H1:Hid (Below w.heap.size w w1):=hb1;clear hb1 HP)
 go_wp2_with (go_at_call 30;refine (HL.out.2 _ (Below.refl _ _)).mono ?_;rintro r w2 ⟨ad2,c2,rfl,ho2,hb2⟩;have H2:Hid (Ow w2 w1.heap.size (.slice ad2 L.length c2) L∧Below w.heap.size w w2):=⟨ho2,below_seq H1.out hb2⟩;clear ho2 hb2)
 go_wp2_with (go_at_call 20;refine (image_m L HL.out.1 _).mono ?_;rintro r w3 ⟨ad3,c3,rfl,hi3,hb3⟩;have H3:Hid ((InSl w3 L (.slice ad2 L.length c2)∧InSl w3 L (.slice ad3 L.length c3))∧w3.heap[w2.heap.size]?=some (.cells #[.int .i64 0,.int .i64 0] 30 (0,0))∧w2.heap.size<w3.heap.size∧Below w.heap.size w w3):=⟨⟨(H2.out.1.sl.below (below_new _ _)).below hb3,hi3⟩,(hb3.block w2.heap.size (by simp)).trans (heap_alloc_new _ _),Nat.lt_of_lt_of_le (by simp) hb3.size,below_seq (below_seq H2.out.2 (below_new _ _)) hb3⟩;clear hi3 hb3)
 go_wp2_with (go_at_call 32;refine (SameN_any _ L ad2 ad3 c2 c3 (by omega) H3.out.1.1 H3.out.1.2).mono ?_;rintro r w4 ⟨rfl,hb4⟩;have H4:Hid (w4.heap[w2.heap.size]?=some (.cells #[.int .i64 0,.int .i64 0] 30 (0,0))∧w2.heap.size<w4.heap.size∧Below w.heap.size w w4):=⟨(hb4.block _ H3.out.2.2.1).trans H3.out.2.1,Nat.lt_of_lt_of_le H3.out.2.2.1 hb4.size,below_seq H3.out.2.2.2 hb4⟩;clear hb4)
 go_wp2_with (go_at_call 37;refine (does_any _ (HW.out.1.1.below H4.out.2.2)).mono ?_;rintro r w5 ⟨rfl,hb5⟩;have H5:Hid (w5.heap[w2.heap.size]?=some (.cells #[.int .i64 0,.int .i64 0] 30 (0,0))∧w2.heap.size<w5.heap.size∧Below w.heap.size w w5):=⟨(hb5.block _ H4.out.2.1).trans H4.out.1,Nat.lt_of_lt_of_le H4.out.2.1 hb5.size,below_seq H4.out.2.2 hb5⟩;clear hb5)
 go_wp2_with (go_at_call 9;refine (works_any _ (HW.out.2.1.below H5.out.2.2)).mono ?_;rintro r w6 ⟨rfl,hb6⟩;have H6:Hid (w6.heap[w2.heap.size]?=some (.cells #[.int .i64 0,.int .i64 0] 30 (0,0))∧w2.heap.size<w6.heap.size∧Below w.heap.size w w6):=⟨(hb6.block _ H5.out.2.1).trans H5.out.1,Nat.lt_of_lt_of_le H5.out.2.1 hb6.size,below_seq H5.out.2.2 hb6⟩;clear hb6)
 go_wp2_with (go_at_call 33;refine (claims_b a _ _ true hN (HW.out.2.2.1.below H6.out.2.2) HC.out).mono ?_;rintro r w7 ⟨rfl,hb7⟩;have H7:Hid (w7.heap[w2.heap.size]?=some (.cells #[.int .i64 0,.int .i64 0] 30 (0,0))∧w2.heap.size<w7.heap.size∧Below w.heap.size w w7):=⟨(hb7.block _ H6.out.2.1).trans H6.out.1,Nat.lt_of_lt_of_le H6.out.2.1 hb7.size,below_seq H6.out.2.2 hb7⟩;clear hb7)
 go_wp2_with (go_at_call 35;refine (Twin_any 1048577 a _ _ (by omega) (Nat.le_refl _) (HW.out.2.2.1.below H7.out.2.2)).mono ?_;rintro r w8 ⟨v8,bl,rfl,hq8,hn8,hb8⟩;have H8:Hid ((St.SlQ (fun b=>w7.heap.size≤b) w8 a v8 bl∧bl.Nodup)∧w8.heap[w2.heap.size]?=some (.cells #[.int .i64 0,.int .i64 0] 30 (0,0))∧w2.heap.size<w8.heap.size∧Below w.heap.size w w8):=⟨⟨hq8,hn8⟩,(hb8.block _ H7.out.2.1).trans H7.out.1,Nat.lt_of_lt_of_le H7.out.2.1 hb8.size,below_seq H7.out.2.2 hb8⟩;clear hq8 hn8 hb8)
 go_wp2_with (go_at_call 30;refine (Image_m every_list a 0 0 0 my (St.pcAll a 0) _ _ _ bl ⟨HW.out.1.1.below H8.out.2.2.2,HW.out.1.2.1.below H8.out.2.2.2,HW.out.1.2.2.below H8.out.2.2.2⟩ H8.out.1 hN HX.out).mono ?_;rintro r w9 ⟨ad9,c9,rfl,ho9,hb9⟩;have hf9:w9.heap[w2.heap.size]?=some (.cells #[.int .i64 0,.int .i64 0] 30 (0,0)):=(hb9.block _ H8.out.2.2.1).trans H8.out.2.1;obtain ⟨d9,e9,m9⟩:=cells_of (l:=[_,_]) hf9;have k0:=d9 0 _ rfl;have k1:=d9 1 _ rfl;have z0:=e9 0;have z1:=e9 1;have hg2:w.heap.size≤w2.heap.size:=H2.out.2.size;have H9:Hid (Ow w9 w8.heap.size (.slice ad9 ((St.pcAll a 0)).length c9) (St.pcAll a 0)∧w2.heap.size<w8.heap.size∧w9.heap[w2.heap.size]?=some (.cells #[.int .i64 0,.int .i64 0] 30 (0,0))∧Below w.heap.size w w9):=⟨ho9,H8.out.2.2.1,hf9,below_seq H8.out.2.2.2 hb9⟩;clear ho9 hb9 hf9 d9 e9)
 go_wp2_with (first | (go_at_call 35;refine (Twin_any 1048577 a _ _ (by omega) (Nat.le_refl _) (HW.out.2.2.1.below H10.out.2.2.2)).mono ?_;rintro r w11 ⟨v11,bl11,rfl,hq11,hn11,hb11⟩;have H11:Hid ((St.SlQ (fun b=>w10.heap.size≤b) w11 a v11 bl11∧bl11.Nodup)∧Ow w11 w8.heap.size (.slice ad9 (St.pcAll a 0).length c9) (St.pcAll a 0)∧w2.heap.size<w11.heap.size∧w11.heap[w2.heap.size]?=some (.cells #[.int .i64 0,.int .i64 my] 30 (0,0))∧Below w.heap.size w w11):=⟨⟨hq11,hn11⟩,H10.out.1.below hb11,Nat.lt_of_lt_of_le H10.out.2.1 hb11.size,(hb11.block _ H10.out.2.1).trans H10.out.2.2.1,below_seq H10.out.2.2.2 hb11⟩;clear hq11 hn11 hb11) | (go_at_call 38;have q9:((w9.setCell ⟨w2.heap.size,0,none⟩ (.int .i64 0)).setCell ⟨w2.heap.size,1,none⟩ (.int .i64 my)).heap[w2.heap.size]?=some (.cells #[.int .i64 0,.int .i64 my] 30 (0,0)):=(by simpa using setCell_at (i:=1) (u:=.int .i64 my) (setCell_at (i:=0) (u:=.int .i64 0) H9.out.2.2.1));have o9:Ow ((w9.setCell ⟨w2.heap.size,0,none⟩ (.int .i64 0)).setCell ⟨w2.heap.size,1,none⟩ (.int .i64 my)) w8.heap.size (.slice ad9 (St.pcAll a 0).length c9) (St.pcAll a 0):=(H9.out.1.set H9.out.2.1).set H9.out.2.1;have b9:Below w.heap.size w ((w9.setCell ⟨w2.heap.size,0,none⟩ (.int .i64 0)).setCell ⟨w2.heap.size,1,none⟩ (.int .i64 my)):=(H9.out.2.2.2.setCell hg2 _).setCell hg2 _;have l9:w2.heap.size<((w9.setCell ⟨w2.heap.size,0,none⟩ (.int .i64 0)).setCell ⟨w2.heap.size,1,none⟩ (.int .i64 my)).heap.size:=(Array.getElem?_eq_some_iff.1 q9).1;refine (Check_m a _ ad9 c9 (HW.out.2.1.below b9) o9.sl HX.out.1 hn).mono ?_;rintro r w10 ⟨rfl,hb10⟩;have H10:Hid (Ow w10 w8.heap.size (.slice ad9 (St.pcAll a 0).length c9) (St.pcAll a 0)∧w2.heap.size<w10.heap.size∧w10.heap[w2.heap.size]?=some (.cells #[.int .i64 0,.int .i64 my] 30 (0,0))∧Below w.heap.size w w10):=⟨o9.below hb10,Nat.lt_of_lt_of_le l9 hb10.size,(hb10.block _ l9).trans q9,below_seq b9 hb10⟩;have HG:Hid (w2.heap.size<w8.heap.size):=H9.out.2.1;clear q9 o9 b9 l9 hb10 k0 k1 z0 z1 m9))
 go_wp2_with (go_at_call 39;refine (Mean_m _ _ a va ia vc ic vs is _ bl11 cc ck V Q t (HW.out.1.1.below H11.out.2.2.2.2) H11.out.1 hN HX.out.1 (HW.out.2.2.2.1.below H11.out.2.2.2.2) (HW.out.2.2.2.2.below H11.out.2.2.2.2) HM.out.1.1).mono ?_;rintro r w12 ⟨ua,un,uc,qa,qn,qc,rfl,hs12,hb12⟩;have hf12:w12.heap[w2.heap.size]?=some (.cells #[.int .i64 0,.int .i64 my] 30 (0,0)):=(hb12.block _ H11.out.2.2.1).trans H11.out.2.2.2.1;obtain ⟨d9,e9,m9⟩:=cells_of (l:=[_,_]) hf12;have k0:=d9 0 _ rfl;have k1:=d9 1 _ rfl;have z0:=e9 0;have z1:=e9 1;have H12:Hid ((∀ W':World,(∀ k,w11.heap.size≤k→k<w12.heap.size→W'.heap[k]?=w12.heap[k]?)→IntSl W' V (.slice ua un uc)∧PutSl W' Q (.slice qa qn qc))∧Ow w12 w8.heap.size (.slice ad9 (St.pcAll a 0).length c9) (St.pcAll a 0)∧w12.heap[w2.heap.size]?=some (.cells #[.int .i64 0,.int .i64 my] 30 (0,0))∧Below w.heap.size w w12∧Below w11.heap.size w11 w12):=⟨hs12,H11.out.2.1.below hb12,hf12,below_seq H11.out.2.2.2.2 hb12,hb12⟩;clear hs12 hb12 hf12 d9 e9)
 have e12:((w12.setCell ⟨w2.heap.size,0,none⟩ (.int .i64 cc)).setCell ⟨w2.heap.size,1,none⟩ (.int .i64 ck)).heap.size=w12.heap.size:=by simp
 have b12:Below w.heap.size w (((w12.setCell ⟨w2.heap.size,0,none⟩ (.int .i64 cc)).setCell ⟨w2.heap.size,1,none⟩ (.int .i64 ck)).alloc (.cells #[.slice ua un uc,.slice qa qn qc,.int .i64 t] 27)):=below_seq ((H12.out.2.2.2.1.setCell hg2 _).setCell hg2 _) (below_new _ _)
 have o12:Ow (((w12.setCell ⟨w2.heap.size,0,none⟩ (.int .i64 cc)).setCell ⟨w2.heap.size,1,none⟩ (.int .i64 ck)).alloc (.cells #[.slice ua un uc,.slice qa qn qc,.int .i64 t] 27)) w8.heap.size (.slice ad9 (St.pcAll a 0).length c9) (St.pcAll a 0):=((H12.out.2.1.set HG.out).set HG.out).below (below_new _ _)
 have f11:((w12.setCell ⟨w2.heap.size,0,none⟩ (.int .i64 cc)).setCell ⟨w2.heap.size,1,none⟩ (.int .i64 ck)).heap[w2.heap.size]?=some (.cells #[.int .i64 cc,.int .i64 ck] 30 (0,0)):=(by simpa using setCell_at (i:=1) (u:=.int .i64 ck) (setCell_at (i:=0) (u:=.int .i64 cc) H12.out.2.2.1))
 have f12:(((w12.setCell ⟨w2.heap.size,0,none⟩ (.int .i64 cc)).setCell ⟨w2.heap.size,1,none⟩ (.int .i64 ck)).alloc (.cells #[.slice ua un uc,.slice qa qn qc,.int .i64 t] 27)).heap[w2.heap.size]?=some (.cells #[.int .i64 cc,.int .i64 ck] 30 (0,0)):=((below_new _ _).block _ (Array.getElem?_eq_some_iff.1 f11).1).trans f11
 have a12:(((w12.setCell ⟨w2.heap.size,0,none⟩ (.int .i64 cc)).setCell ⟨w2.heap.size,1,none⟩ (.int .i64 ck)).alloc (.cells #[.slice ua un uc,.slice qa qn qc,.int .i64 t] 27)).heap[w12.heap.size]?=some (.cells #[.slice ua un uc,.slice qa qn qc,.int .i64 t] 27 (0,0)):=by
  have:=heap_alloc_new ((w12.setCell ⟨w2.heap.size,0,none⟩ (.int .i64 cc)).setCell ⟨w2.heap.size,1,none⟩ (.int .i64 ck)) (.cells #[.slice ua un uc,.slice qa qn qc,.int .i64 t] 27)
  rw [e12] at this
  exact this
 have s12:=H12.out.1 (((w12.setCell ⟨w2.heap.size,0,none⟩ (.int .i64 cc)).setCell ⟨w2.heap.size,1,none⟩ (.int .i64 ck)).alloc (.cells #[.slice ua un uc,.slice qa qn qc,.int .i64 t] 27)) (fun k hk hk2=>((below_new _ _).block _ (by rw [e12];exact hk2)).trans ((Below.heap_setCell _ _ _ _ (show k≠w2.heap.size from fun e=>by have:=H11.out.2.2.1;omega)).trans (Below.heap_setCell _ _ _ _ (show k≠w2.heap.size from fun e=>by have:=H11.out.2.2.1;omega))))
 refine (Mach_m _ (St.pcAll a 0) ad9 c9 va ia vc ic vs is cc' ck' V' Q' t' (HW.out.2.1.below b12) o12.sl o12.nilc (HW.out.2.2.2.1.below b12) (HW.out.2.2.2.2.below b12) HM.out.1.2).mono ?_
 rintro r w13 ⟨ua',un',uc',qa',qn',qc',rfl,hs13,hb13⟩
 have f13:=(hb13.block _ (Array.getElem?_eq_some_iff.1 f12).1).trans f12
 have a13:=(hb13.block _ (Array.getElem?_eq_some_iff.1 a12).1).trans a12
 have H13:Hid ((IntSl w13 V (.slice ua un uc)∧PutSl w13 Q (.slice qa qn qc))∧(IntSl w13 V' (.slice ua' un' uc')∧PutSl w13 Q' (.slice qa' qn' qc'))∧Below w.heap.size w w13):=⟨⟨s12.1.below hb13,s12.2.below hb13⟩,hs13,below_seq b12 hb13⟩
 clear e12 b12 o12 f11 f12 a12 s12 hs13 hb13 k0 k1 z0 z1 m9
 obtain ⟨df,-,lf⟩:=cells_of (l:=[_,_]) f13
 obtain ⟨da,-,la⟩:=cells_of (l:=[_,_,_]) a13
 have k0:=df 0 _ rfl
 have j0:=da 0 _ rfl
 have j1:=da 1 _ rfl
 have j2:=da 2 _ rfl
 have k1:=df 1 _ rfl
 have HK:Hid (w13.heap[w2.heap.size]?=some (.cells #[.int .i64 cc,.int .i64 ck] 30 (0,0))):=f13
 clear df da f13 a13
 have hl:=HM.out.2.1
 rcases HM.out.2.2 with ⟨rfl,rfl,hV,hQ⟩ | ⟨rfl,rfl⟩ | rfl | ⟨rfl,rfl⟩ | ⟨rfl,rfl⟩
 ·have H13b:Hid (IntSl w13 V (.slice ua' un' uc')∧PutSl w13 Q (.slice qa' qn' qc')):=⟨by rw [hV];exact H13.out.2.1.1,by rw [hQ];exact H13.out.2.1.2⟩
  clear hV hQ
  go_wp2_with (first
   | (go_at_call 41;refine (SameP_any _ Q _ _ (by omega) (H13.out.1.2.below H14.out) (H13b.out.2.below H14.out)).mono ?_;rintro r w15 ⟨rfl,hb15⟩;have H15:Hid (Below w.heap.size w w15):=below_seq (below_seq H13.out.2.2 H14.out) hb15;clear hb15)
   | (go_at_call 40;refine (SameI_any _ V _ _ (by omega) ((H13.out.1.1.below (below_new _ _)).below (below_new _ _)) ((H13b.out.1.below (below_new _ _)).below (below_new _ _))).mono ?_;rintro r w14 ⟨rfl,hb14⟩;have H14:Hid (Below w13.heap.size w13 w14):=below_seq (below_seq (below_new _ _) (below_new _ _)) hb14;have j1:=below_cell H14.out j1;have la:=Nat.lt_of_lt_of_le la H14.out.size;have i1:=below_cell hb14 (show ((w13.alloc (.cells #[.slice ua' un' uc',.slice qa' qn' qc',.int .i64 t'] 27)).alloc (.cells #[.int .i64 0,.int .i64 ck'] 30)).cell? ⟨w13.heap.size,1,none⟩=some (.slice qa' qn' qc') from by go_simp);clear hb14))
  go_ret
  exact ⟨rfl,H15.out⟩
 all_goals go_wp2_with fail
 all_goals go_ret
 all_goals exact ⟨rfl,below_seq H13.out.2.2 (below_seq (below_new _ _) (below_new _ _))⟩
theorem means_walk (w:World) (a:List St) (ad va ia:Option Addr) (c vc ic:Nat) (vs is:List Int) (hr:Ready w∧EndsIn w∧CompsIn w) (hkk:KindsIn w) (h:St.Sl w a (.slice ad a.length c)) (hv:IntSl w vs (.slice va vs.length vc)) (hi:IntSl w is (.slice ia is.length ic)) (hN:St.bulkAll a≤1048576):Calls Tryd.prog 7 #[.slice ad a.length c,.slice va vs.length vc,.slice ia is.length ic] w fun r w'=>r = .returned (.bool true)∧Below w.heap.size w w':=by
 cases hc:(decide (St.deepAll 0 a≤300)&&decide ((St.countAll a:Int)≤2000))
 ·exact means_false w a ad va ia c vc ic vs is hr hkk h hv hi hN hc
 obtain ⟨cx,cy,hx⟩:=checkV_two a
 obtain ⟨⟨⟨mx,my⟩,I⟩,hm⟩:∃ m,imF a cx cy=m:=⟨_,rfl⟩
 by_cases h0:mx=0
 ·subst h0
  obtain ⟨rfl,rfl,hn⟩:=imF_good hm
  have:=(fun h=>(checkV_lay h).1) hx
  subst this
  exact means_good w a ad va ia c vc ic vs is hr hkk h hv hi hN hc my ⟨hx,hm⟩ hn
 ·have:=imF_bad hm h0
  subst this
  exact means_bad w a ad va ia c vc ic vs is hr hkk h hv hi hN hc cx cy mx my ⟨hx,hm⟩ h0
end Go.Proofs.YtnkgbkkakokciacDoor.B
