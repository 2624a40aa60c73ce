import Derived.Test.YtccoobcggbbcialGreatDoorGHA0
import Derived.Test.YtccoobcggbbcialGreatDoorGXR
import Derived.Deep.RegionHeld3
import Derived.Deep.CutRange
namespace Go.Proofs.YtccoobcggbbcialGreatDoor
open Go.ChangeShapes Go.WideShapes Go.ChangeAt Go.RowKit
set_option maxRecDepth 20000 in
set_option maxHeartbeats 8000000 in
theorem wrongC_any(w:World)(x:Pa)(ahead:List Pa)(v:Value)(hl:ahead.length≤8)(hv:RowSl Pa.vals w ahead v):Calls Tryz.prog 144 #[x.val,v] w fun r w'=>r = .returned (.int .i64 (wrongP x ahead))∧Below w.heap.size w w':=by
 have HM:=mayC_any (w.alloc (.cells x.vals.toArray 66)) x
 have HBe:=fun W=>begins_any W x
 obtain⟨ad,cc,rfl⟩:=hv.len
 have HV:Hid (RowSl Pa.vals w ahead (.slice ad ahead.length cc)):=hv
 have H1:=below_new w (.cells x.vals.toArray 66)
 obtain⟨mm,hmm⟩:∃mm,mayP x=mm:=⟨_,rfl⟩
 have HMM:Hid (mayP x=mm):=hmm
 rw[hmm]at HM
 obtain⟨rs,hrs⟩:∃rs,wrongP x ahead=rs:=⟨_,rfl⟩
 rw[hrs]
 have HRS:Hid (wrongP x ahead=rs):=hrs
 clear hrs hmm hv
 obtain⟨co,fr,se,c,t,d,p⟩:=x
 unfold Pa.val Pa.vals at HM
 unfold Pa.val at HBe ⊢
 unfold Pa.vals at H1
 dsimp only at HM HBe H1 ⊢
 have hsb:IntKind.i64.wrap ((ahead.length:Int)-1)=(ahead.length:Int)-1:=by rw[IntKind.wrap_i64];omega
 cases mm with
 | false =>
  have h9:rs=3:=by rw[← HRS.out];unfold wrongP;rw[if_pos HMM.out]
  subst h9
  go_enter Tryz.func144,Tryz.ntmps144
  go_wp2_with (go_at_call 212;refine HM.mono ?_;rintro r w2 ⟨rfl,hb2⟩;have H2:Hid (Below w.heap.size w w2):=below_seq H1 hb2;clear hb2 HM)
  go_ret
  exact⟨rfl,H2.out⟩
 | true =>
  have hd0:¬ mayP ⟨co,fr,se,c,t,d,p⟩=false:=by rw[HMM.out];simp
  rcases h1:within fr (-1) ((ahead.length:Int)-1) with _|_
  ·have h9:rs=4:=by rw[← HRS.out];unfold wrongP;rw[if_neg hd0,if_pos (.inl h1)]
   subst h9
   go_enter Tryz.func144,Tryz.ntmps144
   go_wp2_with (first
    | (go_at_call 212;refine HM.mono ?_;rintro r w2 ⟨rfl,hb2⟩;have H2:Hid (Below w.heap.size w w2∧w2.heap[w.heap.size]?=some (.cells #[.int .i64 co,.int .i64 fr,.int .i64 se,.int .i64 c,.int .i64 t,.int .i64 d,.int .i64 p] 66 (0,0))):=⟨below_seq H1 hb2,(hb2.block _ (by simp)).trans (heap_alloc_new _ _)⟩;clear hb2 HM;obtain⟨ys,-,yl⟩:=cells_of (l:=[_,_,_,_,_,_,_]) H2.out.2;have y1:=ys 1 _ rfl;clear ys)
    | (go_at_call 91;refine(withinC_any _ _ _ _).mono ?_;rintro r w3 ⟨rfl,hw3⟩;have hw4:=hw3.symm;subst hw4;clear hw3;rw[h1]))
   go_ret
   exact⟨rfl,H2.out.1⟩
  have hw1 : -1≤fr∧fr≤(ahead.length:Int)-1:=by
   unfold within at h1
   simpa using h1
  by_cases hb:fr=-1
  ·subst hb
   by_cases hs:se=0
   ·subst hs
    have hd1:¬ (within (-1) (-1) ((ahead.length:Int)-1)=false∨((-1:Int)=-1∧(0:Int)≠0)):=by rw[h1];simp
    have hrs:rs=if within d c t=false then 12 else 0:=by
     rw[← HRS.out]
     unfold wrongP
     rw[if_neg hd0,if_neg hd1]
     simp
    rcases h3:within d c t with _|_
    ·rw[h3]at hrs
     have h9:rs=12:=hrs
     subst h9
     clear hrs
     go_enter Tryz.func144,Tryz.ntmps144
     go_upto_region 5 with (first
      | (go_at_call 212;refine HM.mono ?_;rintro r w2 ⟨rfl,hb2⟩;have H2:Hid (Below w.heap.size w w2∧w2.heap[w.heap.size]?=some (.cells #[.int .i64 co,.int .i64 (-1),.int .i64 0,.int .i64 c,.int .i64 t,.int .i64 d,.int .i64 p] 66 (0,0))):=⟨below_seq H1 hb2,(hb2.block _ (by simp)).trans (heap_alloc_new _ _)⟩;clear hb2 HM;obtain⟨ys,-,yl⟩:=cells_of (l:=[_,_,_,_,_,_,_]) H2.out.2;have y0:=ys 0 _ rfl;have y1:=ys 1 _ rfl;have y2:=ys 2 _ rfl;have y3:=ys 3 _ rfl;have y4:=ys 4 _ rfl;have y5:=ys 5 _ rfl;have y6:=ys 6 _ rfl;clear ys)
      | (go_at_call 91;refine(withinC_any _ _ _ _).mono ?_;rintro r w3 ⟨rfl,hw3⟩;have hw4:=hw3.symm;subst hw4;clear hw3;rw[h1])
      | (go_at_call 94;refine(HBe _).mono ?_;rintro r w3 ⟨rfl,hb3⟩;have H3:Hid (Below w.heap.size w w3∧w3.heap[w.heap.size]?=some (.cells #[.int .i64 co,.int .i64 (-1),.int .i64 0,.int .i64 c,.int .i64 t,.int .i64 d,.int .i64 p] 66 (0,0))):=⟨below_seq H2.out.1 hb3,(hb3.block _ yl).trans H2.out.2⟩;clear hb3 y0 y1 y2 y3 y4 y5 y6 yl H2;obtain⟨xs,-,xl⟩:=cells_of (l:=[_,_,_,_,_,_,_]) H3.out.2;have x0:=xs 0 _ rfl;have x1:=xs 1 _ rfl;have x2:=xs 2 _ rfl;have x3:=xs 3 _ rfl;have x4:=xs 4 _ rfl;have x5:=xs 5 _ rfl;have x6:=xs 6 _ rfl;clear xs))
     refine wp_region_noPanic ?_
     refine wp_region_held_drew (S:=fun w'=>w'.cell? ⟨w.heap.size,0,none⟩=some (.int .i64 co)∧w'.cell? ⟨w.heap.size,1,none⟩=some (.int .i64 (-1))∧w'.cell? ⟨w.heap.size,2,none⟩=some (.int .i64 0)∧w'.cell? ⟨w.heap.size,3,none⟩=some (.int .i64 c)∧w'.cell? ⟨w.heap.size,4,none⟩=some (.int .i64 t)∧w'.cell? ⟨w.heap.size,5,none⟩=some (.int .i64 d)∧w'.cell? ⟨w.heap.size,6,none⟩=some (.int .i64 p)) (by kernel_rfl) ⟨by go_simp,by go_simp,by go_simp,by go_simp,by go_simp,by go_simp,by go_simp⟩ (fun hHeld=>?_)
     refine tk (i:=0) (n:=27) (v:=?_) ?_ ?_
     rotate_left 1
     ·intro wz hSw
      obtain⟨s0,s1,s2,s3,s4,s5,s6⟩:=hSw
      first|(go_simp;done)|(go_simp;with_reducible rfl)
     simp only[ls0,ls1]
     refine tk (i:=1) (n:=28) (v:=?_) ?_ ?_
     rotate_left 1
     ·intro wz hSw
      obtain⟨s0,s1,s2,s3,s4,s5,s6⟩:=hSw
      first|(go_simp;done)|(go_simp;with_reducible rfl)
     simp only[ls0,ls1]
     refine tk (i:=2) (n:=29) (v:=?_) ?_ ?_
     rotate_left 1
     ·intro wz hSw
      obtain⟨s0,s1,s2,s3,s4,s5,s6⟩:=hSw
      first|(go_simp;done)|(go_simp;with_reducible rfl)
     simp only[ls0,ls1]
     refine tk (i:=3) (n:=30) (v:=?_) ?_ ?_
     rotate_left 1
     ·intro wz hSw
      obtain⟨s0,s1,s2,s3,s4,s5,s6⟩:=hSw
      first|(go_simp;done)|(go_simp;with_reducible rfl)
     simp only[ls0,ls1]
     refine tk (i:=4) (n:=31) (v:=?_) ?_ ?_
     rotate_left 1
     ·intro wz hSw
      obtain⟨s0,s1,s2,s3,s4,s5,s6⟩:=hSw
      first|(go_simp;done)|(go_simp;with_reducible rfl)
     simp only[ls0,ls1]
     refine tk (i:=5) (n:=32) (v:=?_) ?_ ?_
     rotate_left 1
     ·intro wz hSw
      obtain⟨s0,s1,s2,s3,s4,s5,s6⟩:=hSw
      first|(go_simp;done)|(go_simp;with_reducible rfl)
     simp only[ls0,ls1]
     refine wpAnyH_ready (rs:=[6]) (by kernel_rfl) (by simp) ?_
     refine AllReadyH.cons rfl (fun K hK=>?_) AllReadyH.nil
     go_simp
     go_wp2_with (go_at_call 91;refine(withinC_any _ _ _ _).mono ?_;rintro r w8 ⟨rfl,rfl⟩)
     have H8:Hid (Below w3.heap.size w3 w3.drew):=(Below.refl _ _).drew
     refine hK.out _ _ ⟨below_cell H8.out x0,below_cell H8.out x1,below_cell H8.out x2,below_cell H8.out x3,below_cell H8.out x4,below_cell H8.out x5,below_cell H8.out x6⟩ (fun hHeld=>?_)
     clear hK K
     try simp only[ls0,ls1]
     refine tk (i:=7) (n:=34) (v:=?_) ?_ ?_
     rotate_left 1
     ·intro wz hSw
      obtain⟨s0,s1,s2,s3,s4,s5,s6⟩:=hSw
      first|(go_simp;done)|(go_simp;with_reducible rfl)
     simp only[ls0,ls1]
     refine tk (i:=8) (n:=35) (v:=?_) ?_ ?_
     rotate_left 1
     ·intro wz hSw
      obtain⟨s0,s1,s2,s3,s4,s5,s6⟩:=hSw
      first|(go_simp;done)|(go_simp;with_reducible rfl)
     simp only[ls0,ls1]
     refine take_at (i:=9) (n:=36) (v:=undef) rfl rfl (by kernel_rfl) (by kernel_rfl) (by kernel_rfl) (fun _ _ _ h=>h) (Or.inr ⟨by rfl,rfl⟩) (by assumption) ?_
     simp only[ls0,ls1]
     refine take_at (i:=10) (n:=37) (v:=undef) rfl rfl (by kernel_rfl) (by kernel_rfl) (by kernel_rfl) (fun _ _ _ h=>h) (Or.inr ⟨by rfl,rfl⟩) (by assumption) ?_
     simp only[ls0,ls1]
     refine take_at (i:=11) (n:=38) (v:=undef) rfl rfl (by kernel_rfl) (by kernel_rfl) (by kernel_rfl) (fun _ _ _ h=>h) (Or.inr ⟨by rfl,rfl⟩) (by assumption) ?_
     simp only[ls0,ls1]
     refine take_at (i:=12) (n:=39) (v:=undef) rfl rfl (by kernel_rfl) (by kernel_rfl) (by kernel_rfl) (fun _ _ _ h=>h) (Or.inr ⟨by rfl,rfl⟩) (by assumption) ?_
     simp only[ls0,ls1]
     refine take_at (i:=13) (n:=40) (v:=undef) rfl rfl (by kernel_rfl) (by kernel_rfl) (by kernel_rfl) (fun _ _ _ h=>h) (Or.inr ⟨by rfl,rfl⟩) (by assumption) ?_
     simp only[ls0,ls1]
     refine take_at (i:=14) (n:=41) (v:=undef) rfl rfl (by kernel_rfl) (by kernel_rfl) (by kernel_rfl) (fun _ _ _ h=>h) (Or.inr ⟨by rfl,rfl⟩) (by assumption) ?_
     simp only[ls0,ls1]
     refine take_at (i:=15) (n:=42) (v:=undef) rfl rfl (by kernel_rfl) (by kernel_rfl) (by kernel_rfl) (fun _ _ _ h=>h) (Or.inr ⟨by rfl,rfl⟩) (by assumption) ?_
     simp only[ls0,ls1]
     refine take_at (i:=16) (n:=43) (v:=undef) rfl rfl (by kernel_rfl) (by kernel_rfl) (by kernel_rfl) (fun _ _ _ h=>h) (Or.inr ⟨by rfl,rfl⟩) (by assumption) ?_
     simp only[ls0,ls1]
     refine take_at (i:=17) (n:=44) (v:=undef) rfl rfl (by kernel_rfl) (by kernel_rfl) (by kernel_rfl) (fun _ _ _ h=>h) (Or.inr ⟨by rfl,rfl⟩) (by assumption) ?_
     simp only[ls0,ls1]
     refine take_at (i:=18) (n:=45) (v:=undef) rfl rfl (by kernel_rfl) (by kernel_rfl) (by kernel_rfl) (fun _ _ _ h=>h) (Or.inr ⟨by rfl,rfl⟩) (by assumption) ?_
     simp only[ls0,ls1]
     refine take_at (i:=19) (n:=46) (v:=undef) rfl rfl (by kernel_rfl) (by kernel_rfl) (by kernel_rfl) (fun _ _ _ h=>h) (Or.inr ⟨by rfl,rfl⟩) (by assumption) ?_
     simp only[ls0,ls1]
     refine take_at (i:=20) (n:=47) (v:=undef) rfl rfl (by kernel_rfl) (by kernel_rfl) (by kernel_rfl) (fun _ _ _ h=>h) (Or.inr ⟨by rfl,rfl⟩) (by assumption) ?_
     simp only[ls0,ls1]
     refine take_at (i:=21) (n:=48) (v:=undef) rfl rfl (by kernel_rfl) (by kernel_rfl) (by kernel_rfl) (fun _ _ _ h=>h) (Or.inr ⟨by rfl,rfl⟩) (by assumption) ?_
     simp only[ls0,ls1]
     refine take_at (i:=22) (n:=49) (v:=undef) rfl rfl (by kernel_rfl) (by kernel_rfl) (by kernel_rfl) (fun _ _ _ h=>h) (Or.inr ⟨by rfl,rfl⟩) (by assumption) ?_
     simp only[ls0,ls1]
     refine tk (i:=23) (n:=50) (v:=?_) ?_ ?_
     rotate_left 1
     ·intro wz hSw
      obtain⟨s0,s1,s2,s3,s4,s5,s6⟩:=hSw
      first|(go_simp;done)|(go_simp;with_reducible rfl)
     simp only[ls0,ls1]
     refine tk (i:=24) (n:=26) (v:=?_) ?_ ?_
     rotate_left 1
     ·intro wz hSw
      obtain⟨s0,s1,s2,s3,s4,s5,s6⟩:=hSw
      first|(go_simp;done)|(go_simp;with_reducible rfl)
     simp only[ls0,ls1]
     refine wpAnyH_done (by kernel_rfl) ?_ _
     refine NoPanic.normal ?_
     clear hHeld
     go_wp2_with fail
     go_ret
     exact⟨rfl,below_seq H3.out.1 H8.out⟩
    ·rw[h3]at hrs
     have h9:rs=0:=hrs
     subst h9
     clear hrs
     go_enter Tryz.func144,Tryz.ntmps144
     go_upto_region 5 with (first
      | (go_at_call 212;refine HM.mono ?_;rintro r w2 ⟨rfl,hb2⟩;have H2:Hid (Below w.heap.size w w2∧w2.heap[w.heap.size]?=some (.cells #[.int .i64 co,.int .i64 (-1),.int .i64 0,.int .i64 c,.int .i64 t,.int .i64 d,.int .i64 p] 66 (0,0))):=⟨below_seq H1 hb2,(hb2.block _ (by simp)).trans (heap_alloc_new _ _)⟩;clear hb2 HM;obtain⟨ys,-,yl⟩:=cells_of (l:=[_,_,_,_,_,_,_]) H2.out.2;have y0:=ys 0 _ rfl;have y1:=ys 1 _ rfl;have y2:=ys 2 _ rfl;have y3:=ys 3 _ rfl;have y4:=ys 4 _ rfl;have y5:=ys 5 _ rfl;have y6:=ys 6 _ rfl;clear ys)
      | (go_at_call 91;refine(withinC_any _ _ _ _).mono ?_;rintro r w3 ⟨rfl,hw3⟩;have hw4:=hw3.symm;subst hw4;clear hw3;rw[h1])
      | (go_at_call 94;refine(HBe _).mono ?_;rintro r w3 ⟨rfl,hb3⟩;have H3:Hid (Below w.heap.size w w3∧w3.heap[w.heap.size]?=some (.cells #[.int .i64 co,.int .i64 (-1),.int .i64 0,.int .i64 c,.int .i64 t,.int .i64 d,.int .i64 p] 66 (0,0))):=⟨below_seq H2.out.1 hb3,(hb3.block _ yl).trans H2.out.2⟩;clear hb3 y0 y1 y2 y3 y4 y5 y6 yl H2;obtain⟨xs,-,xl⟩:=cells_of (l:=[_,_,_,_,_,_,_]) H3.out.2;have x0:=xs 0 _ rfl;have x1:=xs 1 _ rfl;have x2:=xs 2 _ rfl;have x3:=xs 3 _ rfl;have x4:=xs 4 _ rfl;have x5:=xs 5 _ rfl;have x6:=xs 6 _ rfl;clear xs))
     refine wp_region_noPanic ?_
     refine wp_region_held_drew (S:=fun w'=>w'.cell? ⟨w.heap.size,0,none⟩=some (.int .i64 co)∧w'.cell? ⟨w.heap.size,1,none⟩=some (.int .i64 (-1))∧w'.cell? ⟨w.heap.size,2,none⟩=some (.int .i64 0)∧w'.cell? ⟨w.heap.size,3,none⟩=some (.int .i64 c)∧w'.cell? ⟨w.heap.size,4,none⟩=some (.int .i64 t)∧w'.cell? ⟨w.heap.size,5,none⟩=some (.int .i64 d)∧w'.cell? ⟨w.heap.size,6,none⟩=some (.int .i64 p)) (by kernel_rfl) ⟨by go_simp,by go_simp,by go_simp,by go_simp,by go_simp,by go_simp,by go_simp⟩ (fun hHeld=>?_)
     refine tk (i:=0) (n:=27) (v:=?_) ?_ ?_
     rotate_left 1
     ·intro wz hSw
      obtain⟨s0,s1,s2,s3,s4,s5,s6⟩:=hSw
      first|(go_simp;done)|(go_simp;with_reducible rfl)
     simp only[ls0,ls1]
     refine tk (i:=1) (n:=28) (v:=?_) ?_ ?_
     rotate_left 1
     ·intro wz hSw
      obtain⟨s0,s1,s2,s3,s4,s5,s6⟩:=hSw
      first|(go_simp;done)|(go_simp;with_reducible rfl)
     simp only[ls0,ls1]
     refine tk (i:=2) (n:=29) (v:=?_) ?_ ?_
     rotate_left 1
     ·intro wz hSw
      obtain⟨s0,s1,s2,s3,s4,s5,s6⟩:=hSw
      first|(go_simp;done)|(go_simp;with_reducible rfl)
     simp only[ls0,ls1]
     refine tk (i:=3) (n:=30) (v:=?_) ?_ ?_
     rotate_left 1
     ·intro wz hSw
      obtain⟨s0,s1,s2,s3,s4,s5,s6⟩:=hSw
      first|(go_simp;done)|(go_simp;with_reducible rfl)
     simp only[ls0,ls1]
     refine tk (i:=4) (n:=31) (v:=?_) ?_ ?_
     rotate_left 1
     ·intro wz hSw
      obtain⟨s0,s1,s2,s3,s4,s5,s6⟩:=hSw
      first|(go_simp;done)|(go_simp;with_reducible rfl)
     simp only[ls0,ls1]
     refine tk (i:=5) (n:=32) (v:=?_) ?_ ?_
     rotate_left 1
     ·intro wz hSw
      obtain⟨s0,s1,s2,s3,s4,s5,s6⟩:=hSw
      first|(go_simp;done)|(go_simp;with_reducible rfl)
     simp only[ls0,ls1]
     refine wpAnyH_ready (rs:=[6]) (by kernel_rfl) (by simp) ?_
     refine AllReadyH.cons rfl (fun K hK=>?_) AllReadyH.nil
     go_simp
     go_wp2_with (go_at_call 91;refine(withinC_any _ _ _ _).mono ?_;rintro r w8 ⟨rfl,rfl⟩)
     have H8:Hid (Below w3.heap.size w3 w3.drew):=(Below.refl _ _).drew
     refine hK.out _ _ ⟨below_cell H8.out x0,below_cell H8.out x1,below_cell H8.out x2,below_cell H8.out x3,below_cell H8.out x4,below_cell H8.out x5,below_cell H8.out x6⟩ (fun hHeld=>?_)
     clear hK K
     try simp only[ls0,ls1]
     refine tk (i:=7) (n:=34) (v:=?_) ?_ ?_
     rotate_left 1
     ·intro wz hSw
      obtain⟨s0,s1,s2,s3,s4,s5,s6⟩:=hSw
      first|(go_simp;done)|(go_simp;with_reducible rfl)
     simp only[ls0,ls1]
     refine tk (i:=8) (n:=35) (v:=?_) ?_ ?_
     rotate_left 1
     ·intro wz hSw
      obtain⟨s0,s1,s2,s3,s4,s5,s6⟩:=hSw
      first|(go_simp;done)|(go_simp;with_reducible rfl)
     simp only[ls0,ls1]
     refine tk (i:=9) (n:=36) (v:=?_) ?_ ?_
     rotate_left 1
     ·intro wz hSw
      obtain⟨s0,s1,s2,s3,s4,s5,s6⟩:=hSw
      first|(go_simp;done)|(go_simp;with_reducible rfl)
     simp only[ls0,ls1]
     refine wpAnyH_ready (rs:=[10]) (by kernel_rfl) (by simp) ?_
     refine AllReadyH.cons rfl (fun K hK=>?_) AllReadyH.nil
     go_simp
     go_wp2_with (go_at_call 94;refine(HBe _).mono ?_;rintro r w9 ⟨rfl,hb9⟩)
     have H9:Hid (Below w3.heap.size w3 w9):=below_seq H8.out hb9
     refine hK.out _ _ ⟨below_cell H9.out x0,below_cell H9.out x1,below_cell H9.out x2,below_cell H9.out x3,below_cell H9.out x4,below_cell H9.out x5,below_cell H9.out x6⟩ (fun hHeld=>?_)
     clear hb9
     clear hK K
     try simp only[ls0,ls1]
     refine tk (i:=11) (n:=38) (v:=?_) ?_ ?_
     rotate_left 1
     ·intro wz hSw
      obtain⟨s0,s1,s2,s3,s4,s5,s6⟩:=hSw
      first|(go_simp;done)|(go_simp;with_reducible rfl)
     simp only[ls0,ls1]
     refine tk (i:=12) (n:=39) (v:=?_) ?_ ?_
     rotate_left 1
     ·intro wz hSw
      obtain⟨s0,s1,s2,s3,s4,s5,s6⟩:=hSw
      first|(go_simp;done)|(go_simp;with_reducible rfl)
     simp only[ls0,ls1]
     refine take_at (i:=13) (n:=40) (v:=undef) rfl rfl (by kernel_rfl) (by kernel_rfl) (by kernel_rfl) (fun _ _ _ h=>h) (Or.inr ⟨by rfl,rfl⟩) (by assumption) ?_
     simp only[ls0,ls1]
     refine take_at (i:=14) (n:=41) (v:=undef) rfl rfl (by kernel_rfl) (by kernel_rfl) (by kernel_rfl) (fun _ _ _ h=>h) (Or.inr ⟨by rfl,rfl⟩) (by assumption) ?_
     simp only[ls0,ls1]
     refine take_at (i:=15) (n:=42) (v:=undef) rfl rfl (by kernel_rfl) (by kernel_rfl) (by kernel_rfl) (fun _ _ _ h=>h) (Or.inr ⟨by rfl,rfl⟩) (by assumption) ?_
     simp only[ls0,ls1]
     refine take_at (i:=16) (n:=43) (v:=undef) rfl rfl (by kernel_rfl) (by kernel_rfl) (by kernel_rfl) (fun _ _ _ h=>h) (Or.inr ⟨by rfl,rfl⟩) (by assumption) ?_
     simp only[ls0,ls1]
     refine take_at (i:=17) (n:=44) (v:=undef) rfl rfl (by kernel_rfl) (by kernel_rfl) (by kernel_rfl) (fun _ _ _ h=>h) (Or.inr ⟨by rfl,rfl⟩) (by assumption) ?_
     simp only[ls0,ls1]
     refine take_at (i:=18) (n:=45) (v:=undef) rfl rfl (by kernel_rfl) (by kernel_rfl) (by kernel_rfl) (fun _ _ _ h=>h) (Or.inr ⟨by rfl,rfl⟩) (by assumption) ?_
     simp only[ls0,ls1]
     refine take_at (i:=19) (n:=46) (v:=undef) rfl rfl (by kernel_rfl) (by kernel_rfl) (by kernel_rfl) (fun _ _ _ h=>h) (Or.inr ⟨by rfl,rfl⟩) (by assumption) ?_
     simp only[ls0,ls1]
     refine take_at (i:=20) (n:=47) (v:=undef) rfl rfl (by kernel_rfl) (by kernel_rfl) (by kernel_rfl) (fun _ _ _ h=>h) (Or.inr ⟨by rfl,rfl⟩) (by assumption) ?_
     simp only[ls0,ls1]
     refine take_at (i:=21) (n:=48) (v:=undef) rfl rfl (by kernel_rfl) (by kernel_rfl) (by kernel_rfl) (fun _ _ _ h=>h) (Or.inr ⟨by rfl,rfl⟩) (by assumption) ?_
     simp only[ls0,ls1]
     refine tk (i:=22) (n:=49) (v:=?_) ?_ ?_
     rotate_left 1
     ·intro wz hSw
      obtain⟨s0,s1,s2,s3,s4,s5,s6⟩:=hSw
      first|(go_simp;done)|(go_simp;with_reducible rfl)
     simp only[ls0,ls1]
     refine tk (i:=23) (n:=50) (v:=?_) ?_ ?_
     rotate_left 1
     ·intro wz hSw
      obtain⟨s0,s1,s2,s3,s4,s5,s6⟩:=hSw
      first|(go_simp;done)|(go_simp;with_reducible rfl)
     simp only[ls0,ls1]
     refine tk (i:=24) (n:=26) (v:=?_) ?_ ?_
     rotate_left 1
     ·intro wz hSw
      obtain⟨s0,s1,s2,s3,s4,s5,s6⟩:=hSw
      first|(go_simp;done)|(go_simp;with_reducible rfl)
     simp only[ls0,ls1]
     refine wpAnyH_done (by kernel_rfl) ?_ _
     refine NoPanic.normal ?_
     clear hHeld
     go_wp2_with fail
     go_ret
     exact⟨rfl,below_seq H3.out.1 H9.out⟩
   ·have hsb2:(se != 0)=true:=by simpa using hs
    have h9:rs=4:=by rw[← HRS.out];unfold wrongP;rw[if_neg hd0,if_pos (.inr ⟨rfl,hs⟩)]
    subst h9
    go_enter Tryz.func144,Tryz.ntmps144
    go_wp2_with (first
     | (go_at_call 212;refine HM.mono ?_;rintro r w2 ⟨rfl,hb2⟩;have H2:Hid (Below w.heap.size w w2∧w2.heap[w.heap.size]?=some (.cells #[.int .i64 co,.int .i64 (-1),.int .i64 se,.int .i64 c,.int .i64 t,.int .i64 d,.int .i64 p] 66 (0,0))):=⟨below_seq H1 hb2,(hb2.block _ (by simp)).trans (heap_alloc_new _ _)⟩;clear hb2 HM;obtain⟨ys,-,yl⟩:=cells_of (l:=[_,_,_,_,_,_,_]) H2.out.2;have y0:=ys 0 _ rfl;have y1:=ys 1 _ rfl;have y2:=ys 2 _ rfl;have y3:=ys 3 _ rfl;have y4:=ys 4 _ rfl;have y5:=ys 5 _ rfl;have y6:=ys 6 _ rfl;clear ys)
     | (go_at_call 91;refine(withinC_any _ _ _ _).mono ?_;rintro r w3 ⟨rfl,hw3⟩;have hw4:=hw3.symm;subst hw4;clear hw3;rw[h1])
     | (go_at_call 94;refine(HBe _).mono ?_;rintro r w3 ⟨rfl,hb3⟩;have H3:Hid (Below w.heap.size w w3):=below_seq H2.out.1 hb3;have z2:=below_cell hb3 y2;have zl:=World.block_lt_of_cell? _ _ z2;clear hb3 y0 y1 y2 y3 y4 y5 y6))
    go_ret
    exact⟨rfl,H3.out⟩
  ·have hbb:(fr == -1)=false:=by simpa using hb
   obtain⟨fn,hfn⟩:∃fn:Nat,fr=(fn:Int):=⟨fr.toNat,by omega⟩
   subst hfn
   have hfl:fn<ahead.length:=by omega
   have hfi:(fn:Int)<(ahead.length:Int):=by omega
   obtain⟨y,hy⟩:∃y,ahead[fn]?=some y:=⟨ahead[fn],List.getElem?_eq_getElem _⟩
   have hgd:(ahead.getD (fn:Int).toNat paZ).t=y.t:=by rw[Int.toNat_natCast,List.getD_eq_getElem?_getD,hy];rfl
   have hd1:¬ (within (fn:Int) (-1) ((ahead.length:Int)-1)=false∨((fn:Int)=-1∧se≠0)):=by rw[h1];first|(simp;done)|(simp;omega)
   have hrs:rs=if within d c t=false∨t≠y.t then 12 else 0:=by
    rw[← HRS.out]
    unfold wrongP
    rw[if_neg hd0,if_neg hd1]
    dsimp only
    rw[hgd]
    simp only[ne_eq,hb,not_false_eq_true,true_and]
   obtain⟨ad',c',he,-,hcap,hrow⟩:=HV.out
   cases he
   rcases hrow with h|⟨b,o,rfl,hrow⟩
   ·rw[h]at hfl;simp at hfl
   have HRow:Hid (w.cell? ⟨b,o+fn*7+4,none⟩=some (.int .i64 y.t)):=(pa7_at hrow hy).2.2.2.2.1
   generalize y.t=ta at *
   clear hrow hy hgd hd1
   rcases h3:within d c t with _|_
   ·rw[h3]at hrs
    have h9:rs=12:=by rw[hrs,if_pos (.inl rfl)]
    subst h9
    clear hrs
    go_enter Tryz.func144,Tryz.ntmps144
    go_upto_region 5 with (first
     | (go_at_call 212;refine HM.mono ?_;rintro r w2 ⟨rfl,hb2⟩;have H2:Hid (Below w.heap.size w w2∧w2.heap[w.heap.size]?=some (.cells #[.int .i64 co,.int .i64 (fn:Int),.int .i64 se,.int .i64 c,.int .i64 t,.int .i64 d,.int .i64 p] 66 (0,0))):=⟨below_seq H1 hb2,(hb2.block _ (by simp)).trans (heap_alloc_new _ _)⟩;clear hb2 HM;obtain⟨ys,-,yl⟩:=cells_of (l:=[_,_,_,_,_,_,_]) H2.out.2;have y0:=ys 0 _ rfl;have y1:=ys 1 _ rfl;have y2:=ys 2 _ rfl;have y3:=ys 3 _ rfl;have y4:=ys 4 _ rfl;have y5:=ys 5 _ rfl;have y6:=ys 6 _ rfl;clear ys)
     | (go_at_call 91;refine(withinC_any _ _ _ _).mono ?_;rintro r w3 ⟨rfl,hw3⟩;have hw4:=hw3.symm;subst hw4;clear hw3;rw[h1])
     | (go_at_call 94;refine(HBe _).mono ?_;rintro r w3 ⟨rfl,hb3⟩;have H3:Hid (Below w.heap.size w w3∧w3.heap[w.heap.size]?=some (.cells #[.int .i64 co,.int .i64 (fn:Int),.int .i64 se,.int .i64 c,.int .i64 t,.int .i64 d,.int .i64 p] 66 (0,0))):=⟨below_seq H2.out.1 hb3,(hb3.block _ yl).trans H2.out.2⟩;clear hb3 y0 y1 y2 y3 y4 y5 y6 yl H2;obtain⟨xs,-,xl⟩:=cells_of (l:=[_,_,_,_,_,_,_]) H3.out.2;have x0:=xs 0 _ rfl;have x1:=xs 1 _ rfl;have x2:=xs 2 _ rfl;have x3:=xs 3 _ rfl;have x4:=xs 4 _ rfl;have x5:=xs 5 _ rfl;have x6:=xs 6 _ rfl;clear xs))
    refine wp_region_noPanic ?_
    refine wp_region_held_drew (S:=fun w'=>w'.cell? ⟨w.heap.size,0,none⟩=some (.int .i64 co)∧w'.cell? ⟨w.heap.size,1,none⟩=some (.int .i64 (fn:Int))∧w'.cell? ⟨w.heap.size,2,none⟩=some (.int .i64 se)∧w'.cell? ⟨w.heap.size,3,none⟩=some (.int .i64 c)∧w'.cell? ⟨w.heap.size,4,none⟩=some (.int .i64 t)∧w'.cell? ⟨w.heap.size,5,none⟩=some (.int .i64 d)∧w'.cell? ⟨w.heap.size,6,none⟩=some (.int .i64 p)) (by kernel_rfl) ⟨by go_simp,by go_simp,by go_simp,by go_simp,by go_simp,by go_simp,by go_simp⟩ (fun hHeld=>?_)
    refine tk (i:=0) (n:=27) (v:=?_) ?_ ?_
    rotate_left 1
    ·intro wz hSw
     obtain⟨s0,s1,s2,s3,s4,s5,s6⟩:=hSw
     first|(go_simp;done)|(go_simp;with_reducible rfl)
    simp only[ls0,ls1]
    refine tk (i:=1) (n:=28) (v:=?_) ?_ ?_
    rotate_left 1
    ·intro wz hSw
     obtain⟨s0,s1,s2,s3,s4,s5,s6⟩:=hSw
     first|(go_simp;done)|(go_simp;with_reducible rfl)
    simp only[ls0,ls1]
    refine tk (i:=2) (n:=29) (v:=?_) ?_ ?_
    rotate_left 1
    ·intro wz hSw
     obtain⟨s0,s1,s2,s3,s4,s5,s6⟩:=hSw
     first|(go_simp;done)|(go_simp;with_reducible rfl)
    simp only[ls0,ls1]
    refine tk (i:=3) (n:=30) (v:=?_) ?_ ?_
    rotate_left 1
    ·intro wz hSw
     obtain⟨s0,s1,s2,s3,s4,s5,s6⟩:=hSw
     first|(go_simp;done)|(go_simp;with_reducible rfl)
    simp only[ls0,ls1]
    refine tk (i:=4) (n:=31) (v:=?_) ?_ ?_
    rotate_left 1
    ·intro wz hSw
     obtain⟨s0,s1,s2,s3,s4,s5,s6⟩:=hSw
     first|(go_simp;done)|(go_simp;with_reducible rfl)
    simp only[ls0,ls1]
    refine tk (i:=5) (n:=32) (v:=?_) ?_ ?_
    rotate_left 1
    ·intro wz hSw
     obtain⟨s0,s1,s2,s3,s4,s5,s6⟩:=hSw
     first|(go_simp;done)|(go_simp;with_reducible rfl)
    simp only[ls0,ls1]
    refine wpAnyH_ready (rs:=[6]) (by kernel_rfl) (by simp) ?_
    refine AllReadyH.cons rfl (fun K hK=>?_) AllReadyH.nil
    go_simp
    go_wp2_with (go_at_call 91;refine(withinC_any _ _ _ _).mono ?_;rintro r w8 ⟨rfl,rfl⟩)
    have H8:Hid (Below w3.heap.size w3 w3.drew):=(Below.refl _ _).drew
    refine hK.out _ _ ⟨below_cell H8.out x0,below_cell H8.out x1,below_cell H8.out x2,below_cell H8.out x3,below_cell H8.out x4,below_cell H8.out x5,below_cell H8.out x6⟩ (fun hHeld=>?_)
    clear hK K
    try simp only[ls0,ls1]
    refine tk (i:=7) (n:=34) (v:=?_) ?_ ?_
    rotate_left 1
    ·intro wz hSw
     obtain⟨s0,s1,s2,s3,s4,s5,s6⟩:=hSw
     first|(go_simp;done)|(go_simp;with_reducible rfl)
    simp only[ls0,ls1]
    refine tk (i:=8) (n:=35) (v:=?_) ?_ ?_
    rotate_left 1
    ·intro wz hSw
     obtain⟨s0,s1,s2,s3,s4,s5,s6⟩:=hSw
     first|(go_simp;done)|(go_simp;with_reducible rfl)
    simp only[ls0,ls1]
    refine take_at (i:=9) (n:=36) (v:=undef) rfl rfl (by kernel_rfl) (by kernel_rfl) (by kernel_rfl) (fun _ _ _ h=>h) (Or.inr ⟨by rfl,rfl⟩) (by assumption) ?_
    simp only[ls0,ls1]
    refine take_at (i:=10) (n:=37) (v:=undef) rfl rfl (by kernel_rfl) (by kernel_rfl) (by kernel_rfl) (fun _ _ _ h=>h) (Or.inr ⟨by rfl,rfl⟩) (by assumption) ?_
    simp only[ls0,ls1]
    refine take_at (i:=11) (n:=38) (v:=undef) rfl rfl (by kernel_rfl) (by kernel_rfl) (by kernel_rfl) (fun _ _ _ h=>h) (Or.inr ⟨by rfl,rfl⟩) (by assumption) ?_
    simp only[ls0,ls1]
    refine take_at (i:=12) (n:=39) (v:=undef) rfl rfl (by kernel_rfl) (by kernel_rfl) (by kernel_rfl) (fun _ _ _ h=>h) (Or.inr ⟨by rfl,rfl⟩) (by assumption) ?_
    simp only[ls0,ls1]
    refine take_at (i:=13) (n:=40) (v:=undef) rfl rfl (by kernel_rfl) (by kernel_rfl) (by kernel_rfl) (fun _ _ _ h=>h) (Or.inr ⟨by rfl,rfl⟩) (by assumption) ?_
    simp only[ls0,ls1]
    refine take_at (i:=14) (n:=41) (v:=undef) rfl rfl (by kernel_rfl) (by kernel_rfl) (by kernel_rfl) (fun _ _ _ h=>h) (Or.inr ⟨by rfl,rfl⟩) (by assumption) ?_
    simp only[ls0,ls1]
    refine take_at (i:=15) (n:=42) (v:=undef) rfl rfl (by kernel_rfl) (by kernel_rfl) (by kernel_rfl) (fun _ _ _ h=>h) (Or.inr ⟨by rfl,rfl⟩) (by assumption) ?_
    simp only[ls0,ls1]
    refine take_at (i:=16) (n:=43) (v:=undef) rfl rfl (by kernel_rfl) (by kernel_rfl) (by kernel_rfl) (fun _ _ _ h=>h) (Or.inr ⟨by rfl,rfl⟩) (by assumption) ?_
    simp only[ls0,ls1]
    refine take_at (i:=17) (n:=44) (v:=undef) rfl rfl (by kernel_rfl) (by kernel_rfl) (by kernel_rfl) (fun _ _ _ h=>h) (Or.inr ⟨by rfl,rfl⟩) (by assumption) ?_
    simp only[ls0,ls1]
    refine take_at (i:=18) (n:=45) (v:=undef) rfl rfl (by kernel_rfl) (by kernel_rfl) (by kernel_rfl) (fun _ _ _ h=>h) (Or.inr ⟨by rfl,rfl⟩) (by assumption) ?_
    simp only[ls0,ls1]
    refine take_at (i:=19) (n:=46) (v:=undef) rfl rfl (by kernel_rfl) (by kernel_rfl) (by kernel_rfl) (fun _ _ _ h=>h) (Or.inr ⟨by rfl,rfl⟩) (by assumption) ?_
    simp only[ls0,ls1]
    refine take_at (i:=20) (n:=47) (v:=undef) rfl rfl (by kernel_rfl) (by kernel_rfl) (by kernel_rfl) (fun _ _ _ h=>h) (Or.inr ⟨by rfl,rfl⟩) (by assumption) ?_
    simp only[ls0,ls1]
    refine take_at (i:=21) (n:=48) (v:=undef) rfl rfl (by kernel_rfl) (by kernel_rfl) (by kernel_rfl) (fun _ _ _ h=>h) (Or.inr ⟨by rfl,rfl⟩) (by assumption) ?_
    simp only[ls0,ls1]
    refine take_at (i:=22) (n:=49) (v:=undef) rfl rfl (by kernel_rfl) (by kernel_rfl) (by kernel_rfl) (fun _ _ _ h=>h) (Or.inr ⟨by rfl,rfl⟩) (by assumption) ?_
    simp only[ls0,ls1]
    refine tk (i:=23) (n:=50) (v:=?_) ?_ ?_
    rotate_left 1
    ·intro wz hSw
     obtain⟨s0,s1,s2,s3,s4,s5,s6⟩:=hSw
     first|(go_simp;done)|(go_simp;with_reducible rfl)
    simp only[ls0,ls1]
    refine tk (i:=24) (n:=26) (v:=?_) ?_ ?_
    rotate_left 1
    ·intro wz hSw
     obtain⟨s0,s1,s2,s3,s4,s5,s6⟩:=hSw
     first|(go_simp;done)|(go_simp;with_reducible rfl)
    simp only[ls0,ls1]
    refine wpAnyH_done (by kernel_rfl) ?_ _
    refine NoPanic.normal ?_
    clear hHeld
    go_wp2_with fail
    go_ret
    exact⟨rfl,below_seq H3.out.1 H8.out⟩
   ·rw[h3]at hrs
    go_enter Tryz.func144,Tryz.ntmps144
    go_upto_region 5 with (first
     | (go_at_call 212;refine HM.mono ?_;rintro r w2 ⟨rfl,hb2⟩;have H2:Hid (Below w.heap.size w w2∧w2.heap[w.heap.size]?=some (.cells #[.int .i64 co,.int .i64 (fn:Int),.int .i64 se,.int .i64 c,.int .i64 t,.int .i64 d,.int .i64 p] 66 (0,0))):=⟨below_seq H1 hb2,(hb2.block _ (by simp)).trans (heap_alloc_new _ _)⟩;clear hb2 HM;obtain⟨ys,-,yl⟩:=cells_of (l:=[_,_,_,_,_,_,_]) H2.out.2;have y0:=ys 0 _ rfl;have y1:=ys 1 _ rfl;have y2:=ys 2 _ rfl;have y3:=ys 3 _ rfl;have y4:=ys 4 _ rfl;have y5:=ys 5 _ rfl;have y6:=ys 6 _ rfl;clear ys)
     | (go_at_call 91;refine(withinC_any _ _ _ _).mono ?_;rintro r w3 ⟨rfl,hw3⟩;have hw4:=hw3.symm;subst hw4;clear hw3;rw[h1])
     | (go_at_call 94;refine(HBe _).mono ?_;rintro r w3 ⟨rfl,hb3⟩;have H3:Hid (Below w.heap.size w w3∧w3.heap[w.heap.size]?=some (.cells #[.int .i64 co,.int .i64 (fn:Int),.int .i64 se,.int .i64 c,.int .i64 t,.int .i64 d,.int .i64 p] 66 (0,0))):=⟨below_seq H2.out.1 hb3,(hb3.block _ yl).trans H2.out.2⟩;clear hb3 y0 y1 y2 y3 y4 y5 y6 yl H2;obtain⟨xs,-,xl⟩:=cells_of (l:=[_,_,_,_,_,_,_]) H3.out.2;have x0:=xs 0 _ rfl;have x1:=xs 1 _ rfl;have x2:=xs 2 _ rfl;have x3:=xs 3 _ rfl;have x4:=xs 4 _ rfl;have x5:=xs 5 _ rfl;have x6:=xs 6 _ rfl;clear xs))
    have xt:=below_cell H3.out.1 HRow.out
    have lb:b<w3.heap.size:=World.block_lt_of_cell? _ _ xt
    by_cases htt:t=ta
    ·subst htt
     have h9:rs=0:=by rw[hrs,if_neg (by simp)]
     subst h9
     clear hrs
     refine wp_region_noPanic ?_
     refine wp_region_held_drew (S:=fun w'=>w'.cell? ⟨w.heap.size,0,none⟩=some (.int .i64 co)∧w'.cell? ⟨w.heap.size,1,none⟩=some (.int .i64 (fn:Int))∧w'.cell? ⟨w.heap.size,2,none⟩=some (.int .i64 se)∧w'.cell? ⟨w.heap.size,3,none⟩=some (.int .i64 c)∧w'.cell? ⟨w.heap.size,4,none⟩=some (.int .i64 t)∧w'.cell? ⟨w.heap.size,5,none⟩=some (.int .i64 d)∧w'.cell? ⟨w.heap.size,6,none⟩=some (.int .i64 p)∧w'.cell? ⟨b,o+fn*7+4,none⟩=some (.int .i64 t)) (by kernel_rfl) ⟨by go_simp,by go_simp,by go_simp,by go_simp,by go_simp,by go_simp,by go_simp,by go_simp⟩ (fun hHeld=>?_)
     refine tk (i:=0) (n:=27) (v:=?_) ?_ ?_
     rotate_left 1
     ·intro wz hSw
      obtain⟨s0,s1,s2,s3,s4,s5,s6,s7⟩:=hSw
      first|(go_simp;done)|(go_simp;with_reducible rfl)
     simp only[ls0,ls1]
     refine tk (i:=1) (n:=28) (v:=?_) ?_ ?_
     rotate_left 1
     ·intro wz hSw
      obtain⟨s0,s1,s2,s3,s4,s5,s6,s7⟩:=hSw
      first|(go_simp;done)|(go_simp;with_reducible rfl)
     simp only[ls0,ls1]
     refine tk (i:=2) (n:=29) (v:=?_) ?_ ?_
     rotate_left 1
     ·intro wz hSw
      obtain⟨s0,s1,s2,s3,s4,s5,s6,s7⟩:=hSw
      first|(go_simp;done)|(go_simp;with_reducible rfl)
     simp only[ls0,ls1]
     refine tk (i:=3) (n:=30) (v:=?_) ?_ ?_
     rotate_left 1
     ·intro wz hSw
      obtain⟨s0,s1,s2,s3,s4,s5,s6,s7⟩:=hSw
      first|(go_simp;done)|(go_simp;with_reducible rfl)
     simp only[ls0,ls1]
     refine tk (i:=4) (n:=31) (v:=?_) ?_ ?_
     rotate_left 1
     ·intro wz hSw
      obtain⟨s0,s1,s2,s3,s4,s5,s6,s7⟩:=hSw
      first|(go_simp;done)|(go_simp;with_reducible rfl)
     simp only[ls0,ls1]
     refine tk (i:=5) (n:=32) (v:=?_) ?_ ?_
     rotate_left 1
     ·intro wz hSw
      obtain⟨s0,s1,s2,s3,s4,s5,s6,s7⟩:=hSw
      first|(go_simp;done)|(go_simp;with_reducible rfl)
     simp only[ls0,ls1]
     refine wpAnyH_ready (rs:=[6]) (by kernel_rfl) (by simp) ?_
     refine AllReadyH.cons rfl (fun K hK=>?_) AllReadyH.nil
     go_simp
     go_wp2_with (go_at_call 91;refine(withinC_any _ _ _ _).mono ?_;rintro r w8 ⟨rfl,rfl⟩)
     have H8:Hid (Below w3.heap.size w3 w3.drew):=(Below.refl _ _).drew
     refine hK.out _ _ ⟨below_cell H8.out x0,below_cell H8.out x1,below_cell H8.out x2,below_cell H8.out x3,below_cell H8.out x4,below_cell H8.out x5,below_cell H8.out x6,below_cell H8.out xt⟩ (fun hHeld=>?_)
     clear hK K
     try simp only[ls0,ls1]
     refine tk (i:=7) (n:=34) (v:=?_) ?_ ?_
     rotate_left 1
     ·intro wz hSw
      obtain⟨s0,s1,s2,s3,s4,s5,s6,s7⟩:=hSw
      first|(go_simp;done)|(go_simp;with_reducible rfl)
     simp only[ls0,ls1]
     refine tk (i:=8) (n:=35) (v:=?_) ?_ ?_
     rotate_left 1
     ·intro wz hSw
      obtain⟨s0,s1,s2,s3,s4,s5,s6,s7⟩:=hSw
      first|(go_simp;done)|(go_simp;with_reducible rfl)
     simp only[ls0,ls1]
     refine tk (i:=9) (n:=36) (v:=?_) ?_ ?_
     rotate_left 1
     ·intro wz hSw
      obtain⟨s0,s1,s2,s3,s4,s5,s6,s7⟩:=hSw
      first|(go_simp;done)|(go_simp;with_reducible rfl)
     simp only[ls0,ls1]
     refine wpAnyH_ready (rs:=[10]) (by kernel_rfl) (by simp) ?_
     refine AllReadyH.cons rfl (fun K hK=>?_) AllReadyH.nil
     go_simp
     go_wp2_with (go_at_call 94;refine(HBe _).mono ?_;rintro r w9 ⟨rfl,hb9⟩)
     have H9:Hid (Below w3.heap.size w3 w9):=below_seq H8.out hb9
     refine hK.out _ _ ⟨below_cell H9.out x0,below_cell H9.out x1,below_cell H9.out x2,below_cell H9.out x3,below_cell H9.out x4,below_cell H9.out x5,below_cell H9.out x6,below_cell H9.out xt⟩ (fun hHeld=>?_)
     clear hb9
     clear hK K
     try simp only[ls0,ls1]
     refine tk (i:=11) (n:=38) (v:=?_) ?_ ?_
     rotate_left 1
     ·intro wz hSw
      obtain⟨s0,s1,s2,s3,s4,s5,s6,s7⟩:=hSw
      first|(go_simp;done)|(go_simp;with_reducible rfl)
     simp only[ls0,ls1]
     refine tk (i:=12) (n:=39) (v:=?_) ?_ ?_
     rotate_left 1
     ·intro wz hSw
      obtain⟨s0,s1,s2,s3,s4,s5,s6,s7⟩:=hSw
      first|(go_simp;done)|(go_simp;with_reducible rfl)
     simp only[ls0,ls1]
     refine tk (i:=13) (n:=40) (v:=?_) ?_ ?_
     rotate_left 1
     ·intro wz hSw
      obtain⟨s0,s1,s2,s3,s4,s5,s6,s7⟩:=hSw
      first|(go_simp;done)|(go_simp;with_reducible rfl)
     simp only[ls0,ls1]
     refine tk (i:=14) (n:=41) (v:=?_) ?_ ?_
     rotate_left 1
     ·intro wz hSw
      obtain⟨s0,s1,s2,s3,s4,s5,s6,s7⟩:=hSw
      first|(go_simp;done)|(go_simp;with_reducible rfl)
     simp only[ls0,ls1]
     refine tk (i:=15) (n:=42) (v:=?_) ?_ ?_
     rotate_left 1
     ·intro wz hSw
      obtain⟨s0,s1,s2,s3,s4,s5,s6,s7⟩:=hSw
      first|(go_simp;done)|(go_simp;with_reducible rfl)
     simp only[ls0,ls1]
     refine tk (i:=16) (n:=43) (v:=?_) ?_ ?_
     rotate_left 1
     ·intro wz hSw
      obtain⟨s0,s1,s2,s3,s4,s5,s6,s7⟩:=hSw
      first|(go_simp;done)|(go_simp;with_reducible rfl)
     simp only[ls0,ls1]
     refine tk (i:=17) (n:=44) (v:=?_) ?_ ?_
     rotate_left 1
     ·intro wz hSw
      obtain⟨s0,s1,s2,s3,s4,s5,s6,s7⟩:=hSw
      first|(go_simp;done)|(go_simp;with_reducible rfl)
     simp only[ls0,ls1]
     refine tk (i:=18) (n:=45) (v:=?_) ?_ ?_
     rotate_left 1
     ·intro wz hSw
      obtain⟨s0,s1,s2,s3,s4,s5,s6,s7⟩:=hSw
      first|(go_simp;done)|(go_simp;with_reducible rfl)
     simp only[ls0,ls1]
     refine tk (i:=19) (n:=46) (v:=?_) ?_ ?_
     rotate_left 1
     ·intro wz hSw
      obtain⟨s0,s1,s2,s3,s4,s5,s6,s7⟩:=hSw
      first|(go_simp;done)|(go_simp;with_reducible rfl)
     simp only[ls0,ls1]
     refine tk (i:=20) (n:=47) (v:=?_) ?_ ?_
     rotate_left 1
     ·intro wz hSw
      obtain⟨s0,s1,s2,s3,s4,s5,s6,s7⟩:=hSw
      first|(go_simp;done)|(go_simp;with_reducible rfl)
     simp only[ls0,ls1]
     refine tk (i:=21) (n:=48) (v:=?_) ?_ ?_
     rotate_left 1
     ·intro wz hSw
      obtain⟨s0,s1,s2,s3,s4,s5,s6,s7⟩:=hSw
      first|(go_simp;done)|(go_simp;with_reducible rfl)
     simp only[ls0,ls1]
     refine tk (i:=22) (n:=49) (v:=?_) ?_ ?_
     rotate_left 1
     ·intro wz hSw
      obtain⟨s0,s1,s2,s3,s4,s5,s6,s7⟩:=hSw
      first|(go_simp;done)|(go_simp;with_reducible rfl)
     simp only[ls0,ls1]
     refine tk (i:=23) (n:=50) (v:=?_) ?_ ?_
     rotate_left 1
     ·intro wz hSw
      obtain⟨s0,s1,s2,s3,s4,s5,s6,s7⟩:=hSw
      first|(go_simp;done)|(go_simp;with_reducible rfl)
     simp only[ls0,ls1]
     refine tk (i:=24) (n:=26) (v:=?_) ?_ ?_
     rotate_left 1
     ·intro wz hSw
      obtain⟨s0,s1,s2,s3,s4,s5,s6,s7⟩:=hSw
      first|(go_simp;done)|(go_simp;with_reducible rfl)
     simp only[ls0,ls1]
     refine wpAnyH_done (by kernel_rfl) ?_ _
     refine NoPanic.normal ?_
     clear hHeld
     go_wp2_with fail
     go_ret
     exact⟨rfl,below_seq H3.out.1 H9.out⟩
    ·have h9:rs=12:=by rw[hrs,if_pos (.inr htt)]
     subst h9
     clear hrs
     have htb:(t != ta)=true:=by simpa using htt
     refine wp_region_noPanic ?_
     refine wp_region_held_drew (S:=fun w'=>w'.cell? ⟨w.heap.size,0,none⟩=some (.int .i64 co)∧w'.cell? ⟨w.heap.size,1,none⟩=some (.int .i64 (fn:Int))∧w'.cell? ⟨w.heap.size,2,none⟩=some (.int .i64 se)∧w'.cell? ⟨w.heap.size,3,none⟩=some (.int .i64 c)∧w'.cell? ⟨w.heap.size,4,none⟩=some (.int .i64 t)∧w'.cell? ⟨w.heap.size,5,none⟩=some (.int .i64 d)∧w'.cell? ⟨w.heap.size,6,none⟩=some (.int .i64 p)∧w'.cell? ⟨b,o+fn*7+4,none⟩=some (.int .i64 ta)) (by kernel_rfl) ⟨by go_simp,by go_simp,by go_simp,by go_simp,by go_simp,by go_simp,by go_simp,by go_simp⟩ (fun hHeld=>?_)
     refine tk (i:=0) (n:=27) (v:=?_) ?_ ?_
     rotate_left 1
     ·intro wz hSw
      obtain⟨s0,s1,s2,s3,s4,s5,s6,s7⟩:=hSw
      first|(go_simp;done)|(go_simp;with_reducible rfl)
     simp only[ls0,ls1]
     refine tk (i:=1) (n:=28) (v:=?_) ?_ ?_
     rotate_left 1
     ·intro wz hSw
      obtain⟨s0,s1,s2,s3,s4,s5,s6,s7⟩:=hSw
      first|(go_simp;done)|(go_simp;with_reducible rfl)
     simp only[ls0,ls1]
     refine tk (i:=2) (n:=29) (v:=?_) ?_ ?_
     rotate_left 1
     ·intro wz hSw
      obtain⟨s0,s1,s2,s3,s4,s5,s6,s7⟩:=hSw
      first|(go_simp;done)|(go_simp;with_reducible rfl)
     simp only[ls0,ls1]
     refine tk (i:=3) (n:=30) (v:=?_) ?_ ?_
     rotate_left 1
     ·intro wz hSw
      obtain⟨s0,s1,s2,s3,s4,s5,s6,s7⟩:=hSw
      first|(go_simp;done)|(go_simp;with_reducible rfl)
     simp only[ls0,ls1]
     refine tk (i:=4) (n:=31) (v:=?_) ?_ ?_
     rotate_left 1
     ·intro wz hSw
      obtain⟨s0,s1,s2,s3,s4,s5,s6,s7⟩:=hSw
      first|(go_simp;done)|(go_simp;with_reducible rfl)
     simp only[ls0,ls1]
     refine tk (i:=5) (n:=32) (v:=?_) ?_ ?_
     rotate_left 1
     ·intro wz hSw
      obtain⟨s0,s1,s2,s3,s4,s5,s6,s7⟩:=hSw
      first|(go_simp;done)|(go_simp;with_reducible rfl)
     simp only[ls0,ls1]
     refine wpAnyH_ready (rs:=[6]) (by kernel_rfl) (by simp) ?_
     refine AllReadyH.cons rfl (fun K hK=>?_) AllReadyH.nil
     go_simp
     go_wp2_with (go_at_call 91;refine(withinC_any _ _ _ _).mono ?_;rintro r w8 ⟨rfl,rfl⟩)
     have H8:Hid (Below w3.heap.size w3 w3.drew):=(Below.refl _ _).drew
     refine hK.out _ _ ⟨below_cell H8.out x0,below_cell H8.out x1,below_cell H8.out x2,below_cell H8.out x3,below_cell H8.out x4,below_cell H8.out x5,below_cell H8.out x6,below_cell H8.out xt⟩ (fun hHeld=>?_)
     clear hK K
     try simp only[ls0,ls1]
     refine tk (i:=7) (n:=34) (v:=?_) ?_ ?_
     rotate_left 1
     ·intro wz hSw
      obtain⟨s0,s1,s2,s3,s4,s5,s6,s7⟩:=hSw
      first|(go_simp;done)|(go_simp;with_reducible rfl)
     simp only[ls0,ls1]
     refine tk (i:=8) (n:=35) (v:=?_) ?_ ?_
     rotate_left 1
     ·intro wz hSw
      obtain⟨s0,s1,s2,s3,s4,s5,s6,s7⟩:=hSw
      first|(go_simp;done)|(go_simp;with_reducible rfl)
     simp only[ls0,ls1]
     refine tk (i:=9) (n:=36) (v:=?_) ?_ ?_
     rotate_left 1
     ·intro wz hSw
      obtain⟨s0,s1,s2,s3,s4,s5,s6,s7⟩:=hSw
      first|(go_simp;done)|(go_simp;with_reducible rfl)
     simp only[ls0,ls1]
     refine wpAnyH_ready (rs:=[10]) (by kernel_rfl) (by simp) ?_
     refine AllReadyH.cons rfl (fun K hK=>?_) AllReadyH.nil
     go_simp
     go_wp2_with (go_at_call 94;refine(HBe _).mono ?_;rintro r w9 ⟨rfl,hb9⟩)
     have H9:Hid (Below w3.heap.size w3 w9):=below_seq H8.out hb9
     refine hK.out _ _ ⟨below_cell H9.out x0,below_cell H9.out x1,below_cell H9.out x2,below_cell H9.out x3,below_cell H9.out x4,below_cell H9.out x5,below_cell H9.out x6,below_cell H9.out xt⟩ (fun hHeld=>?_)
     clear hb9
     clear hK K
     try simp only[ls0,ls1]
     refine tk (i:=11) (n:=38) (v:=?_) ?_ ?_
     rotate_left 1
     ·intro wz hSw
      obtain⟨s0,s1,s2,s3,s4,s5,s6,s7⟩:=hSw
      first|(go_simp;done)|(go_simp;with_reducible rfl)
     simp only[ls0,ls1]
     refine tk (i:=12) (n:=39) (v:=?_) ?_ ?_
     rotate_left 1
     ·intro wz hSw
      obtain⟨s0,s1,s2,s3,s4,s5,s6,s7⟩:=hSw
      first|(go_simp;done)|(go_simp;with_reducible rfl)
     simp only[ls0,ls1]
     refine tk (i:=13) (n:=40) (v:=?_) ?_ ?_
     rotate_left 1
     ·intro wz hSw
      obtain⟨s0,s1,s2,s3,s4,s5,s6,s7⟩:=hSw
      first|(go_simp;done)|(go_simp;with_reducible rfl)
     simp only[ls0,ls1]
     refine tk (i:=14) (n:=41) (v:=?_) ?_ ?_
     rotate_left 1
     ·intro wz hSw
      obtain⟨s0,s1,s2,s3,s4,s5,s6,s7⟩:=hSw
      first|(go_simp;done)|(go_simp;with_reducible rfl)
     simp only[ls0,ls1]
     refine tk (i:=15) (n:=42) (v:=?_) ?_ ?_
     rotate_left 1
     ·intro wz hSw
      obtain⟨s0,s1,s2,s3,s4,s5,s6,s7⟩:=hSw
      first|(go_simp;done)|(go_simp;with_reducible rfl)
     simp only[ls0,ls1]
     refine tk (i:=16) (n:=43) (v:=?_) ?_ ?_
     rotate_left 1
     ·intro wz hSw
      obtain⟨s0,s1,s2,s3,s4,s5,s6,s7⟩:=hSw
      first|(go_simp;done)|(go_simp;with_reducible rfl)
     simp only[ls0,ls1]
     refine tk (i:=17) (n:=44) (v:=?_) ?_ ?_
     rotate_left 1
     ·intro wz hSw
      obtain⟨s0,s1,s2,s3,s4,s5,s6,s7⟩:=hSw
      first|(go_simp;done)|(go_simp;with_reducible rfl)
     simp only[ls0,ls1]
     refine tk (i:=18) (n:=45) (v:=?_) ?_ ?_
     rotate_left 1
     ·intro wz hSw
      obtain⟨s0,s1,s2,s3,s4,s5,s6,s7⟩:=hSw
      first|(go_simp;done)|(go_simp;with_reducible rfl)
     simp only[ls0,ls1]
     refine tk (i:=19) (n:=46) (v:=?_) ?_ ?_
     rotate_left 1
     ·intro wz hSw
      obtain⟨s0,s1,s2,s3,s4,s5,s6,s7⟩:=hSw
      first|(go_simp;done)|(go_simp;with_reducible rfl)
     simp only[ls0,ls1]
     refine tk (i:=20) (n:=47) (v:=?_) ?_ ?_
     rotate_left 1
     ·intro wz hSw
      obtain⟨s0,s1,s2,s3,s4,s5,s6,s7⟩:=hSw
      first|(go_simp;done)|(go_simp;with_reducible rfl)
     simp only[ls0,ls1]
     refine tk (i:=21) (n:=48) (v:=?_) ?_ ?_
     rotate_left 1
     ·intro wz hSw
      obtain⟨s0,s1,s2,s3,s4,s5,s6,s7⟩:=hSw
      first|(go_simp;done)|(go_simp;with_reducible rfl)
     simp only[ls0,ls1]
     refine tk (i:=22) (n:=49) (v:=?_) ?_ ?_
     rotate_left 1
     ·intro wz hSw
      obtain⟨s0,s1,s2,s3,s4,s5,s6,s7⟩:=hSw
      first|(go_simp;done)|(go_simp;with_reducible rfl)
     simp only[ls0,ls1]
     refine tk (i:=23) (n:=50) (v:=?_) ?_ ?_
     rotate_left 1
     ·intro wz hSw
      obtain⟨s0,s1,s2,s3,s4,s5,s6,s7⟩:=hSw
      first|(go_simp;done)|(go_simp;with_reducible rfl)
     simp only[ls0,ls1]
     refine tk (i:=24) (n:=26) (v:=?_) ?_ ?_
     rotate_left 1
     ·intro wz hSw
      obtain⟨s0,s1,s2,s3,s4,s5,s6,s7⟩:=hSw
      first|(go_simp;done)|(go_simp;with_reducible rfl)
     simp only[ls0,ls1]
     refine wpAnyH_done (by kernel_rfl) ?_ _
     refine NoPanic.normal ?_
     clear hHeld
     go_wp2_with fail
     go_ret
     exact⟨rfl,below_seq H3.out.1 H9.out⟩
end Go.Proofs.YtccoobcggbbcialGreatDoor
