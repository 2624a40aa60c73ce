import Derived.Test.YtnkgbkkakokciacDoorGSRun
import Derived.Test.YtnkgbkkakokciacDoorGBWorth
import Derived.Test.YtnkgbkkakokciacDoorGJumps
namespace Go.Proofs.YtnkgbkkakokciacDoor
open Go.ChangeShapes Go.WideShapes Go.ChangeAt Go.RowKit
theorem scan_none (f:Nat→In→Int):∀ (l:List In) (k:Nat),scan f l k=none→∀ j,j<l.length→f (k+j) (l.getD j in0)=0
 | [],_,_,j,hj=>by simp at hj
 | x::r,k,h,j,hj=>by
  rw [scan] at h
  split at h
  ·simp at h
  ·rename_i hx
   cases j with
   | zero=>simpa using hx
   | succ j =>
    have:=scan_none f r (k+1) h j (by simpa using hj)
    rw [show k+(j+1)=k+1+j by omega]
    simpa using this
structure SS (w wF wq:World) (rb wb mb B:Nat):Prop where
 bel:Below w.heap.size w wq
 bas:B≤wq.heap.size
 fix:∀ j,j<B→j≠rb→j≠wb→j≠mb→wq.heap[j]?=wF.heap[j]?
theorem SS.step {w wF wq w':World} {rb wb mb B:Nat} (h:SS w wF wq rb wb mb B) (h0:w.heap.size≤mb) (h1:∀ B0,B0≤mb→Below B0 wq w') (h2:wq.heap.size≤w'.heap.size) (h3:∀ j,j<wq.heap.size→j≠mb→w'.heap[j]?=wq.heap[j]?):SS w wF w' rb wb mb B :=
 ⟨h.bel.trans (h1 _ h0),Nat.le_trans h.bas h2,fun j a b c d=>(h3 j (Nat.lt_of_lt_of_le a h.bas) d).trans (h.fix j a b c d)⟩
theorem SS.grow {w wF wq w':World} {rb wb mb B:Nat} (h:SS w wF wq rb wb mb B) (hb:Below wq.heap.size wq w'):SS w wF w' rb wb mb B :=
 ⟨below_seq h.bel hb,Nat.le_trans h.bas hb.size,fun j a b c d=>(hb.block j (Nat.lt_of_lt_of_le a h.bas)).trans (h.fix j a b c d)⟩
theorem SS.stk {w wF wq:World} {rb wb mb B s n fj:Nat} (h:SS w wF wq rb wb mb B) (hx:FX wF s mb wb n fj rb) (h1:fj+1<B) (h2:fj+1≠rb) (h3:fj+1≠wb) (h4:fj+1≠mb):wq.cell? ⟨fj+1,0,none⟩=some (.map (some mb)) :=
 (cells_of (l:=[_]) ((h.fix _ h1 h2 h3 h4).trans hx.stk)).1 0 _ rfl
theorem NS.ss {w wF wq:World} {rb wb B:Nat} {l:List In} {iv:Value} {os:List Nat} {ov:Value} {ws:List Int} (h:NS w wF wq rb wb B l iv os ov ws) (mb:Nat):SS w wF wq rb wb mb B :=
 ⟨h.bel,h.bas,fun j a b c _=>h.fix j a b c⟩
theorem NS.jmp {w wF wq:World} {rb wb B s mb fj:Nat} {l:List In} {iv:Value} {os:List Nat} {ov:Value} {ws:List Int} (h:NS w wF wq rb wb B l iv os ov ws) (hx:FX wF s mb wb l.length fj rb) (h1:fj<B) (h2:fj≠rb) (h3:fj≠wb):wq.cell? ⟨fj,0,none⟩=some (.slice (some ⟨wb,0,none⟩) ws.length (l.length+1)):=by
 rw [h.len]
 exact (cells_of (l:=[_]) ((h.fix _ h1 h2 h3).trans hx.jmp)).1 0 _ rfl
theorem M0_low:∀ z h,M0 z=some h→0≤h∧h≤20:=by
 intro z h hz
 unfold M0 setH at hz
 split at hz
 ·cases hz;omega
 ·simp at hz
def OutRel (w wF:World) (rb wb B mb:Nat) (l:List In) (iv:Value) (i:Nat) (wr:World):Prop :=
 (i=0∧NS w wF wr rb wb B l iv [] (.slice none 0 0) (List.replicate (l.length+1) 0)) ∨
 (i=1∧scan (fun _ x=>formErr x) l 0=none∧NS w wF wr rb wb B l iv [] (.slice none 0 0) (List.replicate (l.length+1) 0)) ∨
 (∃ os ov ws,scan (fun _ x=>formErr x) l 0=none∧nestScan l l 0 [] (List.replicate (l.length+1) 0) = .inr (os,ws)∧NS w wF wr rb wb B l iv os ov ws∧os.length≤2000∧(i=2∨(i=3∧scan (unclosedErr os) l 0=none)∨(i=4∧scan (unclosedErr os) l 0=none∧scan (jumpErr ws) l 0=none))) ∨
 (i=5∧∃ M N,checkI l=(if (M l.length).getD 0≠0 then (8,(l.length:Int)) else (0,0))∧HtAt wr mb N M∧SS w wF wr rb wb mb B)
set_option maxRecDepth 20000 in
set_option maxHeartbeats 4000000 in
theorem Check_walk (w:World) (l:List In) (iad:Option Addr) (ic:Nat) (hkk:KindsIn w) (h:InSl w l (.slice iad l.length ic)) (hl:l.length≤2000) (c k:Int) (hc:checkI l=(c,k)):Calls Tryd.prog 38 #[.slice iad l.length ic] w fun r w'=>r = .returned (.agg #[.int .i64 c,.int .i64 k])∧Below w.heap.size w w':=by
 have hg:¬ ((2000:Int)<(l.length:Int)):=by omega
 have hmk:=make_zeros (l.length+1) (by omega)
 rw [show ((l.length+1:Nat):Int)=(l.length:Int)+1 by simp] at hmk
 have hmm:=@run_makeMap Tryd.prog
 obtain ⟨w5,hrun,HN⟩:=check_start w l iad ic h
 obtain ⟨cs,fs,lt2⟩:=cells_of (l:=[_,_,_]) HN.out.1.blk
 have k2:=cs 2 _ rfl
 have HK:Hid (KindsIn w∧checkI l=(c,k)∧InSl w l (.slice iad l.length ic)):=⟨hkk,hc,h⟩
 clear cs fs hkk hc h
 go_enter Tryd.func38,Tryd.ntmps38
 go_wp2_with (first
  | (go_at_call 70;refine (jumps_any w5 _ _ _).mono ?_;rintro r w6 ⟨rfl,rfl⟩)
  | (go_at_call 71;refine (stack_any _ _).mono ?_;rintro r w7 ⟨rfl,rfl⟩))
 have HF:Hid (FX (((w5.alloc (.cells #[.slice (some ⟨w.heap.size+1,0,none⟩) (l.length+1) (l.length+1)] 23)).alloc (.cells #[.map (some (w.heap.size+1+1+1))] 105)).alloc (.cells #[.func (Fn.func 67) #[] #[],.func (Fn.func 68) #[.pointer (some ⟨w.heap.size+1+1,0,none⟩)] #[],.func (Fn.func 69) #[.pointer (some ⟨w.heap.size+1+1,0,none⟩)] #[],.func (Fn.func 105) #[] #[.pointer (some ⟨w5.heap.size,0,none⟩)],.func (Fn.func 106) #[] #[.pointer (some ⟨w5.heap.size+1,0,none⟩)]] 131)) w.heap.size (w.heap.size+1+1+1) (w.heap.size+1) l.length w5.heap.size (w.heap.size+1+1)):=looks_fx w5 HN.out.2.2 HN.out.2.1
 have HG:Hid (NS w (((w5.alloc (.cells #[.slice (some ⟨w.heap.size+1,0,none⟩) (l.length+1) (l.length+1)] 23)).alloc (.cells #[.map (some (w.heap.size+1+1+1))] 105)).alloc (.cells #[.func (Fn.func 67) #[] #[],.func (Fn.func 68) #[.pointer (some ⟨w.heap.size+1+1,0,none⟩)] #[],.func (Fn.func 69) #[.pointer (some ⟨w.heap.size+1+1,0,none⟩)] #[],.func (Fn.func 105) #[] #[.pointer (some ⟨w5.heap.size,0,none⟩)],.func (Fn.func 106) #[] #[.pointer (some ⟨w5.heap.size+1,0,none⟩)]] 131)) (((w5.alloc (.cells #[.slice (some ⟨w.heap.size+1,0,none⟩) (l.length+1) (l.length+1)] 23)).alloc (.cells #[.map (some (w.heap.size+1+1+1))] 105)).alloc (.cells #[.func (Fn.func 67) #[] #[],.func (Fn.func 68) #[.pointer (some ⟨w.heap.size+1+1,0,none⟩)] #[],.func (Fn.func 69) #[.pointer (some ⟨w.heap.size+1+1,0,none⟩)] #[],.func (Fn.func 105) #[] #[.pointer (some ⟨w5.heap.size,0,none⟩)],.func (Fn.func 106) #[] #[.pointer (some ⟨w5.heap.size+1,0,none⟩)]] 131)) (w.heap.size+1+1) (w.heap.size+1) (w5.heap.size+1+1+1) l (.slice iad l.length ic) [] (.slice none 0 0) (List.replicate (l.length+1) 0)):=looks_ns HN.out.1 _ _ _
 have hs5:w.heap.size+4≤w5.heap.size:=HN.out.1.bas
 generalize (((w5.alloc (.cells #[.slice (some ⟨w.heap.size+1,0,none⟩) (l.length+1) (l.length+1)] 23)).alloc (.cells #[.map (some (w.heap.size+1+1+1))] 105)).alloc (.cells #[.func (Fn.func 67) #[] #[],.func (Fn.func 68) #[.pointer (some ⟨w.heap.size+1+1,0,none⟩)] #[],.func (Fn.func 69) #[.pointer (some ⟨w.heap.size+1+1,0,none⟩)] #[],.func (Fn.func 105) #[] #[.pointer (some ⟨w5.heap.size,0,none⟩)],.func (Fn.func 106) #[] #[.pointer (some ⟨w5.heap.size+1,0,none⟩)]] 131))=wF at *
 clear k2
 go_loopw [31] (fun i wr=>∃ n:Nat,n≤5∧i = .int .i64 n∧OutRel w wF (w.heap.size+1+1) (w.heap.size+1) (w5.heap.size+1+1+1) (w.heap.size+1+1+1) l (.slice iad l.length ic) n wr) (fun i _=>5 - (intOf i).toNat)
 case atStart=>exact ⟨0,by omega,rfl,.inl ⟨rfl,HG.out⟩⟩
 case round =>
  obtain ⟨n,hn,rfl,hrel⟩:=hrel
  rcases hrel with ⟨rfl,hns⟩ | ⟨rfl,hfo,hns⟩ | ⟨os,ov,ws,hfo,hne,hns,hol,rfl | ⟨rfl,hun⟩ | ⟨rfl,hun,hju⟩⟩ | hrel
  ·have hlk:=(hns.fix (w5.heap.size+1+1) (by omega) (by omega) (by omega)).trans HF.out.lks
   obtain ⟨ls,-,llt⟩:=cells_of (l:=[_,_,_,_,_]) hlk
   have q0:=ls 0 _ rfl
   have HR:Hid _:=hns
   clear ls hlk hns
   go_wp2_with fail
   go_loopw [37] (fun i wq=>∃ j:Nat,j≤l.length∧i = .int .i64 j∧scan (fun _ x=>formErr x) (l.drop j) j=scan (fun _ x=>formErr x) l 0∧NS w wF wq (w.heap.size+1+1) (w.heap.size+1) (w5.heap.size+1+1+1) l (.slice iad l.length ic) [] (.slice none 0 0) (List.replicate (l.length+1) 0)) (fun i _=>l.length - (intOf i).toNat)
   case atStart=>exact ⟨0,Nat.zero_le _,rfl,rfl,HR.out⟩
   case round =>
    obtain ⟨j,hj,rfl,hsc,hns⟩:=hrel
    by_cases hlt:j<l.length
    ·obtain ⟨iad',ic',e,himg⟩:=hns.img.below hns.bel
     cases e
     rcases himg with h0 | ⟨b,o,rfl,himg⟩
     ·rw [h0] at hlt;simp at hlt
     obtain ⟨x0,x1,x2⟩:=himg j hlt
     rw [scan_at _ hlt] at hsc
     have HS:Hid (_∧_):=⟨hsc,hns⟩
     clear himg hsc hns
     generalize l.getD j in0=x at *
     obtain ⟨xo,xa,xb⟩:=x
     dsimp only at x0 x1 x2
     by_cases hz:formErr ⟨xo,xa,xb⟩=0
     ·go_wp2_with (go_at_call 67;refine (form_any _ (HK.out.1.below (below_seq HS.out.2.bel (below_new _ _))) _ ⟨xo,xa,xb⟩).mono ?_;rw [hz];rintro r w9 ⟨rfl,hb9⟩;have H9:Hid (Below _ _ w9):=hb9;clear hb9)
      go_roundw
      case rel=>exact ⟨_,_,_,_,_,_,_,_,_,_,_,_,_,_,_,_,_,_,⟨j+1,by omega,by go_num,by have:=HS.out.1;rw [if_neg (by simpa using hz)] at this;exact this,HS.out.2.grow (below_seq (below_new _ _) H9.out)⟩,rfl⟩
      case measure=>simp [intOf];omega
     ·obtain ⟨z,hze⟩:∃ z,formErr ⟨xo,xa,xb⟩=z:=⟨_,rfl⟩
      have hzb:(z != 0)=true:=by rw [← hze];simpa using hz
      go_wp2_with (go_at_call 67;refine (form_any _ (HK.out.1.below (below_seq HS.out.2.bel (below_new _ _))) _ ⟨xo,xa,xb⟩).mono ?_;rw [hze];rintro r w9 ⟨rfl,hb9⟩;have H9:Hid (NS w wF w9 (w.heap.size+1+1) (w.heap.size+1) (w5.heap.size+1+1+1) l _ [] (.slice none 0 0) (List.replicate (l.length+1) 0)):=HS.out.2.grow (below_seq (below_new _ _) hb9);obtain ⟨rs,rf,rl⟩:=cells_of (l:=[_,_]) ((H9.out.fix w.heap.size (by omega) (by omega) (by omega)).trans HF.out.res);have r0:=rs 0 _ rfl;have r1:=rs 1 _ rfl;clear hb9 rs)
      have hck:checkI l=(z,(j:Int)):=by
       have:=HS.out.1
       rw [if_pos (by simpa using hz),hze] at this
       unfold checkI
       rw [if_neg (by omega),← this]
      have hcc:=HK.out.2.1.symm.trans hck
      simp only [Prod.mk.injEq] at hcc
      obtain ⟨rfl,rfl⟩:=hcc
      have hres:=setCell_at (i:=1) (u:=.int .i64 (j:Int)) (setCell_at (i:=0) (u:=.int .i64 c) ((H9.out.fix w.heap.size (by omega) (by omega) (by omega)).trans HF.out.res))
      exact bodyPost_ret (v:=.agg #[.int .i64 c,.int .i64 (j:Int)]) (Check_ends (by simpa using hres) rfl) rfl ⟨rfl,(H9.out.bel.setCell (Nat.le_refl _) _).setCell (Nat.le_refl _) _⟩
    ·have hje:j=l.length:=by omega
     subst hje
     rw [List.drop_length] at hsc
     have HS:Hid (_∧_):=⟨hsc.symm,hns⟩
     clear hsc hns
     go_wp2_with fail
     go_roundw
     case rel=>exact ⟨1,by omega,by go_num,.inr (.inl ⟨rfl,HS.out.1,HS.out.2⟩)⟩
     case measure=>simp [intOf]
  ·have hlk:=(hns.fix (w5.heap.size+1+1) (by omega) (by omega) (by omega)).trans HF.out.lks
   obtain ⟨ls,-,llt⟩:=cells_of (l:=[_,_,_,_,_]) hlk
   have q0:=ls 1 _ rfl
   have HR:Hid (scan (fun _ x=>formErr x) l 0=none∧_):=⟨hfo,hns⟩
   clear ls hlk hns hfo
   go_wp2_with fail
   go_loopw [37] (fun i wq=>∃ (j:Nat) (os:List Nat) (ov:Value) (ws:List Int),j≤l.length∧i = .int .i64 j∧os.length≤j∧nestScan l (l.drop j) j os ws=nestScan l l 0 [] (List.replicate (l.length+1) 0)∧NS w wF wq (w.heap.size+1+1) (w.heap.size+1) (w5.heap.size+1+1+1) l (.slice iad l.length ic) os ov ws) (fun i _=>l.length - (intOf i).toNat)
   case atStart=>exact ⟨0,[],_,_,Nat.zero_le _,rfl,Nat.le_refl _,rfl,HR.out.2⟩
   case round =>
    obtain ⟨j,os,ov,ws,hj,rfl,hol,hsc,hns⟩:=hrel
    by_cases hlt:j<l.length
    ·obtain ⟨iad',ic',e,himg⟩:=hns.img.below hns.bel
     cases e
     rcases himg with h0 | ⟨b,o,rfl,himg⟩
     ·rw [h0] at hlt;simp at hlt
     obtain ⟨x0,x1,x2⟩:=himg j hlt
     rw [nestScan_at _ hlt] at hsc
     have HS:Hid (_∧_):=⟨hsc,hns⟩
     clear himg hsc hns
     generalize l.getD j in0=x at *
     obtain ⟨xo,xa,xb⟩:=x
     dsimp only at x0 x1 x2
     have hlen:=nestOf_length l j ⟨xo,xa,xb⟩ os
     rcases hne:nestOf l j ⟨xo,xa,xb⟩ os with ⟨z,os'⟩
     rw [hne] at hlen
     by_cases hz:z=0
     ·subst hz
      go_wp2_with (go_at_call 68;refine (nested_any w wF _ _ _ _ l _ os ov ws j ⟨xo,xa,xb⟩ (HS.out.2.grow (below_new _ _)) hlt hl (by omega)).mono ?_;rw [hne];rintro r w9 ⟨rfl,ov9,hns9⟩;have H9:Hid (NS w wF w9 (w.heap.size+1+1) (w.heap.size+1) (w5.heap.size+1+1+1) l _ os' ov9 (ws.set j (beginOf os.getLast?))):=hns9;clear hns9)
      go_roundw
      case rel=>exact ⟨_,_,_,_,_,_,_,_,_,_,_,_,_,_,_,_,_,_,⟨j+1,os',ov9,_,by omega,by go_num,by omega,by have:=HS.out.1;rw [hne,if_neg (by simp)] at this;exact this,H9.out⟩,rfl⟩
      case measure=>simp [intOf];omega
     ·have hzb:(z != 0)=true:=by simpa using hz
      go_wp2_with (go_at_call 68;refine (nested_any w wF _ _ _ _ l _ os ov ws j ⟨xo,xa,xb⟩ (HS.out.2.grow (below_new _ _)) hlt hl (by omega)).mono ?_;rw [hne];rintro r w9 ⟨rfl,ov9,hns9⟩;have H9:Hid (NS w wF w9 (w.heap.size+1+1) (w.heap.size+1) (w5.heap.size+1+1+1) l _ os' ov9 (ws.set j (beginOf os.getLast?))):=hns9;obtain ⟨rs,rf,rl⟩:=cells_of (l:=[_,_]) ((hns9.fix w.heap.size (by omega) (by omega) (by omega)).trans HF.out.res);have r0:=rs 0 _ rfl;have r1:=rs 1 _ rfl;clear hns9 rs)
      have hck:checkI l=(z,(j:Int)):=by
       have:=HS.out.1
       rw [hne,if_pos (by simpa using hz)] at this
       unfold checkI
       rw [if_neg (by omega),HR.out.1]
       dsimp only
       rw [← this]
      have hcc:=HK.out.2.1.symm.trans hck
      simp only [Prod.mk.injEq] at hcc
      obtain ⟨rfl,rfl⟩:=hcc
      have hres:=setCell_at (i:=1) (u:=.int .i64 (j:Int)) (setCell_at (i:=0) (u:=.int .i64 c) ((H9.out.fix w.heap.size (by omega) (by omega) (by omega)).trans HF.out.res))
      exact bodyPost_ret (v:=.agg #[.int .i64 c,.int .i64 (j:Int)]) (Check_ends (by simpa using hres) rfl) rfl ⟨rfl,(H9.out.bel.setCell (Nat.le_refl _) _).setCell (Nat.le_refl _) _⟩
    ·have hje:j=l.length:=by omega
     subst hje
     rw [List.drop_length,nestScan] at hsc
     have HS:Hid (_∧_):=⟨hsc.symm,hns⟩
     clear hsc hns
     go_wp2_with fail
     go_roundw
     case rel=>exact ⟨2,by omega,by go_num,.inr (.inr (.inl ⟨os,ov,ws,HR.out.1,HS.out.1,HS.out.2,by omega,.inl rfl⟩))⟩
     case measure=>simp [intOf]
  ·have hlk:=(hns.fix (w5.heap.size+1+1) (by omega) (by omega) (by omega)).trans HF.out.lks
   obtain ⟨ls,-,llt⟩:=cells_of (l:=[_,_,_,_,_]) hlk
   have q0:=ls 2 _ rfl
   have HR:Hid ((scan (fun _ x=>formErr x) l 0=none∧nestScan l l 0 [] (List.replicate (l.length+1) 0) = .inr (os,ws))∧_):=⟨⟨hfo,hne⟩,hns⟩
   clear ls hlk hns hfo hne
   go_wp2_with fail
   go_loopw [37] (fun i wq=>∃ j:Nat,j≤l.length∧i = .int .i64 j∧scan (unclosedErr os) (l.drop j) j=scan (unclosedErr os) l 0∧NS w wF wq (w.heap.size+1+1) (w.heap.size+1) (w5.heap.size+1+1+1) l (.slice iad l.length ic) os ov ws) (fun i _=>l.length - (intOf i).toNat)
   case atStart=>exact ⟨0,Nat.zero_le _,rfl,rfl,HR.out.2⟩
   case round =>
    obtain ⟨j,hj,rfl,hsc,hns⟩:=hrel
    by_cases hlt:j<l.length
    ·obtain ⟨iad',ic',e,himg⟩:=hns.img.below hns.bel
     cases e
     rcases himg with h0 | ⟨b,o,rfl,himg⟩
     ·rw [h0] at hlt;simp at hlt
     obtain ⟨x0,x1,x2⟩:=himg j hlt
     rw [scan_at _ hlt] at hsc
     have HS:Hid (_∧_):=⟨hsc,hns⟩
     clear himg hsc hns
     generalize l.getD j in0=x at *
     obtain ⟨xo,xa,xb⟩:=x
     dsimp only at x0 x1 x2
     obtain ⟨z,hze⟩:∃ z,unclosedErr os j ⟨xo,xa,xb⟩=z:=⟨_,rfl⟩
     rw [hze] at HS
     by_cases hz:z=0
     ·subst hz
      go_wp2_with (go_at_call 69;refine (unclosed_any w wF _ _ _ _ l _ os ov ws j xo xa xb 0 (HS.out.2.grow (below_new _ _)) (by omega) (by omega) hze).mono ?_;rintro r w9 ⟨rfl,hb9⟩;have H9:Hid (Below _ _ w9):=hb9;clear hb9)
      go_roundw
      case rel=>exact ⟨_,_,_,_,_,_,_,_,_,_,_,_,_,_,_,_,_,_,⟨j+1,by omega,by go_num,by have:=HS.out.1;rw [if_neg (by simp)] at this;exact this,HS.out.2.grow (below_seq (below_new _ _) H9.out)⟩,rfl⟩
      case measure=>simp [intOf];omega
     ·have hzb:(z != 0)=true:=by simpa using hz
      go_wp2_with (go_at_call 69;refine (unclosed_any w wF _ _ _ _ l _ os ov ws j xo xa xb z (HS.out.2.grow (below_new _ _)) (by omega) (by omega) hze).mono ?_;rintro r w9 ⟨rfl,hb9⟩;have H9:Hid (NS w wF w9 (w.heap.size+1+1) (w.heap.size+1) (w5.heap.size+1+1+1) l _ os ov ws):=HS.out.2.grow (below_seq (below_new _ _) hb9);obtain ⟨rs,rf,rl⟩:=cells_of (l:=[_,_]) ((H9.out.fix w.heap.size (by omega) (by omega) (by omega)).trans HF.out.res);have r0:=rs 0 _ rfl;have r1:=rs 1 _ rfl;clear hb9 rs)
      have hck:checkI l=(z,(j:Int)):=by
       have:=HS.out.1
       rw [if_pos (by simpa using hz)] at this
       unfold checkI
       rw [if_neg (by omega),HR.out.1.1]
       dsimp only
       rw [HR.out.1.2]
       dsimp only
       rw [← this]
      have hcc:=HK.out.2.1.symm.trans hck
      simp only [Prod.mk.injEq] at hcc
      obtain ⟨rfl,rfl⟩:=hcc
      have hres:=setCell_at (i:=1) (u:=.int .i64 (j:Int)) (setCell_at (i:=0) (u:=.int .i64 c) ((H9.out.fix w.heap.size (by omega) (by omega) (by omega)).trans HF.out.res))
      exact bodyPost_ret (v:=.agg #[.int .i64 c,.int .i64 (j:Int)]) (Check_ends (by simpa using hres) rfl) rfl ⟨rfl,(H9.out.bel.setCell (Nat.le_refl _) _).setCell (Nat.le_refl _) _⟩
    ·have hje:j=l.length:=by omega
     subst hje
     rw [List.drop_length] at hsc
     have HS:Hid (_∧_):=⟨hsc.symm,hns⟩
     clear hsc hns
     go_wp2_with fail
     go_roundw
     case rel=>exact ⟨3,by omega,by go_num,.inr (.inr (.inl ⟨os,ov,ws,HR.out.1.1,HR.out.1.2,HS.out.2,hol,.inr (.inl ⟨rfl,HS.out.1⟩)⟩))⟩
     case measure=>simp [intOf]
  ·have hlk:=(hns.fix (w5.heap.size+1+1) (by omega) (by omega) (by omega)).trans HF.out.lks
   obtain ⟨ls,-,llt⟩:=cells_of (l:=[_,_,_,_,_]) hlk
   have q0:=ls 3 _ rfl
   have HR:Hid ((scan (fun _ x=>formErr x) l 0=none∧nestScan l l 0 [] (List.replicate (l.length+1) 0) = .inr (os,ws)∧scan (unclosedErr os) l 0=none)∧_):=⟨⟨hfo,hne,hun⟩,hns⟩
   clear ls hlk hns hfo hne hun
   go_wp2_with fail
   go_loopw [37] (fun i wq=>∃ j:Nat,j≤l.length∧i = .int .i64 j∧scan (jumpErr ws) (l.drop j) j=scan (jumpErr ws) l 0∧NS w wF wq (w.heap.size+1+1) (w.heap.size+1) (w5.heap.size+1+1+1) l (.slice iad l.length ic) os ov ws) (fun i _=>l.length - (intOf i).toNat)
   case atStart=>exact ⟨0,Nat.zero_le _,rfl,rfl,HR.out.2⟩
   case round =>
    obtain ⟨j,hj,rfl,hsc,hns⟩:=hrel
    by_cases hlt:j<l.length
    ·obtain ⟨iad',ic',e,himg⟩:=hns.img.below hns.bel
     cases e
     rcases himg with h0 | ⟨b,o,rfl,himg⟩
     ·rw [h0] at hlt;simp at hlt
     obtain ⟨x0,x1,x2⟩:=himg j hlt
     rw [scan_at _ hlt] at hsc
     have HS:Hid (_∧_):=⟨hsc,hns⟩
     clear himg hsc hns
     generalize l.getD j in0=x at *
     obtain ⟨xo,xa,xb⟩:=x
     dsimp only at x0 x1 x2
     obtain ⟨z,hze⟩:∃ z,jumpErr ws j ⟨xo,xa,xb⟩=z:=⟨_,rfl⟩
     rw [hze] at HS
     by_cases hz:z=0
     ·subst hz
      go_wp2_with (go_at_call 105;refine (jumps1_any _ w5.heap.size (w.heap.size+1) ws j ⟨xo,xa,xb⟩ (l.length+1) ((HS.out.2.grow (below_new _ _)).jmp HF.out (by omega) (by omega) (by omega)) ((HS.out.2.grow (below_new _ _)).within) (by rw [HS.out.2.len];omega) (by rw [HS.out.2.len];omega)).mono ?_;rw [hze];rintro r w9 ⟨rfl,hb9⟩;have H9:Hid (Below _ _ w9):=hb9;clear hb9)
      go_roundw
      case rel=>exact ⟨_,_,_,_,_,_,_,_,_,_,_,_,_,_,_,_,_,_,⟨j+1,by omega,by go_num,by have:=HS.out.1;rw [if_neg (by simp)] at this;exact this,HS.out.2.grow (below_seq (below_new _ _) H9.out)⟩,rfl⟩
      case measure=>simp [intOf];omega
     ·have hzb:(z != 0)=true:=by simpa using hz
      go_wp2_with (go_at_call 105;refine (jumps1_any _ w5.heap.size (w.heap.size+1) ws j ⟨xo,xa,xb⟩ (l.length+1) ((HS.out.2.grow (below_new _ _)).jmp HF.out (by omega) (by omega) (by omega)) ((HS.out.2.grow (below_new _ _)).within) (by rw [HS.out.2.len];omega) (by rw [HS.out.2.len];omega)).mono ?_;rw [hze];rintro r w9 ⟨rfl,hb9⟩;have H9:Hid (NS w wF w9 (w.heap.size+1+1) (w.heap.size+1) (w5.heap.size+1+1+1) l _ os ov ws):=HS.out.2.grow (below_seq (below_new _ _) hb9);obtain ⟨rs,rf,rl⟩:=cells_of (l:=[_,_]) ((H9.out.fix w.heap.size (by omega) (by omega) (by omega)).trans HF.out.res);have r0:=rs 0 _ rfl;have r1:=rs 1 _ rfl;clear hb9 rs)
      have hck:checkI l=(z,(j:Int)):=by
       have:=HS.out.1
       rw [if_pos (by simpa using hz)] at this
       unfold checkI
       rw [if_neg (by omega),HR.out.1.1]
       dsimp only
       rw [HR.out.1.2.1]
       dsimp only
       rw [HR.out.1.2.2]
       dsimp only
       rw [← this]
      have hcc:=HK.out.2.1.symm.trans hck
      simp only [Prod.mk.injEq] at hcc
      obtain ⟨rfl,rfl⟩:=hcc
      have hres:=setCell_at (i:=1) (u:=.int .i64 (j:Int)) (setCell_at (i:=0) (u:=.int .i64 c) ((H9.out.fix w.heap.size (by omega) (by omega) (by omega)).trans HF.out.res))
      exact bodyPost_ret (v:=.agg #[.int .i64 c,.int .i64 (j:Int)]) (Check_ends (by simpa using hres) rfl) rfl ⟨rfl,(H9.out.bel.setCell (Nat.le_refl _) _).setCell (Nat.le_refl _) _⟩
    ·have hje:j=l.length:=by omega
     subst hje
     rw [List.drop_length] at hsc
     have HS:Hid (_∧_):=⟨hsc.symm,hns⟩
     clear hsc hns
     go_wp2_with fail
     go_roundw
     case rel=>exact ⟨4,by omega,by go_num,.inr (.inr (.inl ⟨os,ov,ws,HR.out.1.1,HR.out.1.2.1,HS.out.2,hol,.inr (.inr ⟨rfl,HR.out.1.2.2,HS.out.1⟩)⟩))⟩
     case measure=>simp [intOf]
  ·have hlk:=(hns.fix (w5.heap.size+1+1) (by omega) (by omega) (by omega)).trans HF.out.lks
   obtain ⟨ls,-,llt⟩:=cells_of (l:=[_,_,_,_,_]) hlk
   have q0:=ls 4 _ rfl
   have HR:Hid ((scan (fun _ x=>formErr x) l 0=none∧nestScan l l 0 [] (List.replicate (l.length+1) 0) = .inr (os,ws)∧scan (unclosedErr os) l 0=none∧scan (jumpErr ws) l 0=none)∧SS w wF wr (w.heap.size+1+1) (w.heap.size+1) (w.heap.size+1+1+1) (w5.heap.size+1+1+1)∧HtAt wr (w.heap.size+1+1+1) 1 M0):=⟨⟨hfo,hne,hun,hju⟩,hns.ss _,HF.out.hts.same (hns.fix _ (by omega) (by omega) (by omega))⟩
   clear ls hlk hns hfo hne hun hju
   go_wp2_with fail
   go_loopw [37] (fun i wq=>∃ (j N:Nat) (M:Int→Option Int),j≤l.length∧i = .int .i64 j∧N≤1+2*j∧(∀ z h,M z=some h→0≤h∧h≤20)∧stackScan (l.drop j) j M=stackScan l 0 M0∧HtAt wq (w.heap.size+1+1+1) N M∧SS w wF wq (w.heap.size+1+1) (w.heap.size+1) (w.heap.size+1+1+1) (w5.heap.size+1+1+1)) (fun i _=>l.length - (intOf i).toNat)
   case atStart=>exact ⟨0,1,M0,Nat.zero_le _,rfl,by omega,M0_low,rfl,HR.out.2.2,HR.out.2.1⟩
   case round =>
    obtain ⟨j,N,M,hj,rfl,hN,hr,hsc,hM,hss⟩:=hrel
    by_cases hlt:j<l.length
    ·obtain ⟨iad',ic',e,himg⟩:=HK.out.2.2.below hss.bel
     cases e
     rcases himg with h0 | ⟨b,o,rfl,himg⟩
     ·rw [h0] at hlt;simp at hlt
     obtain ⟨x0,x1,x2⟩:=himg j hlt
     rw [stackScan_at hlt] at hsc
     have hfo:=scan_none _ l 0 HR.out.1.1 j hlt
     have HS:Hid ((_∧_)∧(_∧_)):=⟨⟨hsc,hfo⟩,hM,hss⟩
     have Hr:Hid (∀ z h,M z=some h→0≤h∧h≤20):=hr
     clear himg hsc hM hss hfo hr
     generalize l.getD j in0=x at *
     obtain ⟨xo,xa,xb⟩:=x
     dsimp only at x0 x1 x2
     rcases hst:stackStep M j ⟨xo,xa,xb⟩ with ⟨z,M'⟩
     rw [hst] at HS
     by_cases hz:z=0
     ·subst hz
      go_wp2_with (go_at_call 106;refine (stack1_any _ (w5.heap.size+1) (w.heap.size+1+1+1) N M j ⟨xo,xa,xb⟩ (HK.out.1.below (HS.out.2.2.grow (below_new _ _)).bel) ((HS.out.2.2.grow (below_new _ _)).stk HF.out (by omega) (by omega) (by omega) (by omega)) (HS.out.2.1.below (below_new _ _)) (by omega) HS.out.1.2 Hr.out (by omega) (Nat.lt_of_lt_of_le (by omega) (HS.out.2.2.grow (below_new _ _)).bas)).mono ?_;rw [hst];rintro r w9 ⟨rfl,hb9,hs9,hf9,hM9,hr9⟩;have H9:Hid (SS w wF w9 (w.heap.size+1+1) (w.heap.size+1) (w.heap.size+1+1+1) (w5.heap.size+1+1+1)∧HtAt w9 (w.heap.size+1+1+1) (N+2) M'∧∀ z h,M' z=some h→0≤h∧h≤20):=⟨(HS.out.2.2.grow (below_new _ _)).step (by omega) hb9 hs9 hf9,hM9,hr9⟩;clear hb9 hs9 hf9 hM9 hr9)
      go_roundw
      case rel=>exact ⟨_,_,_,_,_,_,_,_,_,_,_,_,_,_,_,_,_,_,⟨j+1,N+2,M',by omega,by go_num,by omega,H9.out.2.2,by have:=HS.out.1.1;rw [if_neg (by simp)] at this;exact this,H9.out.2.1,H9.out.1⟩,rfl⟩
      case measure=>simp [intOf];omega
     ·have hzb:(z != 0)=true:=by simpa using hz
      go_wp2_with (go_at_call 106;refine (stack1_any _ (w5.heap.size+1) (w.heap.size+1+1+1) N M j ⟨xo,xa,xb⟩ (HK.out.1.below (HS.out.2.2.grow (below_new _ _)).bel) ((HS.out.2.2.grow (below_new _ _)).stk HF.out (by omega) (by omega) (by omega) (by omega)) (HS.out.2.1.below (below_new _ _)) (by omega) HS.out.1.2 Hr.out (by omega) (Nat.lt_of_lt_of_le (by omega) (HS.out.2.2.grow (below_new _ _)).bas)).mono ?_;rw [hst];rintro r w9 ⟨rfl,hb9,hs9,hf9,hM9,hr9⟩;have H9:Hid (SS w wF w9 (w.heap.size+1+1) (w.heap.size+1) (w.heap.size+1+1+1) (w5.heap.size+1+1+1)):=(HS.out.2.2.grow (below_new _ _)).step (by omega) hb9 hs9 hf9;obtain ⟨rs,rf,rl⟩:=cells_of (l:=[_,_]) ((H9.out.fix w.heap.size (by omega) (by omega) (by omega) (by omega)).trans HF.out.res);have r0:=rs 0 _ rfl;have r1:=rs 1 _ rfl;clear hb9 hs9 hf9 hM9 hr9 rs)
      have hck:checkI l=(z,(j:Int)):=by
       have:=HS.out.1.1
       rw [if_pos (by simpa using hz)] at this
       unfold checkI
       rw [if_neg (by omega),HR.out.1.1]
       dsimp only
       rw [HR.out.1.2.1]
       dsimp only
       rw [HR.out.1.2.2.1]
       dsimp only
       rw [HR.out.1.2.2.2]
       dsimp only
       rw [← this]
      have hcc:=HK.out.2.1.symm.trans hck
      simp only [Prod.mk.injEq] at hcc
      obtain ⟨rfl,rfl⟩:=hcc
      have hres:=setCell_at (i:=1) (u:=.int .i64 (j:Int)) (setCell_at (i:=0) (u:=.int .i64 c) ((H9.out.fix w.heap.size (by omega) (by omega) (by omega) (by omega)).trans HF.out.res))
      exact bodyPost_ret (v:=.agg #[.int .i64 c,.int .i64 (j:Int)]) (Check_ends (by simpa using hres) rfl) rfl ⟨rfl,(H9.out.bel.setCell (Nat.le_refl _) _).setCell (Nat.le_refl _) _⟩
    ·have hje:j=l.length:=by omega
     subst hje
     rw [List.drop_length,stackScan] at hsc
     have hck:checkI l=(if (M l.length).getD 0≠0 then (8,(l.length:Int)) else (0,0)):=by
      unfold checkI
      rw [if_neg (by omega),HR.out.1.1]
      dsimp only
      rw [HR.out.1.2.1]
      dsimp only
      rw [HR.out.1.2.2.1]
      dsimp only
      rw [HR.out.1.2.2.2]
      dsimp only
      rw [← hsc]
     have HS:Hid (_∧_∧_):=⟨hck,hM,hss⟩
     clear hsc hM hss hck hr
     go_wp2_with fail
     go_roundw
     case rel=>exact ⟨5,by omega,by go_num,.inr (.inr (.inr ⟨rfl,M,N,HS.out.1,HS.out.2.1,HS.out.2.2⟩))⟩
     case measure=>simp [intOf]
  ·obtain ⟨rfl,M,N,hck,hM,hss⟩:=hrel
   have hlook:=hM.look1 (z:=(l.length:Int)) (by omega)
   obtain ⟨rs,rf,rl⟩:=cells_of (l:=[_,_]) ((hss.fix w.heap.size (by omega) (by omega) (by omega) (by omega)).trans HF.out.res)
   have r0:=rs 0 _ rfl
   have r1:=rs 1 _ rfl
   have HS:Hid (_∧_):=⟨HK.out.2.1.symm.trans hck,hss⟩
   clear hck hM hss rs
   obtain ⟨z,hze⟩:∃ z,(M (l.length:Int)).getD 0=z:=⟨_,rfl⟩
   rw [hze] at hlook HS
   by_cases hz:z=0
   ·subst hz
    go_wp2_with fail
    have hcc:=HS.out.1
    rw [if_neg (by simp)] at hcc
    simp only [Prod.mk.injEq] at hcc
    obtain ⟨rfl,rfl⟩:=hcc
    have hres:=setCell_at (i:=1) (u:=.int .i64 0) (setCell_at (i:=0) (u:=.int .i64 0) ((HS.out.2.fix w.heap.size (by omega) (by omega) (by omega) (by omega)).trans HF.out.res))
    exact bodyPost_ret (v:=.agg #[.int .i64 0,.int .i64 0]) (Check_ends (by simpa using hres) rfl) rfl ⟨rfl,(HS.out.2.bel.setCell (Nat.le_refl _) _).setCell (Nat.le_refl _) _⟩
   ·have hzb:(z != 0)=true:=by simpa using hz
    go_wp2_with fail
    have hcc:=HS.out.1
    rw [if_pos (by simpa using hz)] at hcc
    simp only [Prod.mk.injEq] at hcc
    obtain ⟨rfl,rfl⟩:=hcc
    have hres:=setCell_at (i:=1) (u:=.int .i64 (l.length:Int)) (setCell_at (i:=0) (u:=.int .i64 8) ((HS.out.2.fix w.heap.size (by omega) (by omega) (by omega) (by omega)).trans HF.out.res))
    exact bodyPost_ret (v:=.agg #[.int .i64 8,.int .i64 (l.length:Int)]) (Check_ends (by simpa using hres) rfl) rfl ⟨rfl,(HS.out.2.bel.setCell (Nat.le_refl _) _).setCell (Nat.le_refl _) _⟩
end Go.Proofs.YtnkgbkkakokciacDoor
namespace Go.Proofs.YtnkgbkkakokciacDoor
def amongI (l:List In) (os:List Nat) (op a:Int):Bool:=os.any fun o=>decide ((l.getD o in0).op=op)&&decide ((l.getD o in0).a=a)
def docOf (l:List In) (k:Nat) (x:In) (os:List Nat):Int × List Nat :=
 if x.op=13∨x.op=16 then (if amongI l os x.op x.a=true then (if x.op=13 then 9 else 10,os) else (0,os++[k]))
 else if x.op=14 then (if os=[]∨(l.getD (os.getLast?.getD 0) in0).op≠13∨(l.getD (os.getLast?.getD 0) in0).a≠x.a∨x.b≠(os.getLast?.getD 0:Nat)+1 then (9,os) else (0,os.dropLast))
 else if x.op=17 then (if os=[]∨(l.getD (os.getLast?.getD 0) in0).op≠16∨(l.getD (os.getLast?.getD 0) in0).a≠x.a then (10,os) else (0,os.dropLast))
 else if x.op=15 then (if amongI l os 13 x.a=true then (0,os) else (9,os))
 else (0,os)
def UQ (l:List In) (os:List Nat):Prop:=∀ o ∈ os,∀ p ∈ os,(l.getD o in0).op=(l.getD p in0).op→(l.getD o in0).a=(l.getD p in0).a→o=p
theorem among_opens (l:List In) (os:List Nat) (op a:Int):amongI l os op a=true ↔ opens l os op a≠none:=by
 unfold amongI opens
 simp
theorem opens_last {l:List In} {os:List Nat} {op a:Int} {o:Nat} (hu:UQ l os) (ho:os.getLast?=some o):beginOf (opens l os op a)=beginOf os.getLast? ↔ (l.getD o in0).op=op∧(l.getD o in0).a=a:=by
 have hm:o ∈ os:=List.mem_of_getLast? ho
 rw [ho]
 constructor
 ·intro h
  rcases hp:opens l os op a with _ | p
  ·rw [hp] at h;simp only [beginOf] at h;omega
  ·rw [hp] at h
   simp only [beginOf] at h
   have:p=o:=by omega
   subst this
   unfold opens at hp
   have:=List.find?_some hp
   simpa using this
 ·rintro ⟨h1,h2⟩
  rcases hp:opens l os op a with _ | p
  ·unfold opens at hp
   have:=List.find?_eq_none.1 hp o hm
   rw [h1,h2] at this
   simp at this
  ·unfold opens at hp
   have h3:=List.find?_some hp
   have h4:=List.mem_of_find?_eq_some hp
   simp at h3
   have:=hu p h4 o hm (by simp only [List.getD_eq_getElem?_getD] at *;rw [h3.1,h1]) (by simp only [List.getD_eq_getElem?_getD] at *;rw [h3.2,h2])
   rw [this]
theorem doc_nest {l:List In} {os:List Nat} (hu:UQ l os) (k:Nat) (x:In):docOf l k x os=nestOf l k x os:=by
 unfold docOf nestOf
 split
 ·simp only [among_opens]
 rcases ho:os.getLast? with _ | o
 ·have:os=[]:=List.getLast?_eq_none_iff.1 ho
  subst this
  simp [amongI,opens]
 ·have hne:os≠[]:=by rintro rfl;simp at ho
  have h13:=opens_last (op:=13) (a:=x.a) hu ho
  have h16:=opens_last (op:=16) (a:=x.a) hu ho
  rw [ho] at h13 h16
  simp only [hne,false_or,Option.getD_some]
  split
  ·by_cases h:(l.getD o in0).op=13∧(l.getD o in0).a=x.a
   ·rw [h13.2 h];simp only [h.1,h.2,ne_eq,not_true_eq_false,false_or,beginOf]
   ·have h':¬ (beginOf (opens l os 13 x.a)=beginOf (some o)):=fun e=>h (h13.1 e)
    rw [if_pos (by simp only [ne_eq];rcases Classical.not_and_iff_not_or_not.1 h with h | h <;> simp only [h,not_false_eq_true,true_or,or_true]),if_pos (.inl h')]
  split
  ·by_cases h:(l.getD o in0).op=16∧(l.getD o in0).a=x.a
   ·rw [h16.2 h];simp only [h.1,h.2,ne_eq,not_true_eq_false,or_self]
   ·have h':¬ (beginOf (opens l os 16 x.a)=beginOf (some o)):=fun e=>h (h16.1 e)
    rw [if_pos (by simp only [ne_eq];rcases Classical.not_and_iff_not_or_not.1 h with h | h <;> simp only [h,not_false_eq_true,true_or,or_true]),if_pos h']
  split
  ·by_cases h:opens l os 13 x.a=none
   ·rw [if_pos h,if_neg (fun e=>(among_opens _ _ _ _).1 e h)]
   ·rw [if_neg h,if_pos ((among_opens _ _ _ _).2 h)]
  ·rfl
def Cov (rs:List (Nat × Nat)) (os:List Nat) (k o:Nat):Prop:=(∃ c,(o,c) ∈ rs∧o<k∧k≤c)∨(o ∈ os∧o<k)
def Top (z:Int) (rs:List (Nat × Nat)) (os:List Nat) (k:Nat):Prop:=(z=0∧∀ o,¬ Cov rs os k o)∨∃ o:Nat,z=(o:Int)+1∧Cov rs os k o∧∀ p,Cov rs os k p→p≤o
theorem Top.iff {z:Int} {rs rs':List (Nat × Nat)} {os os':List Nat} {k:Nat} (h:Top z rs os k) (e:∀ o,Cov rs os k o ↔ Cov rs' os' k o):Top z rs' os' k:=by
 rcases h with ⟨h1,h2⟩ | ⟨o,h1,h2,h3⟩
 ·exact .inl ⟨h1,fun o c=>h2 o ((e o).2 c)⟩
 ·exact .inr ⟨o,h1,(e o).1 h2,fun p c=>h3 p ((e p).2 c)⟩
structure NI (l:List In) (j:Nat) (os:List Nat) (rs:List (Nat × Nat)) (ws:List Int):Prop where
 uq:UQ l os
 asc:os.Pairwise (· < ·)
 lo:∀ o ∈ os,o<j
 rg:∀ p ∈ rs,p.1<p.2∧p.2<j
 un:∀ p ∈ rs,∀ q ∈ rs,p.1=q.1→p=q
 ap:∀ p ∈ rs,p.1 ∉ os
 top:∀ k,k<j→Top (ws.getD k 0) rs os k
 zer:∀ k,j≤k→ws.getD k 0=0
 len:ws.length=l.length+1
theorem asc_last {os:List Nat} (h:os.Pairwise (· < ·)) {o:Nat} (ho:os.getLast?=some o):(∀ p ∈ os,p≤o)∧∀ p,p ∈ os.dropLast ↔ p ∈ os∧p≠o:=by
 have e:os=os.dropLast++[o]:=by
  obtain ⟨ys,rfl⟩:=List.getLast?_eq_some_iff.1 ho
  simp
 rw [e,List.pairwise_append] at h
 obtain ⟨-,-,h3⟩:=h
 refine ⟨fun p hp=>?_,fun p=>⟨fun hp=>⟨List.dropLast_subset _ hp,fun c=>?_⟩,fun hp=>?_⟩⟩
 ·rw [e] at hp
  rcases List.mem_append.1 hp with hp | hp
  ·exact Nat.le_of_lt (h3 p hp o (by simp))
  ·simp at hp;omega
 ·have:=h3 p hp o (by simp);omega
 ·obtain ⟨h1,h2⟩:=hp
  rw [e] at h1
  rcases List.mem_append.1 h1 with h1 | h1
  ·exact h1
  ·simp at h1;exact absurd h1 h2
theorem NI.next {l:List In} {j:Nat} {os:List Nat} {rs:List (Nat × Nat)} {ws:List Int} (h:NI l j os rs ws):Top (beginOf os.getLast?) rs os j:=by
 rcases ho:os.getLast? with _ | o
 ·have:os=[]:=List.getLast?_eq_none_iff.1 ho
  subst this
  refine .inl ⟨rfl,fun o c=>?_⟩
  rcases c with ⟨c,h1,h2,h3⟩ | ⟨h1,-⟩
  ·have:=h.rg _ h1;dsimp only at this;omega
  ·simp at h1
 ·refine .inr ⟨o,rfl,.inr ⟨List.mem_of_getLast? ho,h.lo _ (List.mem_of_getLast? ho)⟩,fun p c=>?_⟩
  rcases c with ⟨c,h1,h2,h3⟩ | ⟨h1,-⟩
  ·have:=h.rg _ h1;dsimp only at this;omega
  ·exact (asc_last h.asc ho).1 p h1
theorem NI.put {l:List In} {j:Nat} {os:List Nat} {rs:List (Nat × Nat)} {ws:List Int} (h:NI l j os rs ws) (hj:j<l.length):(∀ k,k<j+1→Top ((ws.set j (beginOf os.getLast?)).getD k 0) rs os k)∧(∀ k,j+1≤k→(ws.set j (beginOf os.getLast?)).getD k 0=0)∧(ws.set j (beginOf os.getLast?)).length=l.length+1:=by
 have hl:=h.len
 refine ⟨fun k hk=>?_,fun k hk=>?_,by simp [hl]⟩
 ·by_cases e:k=j
  ·subst e
   have:=h.next
   rw [List.getD_eq_getElem?_getD,List.getElem?_set_self (by omega)]
   exact this
  ·rw [List.getD_eq_getElem?_getD,List.getElem?_set_ne (by omega),← List.getD_eq_getElem?_getD]
   exact h.top k (by omega)
 ·rw [List.getD_eq_getElem?_getD,List.getElem?_set_ne (by omega),← List.getD_eq_getElem?_getD]
  exact h.zer k (by omega)
theorem NI.stay {l:List In} {j:Nat} {os:List Nat} {rs:List (Nat × Nat)} {ws:List Int} (h:NI l j os rs ws) (hj:j<l.length):NI l (j+1) os rs (ws.set j (beginOf os.getLast?)) :=
 ⟨h.uq,h.asc,fun o ho=>by have:=h.lo o ho;omega,fun p hp=>by have:=h.rg p hp;omega,h.un,h.ap,(h.put hj).1,(h.put hj).2.1,(h.put hj).2.2⟩
theorem NI.open {l:List In} {j:Nat} {os:List Nat} {rs:List (Nat × Nat)} {ws:List Int} (h:NI l j os rs ws) (hj:j<l.length) (hn:opens l os (l.getD j in0).op (l.getD j in0).a=none):NI l (j+1) (os++[j]) rs (ws.set j (beginOf os.getLast?)):=by
 have hno:∀ o ∈ os,¬ ((l.getD o in0).op=(l.getD j in0).op∧(l.getD o in0).a=(l.getD j in0).a):=by
  intro o ho c
  unfold opens at hn
  have:=List.find?_eq_none.1 hn o ho
  rw [c.1,c.2] at this
  simp at this
 refine ⟨?_,?_,?_,fun p hp=>by have:=h.rg p hp;omega,h.un,?_,fun k hk=>?_,(h.put hj).2.1,(h.put hj).2.2⟩
 ·intro o ho p hp e1 e2
  rcases List.mem_append.1 ho with ho' | ho' <;> rcases List.mem_append.1 hp with hp' | hp'
  ·exact h.uq o ho' p hp' e1 e2
  ·rw [List.mem_singleton] at hp';subst hp';exact absurd ⟨e1,e2⟩ (hno o ho')
  ·rw [List.mem_singleton] at ho';subst ho';exact absurd ⟨e1.symm,e2.symm⟩ (hno p hp')
  ·rw [List.mem_singleton] at ho' hp';rw [ho',hp']
 ·refine List.pairwise_append.2 ⟨h.asc,by simp,fun a ha b hb=>?_⟩
  rw [List.mem_singleton] at hb;subst hb;exact h.lo a ha
 ·intro o ho
  rcases List.mem_append.1 ho with ho | ho
  ·have:=h.lo o ho;omega
  ·rw [List.mem_singleton] at ho;omega
 ·intro p hp c
  rcases List.mem_append.1 c with c | c
  ·exact h.ap p hp c
  ·rw [List.mem_singleton] at c;have:=h.rg p hp;omega
 ·refine ((h.put hj).1 k hk).iff fun o=>?_
  unfold Cov
  constructor
  ·rintro (c | ⟨c1,c2⟩)
   ·exact .inl c
   ·exact .inr ⟨List.mem_append.2 (.inl c1),c2⟩
  ·rintro (c | ⟨c1,c2⟩)
   ·exact .inl c
   ·rcases List.mem_append.1 c1 with c1 | c1
    ·exact .inr ⟨c1,c2⟩
    ·rw [List.mem_singleton] at c1;omega
theorem NI.shut {l:List In} {j:Nat} {os:List Nat} {rs:List (Nat × Nat)} {ws:List Int} (h:NI l j os rs ws) (hj:j<l.length) {o:Nat} (ho:os.getLast?=some o):NI l (j+1) os.dropLast (rs++[(o,j)]) (ws.set j (beginOf os.getLast?)):=by
 have hm:=List.mem_of_getLast? ho
 have hd:=(asc_last h.asc ho).2
 have hlo:=h.lo o hm
 refine ⟨?_,?_,?_,?_,?_,?_,fun k hk=>?_,(h.put hj).2.1,(h.put hj).2.2⟩
 ·intro a ha b hb
  exact h.uq a ((hd a).1 ha).1 b ((hd b).1 hb).1
 ·exact h.asc.sublist (List.dropLast_sublist _)
 ·intro a ha;have:=h.lo a ((hd a).1 ha).1;omega
 ·intro p hp
  rcases List.mem_append.1 hp with hp | hp
  ·have:=h.rg p hp;omega
  ·rw [List.mem_singleton] at hp;subst hp;exact ⟨hlo,by omega⟩
 ·intro p hp q hq e
  rcases List.mem_append.1 hp with hp' | hp' <;> rcases List.mem_append.1 hq with hq' | hq'
  ·exact h.un p hp' q hq' e
  ·rw [List.mem_singleton] at hq';subst hq';exact absurd (by rw [e];exact hm) (h.ap p hp')
  ·rw [List.mem_singleton] at hp';subst hp';exact absurd (by rw [← e];exact hm) (h.ap q hq')
  ·rw [List.mem_singleton] at hp' hq';rw [hp',hq']
 ·intro p hp c
  rcases List.mem_append.1 hp with hp | hp
  ·exact h.ap p hp ((hd _).1 c).1
  ·rw [List.mem_singleton] at hp;subst hp;exact ((hd _).1 c).2 rfl
 ·refine ((h.put hj).1 k hk).iff fun p=>?_
  unfold Cov
  constructor
  ·rintro (⟨c,c1,c2⟩ | ⟨c1,c2⟩)
   ·exact .inl ⟨c,List.mem_append.2 (.inl c1),c2⟩
   ·by_cases e:p=o
    ·subst e;exact .inl ⟨j,List.mem_append.2 (.inr (by simp)),c2,by omega⟩
    ·exact .inr ⟨(hd p).2 ⟨c1,e⟩,c2⟩
  ·rintro (⟨c,c1,c2⟩ | ⟨c1,c2⟩)
   ·rcases List.mem_append.1 c1 with c1 | c1
    ·exact .inl ⟨c,c1,c2⟩
    ·rw [List.mem_singleton] at c1;cases c1;exact .inr ⟨hm,c2.1⟩
   ·exact .inr ⟨((hd p).1 c1).1,c2⟩
def docNest (l:List In):List In→Nat→List Nat→List (Nat × Nat)→(Int × Nat) ⊕ (List Nat × List (Nat × Nat))
 | [],_,os,rs=>.inr (os,rs)
 | x::r,k,os,rs=>if (docOf l k x os).1≠0 then .inl ((docOf l k x os).1,k) else docNest l r (k+1) (docOf l k x os).2 (if x.op=14∨x.op=17 then rs++[(os.getLast?.getD 0,k)] else rs)
theorem NI.step {l:List In} {j:Nat} {os:List Nat} {rs:List (Nat × Nat)} {ws:List Int} (h:NI l j os rs ws) (hj:j<l.length) (hz:(nestOf l j (l.getD j in0) os).1=0):NI l (j+1) (nestOf l j (l.getD j in0) os).2 (if (l.getD j in0).op=14∨(l.getD j in0).op=17 then rs++[(os.getLast?.getD 0,j)] else rs) (ws.set j (beginOf os.getLast?)):=by
 have hl:∀ {q:Prop},¬ (os=[]∨q)→∃ o,os.getLast?=some o:=by
  intro q hq
  rcases ho:os.getLast? with _ | o
  ·exact absurd (.inl (List.getLast?_eq_none_iff.1 ho)) hq
  ·exact ⟨o,rfl⟩
 unfold nestOf at hz ⊢
 by_cases h1:(l.getD j in0).op=13∨(l.getD j in0).op=16
 ·rw [if_pos h1] at hz ⊢
  rw [if_neg (c:=(l.getD j in0).op=14∨(l.getD j in0).op=17) (by omega)]
  by_cases h2:opens l os (l.getD j in0).op (l.getD j in0).a≠none
  ·rw [if_pos h2] at hz;dsimp only at hz;split at hz <;> simp at hz
  ·rw [if_neg h2];exact h.open hj (by simpa using h2)
 rw [if_neg h1] at hz ⊢
 by_cases h3:(l.getD j in0).op=14
 ·rw [if_pos h3] at hz ⊢
  rw [if_pos (c:=(l.getD j in0).op=14∨(l.getD j in0).op=17) (.inl h3)]
  split at hz
  ·simp at hz
  ·rename_i hq
   obtain ⟨o,ho⟩:=hl hq
   rw [if_neg hq]
   have:=h.shut hj ho
   rw [ho] at this ⊢
   exact this
 rw [if_neg h3] at hz ⊢
 by_cases h4:(l.getD j in0).op=17
 ·rw [if_pos h4] at hz ⊢
  rw [if_pos (c:=(l.getD j in0).op=14∨(l.getD j in0).op=17) (.inr h4)]
  split at hz
  ·simp at hz
  ·rename_i hq
   obtain ⟨o,ho⟩:=hl hq
   rw [if_neg hq]
   have:=h.shut hj ho
   rw [ho] at this ⊢
   exact this
 rw [if_neg h4] at hz ⊢
 rw [if_neg (c:=(l.getD j in0).op=14∨(l.getD j in0).op=17) (by omega)]
 split
 ·split <;> exact h.stay hj
 ·exact h.stay hj
theorem doc_scan {l:List In}:∀ (n j:Nat) (os:List Nat) (rs:List (Nat × Nat)) (ws:List Int),l.length - j=n→j≤l.length→NI l j os rs ws →
  (∃ e,nestScan l (l.drop j) j os ws = .inl e∧docNest l (l.drop j) j os rs = .inl e)∨∃ os' rs' ws',nestScan l (l.drop j) j os ws = .inr (os',ws')∧docNest l (l.drop j) j os rs = .inr (os',rs')∧NI l l.length os' rs' ws':=by
 intro n
 induction n with
 | zero =>
  intro j os rs ws hn hj h
  have:j=l.length:=by omega
  subst this
  rw [List.drop_length]
  exact .inr ⟨os,rs,ws,rfl,rfl,h⟩
 | succ n ih =>
  intro j os rs ws hn hj h
  have hlt:j<l.length:=by omega
  rw [nestScan_at _ hlt,drop_at hlt,docNest,doc_nest h.uq]
  by_cases hz:(nestOf l j (l.getD j in0) os).1≠0
  ·rw [if_pos hz,if_pos hz];exact .inl ⟨_,rfl,rfl⟩
  ·rw [if_neg hz,if_neg hz]
   exact ih (j+1) _ _ _ (by omega) (by omega) (h.step hlt (by simpa using hz))
theorem NI.start (l:List In):NI l 0 [] [] (List.replicate (l.length+1) 0) :=
 ⟨by intro o ho;simp at ho,by simp,by simp,by simp,by simp,by simp,fun k hk=>by omega,fun k _=>by rw [List.getD_eq_getElem?_getD,List.getElem?_replicate];split <;> rfl,by simp⟩
def better (i:Nat) (best:Option (Nat × Nat)) (r:Nat × Nat):Option (Nat × Nat) :=
 if r.1<i∧i≤r.2∧(best=none∨(best.getD (0,0)).1<r.1) then some r else best
def innerOf (rs:List (Nat × Nat)) (i:Nat):Option (Nat × Nat):=rs.foldl (better i) none
theorem inner_from (i:Nat):∀ (rs:List (Nat × Nat)) (b:Option (Nat × Nat)),
  (rs.foldl (better i) b=b∨∃ r ∈ rs,rs.foldl (better i) b=some r∧r.1<i∧i≤r.2)∧(∀ r ∈ rs,r.1<i→i≤r.2→∃ q,rs.foldl (better i) b=some q∧r.1≤q.1)∧(∀ q,b=some q→∃ q',rs.foldl (better i) b=some q'∧q.1≤q'.1)
 | [],b=>⟨.inl rfl,by simp,fun q h=>⟨q,h,Nat.le_refl _⟩⟩
 | r::rs,b=>by
  obtain ⟨h1,h2,h3⟩:=inner_from i rs (better i b r)
  rw [List.foldl_cons]
  refine ⟨?_,?_,?_⟩
  ·rcases h1 with h1 | ⟨q,hq,h1,h1'⟩
   ·rw [h1]
    unfold better
    split
    ·rename_i c;exact .inr ⟨r,by simp,rfl,c.1,c.2.1⟩
    ·exact .inl rfl
   ·exact .inr ⟨q,by simp [hq],h1,h1'⟩
  ·intro q hq hq1 hq2
   rcases List.mem_cons.1 hq with rfl | hq
   ·by_cases c:b=none∨(b.getD (0,0)).1<q.1
    ·have e:better i b q=some q:=by unfold better;rw [if_pos ⟨hq1,hq2,c⟩]
     exact h3 q e
    ·have e:better i b q=b:=by unfold better;rw [if_neg (fun x=>c x.2.2)]
     rcases b with _ | p
     ·exact absurd (.inl rfl) c
     ·obtain ⟨q',a1,a2⟩:=h3 p e
      simp at c
      exact ⟨q',a1,by omega⟩
   ·exact h2 q hq hq1 hq2
  ·intro q hq
   subst hq
   by_cases c:r.1<i∧i≤r.2∧(some q=none∨((some q).getD (0,0)).1<r.1)
   ·have e:better i (some q) r=some r:=by unfold better;rw [if_pos c]
    obtain ⟨q',a1,a2⟩:=h3 r e
    have:=c.2.2
    simp at this
    exact ⟨q',a1,by omega⟩
   ·have e:better i (some q) r=some q:=by unfold better;rw [if_neg c]
    exact h3 q e
theorem NI.inner {l:List In} {rs:List (Nat × Nat)} {ws:List Int} (h:NI l l.length [] rs ws) {k:Nat} (hk:k≤l.length):(innerOf rs k=none∧ws.getD k 0=0)∨∃ r,r ∈ rs∧innerOf rs k=some r∧ws.getD k 0=(r.1:Int)+1:=by
 have ht:Top (ws.getD k 0) rs [] k:=by
  by_cases e:k=l.length
  ·subst e
   have:=h.next
   rw [h.zer _ (Nat.le_refl _)]
   exact this
  ·exact h.top k (by omega)
 obtain ⟨h1,h2,-⟩:=inner_from k rs none
 rcases h1 with h1 | ⟨r,hr,h1,c1,c2⟩
 ·refine .inl ⟨h1,?_⟩
  rcases ht with ⟨t1,-⟩ | ⟨o,-,t2,-⟩
  ·exact t1
  ·rcases t2 with ⟨c,a1,a2,a3⟩ | ⟨a1,-⟩
   ·obtain ⟨q,b1,-⟩:=h2 _ a1 a2 a3
    rw [h1] at b1;simp at b1
   ·simp at a1
 ·refine .inr ⟨r,hr,h1,?_⟩
  have hc:Cov rs [] k r.1:=.inl ⟨r.2,hr,c1,c2⟩
  rcases ht with ⟨-,t1⟩ | ⟨o,t1,t2,t3⟩
  ·exact absurd hc (t1 _)
  ·have:=t3 _ hc
   rcases t2 with ⟨c,a1,a2,a3⟩ | ⟨a1,-⟩
   ·obtain ⟨q,b1,b2⟩:=h2 _ a1 a2 a3
    have e:=h1.symm.trans b1
    cases e
    dsimp only at b2
    rw [t1];omega
   ·simp at a1
theorem NI.same {l:List In} {rs:List (Nat × Nat)} {ws:List Int} (h:NI l l.length [] rs ws) {k t:Nat} (hk:k≤l.length) (ht:t≤l.length):innerOf rs k=innerOf rs t ↔ ws.getD t 0=ws.getD k 0:=by
 rcases h.inner hk with ⟨a1,a2⟩ | ⟨r,a0,a1,a2⟩ <;> rcases h.inner ht with ⟨b1,b2⟩ | ⟨q,b0,b1,b2⟩ <;> rw [a1,a2,b1,b2]
 ·simp
 ·simp;omega
 ·simp;omega
 ·constructor
  ·intro e;cases e;rfl
  ·intro e;rw [h.un r a0 q b0 (by omega)]
def docJump (l:List In) (rs:List (Nat × Nat)) (k:Nat) (x:In):Int :=
 if x.op≠11∧x.op≠12 then 0
 else if x.a≤k∨(l.length:Int)<x.a∨innerOf rs k≠innerOf rs x.a.toNat then 7 else 0
theorem doc_jump {l:List In} {rs:List (Nat × Nat)} {ws:List Int} (h:NI l l.length [] rs ws) {k:Nat} (hk:k<l.length) (x:In):docJump l rs k x=jumpErr ws k x:=by
 unfold docJump jumpErr
 split
 ·rfl
 rw [h.len]
 by_cases c:x.a≤k∨(l.length:Int)<x.a
 ·rw [if_pos (by rcases c with c | c;exact .inl c;exact .inr (.inl c)),if_pos (by rcases c with c | c;exact .inl c;exact .inr (.inl (by omega)))]
 ·have hs:=h.same (k:=k) (t:=x.a.toNat) (by omega) (by omega)
  by_cases e:innerOf rs k=innerOf rs x.a.toNat
  ·rw [if_neg (by intro z;rcases z with z | z | z;exact c (.inl z);exact c (.inr z);exact z e),if_neg (by intro z;rcases z with z | z | z;exact c (.inl z);omega;exact z (hs.1 e))]
  ·rw [if_pos (.inr (.inr e)),if_pos (.inr (.inr fun z=>e (hs.2 z)))]
theorem scan_congr {f g:Nat→In→Int}:∀ (l:List In) (k:Nat),(∀ j,j<l.length→f (k+j) (l.getD j in0)=g (k+j) (l.getD j in0))→scan f l k=scan g l k
 | [],_,_=>rfl
 | x::r,k,h=>by
  have h0:=h 0 (by simp)
  simp at h0
  have ih:=scan_congr (f:=f) (g:=g) r (k+1) fun j hj=>by
   have:=h (j+1) (by simpa using hj)
   rw [show k+(j+1)=k+1+j by omega] at this
   exact this
  rw [scan,scan,h0,ih]
def firstOpen (l:List In):List Nat→Option (Int × Nat)
 | []=>none
 | o::_=>some (if (l.getD o in0).op=13 then 9 else 10,o)
theorem doc_unclosed {l:List In} {rs:List (Nat × Nat)} {ws:List Int}:∀ {os:List Nat},NI l l.length os rs ws→scan (unclosedErr os) l 0=firstOpen l os:=by
 intro os h
 have aux:∀ (n j:Nat),l.length - j=n→j≤l.length→(∀ o ∈ os,j≤o)→scan (unclosedErr os) (l.drop j) j=firstOpen l os:=by
  intro n
  induction n with
  | zero =>
   intro j hn hj ho
   have:j=l.length:=by omega
   subst this
   rw [List.drop_length]
   cases os with
   | nil=>rfl
   | cons o os=>have:=ho o (by simp);have:=h.lo o (by simp);omega
  | succ n ih =>
   intro j hn hj ho
   have hlt:j<l.length:=by omega
   rw [scan_at _ hlt]
   by_cases c:j ∈ os
   ·have:unclosedErr os j (l.getD j in0)=if (l.getD j in0).op=13 then 9 else 10:=by unfold unclosedErr;rw [if_pos c]
    rw [this,if_pos (by split <;> decide)]
    cases os with
    | nil=>simp at c
    | cons o os =>
     have h1:=ho o (by simp)
     have:j=o:=by
      rcases List.mem_cons.1 c with c | c
      ·exact c
      ·have:=(List.pairwise_cons.1 h.asc).1 j c;omega
     rw [this];rfl
   ·have:unclosedErr os j (l.getD j in0)=0:=by unfold unclosedErr;rw [if_neg c]
    rw [this,if_neg (by simp)]
    exact ih (j+1) (by omega) (by omega) fun o hm=>by
     have:=ho o hm
     have:j≠o:=fun e=>c (e ▸ hm)
     omega
 have:=aux l.length 0 rfl (Nat.zero_le _) (fun o _=>Nat.zero_le o)
 simpa using this
def docI (l:List In):Int × Int :=
 if 2000<l.length then (2,0) else
 match scan (fun _ x=>formErr x) l 0 with
 | some (c,k)=>(c,k)
 | none =>
  match docNest l l 0 [] [] with
  | .inl (c,k)=>(c,k)
  | .inr (o::_,_)=>(if (l.getD o in0).op=13 then 9 else 10,o)
  | .inr ([],rs) =>
    match scan (docJump l rs) l 0 with
    | some (c,k)=>(c,k)
    | none =>
     match stackScan l 0 M0 with
     | .inl (c,k)=>(c,k)
     | .inr M=>if (M l.length).getD 0≠0 then (8,l.length) else (0,0)
theorem doc_check (l:List In):docI l=checkI l:=by
 unfold docI checkI
 split
 ·rfl
 rcases scan (fun _ x=>formErr x) l 0 with _ | ⟨c,k⟩
 ·have:=doc_scan (l:=l) l.length 0 [] [] _ rfl (Nat.zero_le _) (NI.start l)
  rw [List.drop_zero] at this
  rcases this with ⟨e,h1,h2⟩ | ⟨os,rs,ws,h1,h2,h⟩
  ·rw [h1,h2]
  ·rw [h1,h2]
   dsimp only
   rw [doc_unclosed h]
   cases os with
   | cons o os=>rfl
   | nil =>
    dsimp only [firstOpen]
    rw [scan_congr (f:=docJump l rs) (g:=jumpErr ws) l 0 fun j hj=>by rw [Nat.zero_add];exact doc_jump h hj _]
    rcases scan (jumpErr ws) l 0 with _ | ⟨c,k⟩ <;> rfl
 ·rfl
end Go.Proofs.YtnkgbkkakokciacDoor
namespace Go.Proofs.YtnkgbkkakokciacDoor
open Go.ChangeShapes Go.WideShapes Go.ChangeAt Go.RowKit
theorem stackScan_bad:∀ (l:List In) (k:Nat) (M:Int→Option Int) {c:Int} {j:Nat},stackScan l k M = .inl (c,j)→c≠0
 | [],_,_,_,_,h=>by simp [stackScan] at h
 | x::r,k,M,c,j,h=>by
  rw [stackScan] at h
  split at h
  ·rename_i hz
   simp only [Sum.inl.injEq,Prod.mk.injEq] at h
   rw [← h.1];exact hz
  ·exact stackScan_bad r (k+1) _ h
theorem scan_bad (f:Nat→In→Int):∀ (l:List In) (k:Nat) {c:Int} {j:Nat},scan f l k=some (c,j)→c≠0
 | [],_,_,_,h=>by simp [scan] at h
 | x::r,k,c,j,h=>by
  rw [scan] at h
  split at h
  ·rename_i hx
   simp only [Option.some.injEq,Prod.mk.injEq] at h
   rw [← h.1];exact hx
  ·exact scan_bad f r (k+1) h
theorem docNest_bad (l:List In):∀ (r:List In) (k:Nat) (os:List Nat) (rs:List (Nat × Nat)) {c:Int} {j:Nat},docNest l r k os rs = .inl (c,j)→c≠0
 | [],_,_,_,_,_,h=>by simp [docNest] at h
 | x::r,k,os,rs,c,j,h=>by
  rw [docNest] at h
  split at h
  ·rename_i hx
   simp only [Sum.inl.injEq,Prod.mk.injEq] at h
   rw [← h.1];exact hx
  ·exact docNest_bad l r (k+1) _ _ h
theorem putWays_pos (bh:Int) (hb:0≤bh):∀ (ts:List Int) (M:Int→Option Int),(∀ z h,M z=some h→0≤h)→∀ z h,(putWays bh ts M).2 z=some h→0≤h
 | [],M,hM=>hM
 | t::r,M,hM=>by
  rw [putWays]
  split
  ·exact hM
  ·refine putWays_pos bh hb r _ fun z h hz=>?_
   unfold setH at hz
   split at hz
   ·cases hz;exact hb
   ·exact hM z h hz
theorem puts_pos (m:Nat):0≤putsOf m:=by
 unfold putsOf
 by_cases h:m<19
 ·have:m=0∨m=1∨m=2∨m=3∨m=4∨m=5∨m=6∨m=7∨m=8∨m=9∨m=10∨m=11∨m=12∨m=13∨m=14∨m=15∨m=16∨m=17∨m=18:=by omega
  rcases this with rfl | rfl | rfl | rfl | rfl | rfl | rfl | rfl | rfl | rfl | rfl | rfl | rfl | rfl | rfl | rfl | rfl | rfl | rfl <;> decide
 ·rw [List.getD_eq_getElem?_getD,List.getElem?_eq_none (by simp;omega)];decide
theorem stackScan_pos:∀ (l:List In) (k:Nat) (M M':Int→Option Int),stackScan l k M = .inr M'→(∀ z h,M z=some h→0≤h)→∀ z h,M' z=some h→0≤h
 | [],k,M,M',h,hM=>by rw [stackScan] at h;cases h;exact hM
 | x::r,k,M,M',h,hM=>by
  rw [stackScan] at h
  split at h
  ·simp at h
  ·refine stackScan_pos r (k+1) _ M' h ?_
   unfold stackStep
   split
   ·exact hM
   ·rename_i q hq
    split
    ·exact hM
    ·rename_i c
     have:=puts_pos x.op.toNat
     exact putWays_pos _ (by omega) _ M hM
structure MS where
 pc:Nat
 st:List Int
 vs:List Int
 cs:List Int
 ps:List (Int × Int)
def MS.top (s:MS):Int:=s.st.getLast?.getD 0
def MS.second (s:MS):Int:=s.st.dropLast.getLast?.getD 0
def overI (x:In) (s:MS):Bool:=if x.op=11 then true else if x.op=12 then decide (s.top=0) else if x.op=14 then decide (0<s.cs.getD x.a.toNat 0) else false
def costI (x:In) (o:Bool):Int:=if x.op=18 then x.a else if (x.op=12∨x.op=14)∧o=true then 2 else tickOf x.op.toNat
def binI (op a b:Int):Int:=if op=4 then wrap64 (a+b) else if op=5 then wrap64 (a - b) else if op=6 then wrap64 (a*b) else if op=7 then (if a<b then 1 else 0) else (if a=b then 1 else 0)
def nextI (x:In) (s:MS):Nat:=if overI x s=true then (if x.op=14 then x.b.toNat else x.a.toNat) else s.pc+1
def mdo (ins:List Int) (x:In) (s:MS):MS where
 pc:=nextI x s
 st:=if x.op=1 then s.st++[x.a] else if x.op=2 then s.st++[s.vs.getD x.a.toNat 0] else if x.op=9 then s.st++[ins.getD x.a.toNat 0]
  else if x.op=3∨x.op=10∨x.op=12 then s.st.dropLast else if 4≤x.op∧x.op≤8 then s.st.dropLast.dropLast++[binI x.op s.second s.top] else s.st
 vs:=if x.op=3 then s.vs.set x.a.toNat s.top else s.vs
 cs:=if x.op=13 then s.cs.set x.a.toNat x.b else if x.op=14 then s.cs.set x.a.toNat (if 0<s.cs.getD x.a.toNat 0 then s.cs.getD x.a.toNat 0 - 1 else 0) else if x.op=15 then s.cs.set x.a.toNat 0 else s.cs
 ps:=if x.op=10 then s.ps++[(x.a,s.top)] else s.ps
def atI (l:List In) (s:MS):In:=l.getD s.pc in0
def runF (l:List In) (ins:List Int):Nat→MS→Int→Nat ⊕ (MS × Int)
 | 0,s,t=>if s.pc=l.length then .inr (s,t) else .inl s.pc
 | n+1,s,t=>if s.pc=l.length then .inr (s,t) else runF l ins n (mdo ins (atI l s) s) (t+costI (atI l s) (overI (atI l s) s))
def ms0 (vars:List Int):MS:=⟨0,[],vars,[0,0,0,0,0,0,0,0],[]⟩
structure GoodI (l:List In) (M:Int→Option Int):Prop where
 len:l.length≤2000
 form:∀ j,j<l.length→formErr (l.getD j in0)=0
 hts:∀ j,j<l.length→∃ h:Int,M j=some h∧0≤h∧takesOf (l.getD j in0).op.toNat≤h∧h - takesOf (l.getD j in0).op.toNat+putsOf (l.getD j in0).op.toNat≤20∧∀ t ∈ waysOf j (l.getD j in0),M t=some (h - takesOf (l.getD j in0).op.toNat+putsOf (l.getD j in0).op.toNat)
 ways:∀ j,j<l.length→∀ t ∈ waysOf j (l.getD j in0),0≤t∧t≤l.length
 zero:M 0=some 0
theorem setH_same (M:Int→Option Int) (z v:Int):setH M z v z=some v:=by unfold setH;rw [if_pos rfl]
theorem putWays_keeps (bh:Int):∀ (ts:List Int) (M:Int→Option Int),(putWays bh ts M).1=0→(∀ z h,M z=some h→(putWays bh ts M).2 z=some h)∧∀ t ∈ ts,(putWays bh ts M).2 t=some bh
 | [],M,_=>⟨fun z h hz=>hz,by simp⟩
 | t::r,M,h=>by
  rw [putWays] at h ⊢
  by_cases c:M t≠none∧M t≠some bh
  ·rw [if_pos c] at h;simp at h
  ·rw [if_neg c] at h ⊢
   obtain ⟨h1,h2⟩:=putWays_keeps bh r (setH M t bh) h
   refine ⟨fun z hh hz=>h1 z hh ?_,fun q hq=>?_⟩
   ·unfold setH
    split
    ·rename_i e;subst e
     by_cases e2:M z=some bh
     ·rw [← e2];exact hz
     ·exact absurd ⟨by rw [hz];simp,e2⟩ c
    ·exact hz
   ·rcases List.mem_cons.1 hq with rfl | hq
    ·exact h1 _ _ (setH_same _ _ _)
    ·exact h2 q hq
theorem stackStep_keeps {M:Int→Option Int} {k:Nat} {x:In} (h0:(stackStep M k x).1=0):(∀ z h,M z=some h→(stackStep M k x).2 z=some h)∧∃ h:Int,M k=some h∧takesOf x.op.toNat≤h∧h - takesOf x.op.toNat+putsOf x.op.toNat≤20∧∀ t ∈ waysOf k x,(stackStep M k x).2 t=some (h - takesOf x.op.toNat+putsOf x.op.toNat):=by
 unfold stackStep at h0 ⊢
 rcases hM:M k with _ | h
 ·rw [hM] at h0;simp at h0
 ·rw [hM] at h0
  dsimp only at h0 ⊢
  by_cases c:h<takesOf x.op.toNat∨20<h - takesOf x.op.toNat+putsOf x.op.toNat
  ·rw [if_pos c] at h0;simp at h0
  ·rw [if_neg c] at h0 ⊢
   obtain ⟨h1,h2⟩:=putWays_keeps _ _ _ h0
   exact ⟨h1,h,rfl,by omega,by omega,h2⟩
theorem stackScan_keeps:∀ (l:List In) (k:Nat) (M M':Int→Option Int),stackScan l k M = .inr M'→(∀ z h,M z=some h→M' z=some h)∧∀ j,j<l.length→∃ h:Int,M' ((k:Int)+j)=some h∧takesOf (l.getD j in0).op.toNat≤h∧h - takesOf (l.getD j in0).op.toNat+putsOf (l.getD j in0).op.toNat≤20∧∀ t ∈ waysOf (k+j) (l.getD j in0),M' t=some (h - takesOf (l.getD j in0).op.toNat+putsOf (l.getD j in0).op.toNat)
 | [],k,M,M',h=>by rw [stackScan] at h;cases h;exact ⟨fun z h hz=>hz,by simp⟩
 | x::r,k,M,M',h=>by
  rw [stackScan] at h
  by_cases c:(stackStep M k x).1≠0
  ·rw [if_pos c] at h;simp at h
  ·rw [if_neg c] at h
   have c0:(stackStep M k x).1=0:=by simpa using c
   obtain ⟨h1,hh,h2,h3,h4,h5⟩:=stackStep_keeps c0
   obtain ⟨g1,g2⟩:=stackScan_keeps r (k+1) _ _ h
   refine ⟨fun z hz e=>g1 _ _ (h1 _ _ e),fun j hj=>?_⟩
   cases j with
   | zero=>exact ⟨hh,by simpa using g1 _ _ (h1 _ _ h2),by simpa using h3,by simpa using h4,fun t ht=>by simpa using g1 _ _ (h5 t (by simpa using ht))⟩
   | succ j =>
    obtain ⟨q,q1,q2,q3,q4⟩:=g2 j (by simpa using hj)
    refine ⟨q,by rw [← q1];congr 1;simp;omega,by simpa using q2,by simpa using q3,fun t ht=>?_⟩
    have:=q4 t (by rw [show k+1+j=k+(j+1) by omega];simpa using ht)
    simpa using this
theorem docNest_back (l:List In):∀ (r:List In) (k:Nat) (os:List Nat) (rs:List (Nat × Nat)) (q:List Nat × List (Nat × Nat)),docNest l r k os rs = .inr q→(∀ o ∈ os,o<k)→∀ j,j<r.length→(r.getD j in0).op=14→0≤(r.getD j in0).b∧(r.getD j in0).b≤(k:Int)+j
 | [],_,_,_,_,_,_,j,hj,_=>by simp at hj
 | x::r,k,os,rs,q,h,ho,j,hj,h14=>by
  rw [docNest] at h
  by_cases c:(docOf l k x os).1≠0
  ·rw [if_pos c] at h;simp at h
  ·rw [if_neg c] at h
   have c0:(docOf l k x os).1=0:=by simpa using c
   cases j with
   | zero =>
    simp only [List.getD_cons_zero] at h14 ⊢
    unfold docOf at c0
    rw [if_neg (by omega),if_pos h14] at c0
    by_cases e:os=[]∨(l.getD (os.getLast?.getD 0) in0).op≠13∨(l.getD (os.getLast?.getD 0) in0).a≠x.a∨x.b≠(os.getLast?.getD 0:Nat)+1
    ·rw [if_pos e] at c0;simp at c0
    ·simp only [not_or,Decidable.not_not] at e
     obtain ⟨e1,-,-,e4⟩:=e
     have hm:os.getLast?.getD 0 ∈ os:=by
      rw [List.getLast?_eq_some_getLast e1]
      exact List.getLast_mem e1
     have:=ho _ hm
     rw [e4];omega
   | succ j =>
    simp only [List.getD_cons_succ] at h14 ⊢
    have ho':∀ o ∈ (docOf l k x os).2,o<k+1:=by
     intro o hm
     have hsub:o ∈ os∨o=k:=by
      unfold docOf at hm
      split at hm
      ·split at hm
       ·exact .inl hm
       ·simpa using hm
      split at hm
      ·split at hm
       ·exact .inl hm
       ·exact .inl (List.dropLast_subset _ hm)
      split at hm
      ·split at hm
       ·exact .inl hm
       ·exact .inl (List.dropLast_subset _ hm)
      split at hm
      ·split at hm <;> exact .inl hm
      ·exact .inl hm
     rcases hsub with hs | hs
     ·have:=ho o hs;omega
     ·omega
    have:=docNest_back l r (k+1) _ _ q h ho' j (by simpa using hj) h14
    omega
theorem good_of {l:List In} (h:docI l=(0,0)):∃ M,GoodI l M:=by
 unfold docI at h
 by_cases hl:2000<l.length
 ·rw [if_pos hl] at h;simp at h
 rw [if_neg hl] at h
 rcases hf:scan (fun _ x=>formErr x) l 0 with _ | ⟨c,k⟩
 rotate_left 1
 ·rw [hf] at h;exact absurd (congrArg Prod.fst h) (scan_bad _ l 0 hf)
 rw [hf] at h
 dsimp only at h
 have hform:∀ j,j<l.length→formErr (l.getD j in0)=0:=fun j hj=>scan_none _ l 0 hf j hj
 rcases hn:docNest l l 0 [] [] with ⟨c,k⟩ | ⟨_ | ⟨o,os⟩,rs⟩
 ·rw [hn] at h;exact absurd (congrArg Prod.fst h) (docNest_bad l l 0 [] [] hn)
 rotate_left 1
 ·rw [hn] at h
  have:=congrArg Prod.fst h
  dsimp only at this
  split at this <;> simp at this
 rw [hn] at h
 dsimp only at h
 rcases hj:scan (docJump l rs) l 0 with _ | ⟨c,k⟩
 rotate_left 1
 ·rw [hj] at h;exact absurd (congrArg Prod.fst h) (scan_bad _ l 0 hj)
 rw [hj] at h
 dsimp only at h
 rcases hs:stackScan l 0 M0 with ⟨c,k⟩ | M
 ·rw [hs] at h;exact absurd (congrArg Prod.fst h) (stackScan_bad l 0 M0 hs)
 obtain ⟨h1,h2⟩:=stackScan_keeps l 0 M0 M hs
 have hpos:=stackScan_pos l 0 M0 M hs (by intro z h hz;unfold M0 setH at hz;split at hz;cases hz;omega;simp at hz)
 refine ⟨M,by omega,hform,fun j hj'=>?_,fun j hj' t ht=>?_,h1 0 0 (setH_same _ _ _)⟩
 ·obtain ⟨q,q1,q2,q3,q4⟩:=h2 j hj'
  have q1':M j=some q:=by simpa using q1
  exact ⟨q,q1',hpos _ _ q1',q2,q3,fun t ht=>q4 t (by simpa using ht)⟩
 ·have hfj:=hform j hj'
  have hjj:=scan_none _ l 0 hj j hj'
  have hbk:=docNest_back l l 0 [] [] _ hn (by simp) j hj'
  rw [Nat.zero_add] at hjj
  rw [Int.natCast_zero,Int.zero_add] at hbk
  generalize l.getD j in0=x at *
  unfold waysOf at ht
  unfold docJump at hjj
  split at ht
  ·rename_i e
   rw [if_neg (by omega)] at hjj
   simp only [List.mem_singleton] at ht
   subst ht
   split at hjj
   ·simp at hjj
   ·omega
  split at ht
  ·rename_i e
   rw [if_neg (by omega)] at hjj
   simp only [List.mem_cons,List.not_mem_nil,or_false] at ht
   split at hjj
   ·simp at hjj
   ·rcases ht with rfl | rfl <;> omega
  split at ht
  ·rename_i e
   have:=hbk e
   simp only [List.mem_cons,List.not_mem_nil,or_false] at ht
   rcases ht with rfl | rfl <;> omega
  ·simp only [List.mem_singleton] at ht
   subst ht;omega
structure MI (l:List In) (M:Int→Option Int) (s:MS):Prop where
 pc:s.pc≤l.length
 st:M s.pc=some (s.st.length:Int)
 vs:s.vs.length=8
 cs:s.cs.length=8
 low:∀ j,0≤s.cs.getD j 0∧s.cs.getD j 0≤1000
theorem MI.start {l:List In} {M:Int→Option Int} (g:GoodI l M) {vars:List Int} (hv:vars.length=8):MI l M (ms0 vars):=by
 refine ⟨Nat.zero_le _,by simpa [ms0] using g.zero,hv,rfl,fun j=>?_⟩
 have:([0,0,0,0,0,0,0,0]:List Int).getD j 0=0:=by
  by_cases h:j<8
  ·have:j=0∨j=1∨j=2∨j=3∨j=4∨j=5∨j=6∨j=7:=by omega
   rcases this with rfl | rfl | rfl | rfl | rfl | rfl | rfl | rfl <;> rfl
  ·rw [List.getD_eq_getElem?_getD,List.getElem?_eq_none (by simp;omega)];rfl
 show 0≤([0,0,0,0,0,0,0,0]:List Int).getD j 0∧([0,0,0,0,0,0,0,0]:List Int).getD j 0≤1000
 rw [this];omega
theorem form_op {x:In} (h:formErr x=0):1≤x.op∧x.op≤18∧lowA x.op.toNat≤x.a∧x.a≤highA x.op.toNat∧0≤x.b∧x.b≤highB x.op.toNat:=by
 unfold formErr at h
 split at h
 ·simp at h
 split at h
 ·simp at h
 omega
theorem form_a {x:In} (h:formErr x=0):0≤x.a∧((x.op=2∨x.op=3∨x.op=13∨x.op=14∨x.op=15)→x.a≤7)∧((x.op=9∨x.op=10)→x.a≤3)∧(x.op=18→1≤x.a∧x.a≤1000)∧(x.op=13→0≤x.b∧x.b≤1000)∧((x.op=11∨x.op=12)→x.a≤2000)∧(x.op=14→x.b≤2000)∧0≤x.b∧(4≤x.op∧x.op≤8→x.a=0):=by
 obtain ⟨h1,h2,h3,h4,h5,h6⟩:=form_op h
 obtain ⟨op,a,b⟩:=x
 dsimp only at *
 obtain ⟨m,rfl⟩:∃ m:Nat,op=m:=⟨op.toNat,by omega⟩
 rw [Int.toNat_natCast] at *
 have:m=1∨m=2∨m=3∨m=4∨m=5∨m=6∨m=7∨m=8∨m=9∨m=10∨m=11∨m=12∨m=13∨m=14∨m=15∨m=16∨m=17∨m=18:=by omega
 rcases this with rfl | rfl | rfl | rfl | rfl | rfl | rfl | rfl | rfl | rfl | rfl | rfl | rfl | rfl | rfl | rfl | rfl | rfl <;> simp [lowA,highA,highB] at h3 h4 h6 <;> omega
theorem getD_set (cs:List Int) (i j:Nat) (v:Int):(cs.set i v).getD j 0=if i=j∧i<cs.length then v else cs.getD j 0:=by
 rw [List.getD_eq_getElem?_getD,List.getD_eq_getElem?_getD,List.getElem?_set]
 by_cases h:i=j
 ·subst h
  by_cases h2:i<cs.length
  ·rw [if_pos rfl,if_pos h2,if_pos ⟨rfl,h2⟩];rfl
  ·rw [if_pos rfl,if_neg h2,if_neg (fun e=>h2 e.2),List.getElem?_eq_none (by omega)]
 ·rw [if_neg h,if_neg (fun e=>h e.1)]
theorem low_set {cs:List Int} (h:∀ j,0≤cs.getD j 0∧cs.getD j 0≤1000) {i:Nat} {v:Int} (hv:0≤v∧v≤1000):∀ j,0≤(cs.set i v).getD j 0∧(cs.set i v).getD j 0≤1000:=by
 intro j
 rw [getD_set]
 split
 ·exact hv
 ·exact h j
theorem next_way {x:In} (s:MS) (h:formErr x=0):((nextI x s:Nat):Int) ∈ waysOf s.pc x:=by
 obtain ⟨ha,-,-,-,-,-,-,hb,-⟩:=form_a h
 unfold nextI overI waysOf
 by_cases h11:x.op=11
 ·simp [h11];omega
 rw [if_neg h11,if_neg h11]
 by_cases h12:x.op=12
 ·by_cases c:s.top=0
  ·simp [h12,c];omega
  ·simp [h12,c]
 rw [if_neg h12,if_neg h12]
 by_cases h14:x.op=14
 ·by_cases c:0<s.cs.getD x.a.toNat 0
  ·simp only [h14,c];simp;omega
  ·simp only [h14,c];simp
 rw [if_neg h14,if_neg h14,if_neg (by simp)]
 simp
theorem mdo_height {ins:List Int} {x:In} {s:MS} (h:formErr x=0) (ht:takesOf x.op.toNat≤(s.st.length:Int)):((mdo ins x s).st.length:Int)=s.st.length - takesOf x.op.toNat+putsOf x.op.toNat:=by
 obtain ⟨h1,h2,-⟩:=form_op h
 obtain ⟨op,a,b⟩:=x
 dsimp only at *
 obtain ⟨m,rfl⟩:∃ m:Nat,op=m:=⟨op.toNat,by omega⟩
 rw [Int.toNat_natCast] at *
 have:m=1∨m=2∨m=3∨m=4∨m=5∨m=6∨m=7∨m=8∨m=9∨m=10∨m=11∨m=12∨m=13∨m=14∨m=15∨m=16∨m=17∨m=18:=by omega
 rcases this with rfl | rfl | rfl | rfl | rfl | rfl | rfl | rfl | rfl | rfl | rfl | rfl | rfl | rfl | rfl | rfl | rfl | rfl <;> simp [takesOf,putsOf] at ht ⊢ <;> simp [mdo] <;> omega
theorem MI.step {l:List In} {M:Int→Option Int} {s:MS} (g:GoodI l M) (h:MI l M s) (hlt:s.pc<l.length) (ins:List Int):MI l M (mdo ins (atI l s) s):=by
 have hf:=g.form _ hlt
 have hw:=next_way s hf
 have hr:=g.ways _ hlt _ hw
 obtain ⟨q,q1,q0,q2,q3,q4⟩:=g.hts _ hlt
 have e:q=(s.st.length:Int):=by rw [h.st] at q1;simpa using q1.symm
 subst e
 have hh:=mdo_height (ins:=ins) hf q2
 have hm:=q4 _ hw
 obtain ⟨-,-,-,-,f13,-⟩:=form_a hf
 show MI l M (mdo ins (l.getD s.pc in0) s)
 generalize l.getD s.pc in0=x at *
 refine ⟨by show nextI x s≤_;omega,?_,?_,?_,?_⟩
 ·show M (nextI x s)=_
  rw [hm,hh]
 ·show (if x.op=3 then s.vs.set x.a.toNat s.top else s.vs).length=8
  split <;> simp [h.vs]
 ·show (if x.op=13 then s.cs.set x.a.toNat x.b else if x.op=14 then s.cs.set x.a.toNat (if 0<s.cs.getD x.a.toNat 0 then s.cs.getD x.a.toNat 0 - 1 else 0) else if x.op=15 then s.cs.set x.a.toNat 0 else s.cs).length=8
  split
  ·simp [h.cs]
  split
  ·simp [h.cs]
  split
  ·simp [h.cs]
  ·exact h.cs
 ·show ∀ j,0≤(if x.op=13 then s.cs.set x.a.toNat x.b else if x.op=14 then s.cs.set x.a.toNat (if 0<s.cs.getD x.a.toNat 0 then s.cs.getD x.a.toNat 0 - 1 else 0) else if x.op=15 then s.cs.set x.a.toNat 0 else s.cs).getD j 0∧(if x.op=13 then s.cs.set x.a.toNat x.b else if x.op=14 then s.cs.set x.a.toNat (if 0<s.cs.getD x.a.toNat 0 then s.cs.getD x.a.toNat 0 - 1 else 0) else if x.op=15 then s.cs.set x.a.toNat 0 else s.cs).getD j 0≤1000
  have hl:=h.low x.a.toNat
  split
  ·rename_i e;exact low_set h.low (f13 e)
  split
  ·refine low_set h.low ?_
   split <;> omega
  split
  ·exact low_set h.low (by omega)
  ·exact h.low
theorem MI.here {l:List In} {M:Int→Option Int} {s:MS} (g:GoodI l M) (h:MI l M s) (hlt:s.pc<l.length):formErr (atI l s)=0∧takesOf (atI l s).op.toNat≤(s.st.length:Int)∧(s.st.length:Int) - takesOf (atI l s).op.toNat+putsOf (atI l s).op.toNat≤20∧nextI (atI l s) s≤l.length:=by
 obtain ⟨q,q1,q0,q2,q3,q4⟩:=g.hts _ hlt
 have e:q=(s.st.length:Int):=by rw [h.st] at q1;simpa using q1.symm
 subst e
 exact ⟨g.form _ hlt,q2,q3,(MI.step g h hlt []).pc⟩
theorem cost_le {x:In} (h:formErr x=0) (o:Bool):1≤costI x o∧costI x o≤1000:=by
 obtain ⟨h1,h2,-⟩:=form_op h
 obtain ⟨-,-,-,h18,-⟩:=form_a h
 obtain ⟨op,a,b⟩:=x
 dsimp only at *
 obtain ⟨m,rfl⟩:∃ m:Nat,op=m:=⟨op.toNat,by omega⟩
 unfold costI
 dsimp only
 rw [Int.toNat_natCast] at *
 have:m=1∨m=2∨m=3∨m=4∨m=5∨m=6∨m=7∨m=8∨m=9∨m=10∨m=11∨m=12∨m=13∨m=14∨m=15∨m=16∨m=17∨m=18:=by omega
 rcases this with rfl | rfl | rfl | rfl | rfl | rfl | rfl | rfl | rfl | rfl | rfl | rfl | rfl | rfl | rfl | rfl | rfl | rfl <;> simp [tickOf] <;> first | omega | (cases o <;> simp)
theorem run_image:runF imageL [5,0,0,0] 20000 (ms0 [0,0,0,0,0,0,0,0]) 0 = .inr (⟨10,[],[15,0,0,0,0,0,0,0],[0,0,0,0,0,0,0,0],[(1,30)]⟩,28):=by
 simp [runF,imageL,ms0,atI,mdo,nextI,overI,costI,binI,tickOf,MS.top,MS.second,in0]
 decide +kernel
theorem run_at {l:List In} {ins:List Int} {n:Nat} {s:MS} {t:Int} (h:s.pc≠l.length):runF l ins (n+1) s t=runF l ins n (mdo ins (atI l s) s) (t+costI (atI l s) (overI (atI l s) s)):=by
 rw [runF,if_neg h]
theorem run_end {l:List In} {ins:List Int} {n:Nat} {s:MS} {t:Int} (h:s.pc=l.length):runF l ins n s t = .inr (s,t):=by
 cases n <;> rw [runF,if_pos h]
end Go.Proofs.YtnkgbkkakokciacDoor
namespace Go.Proofs.YtnkgbkkakokciacDoor.B
open Go.ChangeShapes Go.WideShapes Go.ChangeAt Go.RowKit
inductive Rch (l:List Io) (is:List Int):MS→MS→Prop
 | refl (s:MS):Rch l is s s
 | step {s s':MS} (h:s.pc<l.length) (r:Rch l is (mdo is (atI l s) s) s'):Rch l is s s'
theorem Rch.trans {l:List Io} {is:List Int} {a b c:MS} (h:Rch l is a b) (h':Rch l is b c):Rch l is a c:=by
 induction h with
 | refl=>exact h'
 | step hp _ ih=>exact .step hp (ih h')
theorem Rch.one {l:List Io} {is:List Int} {s s':MS} {x:Io} (h:s.pc<l.length∧l.getD s.pc in0=x) (e:mdo is x s=s'):Rch l is s s':=by
 refine .step h.1 ?_
 unfold atI
 rw [h.2,e]
 exact .refl _
def AtR (l:List Io) (p:Nat) (q:Int) (C:List Io):Prop:=p+C.length≤l.length∧∀ j,j<C.length→l.getD (p+j) in0=mvI q (C.getD j in0)
theorem AtR.app {l:List Io} {p:Nat} {q:Int} {C D:List Io} (h:AtR l p q (C++D)):AtR l p q C∧AtR l (p+C.length) q D:=by
 obtain ⟨h1,h2⟩:=h
 rw [List.length_append] at h1 h2
 refine ⟨⟨by omega,fun j hj=>?_⟩,by omega,fun j hj=>?_⟩
 ·rw [h2 j (by omega)]
  simp only [List.getD_eq_getElem?_getD,List.getElem?_append_left hj]
 ·rw [Nat.add_assoc,h2 (C.length+j) (by omega)]
  simp only [List.getD_eq_getElem?_getD,List.getElem?_append_right (show C.length≤C.length+j by omega),Nat.add_sub_cancel_left]
theorem AtR.mv {l:List Io} {p:Nat} {q d:Int} {C:List Io} (h:AtR l p q (mv d C)):AtR l p (d+q) C:=by
 obtain ⟨h1,h2⟩:=h
 rw [mv_len] at h1 h2
 refine ⟨h1,fun j hj=>?_⟩
 rw [h2 j hj,← mvI_mvI]
 congr 1
 simp [B.mv,List.getD_eq_getElem?_getD,hj]
theorem AtR.jn {l:List Io} {p:Nat} {C D:List Io} (h:AtR l p (p:Int) (jn C D)):AtR l p (p:Int) C∧AtR l (p+C.length) ((p+C.length:Nat):Int) D:=by
 obtain ⟨h1,h2⟩:=AtR.app h
 refine ⟨h1,?_⟩
 have:=AtR.mv h2
 rw [show ((p+C.length:Nat):Int)=(C.length:Int)+p by omega]
 exact this
theorem AtR.one {l:List Io} {p:Nat} {q:Int} {x:Io} (h:AtR l p q [x]):p<l.length∧l.getD p in0=mvI q x:=by
 obtain ⟨h1,h2⟩:=h
 have h1:p+1≤l.length:=by simpa using h1
 exact ⟨by omega,by simpa using h2 0 (by simp)⟩
theorem app_two {st:List Int} (x y:Int):(st++[x])++[y]=st++[x,y]:=by simp
section
variable (l:List Io) (is:List Int)
theorem go1 {p:Nat} {q a b:Int} {st vs cs:List Int} {ps:List (Int × Int)} (h:AtR l p q [⟨1,a,b⟩]):Rch l is ⟨p,st,vs,cs,ps⟩ ⟨p+1,st++[a],vs,cs,ps⟩ :=
 Rch.one (x:=⟨1,a,b⟩) h.one (by simp [mdo,nextI,overI])
theorem go2 {p:Nat} {q a b:Int} {st vs cs:List Int} {ps:List (Int × Int)} (h:AtR l p q [⟨2,a,b⟩]):Rch l is ⟨p,st,vs,cs,ps⟩ ⟨p+1,st++[vs.getD a.toNat 0],vs,cs,ps⟩ :=
 Rch.one (x:=⟨2,a,b⟩) h.one (by simp [mdo,nextI,overI])
theorem go9 {p:Nat} {q a b:Int} {st vs cs:List Int} {ps:List (Int × Int)} (h:AtR l p q [⟨9,a,b⟩]):Rch l is ⟨p,st,vs,cs,ps⟩ ⟨p+1,st++[is.getD a.toNat 0],vs,cs,ps⟩ :=
 Rch.one (x:=⟨9,a,b⟩) h.one (by simp [mdo,nextI,overI])
theorem go3 {p:Nat} {q a b z:Int} {st vs cs:List Int} {ps:List (Int × Int)} (h:AtR l p q [⟨3,a,b⟩]):Rch l is ⟨p,st++[z],vs,cs,ps⟩ ⟨p+1,st,vs.set a.toNat z,cs,ps⟩ :=
 Rch.one (x:=⟨3,a,b⟩) h.one (by simp [mdo,nextI,overI,MS.top])
theorem go10 {p:Nat} {q a b z:Int} {st vs cs:List Int} {ps:List (Int × Int)} (h:AtR l p q [⟨10,a,b⟩]):Rch l is ⟨p,st++[z],vs,cs,ps⟩ ⟨p+1,st,vs,cs,ps++[(a,z)]⟩ :=
 Rch.one (x:=⟨10,a,b⟩) h.one (by simp [mdo,nextI,overI,MS.top])
theorem goBin {p:Nat} {q o a b x y:Int} {st vs cs:List Int} {ps:List (Int × Int)} (ho:4≤o∧o≤8) (h:AtR l p q [⟨o,a,b⟩]):Rch l is ⟨p,st++[x,y],vs,cs,ps⟩ ⟨p+1,st++[binI o x y],vs,cs,ps⟩:=by
 have ho':o=4∨o=5∨o=6∨o=7∨o=8:=by omega
 rw [← app_two]
 rcases ho' with rfl | rfl | rfl | rfl | rfl <;> exact Rch.one (x:=⟨_,a,b⟩) h.one (by simp [mdo,nextI,overI,MS.top,MS.second])
theorem go11 {p:Nat} {q a b:Int} {st vs cs:List Int} {ps:List (Int × Int)} (h:AtR l p q [⟨11,a,b⟩]):Rch l is ⟨p,st,vs,cs,ps⟩ ⟨(a+q).toNat,st,vs,cs,ps⟩ :=
 Rch.one (x:=⟨11,a+q,b⟩) h.one (by simp [mdo,nextI,overI])
theorem go12 {p:Nat} {q a b z:Int} {st vs cs:List Int} {ps:List (Int × Int)} (h:AtR l p q [⟨12,a,b⟩]):Rch l is ⟨p,st++[z],vs,cs,ps⟩ ⟨if z=0 then (a+q).toNat else p+1,st,vs,cs,ps⟩ :=
 Rch.one (x:=⟨12,a+q,b⟩) h.one (by simp [mdo,nextI,overI,MS.top])
theorem go13 {p:Nat} {q a b:Int} {st vs cs:List Int} {ps:List (Int × Int)} (h:AtR l p q [⟨13,a,b⟩]):Rch l is ⟨p,st,vs,cs,ps⟩ ⟨p+1,st,vs,cs.set a.toNat b,ps⟩ :=
 Rch.one (x:=⟨13,a,b⟩) h.one (by simp [mdo,nextI,overI])
theorem go15 {p:Nat} {q a b:Int} {st vs cs:List Int} {ps:List (Int × Int)} (h:AtR l p q [⟨15,a,b⟩]):Rch l is ⟨p,st,vs,cs,ps⟩ ⟨p+1,st,vs,cs.set a.toNat 0,ps⟩ :=
 Rch.one (x:=⟨15,a,b⟩) h.one (by simp [mdo,nextI,overI])
theorem go14 {p:Nat} {q a b z:Int} {st vs cs:List Int} {ps:List (Int × Int)} (h:AtR l p q [⟨14,a,b⟩]) (hz:cs.getD a.toNat 0=z):Rch l is ⟨p,st,vs,cs,ps⟩ ⟨if 0<z then (b+q).toNat else p+1,st,vs,cs.set a.toNat (if 0<z then z - 1 else 0),ps⟩:=by
 subst hz
 exact Rch.one (x:=⟨14,a,b+q⟩) h.one (by simp [mdo,nextI,overI])
theorem goNo {p:Nat} {q o a b:Int} {st vs cs:List Int} {ps:List (Int × Int)} (ho:o=16∨o=17∨o=18) (h:AtR l p q [⟨o,a,b⟩]):Rch l is ⟨p,st,vs,cs,ps⟩ ⟨p+1,st,vs,cs,ps⟩:=by
 rcases ho with rfl | rfl | rfl <;> exact Rch.one (x:=⟨_,a,b⟩) h.one (by simp [mdo,nextI,overI])
theorem Ex.vals_len (vs is:List Int):∀ a:List Ex,(Ex.vals vs is a).length=a.length
 | []=>rfl
 | _::r=>by simp [Ex.vals,Ex.vals_len vs is r]
mutual
theorem Ex.sim:∀ (e:Ex) (p:Nat) (q:Int) (st vs cs:List Int) (ps:List (Int × Int)),e.Ok→AtR l p q e.pc→Rch l is ⟨p,st,vs,cs,ps⟩ ⟨p+e.pc.length,st++[e.val vs is],vs,cs,ps⟩
 | .mk k n a,p,q,st,vs,cs,ps,hok,h=>by
  rw [Ex.Ok] at hok
  obtain ⟨hall,hk⟩:=hok
  rw [Ex.pc] at h ⊢
  rw [Ex.val]
  rcases hk with ⟨rfl,rfl⟩ | ⟨rfl,-,-,rfl⟩ | ⟨rfl,-,-,rfl⟩ | ⟨rfl,hl⟩ | ⟨hk,hl⟩
  ·simp only [true_or,if_true] at h ⊢
   simpa [opVal] using go1 l is h
  ·simp only [or_true,if_true] at h ⊢
   simpa [opVal] using go2 l is h
  ·simp only [show ¬ ((3:Int)=1∨(3:Int)=2) by decide,if_true,if_false] at h ⊢
   simpa [opVal] using go9 l is h
  ·simp only [show ¬ ((4:Int)=1∨(4:Int)=2) by decide,show ¬ ((4:Int)=3) by decide,if_true,if_false] at h ⊢
   obtain ⟨h1,h2⟩:=h.app
   obtain ⟨h3,h4⟩:=AtR.app (C:=[⟨1,0,0⟩]) h2
   obtain ⟨h5,h6⟩:=AtR.app (C:=[⟨1,1,0⟩]) h4
   obtain ⟨h7,h8⟩:=AtR.app (C:=[⟨5,0,0⟩]) h6
   have r1:=Ex.simAll a p q st vs cs ps hall h1
   have hv:=Ex.vals_len vs is a
   rw [hl] at hv
   obtain ⟨x,hx⟩:∃ x,Ex.vals vs is a=[x]:=by
    match hh:Ex.vals vs is a,hv with
    | [x],_=>exact ⟨x,rfl⟩
   rw [hx] at r1 ⊢
   have r2:=go1 l is (st:=st++[x]) (vs:=vs) (cs:=cs) (ps:=ps) h3
   have r3:=go1 l is (st:=st++[x]++[0]) (vs:=vs) (cs:=cs) (ps:=ps) h5
   rw [app_two (st:=st++[x])] at r3
   have r4:=goBin l is (st:=st++[x]) (x:=0) (y:=1) (vs:=vs) (cs:=cs) (ps:=ps) (by decide) h7
   rw [app_two] at r4
   have r5:=goBin l is (st:=st) (x:=x) (y:=binI 5 0 1) (vs:=vs) (cs:=cs) (ps:=ps) (by decide) h8
   have hb:binI 6 x (binI 5 0 1)=opVal 4 n vs is [x]:=by
    simp [binI,opVal,wr]
    rw [show wrap64 (-1)=-1 by decide +kernel]
    congr 1
    omega
   rw [hb] at r5
   have:=r1.trans (r2.trans (r3.trans (r4.trans r5)))
   simpa [Nat.add_assoc] using this
  ·have hk':¬ (k=1∨k=2)∧¬ k=3∧¬ k=4∧(4≤k - 1∧k - 1≤8):=by omega
   simp only [hk'.1,hk'.2.1,hk'.2.2.1,if_false] at h ⊢
   obtain ⟨h1,h2⟩:=h.app
   have r1:=Ex.simAll a p q st vs cs ps hall h1
   have hv:=Ex.vals_len vs is a
   rw [hl] at hv
   obtain ⟨x,y,hx⟩:∃ x y,Ex.vals vs is a=[x,y]:=by
    match hh:Ex.vals vs is a,hv with
    | [x,y],_=>exact ⟨x,y,rfl⟩
   rw [hx] at r1 ⊢
   have r2:=goBin l is (st:=st) (x:=x) (y:=y) (vs:=vs) (cs:=cs) (ps:=ps) hk'.2.2.2 h2
   have hb:binI (k - 1) x y=opVal k n vs is [x,y]:=by
    rcases hk with rfl | rfl | rfl <;> simp [binI,opVal,wr]
   rw [hb] at r2
   simpa [Nat.add_assoc] using r1.trans r2
theorem Ex.simAll:∀ (a:List Ex) (p:Nat) (q:Int) (st vs cs:List Int) (ps:List (Int × Int)),Ex.OkAll a→AtR l p q (Ex.pcAll a)→Rch l is ⟨p,st,vs,cs,ps⟩ ⟨p+(Ex.pcAll a).length,st++Ex.vals vs is a,vs,cs,ps⟩
 | [],p,q,st,vs,cs,ps,_,_=>by simpa [Ex.pcAll,Ex.vals] using Rch.refl _
 | e::r,p,q,st,vs,cs,ps,hok,h=>by
  rw [Ex.OkAll] at hok
  rw [Ex.pcAll] at h ⊢
  obtain ⟨h1,h2⟩:=h.app
  have r1:=Ex.sim e p q st vs cs ps hok.1 h1
  have r2:=Ex.simAll r (p+e.pc.length) q (st++[e.val vs is]) vs cs ps hok.2 h2
  rw [Ex.vals]
  simpa [Nat.add_assoc] using r1.trans r2
end
theorem cd_sim (ck:Int) (ca cb:Ex) (hck:1≤ck∧ck≤4) (ha:ca.Ok) (hb:cb.Ok) (p:Nat) (q:Int) (st vs cs:List Int) (ps:List (Int × Int)) (h:AtR l p q (cdP ck ca cb)) :
  Rch l is ⟨p,st,vs,cs,ps⟩ ⟨p+(cdP ck ca cb).length,st++[if condVal ck (ca.val vs is) (cb.val vs is)=true then 1 else 0],vs,cs,ps⟩:=by
 unfold cdP at h ⊢
 obtain ⟨h1,h4⟩:=h.app
 obtain ⟨h1,h3⟩:=h1.app
 obtain ⟨h1,h2⟩:=h1.app
 have r1:=Ex.sim l is ca p q st vs cs ps ha h1
 have r2:=Ex.sim l is cb _ q (st++[ca.val vs is]) vs cs ps hb h2
 rw [app_two] at r2
 rw [List.length_append] at h3
 generalize ca.val vs is=x at *
 generalize cb.val vs is=y at *
 have r3:=goBin l is (st:=st) (x:=x) (y:=y) (vs:=vs) (cs:=cs) (ps:=ps) (by split <;> decide) h3
 have hck':ck=1∨ck=2∨ck=3∨ck=4:=by omega
 by_cases h3k:3≤ck
 ·rw [if_pos h3k] at h4 ⊢
  obtain ⟨h5,h6⟩:=AtR.app (C:=[⟨1,0,0⟩]) h4
  have r4:=go1 l is (st:=st++[binI (if ck=2∨ck=3 then 8 else 7) x y]) (vs:=vs) (cs:=cs) (ps:=ps) h5
  rw [app_two] at r4
  have r5:=goBin l is (st:=st) (x:=binI (if ck=2∨ck=3 then 8 else 7) x y) (y:=0) (vs:=vs) (cs:=cs) (ps:=ps) (by decide) h6
  have hv:binI 8 (binI (if ck=2∨ck=3 then 8 else 7) x y) 0=if condVal ck x y=true then 1 else 0:=by
   rcases hck' with rfl | rfl | rfl | rfl
   ·omega
   ·omega
   ·by_cases e:x=y <;> simp [binI,condVal,e]
   ·by_cases e:x<y
    ·have:¬ y≤x:=by omega
     simp [binI,condVal,e,this]
    ·have:y≤x:=by omega
     simp [binI,condVal,e,this]
  rw [hv] at r5
  simp only [List.length_append,List.length_cons,List.length_nil] at r3 r4 r5 ⊢
  simpa [Nat.add_assoc] using r1.trans (r2.trans (by simpa [Nat.add_assoc] using r3.trans (by simpa [Nat.add_assoc] using r4.trans (by simpa [Nat.add_assoc] using r5))))
 ·rw [if_neg h3k]
  have hv:binI (if ck=2∨ck=3 then 8 else 7) x y=if condVal ck x y=true then 1 else 0:=by
   rcases hck' with rfl | rfl | rfl | rfl
   ·by_cases e:x<y <;> simp [binI,condVal,e]
   ·by_cases e:x=y <;> simp [binI,condVal,e]
   ·omega
   ·omega
  rw [hv] at r3
  simpa [Nat.add_assoc] using r1.trans (r2.trans (by simpa [Nat.add_assoc] using r3))
end
mutual
def St.lpd:St→Nat
 | .mk k _ _ _ _ _ y l=>if k=4∨k=5 then St.lpdAll y+1 else max (St.lpdAll y) (St.lpdAll l)
def St.lpdAll:List St→Nat
 | []=>0
 | s::r=>max s.lpd (St.lpdAll r)
end
structure Stands (s:MS) (p:Nat) (st:List Int) (m:Ms):Prop where
 pc:s.pc=p
 st:s.st=st
 vs:s.vs=m.vars
 ps:s.ps=m.puts
 cs:s.cs.length=8
def Comes (l:List Io) (is:List Int) (i:Nat) (s:MS) (p:Nat) (st:List Int) (m:Ms):Prop:=∃ s',Rch l is s s'∧Stands s' p st m∧∀ j,j<i→s'.cs.getD j 0=s.cs.getD j 0
theorem Comes.refl {l:List Io} {is:List Int} {i:Nat} {s:MS} {p:Nat} {st:List Int} {m:Ms} (h:Stands s p st m):Comes l is i s p st m:=⟨s,.refl s,h,fun _ _=>rfl⟩
theorem Comes.trans {l:List Io} {is:List Int} {i i':Nat} {s:MS} {p p':Nat} {st st':List Int} {m m':Ms} (h:Comes l is i' s p st m) (hi:i≤i') (h':∀ s1,Stands s1 p st m→(∀ j,j<i'→s1.cs.getD j 0=s.cs.getD j 0)→Comes l is i s1 p' st' m'):Comes l is i s p' st' m':=by
 obtain ⟨s1,r1,h1,k1⟩:=h
 obtain ⟨s2,r2,h2,k2⟩:=h' s1 h1 k1
 exact ⟨s2,r1.trans r2,h2,fun j hj=>(k2 j hj).trans (k1 j (by omega))⟩
theorem Comes.go {l:List Io} {is:List Int} {i:Nat} {p p':Nat} {st st' vs vs' cs:List Int} {ps ps':List (Int × Int)} {m':Ms} (r:Rch l is ⟨p,st,vs,cs,ps⟩ ⟨p',st',vs',cs,ps'⟩) (hv:vs'=m'.vars) (hp:ps'=m'.puts) (hc:cs.length=8):Comes l is i ⟨p,st,vs,cs,ps⟩ p' st' m' :=
 ⟨_,r,⟨rfl,rfl,hv,hp,hc⟩,fun _ _=>rfl⟩
section
variable (l:List Io) (is:List Int)
theorem set_other {cs:List Int} {i j:Nat} {z:Int} (h:j≠i):(cs.set i z).getD j 0=cs.getD j 0:=by
 simp only [List.getD_eq_getElem?_getD,List.getElem?_set_ne (Ne.symm h)]
theorem set_same {cs:List Int} {i:Nat} {z:Int} (h:i<cs.length):(cs.set i z).getD i 0=z:=by
 simp [List.getD_eq_getElem?_getD,h]
theorem rounds (i:Nat) (hi:i<8) (p e:Nat) (st:List Int) (c:Ms→Bool) (f:Ms→Ms × Option Nat) (h14:AtR l e (p:Int) [⟨14,i,1⟩])
  (hround:∀ (m m':Ms) (s:MS),(if c m=true then f m else (m,none))=(m',none)→Stands s (p+1) st m→∃ s',Rch l is s s'∧Stands s' e st m'∧(∀ j,j<i→s'.cs.getD j 0=s.cs.getD j 0)∧s'.cs.getD i 0=(if c m=true then s.cs.getD i 0 else 0)) :
  ∀ (k:Nat) (m m':Ms) (s:MS),again c f (k+1) m=(m',none)→Stands s (p+1) st m→s.cs.getD i 0=k→Comes l is i s (e+1) st m'
 | k,m,m',s,hr,hs,hk=>by
  rw [again] at hr
  by_cases hc:c m=true
  ·rw [if_pos hc] at hr
   rcases hf:f m with ⟨m1,_ | z⟩
   ·rw [hf] at hr
    obtain ⟨s1,r1,h1,k1,c1⟩:=hround m m1 s (by rw [if_pos hc];exact hf) hs
    rw [if_pos hc,hk] at c1
    obtain ⟨pc1,st1,vs1,cs1,ps1⟩:=s1
    obtain ⟨g1,g2,g3,g4,g5⟩:=h1
    simp only at g1 g2 g3 g4 g5 k1 c1
    subst g1 g2
    have r2:=go14 l is (p:=pc1) (st:=st1) (vs:=vs1) (cs:=cs1) (ps:=ps1) h14 (by simpa using c1)
    cases k with
    | zero =>
     have hm:m1=m':=by simpa [again] using hr
     subst hm
     rw [if_neg (by omega),if_neg (by omega)] at r2
     refine ⟨_,r1.trans r2,⟨rfl,rfl,g3,g4,by simpa using g5⟩,fun j hj=>?_⟩
     show (cs1.set _ _).getD j 0=_
     rw [set_other (by omega)]
     exact k1 j hj
    | succ k =>
     rw [if_pos (by omega),if_pos (by omega),show (1+(p:Int)).toNat=p+1 by omega] at r2
     obtain ⟨s3,r3,h3,k3⟩:=rounds i hi p pc1 st1 c f h14 hround k m1 m' ⟨p+1,st1,vs1,cs1.set ((i:Int)).toNat (((k+1:Nat):Int) - 1),ps1⟩ hr ⟨rfl,rfl,g3,g4,by simpa using g5⟩ (by
      show (cs1.set _ _).getD i 0=_
      rw [show ((i:Int)).toNat=i by omega,set_same (by omega)]
      omega)
     refine ⟨s3,r1.trans (r2.trans r3),h3,fun j hj=>(k3 j hj).trans ?_⟩
     show (cs1.set _ _).getD j 0=_
     rw [set_other (by omega)]
     exact k1 j hj
   ·rw [hf] at hr
    simp at hr
  ·rw [if_neg hc] at hr
   have hm:m=m':=by simpa using hr
   subst hm
   obtain ⟨s1,r1,h1,k1,c1⟩:=hround m m s (by rw [if_neg hc]) hs
   rw [if_neg hc] at c1
   obtain ⟨pc1,st1,vs1,cs1,ps1⟩:=s1
   obtain ⟨g1,g2,g3,g4,g5⟩:=h1
   simp only at g1 g2 g3 g4 g5 k1 c1
   subst g1 g2
   have r2:=go14 l is (p:=pc1) (st:=st1) (vs:=vs1) (cs:=cs1) (ps:=ps1) h14 (by simpa using c1)
   rw [if_neg (by omega),if_neg (by omega)] at r2
   refine ⟨_,r1.trans r2,⟨rfl,rfl,g3,g4,by simpa using g5⟩,fun j hj=>?_⟩
   show (cs1.set _ _).getD j 0=_
   rw [set_other (by omega)]
   exact k1 j hj
end
end Go.Proofs.YtnkgbkkakokciacDoor.B
