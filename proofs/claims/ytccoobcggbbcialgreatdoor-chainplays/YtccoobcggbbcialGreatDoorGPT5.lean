import Derived.Test.YtccoobcggbbcialGreatDoorGSS5
import Derived.Test.YtccoobcggbbcialGreatDoorGKC1
import Derived.Test.YtccoobcggbbcialGreatDoorGPT3
namespace Go.Proofs.YtccoobcggbbcialGreatDoor.Stab
open Go.ChangeShapes Go.WideShapes Go.ChangeAt Go.RowKit
open Go.Sort (swp swp_get swp_size SWO SWO.asymmA PermIn permIn_refl permIn_trans permIn_mono permIn_all swp_permIn)
structure LA (l:List Co) (g:Nat) (W0 W:World) (bs n a:Nat) (d0 d d1:Array Nat):Prop where
  sd:SD l g W0 W d1
  mod:a % bs=0
  le:a≤n
  srt:SBk (ltC l) bs a d1
  same:∀p,a≤p→d1[p]! =d[p]!
  bk:Bk bs n d1
  prm:PermIn 0 n d0 d1
theorem LA.size{l:List Co}{g:Nat}{W0 W:World}{bs n a:Nat}{d0 d d1:Array Nat}(h:LA l g W0 W bs n a d0 d d1):d1.size=d0.size:=h.prm.1
theorem LA.step{l:List Co}{g:Nat}{W0 W W':World}{bs n a b:Nat}{d0 d d1 d2:Array Nat}(h:LA l g W0 W bs n a d0 d d1)(h0:0<bs)(hb:b=a+bs)(hbn:b≤n)(hn:n≤d0.size)(hd:SD l g W0 W' d2)(hA:Asc (ltC l) id a b d2)(hP:PermIn a b d1 d2):LA l g W0 W' bs n b d0 d d2:=by
  subst hb
  exact⟨hd,blk_next h.mod,hbn,grow_sorted h0 h.mod h.srt hP hA,fun p hp=>(hP.2.1 p (.inr hp)).trans (h.same p (by omega)),bk_perm h.bk hP hbn (by rw[h.size];exact hn) (fun p h1 h2=>blk_eq h0 h.mod h1 h2),permIn_trans _ _ _ _ _ h.prm (permIn_mono _ _ _ _ _ _ (Nat.zero_le _) hbn (by rw[h.size];exact hn) hP)⟩
structure LB (l:List Co) (g:Nat) (W0 W:World) (bs n:Nat) (d0 d1:Array Nat):Prop where
  sd:SD l g W0 W d1
  srt:SBk (ltC l) bs n d1
  bk:Bk bs n d1
  prm:PermIn 0 n d0 d1
theorem LA.last{l:List Co}{g:Nat}{W0 W W':World}{bs n a:Nat}{d0 d d1 d2:Array Nat}(h:LA l g W0 W bs n a d0 d d1)(h0:0<bs)(hbn:n<a+bs)(hn:n≤d0.size)(hd:SD l g W0 W' d2)(hA:Asc (ltC l) id a n d2)(hP:PermIn a n d1 d2):LB l g W0 W' bs n d0 d2 :=
  ⟨hd,grow_sorted h0 h.mod h.srt hP hA,bk_perm h.bk hP (Nat.le_refl _) (by rw[h.size];exact hn) (fun p h1 h2=>blk_eq h0 h.mod h1 (by omega)),permIn_trans _ _ _ _ _ h.prm (permIn_mono _ _ _ _ _ _ (Nat.zero_le _) (Nat.le_refl _) (by rw[h.size];exact hn) hP)⟩
theorem LB.start{l:List Co}{g:Nat}{W0 W:World}{bs n:Nat}{d0 d1:Array Nat}(h:LB l g W0 W bs n d0 d1):LA l g W0 W (2*bs) n 0 d0 d1 d1 :=
  ⟨h.sd,Nat.zero_mod _,Nat.zero_le _,fun p q _ h2=>by omega,fun p _=>rfl,bk_double h.bk,h.prm⟩
theorem LA.two{l:List Co}{g:Nat}{W0 W1 W:World}{bs n a m b:Nat}{d0 d1 d2:Array Nat}(h:LA l g W0 W (2*bs) n a d0 d1 d2)(hB:LB l g W0 W1 bs n d0 d1)(h0:0<bs)(hm:m=a+bs)(hmb:m≤b)(hbm:b≤m+bs)(hb:b≤n):Asc (ltC l) id a m d2∧Asc (ltC l) id m b d2∧Cross id a m b d2:=by
  subst hm
  have hs:=h.same
  have ha:=blk_half h.mod
  refine⟨fun p q h1 h2 h3=>?_,fun p q h1 h2 h3=>?_,fun p q h1 h2 h3 h4=>?_⟩
  · rw[hs p h1,hs q (by omega)]
    exact sbk_asc h0 hB.srt ha (Nat.le_refl _) (by omega) p q h1 h2 h3
  · rw[hs p (by omega),hs q (by omega)]
    exact sbk_asc h0 hB.srt (blk_next ha) hbm hb p q h1 h2 h3
  · rw[hs p h1,hs q (by omega)]
    exact bk_cross (a:=a) h0 hB.bk (blk_next ha) hb p q h1 h2 h3 h4
set_option maxRecDepth 20000 in
set_option maxHeartbeats 8000000 in
theorem stable_full{l:List Co}{v:Value}{bS g:Nat}{W0 W:World}{d:Array Nat}(hC:SC l v bS g W0)(h:SD l g W0 W d)(n:Nat)(hn:n=d.size)(hs:n≤4000000)(hid:∀p,p<n→d[p]! =p) :
    Calls Tryz.prog 150 #[.slice (some ⟨g,0,none⟩) n n,.int .i64 (n:Int),(.func (Fn.func 98) #[] #[.pointer (some ⟨bS,0,none⟩)])] W fun r W'=>r = .returned (.tuple #[])∧∃d',SD l g W0 W' d'∧Asc (ltC l) id 0 n d'∧PermIn 0 n d d':=by
  have HN:Hid (n=d.size∧n≤4000000∧∀p,p<n→d[p]! =p):=⟨hn,hs,hid⟩
  have H0:Hid (LA l g W0 W 20 n 0 d d d):=⟨h,rfl,Nat.zero_le _,fun p q _ h2=>by omega,fun p _=>rfl,fun p hp=>by rw[hid p hp],permIn_refl _ _ _⟩
  clear h hn hid
  go_enter Tryz.func150,Tryz.ntmps150
  go_wp2_with fail
  go_loopw [7,8] (fun av bv wr=>∃(a b:Nat) (d1:Array Nat),b=a+20∧av = .int .i64 (a:Int)∧bv = .int .i64 (b:Int)∧Hid (LA l g W0 wr 20 n a d d d1)) (fun av _ _=>n+20-(intOf av).toNat)
  case atStart=>exact⟨0,20,d,rfl,rfl,rfl,H0⟩
  case round =>
    obtain⟨a,b,d1,hab,rfl,rfl,HL⟩:=hrel
    clear H0
    have hln:=HL.out.le
    have hz:d1.size=n:=by rw[HL.out.size];exact HN.out.1.symm
    by_cases hlt:b≤n
    · have HI:=ins_any hC HL.out.sd a b (by omega) (by omega) (by omega) (fun p q h1 h2 h3=>by
        rw[HL.out.same p h1,HL.out.same q (by omega),HN.out.2.2 p (by omega),HN.out.2.2 q (by omega)]
        exact h2)
      rw[hz]at HI
      obtain⟨c,hc⟩:∃c,c=b+20:=⟨_,rfl⟩
      have e0:(b:Int)+20=(c:Int):=by omega
      have e1:IntKind.i64.wrap (c:Int)=(c:Int):=wrap_nat (by omega)
      have e2:(b:Int)≤(n:Int):=by omega
      have HP:Hid (b=a+20∧c=b+20∧b≤n):=⟨hab,hc,hlt⟩
      clear hab hc hlt hln hz
      go_wp2_with (go_at_call 217;refine HI.mono ?_;rintro r w5 ⟨rfl,d2,h5,h6,h7⟩;have H5:Hid (LA l g W0 w5 20 n b d d d2):=HL.out.step (by omega) HP.out.1 HP.out.2.2 (by have:=HN.out;omega) h5 h6 h7;clear h5 h6 h7 HI)
      exact⟨⟨b,c,d2,HP.out.2.1,by simp,by simp,H5⟩,by have:=HP.out;simp[intOf];omega⟩
    · have HI:=ins_any hC HL.out.sd a n (by omega) (by omega) (by omega) (fun p q h1 h2 h3=>by
        rw[HL.out.same p h1,HL.out.same q (by omega),HN.out.2.2 p (by omega),HN.out.2.2 q (by omega)]
        exact h2)
      rw[hz]at HI
      have e2:¬ (b:Int)≤(n:Int):=by omega
      have HP:Hid (n<a+20):=by(have:n<a+20:=(by omega);exact this)
      clear hab hlt hln hz
      go_wp2_with (go_at_call 217;refine HI.mono ?_;rintro r w5 ⟨rfl,d2,h5,h6,h7⟩;have H5:Hid (LB l g W0 w5 20 n d d2):=HL.out.last (by omega) HP.out (by have:=HN.out;omega) h5 h6 h7;clear h5 h6 h7 HI)
      go_loopw [6] (fun sv wr=>∃(bs:Nat) (d3:Array Nat),20≤bs∧bs≤8000000∧sv = .int .i64 (bs:Int)∧Hid (LB l g W0 wr bs n d d3)) (fun sv _=>n-(intOf sv).toNat)
      case atStart=>exact⟨20,d2,Nat.le_refl _,by omega,rfl,H5⟩
      case round =>
        obtain⟨bs,d3,h20,hbs,rfl,HM⟩:=hrel
        generalize wr=wR at *
        clear H5 HL
        by_cases hlt:bs<n
        rotate_left 1
        · have e2:¬ (bs:Int)<(n:Int):=by omega
          have HQ:Hid (Asc (ltC l) id 0 n d3):=sbk_asc (by omega) HM.out.srt (Nat.zero_mod _) (by omega) (Nat.le_refl _)
          clear hlt
          go_wp2_with fail
          go_end0
          exact⟨rfl,d3,HM.out.sd,HQ.out,HM.out.prm⟩
        · obtain⟨b2,hb2⟩:∃b2,b2=2*bs:=⟨_,rfl⟩
          have e0:2*(bs:Int)=(b2:Int):=by omega
          have e1:IntKind.i64.wrap (b2:Int)=(b2:Int):=wrap_nat (by omega)
          have e2:(bs:Int)<(n:Int):=by omega
          have e3:(bs:Int)*2=(b2:Int):=by omega
          have HS:Hid (b2=2*bs∧20≤bs∧bs<n):=⟨hb2,h20,hlt⟩
          have HA0:Hid (LA l g W0 wR b2 n 0 d d3 d3):=by rw[hb2];exact HM.out.start
          clear hb2 h20 hbs hlt
          go_wp2_with fail
          go_loopw [7,8] (fun av bv wr=>∃(a b:Nat) (d4:Array Nat),b=a+b2∧av = .int .i64 (a:Int)∧bv = .int .i64 (b:Int)∧Hid (LA l g W0 wr b2 n a d d3 d4)) (fun av _ _=>n+b2-(intOf av).toNat)
          case atStart=>exact⟨0,b2,d3,by omega,rfl,rfl,HA0⟩
          case round =>
            obtain⟨a,b,d4,hab,rfl,rfl,HL⟩:=hrel
            generalize wr=wS at *
            clear HA0
            have hln:=HL.out.le
            have hnn:=HN.out
            have hss:=HS.out
            have hz:d4.size=n:=by rw[HL.out.size];exact hnn.1.symm
            obtain⟨m,hm⟩:∃m,m=a+bs:=⟨_,rfl⟩
            have y0:(a:Int)+(bs:Int)=(m:Int):=by omega
            have y1:IntKind.i64.wrap (m:Int)=(m:Int):=wrap_nat (by omega)
            by_cases hlt:b≤n
            · have HT:=HL.out
              rw[hss.1]at HT
              obtain⟨t1,t2,t3⟩:=HT.two HM.out (m:=m) (b:=b) (by omega) hm (by omega) (by omega) hlt
              have HI:=sym_any hC (b-a) wS d4 a m b (Nat.le_refl _) HT.sd (by omega) (by omega) (by omega) (by omega) t1 t2 t3
              rw[hz]at HI
              obtain⟨c,hc⟩:∃c,c=b+b2:=⟨_,rfl⟩
              have y2:(b:Int)+(b2:Int)=(c:Int):=by omega
              have y3:IntKind.i64.wrap (c:Int)=(c:Int):=wrap_nat (by omega)
              have y4:(b:Int)≤(n:Int):=by omega
              have HP:Hid (b=a+b2∧c=b+b2∧b≤n):=⟨hab,hc,hlt⟩
              clear hab hc hlt hln hz hnn hss hm HT t1 t2 t3
              go_wp2_with (go_at_call 218;refine HI.mono ?_;rintro r w5 ⟨rfl,d5,h5,h6,h7⟩;have H5:Hid (LA l g W0 w5 b2 n b d d3 d5):=HL.out.step (by have:=HS.out;omega) HP.out.1 HP.out.2.2 (by have:=HN.out;omega) h5 h6 h7;clear h5 h6 h7 HI)
              exact⟨⟨b,c,d5,HP.out.2.1,by simp,by simp,H5⟩,by have:=HP.out;have:=HS.out;simp[intOf];omega⟩
            · have y4:¬ (b:Int)≤(n:Int):=by omega
              have HP:Hid (n<a+b2∧20≤b2∧b2≤8000000∧n-b2<n-bs):=⟨by omega,by omega,by omega,by omega⟩
              by_cases hmn:m<n
              · have HT:=HL.out
                rw[hss.1]at HT
                obtain⟨t1,t2,t3⟩:=HT.two HM.out (m:=m) (b:=n) (by omega) hm (by omega) (by omega) (Nat.le_refl _)
                have HI:=sym_any hC (n-a) wS d4 a m n (Nat.le_refl _) HT.sd (by omega) (by omega) (by omega) (by omega) t1 t2 t3
                rw[hz]at HI
                have y5:(m:Int)<(n:Int):=by omega
                clear hab hlt hln hz hnn hss hm HT t1 t2 t3 hmn
                go_wp2_with (go_at_call 218;refine HI.mono ?_;rintro r w5 ⟨rfl,d5,h5,h6,h7⟩;have H5:Hid (LB l g W0 w5 b2 n d d5):=HL.out.last (by have:=HS.out;omega) HP.out.1 (by have:=HN.out;omega) h5 h6 h7;clear h5 h6 h7 HI)
                exact⟨⟨b2,d5,HP.out.2.1,HP.out.2.2.1,by simp,H5⟩,by have:=HP.out;simp[intOf];omega⟩
              · have y5:¬ (m:Int)<(n:Int):=by omega
                have H5:Hid (LB l g W0 wS b2 n d d4):=by
                  have HT:=HL.out
                  rw[hss.1]at HT
                  refine HL.out.last (by omega) HP.out.1 (by omega) HL.out.sd (fun p q h1 h2 h3=>?_) (permIn_refl _ _ _)
                  rw[HL.out.same p h1,HL.out.same q (by omega)]
                  exact sbk_asc (by omega) HM.out.srt (blk_half HT.mod) (by omega) (Nat.le_refl _) p q h1 h2 h3
                clear hab hlt hln hz hnn hss hm hmn
                go_wp2_with fail
                exact⟨⟨b2,d4,HP.out.2.1,HP.out.2.2.1,by simp,H5⟩,by have:=HP.out;simp[intOf];omega⟩
end Go.Proofs.YtccoobcggbbcialGreatDoor.Stab
namespace Go.Proofs.YtccoobcggbbcialGreatDoor
open Go.ChangeShapes Go.WideShapes Go.ChangeAt Go.RowKit
open Stab
open Go.Sort (PermIn)
def leC(l:List Co)(x y:Nat):Bool:=decide ((Ck l x).a<(Ck l y).a∨((Ck l x).a=(Ck l y).a∧x≤y))
def ordF(l:List Co):List Nat:=(List.range l.length).mergeSort (leC l)
theorem leC_trans(l:List Co)(a b c:Nat)(h1:leC l a b=true)(h2:leC l b c=true):leC l a c=true:=by
 unfold leC at *
 simp only[decide_eq_true_eq]at *
 omega
theorem leC_total(l:List Co)(a b:Nat):(leC l a b || leC l b a)=true:=by
 unfold leC
 simp only[Bool.or_eq_true,decide_eq_true_eq]
 omega
theorem ordF_perm(l:List Co):(ordF l).Perm (List.range l.length):=List.mergeSort_perm _ _
theorem ordF_sorted(l:List Co):(ordF l).Pairwise (fun a b=>leC l a b=true):=List.pairwise_mergeSort (leC_trans l) (leC_total l) _
theorem ordF_len(l:List Co):(ordF l).length=l.length:=by rw[(ordF_perm l).length_eq];simp
theorem ordF_mem(l:List Co):∀k∈ordF l,k<l.length:=fun k hk=>by
 have:=(ordF_perm l).mem_iff.1 hk
 simpa using this
theorem ordF_one{l:List Co}{n:Nat}{d d':Array Nat}(hn:n=d.size)(hl:n=l.length)(hid:∀p,p<n→d[p]! =p)(hA:Asc (ltC l) id 0 n d')(hP:PermIn 0 n d d'):d'.toList=ordF l:=by
 have hz:d'.size=n:=hP.1.trans hn.symm
 have e1:d.toList=List.range l.length:=by
  apply List.ext_getElem
  ·simp;omega
  ·intro k h1 h2
   have hk:k<d.size:=by simpa using h1
   rw[Array.getElem_toList,List.getElem_range]
   have:=hid k (by omega)
   rw[getElem!_pos d k hk]at this
   exact this
 have hp:d'.toList.Perm d.toList:=by
  have:=hP.2.2
  rwa[show d'.extract 0 n=d' by rw[← hz];exact Array.extract_size,show d.extract 0 n=d by rw[hn];exact Array.extract_size]at this
 refine List.Perm.eq_of_pairwise (le:=fun a b=>leC l a b=true) (fun a b _ _ h1 h2=>?_) ?_ (ordF_sorted l) ((hp.trans (e1 ▸ List.Perm.refl _)).trans (ordF_perm l).symm)
 ·unfold leC at h1 h2
  simp only[decide_eq_true_eq]at h1 h2
  omega
 ·rw[List.pairwise_iff_getElem]
  intro i j hi hj hij
  have hi':i<d'.size:=by simpa using hi
  have hj':j<d'.size:=by simpa using hj
  have h9:=hA i j (Nat.zero_le _) hij (by omega)
  rw[getElem!_pos d' i hi',getElem!_pos d' j hj']at h9
  rw[Array.getElem_toList,Array.getElem_toList]
  unfold leC
  unfold Bef ltC at h9
  simp only[decide_eq_true_eq,decide_eq_false_iff_not,id]at h9 ⊢
  omega
set_option maxRecDepth 20000 in
theorem sortC_any{l:List Co}{v:Value}{bS g:Nat}{W:World}{d:Array Nat}(hC:SC l v bS g W)(h:SD l g W W d)(n:Nat)(hn:n=d.size)(hl:n=l.length)(hs:n≤4000000)(hid:∀p,p<n→d[p]! =p) :
  Calls Tryz.prog 97 #[.slice (some ⟨g,0,none⟩) n n,.func (Fn.func 98) #[] #[.pointer (some ⟨bS,0,none⟩)]] W fun r W'=>r = .returned (.tuple #[])∧NumB W' g ((ordF l).map fun k:Nat=>(k:Int))∧Below g W W':=by
 have HI:=stable_full hC h n hn hs hid
 have HO:Hid (∀W' d',SD l g W W' d'∧Asc (ltC l) id 0 n d'∧PermIn 0 n d d'→NumB W' g ((ordF l).map fun k:Nat=>(k:Int))∧Below g W W'):=fun W' d' ⟨h1,h2,h3⟩=>by
  refine⟨?_,h1.bel⟩
  have h9:=h1.dat
  have h8:=ordF_one hn hl hid h2 h3
  unfold NumB
  rw[h9,← h8,List.map_map]
  congr 2
  apply Array.toList_inj.1
  simp[encN]
 clear hC h hn hl hs hid
 go_enter Tryz.func97,Tryz.ntmps97
 go_wp2_with (go_at_call 150;refine HI.mono ?_;rintro r w5 ⟨rfl,d5,h5⟩;have H5:Hid (NumB w5 g ((ordF l).map fun k:Nat=>(k:Int))∧Below g W w5):=HO.out w5 d5 h5;clear h5 HI)
 go_end0
 exact⟨rfl,H5.out⟩
set_option maxRecDepth 20000 in
set_option maxHeartbeats 4000000 in
theorem inTime_full(w:World)(l:List Co)(cv:Value)(hv:RowSl Co.vals w l cv)(hs:l.length≤1000000):Calls Tryz.prog 56 #[cv] w (InTimePost w (ordF l)):=by
 obtain⟨ad,c,rfl⟩:=hv.len
 have HV:Hid (RowSl Co.vals w l (.slice ad l.length c)):=hv
 obtain⟨w1,hmk,hb1,hs1,hN1⟩:∃w1,(Instr.makeSlice 25 (.int .i64 (l.length:Int)) (.int .i64 (l.length:Int))).run Tryz.prog (w.alloc (.cells #[.slice ad l.length c] 24)) = .ok (.slice (some ⟨w.heap.size+1,0,none⟩) l.length l.length) w1∧Below w.heap.size w w1∧w1.heap[w.heap.size]?=some (.cells #[.slice ad l.length c] 24 (0,0))∧NumB w1 (w.heap.size+1) (fillR l.length 0):=by
  refine⟨_,make_row _ l.length (w.heap.size+1) hs (by simp),below_seq (below_new _ _) (below_new _ _),?_,?_⟩
  ·exact(Below.heap_alloc _ _ _ (by simp)).trans (heap_alloc_new _ _)
  ·unfold NumB fillR
   have:=heap_alloc_new (w.alloc (.cells #[.slice ad l.length c] 24)) (.cells (List.replicate l.length (Value.int .i64 0)).toArray 3)
   rw[show(w.alloc (.cells #[.slice ad l.length c] 24)).heap.size=w.heap.size+1 from by simp]at this
   rw[this]
   simp
 have H1:Hid (Below w.heap.size w w1∧w1.heap[w.heap.size]?=some (.cells #[.slice ad l.length c] 24 (0,0))∧NumB w1 (w.heap.size+1) (fillR l.length 0)):=⟨hb1,hs1,hN1⟩
 have HSZ:Hid (l.length≤1000000):=hs
 clear hv hb1 hs1 hN1
 go_enter Tryz.func56,Tryz.ntmps56
 go_wp2_with fail
 clear hmk
 go_loopw [10] (fun i wr=>∃j:Nat,j≤l.length∧i = .int .i64 j∧Below w.heap.size w wr∧wr.heap[w.heap.size]?=some (.cells #[.slice ad l.length c] 24 (0,0))∧NumB wr (w.heap.size+1) (fillR l.length j)) (fun i _=>l.length-(intOf i).toNat)
 case atStart=>exact⟨0,Nat.zero_le _,rfl,H1.out.1,H1.out.2.1,H1.out.2.2⟩
 case round =>
  obtain⟨j,hj,rfl,hg,hsb,hN⟩:=hrel
  have HG:Hid (Below w.heap.size w wr∧wr.heap[w.heap.size]?=some (.cells #[.slice ad l.length c] 24 (0,0))∧NumB wr (w.heap.size+1) (fillR l.length j)):=⟨hg,hsb,hN⟩
  by_cases hjl:j<l.length
  ·obtain⟨z,hz⟩:∃z,(fillR l.length j)[j]?=some z:=⟨_,List.getElem?_eq_getElem (by rw[fillR_len hj];exact hjl)⟩
   obtain⟨c0,c1⟩:=hN.cell hz
   have lg:=hN.lt
   have hji:(j:Int)<(l.length:Int):=by omega
   have HF:Hid ((fillR l.length j).set j (j:Int)=fillR l.length (j+1)):=fillR_set hjl
   clear hz hg hN hsb
   go_wp2_with fail
   refine⟨⟨j+1,by omega,by simp,HG.out.1.setCell (Nat.le_succ _) _,?_,?_⟩,by simp[intOf];omega⟩
   ·exact(Below.heap_setCell _ _ _ _ (by simp)).trans HG.out.2.1
   ·have e:=HG.out.2.2.put j (j:Int)
    rw[HF.out]at e
    exact e
  ·have hje:j=l.length:=by omega
   subst hje
   have hdat:NumB wr (w.heap.size+1) ((List.range l.length).map fun k:Nat=>(k:Int)):=by simpa[fillR] using hN
   have hC:SC l (.slice ad l.length c) w.heap.size (w.heap.size+1) wr:=by
    refine⟨HV.out.below hg,(cells_of (l:=[_]) hsb).1 0 _ rfl,Nat.lt_succ_self _,fun hne ad' c' e b o ead=>?_⟩
    obtain⟨ad2,c2,e2,h4,-,h5⟩:=HV.out
    injection e with e3
    injection e2 with e4
    subst e3 e4 ead
    rcases h5 with h5|⟨b',o',e6,h5⟩
    ·exact absurd h5 hne
    ·injection e6 with e6
     injection e6 with e6
     subst e6
     obtain⟨x,r,rfl⟩:=List.exists_cons_of_ne_nil hne
     have h8:b<w.heap.size:=World.block_lt_of_cell? _ _ (h5 0 (.int .i64 x.k) rfl)
     omega
   have hD:SD l (w.heap.size+1) wr wr (Array.range l.length):=by
    refine⟨Below.refl _ _,?_,fun k hk=>?_⟩
    ·unfold NumB at hdat
     rw[hdat,List.map_map]
     congr 2
     apply Array.toList_inj.1
     simp[encN]
    ·have hk':k<l.length:=by simpa using hk
     rw[getElem!_pos _ k hk,Array.getElem_range]
     exact hk'
   have HS:=sortC_any hC hD l.length (by simp) rfl (by have:=HSZ.out;omega) (fun p hp=>by rw[getElem!_pos _ p (by simpa using hp),Array.getElem_range])
   clear hg hN hsb hdat hC hD
   go_wp2_with (go_at_call 97;refine HS.mono ?_;rintro r w5 ⟨rfl,h5⟩;have H5:Hid (NumB w5 (w.heap.size+1) ((ordF l).map fun k:Nat=>(k:Int))∧Below (w.heap.size+1) wr w5):=h5;clear h5 HS)
   go_ret
   refine⟨w.heap.size+1,?_,by omega,?_,HG.out.1.trans (H5.out.2.mono (Nat.le_succ _))⟩
   ·rw[ordF_len]
    rfl
   ·have:=H5.out.1
    unfold NumB at this
    rw[this,List.map_map]
    rfl
end Go.Proofs.YtccoobcggbbcialGreatDoor
namespace Go.Proofs.YtccoobcggbbcialGreatDoor
open Go.ChangeShapes Go.WideShapes Go.ChangeAt Go.RowKit
namespace Keep
theorem firstM_spec:∀(ms:List (List Pc)) (k:Nat),(firstM ms k=-1∧∀u,ms.getD u []=[])∨∃u:Nat,firstM ms k=((k+u:Nat):Int)∧u<ms.length∧ms.getD u []≠[]∧∀v,v<u→ms.getD v []=[]
 | [],_=>.inl ⟨rfl,fun u=>rfl⟩
 | q::r,k=>by
  unfold firstM
  by_cases h:q≠[]
  ·rw[if_pos h]
   exact .inr ⟨0,rfl,by simp,h,fun v hv=>by omega⟩
  ·rw[if_neg h]
   have hq:q=[]:=by simpa using h
   rcases firstM_spec r (k+1) with ⟨g1,g2⟩|⟨u,g1,g2,g3,g4⟩
   ·refine .inl ⟨g1,fun u=>?_⟩
    cases u with
    | zero=>exact hq
    | succ u=>exact g2 u
   ·refine .inr ⟨u+1,by rw[g1,show k+1+u=k+(u+1) by omega],by simp;omega,g3,fun v hv=>?_⟩
    cases v with
    | zero=>exact hq
    | succ v=>exact g4 v (by omega)
def takeS:Option Th→List Th→Option Th × List Th
 | none,[]=>(none,[])
 | none,m::r=>(some m,r)
 | some x,ml=>(some x,ml)
theorem takeS_list(sent:Option Th)(mail:List Th):(takeS sent mail).1.toList++(takeS sent mail).2=sent.toList++mail:=by
 cases sent with
 | some x=>rfl
 | none=>cases mail<;>rfl
def decS:Option Th→Option Th
 | none=>none
 | some m=>if m.lf=1 then none else some { m with lf:=m.lf-1 }
section
variable {l:List Pa} {tk:List Int} {cs:List Co} {Cm:Nat→Prop} {now:Int} {F:Nat→Bool} {z:Int} {s s':Sc} {jobs mail:List Th} {sent:Option Th}
theorem sentZ_mk(hI:Iv l tk cs Cm now s){x:Th}(hk:x.pt<l.length)(hf:fnd (M s x.pt) x.cm=some ⟨x.cm,x.si,x.lf⟩)(hc:x.cm=runC (M s x.pt)):SentZ l s (x.pt:Int) (some x):=by
 have hne:M s x.pt≠[]:=fun e=>by rw[e]at hf;cases hf
 obtain⟨n,f,p,r,e1,e2,e3,-,-,e6,e7,-,e9,e10,-⟩:=hI.headM hk hne
 have hn:x.cm=n:=hc.trans e3
 subst hn
 rw[hf]at e10
 have hp:=Option.some.inj e10
 subst hp
 exact .inr ⟨x,rfl,rfl,hk,hc,e9,e6,hf,by dsimp only at e6 e7;omega⟩
theorem sent_step(hI:Iv l tk cs Cm now s)(hM:DM l s mail sent)(hs:mail.Pairwise (fun a b=>ahM a b=true)):SentZ l s (sentF s) (takeS sent mail).1:=by
 unfold sentF
 cases sent with
 | some x =>
  obtain⟨h1,h2⟩:=hM.so x rfl
  obtain⟨g1,g2⟩:=(hM.mem x).1 (by simp)
  rw[if_neg (by omega),h1]
  exact sentZ_mk hI g1 g2 h2.symm
 | none =>
  rw[if_pos (hM.no rfl)]
  have hmem:=hM.mem
  simp only[Option.toList_none,List.nil_append]at hmem
  rcases firstM_spec s.mail 0 with ⟨g1,g2⟩|⟨u,g1,g2,g3,g4⟩
  ·rw[g1]
   cases mail with
   | nil=>exact .inl ⟨rfl,rfl⟩
   | cons m r =>
    obtain⟨-,h2⟩:=(hmem m).1 List.mem_cons_self
    have e:M s m.pt=[]:=g2 m.pt
    rw[e]at h2
    cases h2
  ·rw[g1,Nat.zero_add]
   have hul:u<l.length:=by rw[← hI.lm];exact g2
   obtain⟨n,f,p,r,e1,e2,e3,-,-,-,-,e8,-,e10,-⟩:=hI.headM hul g3
   have hp:p=⟨n,p.si,p.lf⟩:=by cases p;dsimp only at e2;subst e2;rfl
   have hy:(⟨u,n,p.si,p.lf⟩:Th)∈mail:=(hmem _).2 ⟨hul,by dsimp only;rw[e10];exact congrArg some hp⟩
   cases mail with
   | nil=>cases hy
   | cons m ms =>
    obtain⟨h1,h2⟩:=(hmem m).1 List.mem_cons_self
    have hmn:M s m.pt≠[]:=fun e=>by rw[e]at h2;cases h2
    have hmu:u≤m.pt:=by
     rcases Nat.lt_or_ge m.pt u with g|g
     ·exact absurd (g4 _ g) hmn
     ·exact g
    have hm:m=⟨u,n,p.si,p.lf⟩:=by
     rcases List.mem_cons.1 hy with g|g
     ·exact g.symm
     ·have h3:=(List.pairwise_cons.1 hs).1 _ g
      rw[ahM_iff]at h3
      dsimp only at h3
      have hpt:m.pt=u:=by omega
      rw[hpt,e1]at h2
      rcases List.mem_cons.1 (fnd_some h2).1 with k|k
      ·obtain⟨a,b,c,d⟩:=m
       dsimp only at hpt k ⊢
       subst hpt
       have k1:=congrArg Pc.cm k
       have k2:=congrArg Pc.si k
       have k3:=congrArg Pc.lf k
       dsimp only at k1 k2 k3
       rw[k2,k3,show b=n by omega]
      ·have:=(e8 _ k).2
       dsimp only at this
       omega
    show SentZ l s (u:Int) (some m)
    rw[hm]
    rw[hm]at h2
    exact sentZ_mk (x:=⟨u,n,p.si,p.lf⟩) hI hul h2 e3.symm
theorem runC_runQ{q:List Pc}(h:¬ runD q=true):runQ q≠[]→runC (runQ q)=runC q:=by
 cases q with
 | nil=>intro _;rfl
 | cons p r =>
  intro _
  have h1:0<p.lf-1:=by
   unfold runD at h
   simpa using h
  rw[show runQ (p::r)={ p with lf:=p.lf-1 }::r from if_pos h1]
  rfl
theorem runQ_ne{q:List Pc}(h:¬ runD q=true)(hq:q≠[]):runQ q≠[]:=by
 cases q with
 | nil=>exact absurd rfl hq
 | cons p r =>
  have h1:0<p.lf-1:=by
   unfold runD at h
   simpa using h
  rw[show runQ (p::r)={ p with lf:=p.lf-1 }::r from if_pos h1]
  simp
theorem tick_DM(hT:Tc l tk cs Cm now F z s s')(hQ:QZ l s now)(hJ:DJ l s jobs)(hz:SentZ l s z sent)(hnd:(sent.toList++mail).Pairwise (fun a b=>¬ Ke a b))(hmem:∀x:Th,x∈sent.toList++mail↔x.pt<l.length∧fnd (M s x.pt) x.cm=some ⟨x.cm,x.si,x.lf⟩) :
  DM l s' (mail++(jobs.filter (dnF (ranX s F))).flatMap (fun j=>hangM l j.pt j.cm (now+1) l.length)) (decS sent):=by
 have hhm:=fun {x:Th}=>hm_mem (x:=x) hT hQ hJ
 have hno:∀x:Th,x∈(jobs.filter (dnF (ranX s F))).flatMap (fun j=>hangM l j.pt j.cm (now+1) l.length)→fnd (M s x.pt) x.cm=none:=fun x hx=>by
  obtain⟨h1,⟨g1,-,g3,g4⟩,-⟩:=hhm.1 hx
  exact(hT.hang h1 g1 g3 g4).2.1
 have hdec:∀x:Th,x∈(decS sent).toList→∃m,sent=some m∧m.lf≠1∧x={ m with lf:=m.lf-1 }:=fun x hx=>by
  cases sent with
  | none=>cases hx
  | some m =>
   by_cases e:m.lf=1
   ·rw[show decS (some m)=none from if_pos e]at hx;cases hx
   ·rw[show decS (some m)=some { m with lf:=m.lf-1 } from if_neg e]at hx
    exact⟨m,rfl,e,by simpa using hx⟩
 have hA:∀x:Th,(x∈(decS sent).toList∨x∈mail)↔x.pt<l.length∧(if z=(x.pt:Int)∧x.cm=runC (M s x.pt) then (if runD (M s x.pt)=true then none else (fnd (M s x.pt) x.cm).map (fun p=>{ p with lf:=p.lf-1 })) else fnd (M s x.pt) x.cm)=some ⟨x.cm,x.si,x.lf⟩:=fun x=>by
  rcases hz with ⟨rfl,rfl⟩|⟨m,rfl,rfl,h1,h2,h3,h4,h5,-⟩
  ·rw[if_neg (fun h=>by omega)]
   have:=hmem x
   simp only[Option.toList_none,List.nil_append]at this
   rw[← this]
   exact⟨fun h=>h.elim (fun g=>by cases g) id,.inr⟩
  ·have hpw:=hnd
   simp only[Option.toList_some,List.singleton_append]at hpw hmem
   have hk1:=(List.pairwise_cons.1 hpw).1
   by_cases hke:(m.pt:Int)=(x.pt:Int)∧x.cm=runC (M s x.pt)
   ·have hpt:m.pt=x.pt:=by omega
    have hcm:m.cm=x.cm:=by rw[h2,hke.2,hpt]
    rw[if_pos hke]
    constructor
    ·rintro(g|g)
     ·obtain⟨m',e1,e2,e3⟩:=hdec x g
      have e4:=Option.some.inj e1
      subst e4
      have hr:¬ runD (M s x.pt)=true:=fun h=>e2 (h3.1 (by rw[hpt];exact h))
      rw[if_neg hr,← hpt,← hcm,h5]
      refine⟨h1,?_⟩
      rw[e3]
      rfl
     ·exact absurd ⟨hpt,hcm⟩ (hk1 x g)
    ·rintro⟨-,g⟩
     by_cases hr:runD (M s x.pt)=true
     ·rw[if_pos hr]at g;cases g
     ·rw[if_neg hr,← hpt,← hcm,h5]at g
      have e:=Option.some.inj g
      simp only[Pc.mk.injEq]at e
      have hl:m.lf≠1:=fun e9=>hr (by rw[← hpt];exact h3.2 e9)
      left
      rw[show decS (some m)=some { m with lf:=m.lf-1 } from if_neg hl]
      simp only[Option.toList_some,List.mem_singleton]
      obtain⟨a,b,c,d⟩:=x
      dsimp only at *
      rw[← hpt,← hcm,← e.2.1,← e.2.2]
   ·rw[if_neg hke]
    have hnk:¬ Ke m x:=fun g=>hke ⟨by rw[g.1],by rw[← g.2,h2,g.1]⟩
    rw[← hmem x,List.mem_cons]
    constructor
    ·rintro(g|g)
     ·obtain⟨m',e1,-,e3⟩:=hdec x g
      have e4:=Option.some.inj e1
      subst e4
      exact absurd ⟨by rw[e3],by rw[e3]⟩ hnk
     ·exact .inr g
    ·rintro(g|g)
     ·exact absurd ⟨by rw[g],by rw[g]⟩ hnk
     ·exact .inr g
 have hsome:∀x:Th,(x∈(decS sent).toList∨x∈mail)→(fnd (M s x.pt) x.cm).isSome=true:=fun x hx=>by
  obtain⟨-,h⟩:=(hA x).1 hx
  split at h
  ·split at h
   ·cases h
   ·obtain⟨p,p1,-⟩:=Option.map_eq_some_iff.1 h
    rw[p1];rfl
  ·rw[h];rfl
 refine⟨?_,fun x=>?_,fun h=>?_,fun x h=>?_⟩
 ·rw[← List.append_assoc,List.pairwise_append]
  refine⟨?_,?_,fun x hx y hy hk=>?_⟩
  ·rw[List.pairwise_append]
   refine⟨?_,(List.pairwise_append.1 hnd).2.1,fun x hx y hy hk=>?_⟩
   ·cases decS sent with
    | none=>exact List.Pairwise.nil
    | some x=>exact List.pairwise_singleton _ _
   ·obtain⟨m,e1,-,e3⟩:=hdec x hx
    subst e1
    exact(List.pairwise_append.1 hnd).2.2 m (by simp) y hy ⟨by rw[← hk.1,e3],by rw[← hk.2,e3]⟩
  ·rw[List.pairwise_flatMap]
   refine⟨fun j _=>hangM_pw _ _ _ _ _,(hJ.nd.filter _).imp (fun {a b} h x hx y hy hk=>h ?_)⟩
   obtain⟨-,g1,-,g2,-⟩:=(hangM_mem _).1 hx
   obtain⟨-,k1,-,k2,-⟩:=(hangM_mem _).1 hy
   rw[hk.1,k1]at g1
   exact⟨by omega,by rw[← g2,← k2];exact hk.2⟩
  ·have h1:=hsome x (List.mem_append.1 hx)
   rw[hk.1,hk.2,hno y hy]at h1
   cases h1
 ·rw[← List.append_assoc,List.mem_append,List.mem_append,hA x,hhm]
  by_cases hk:x.pt<l.length
  rotate_left 1
  ·exact⟨fun h=>by rcases h with h|h<;>exact absurd h.1 hk,fun h=>absurd h.1 hk⟩
  rw[hT.fndM hk x.cm]
  by_cases hn:nwM l F s x.pt x.cm
  ·have h0:=(hT.hang hk hn.1 hn.2.2.1 hn.2.2.2).2.1
   rw[if_pos hn,h0]
   have hB:(if z=(x.pt:Int)∧x.cm=runC (M s x.pt) then (if runD (M s x.pt)=true then none else (none:Option Pc).map (fun p=>{ p with lf:=p.lf-1 })) else none)=none:=by
    split
    ·split<;>rfl
    ·rfl
   rw[hB,Option.none_or]
   constructor
   ·rintro(⟨-,h⟩|⟨-,-,h1,h2⟩)
    ·cases h
    ·exact⟨hk,by rw[h1,h2]⟩
   ·rintro⟨-,h⟩
    have h1:=Option.some.inj h
    simp only[Pc.mk.injEq]at h1
    exact .inr ⟨hk,hn,h1.2.1.symm,h1.2.2.symm⟩
  ·rw[if_neg hn,Option.or_none]
   constructor
   ·rintro(h|⟨-,g,-⟩)
    ·exact h
    ·exact absurd g hn
   ·exact .inl
 ·rw[hT.tr.un]
  rcases hz with ⟨-,rfl⟩|⟨m,rfl,rfl,h1,h2,h3,-⟩
  ·rw[if_pos rfl]
  ·rw[if_neg (by omega),Int.toNat_natCast]
   by_cases e:m.lf=1
   ·rw[if_pos (h3.2 e)]
   ·rw[show decS (some m)=some { m with lf:=m.lf-1 } from if_neg e]at h;cases h
 ·rcases hz with ⟨rfl,-⟩|⟨m,rfl,rfl,h1,h2,h3,-,h5,-⟩
  ·cases h
  ·by_cases e:m.lf=1
   ·rw[show decS (some m)=none from if_pos e]at h;cases h
   ·rw[show decS (some m)=some { m with lf:=m.lf-1 } from if_neg e]at h
    have e2:=Option.some.inj h
    subst e2
    have hr:¬ runD (M s m.pt)=true:=fun g=>e (h3.1 g)
    have hne:M s m.pt≠[]:=fun g=>by rw[g]at h5;cases h5
    refine⟨?_,?_⟩
    ·rw[hT.tr.un,if_neg (by omega),Int.toNat_natCast,if_neg hr]
    ·dsimp only
     rw[hT.tr.m _ h1,if_pos rfl,runC_app (runQ_ne hr hne),runC_runQ hr (runQ_ne hr hne),h2]
structure OutR (l:List Pa) (m:Nat) (o:List (List Int)) (s:Sc):Prop where
 len:o.length=m
 row:∀n,n<m→(o.getD n []).length=l.length
 en:∀n k,k<l.length→(o.getD n []).getD k (-1)=En s n k
theorem setO_fold{now:Int}{m L:Nat}:∀(js:List Th) (o:List (List Int)),(∀j∈js,j.cm<m∧j.pt<L)→o.length=m→(∀n,n<m→(o.getD n []).length=L) →
  (js.foldl (fun o j=>setO o j now) o).length=m∧(∀n,n<m→((js.foldl (fun o j=>setO o j now) o).getD n []).length=L)∧∀n k,((js.foldl (fun o j=>setO o j now) o).getD n []).getD k (-1)=if ∃j∈js,j.pt=k∧j.cm=n then now else (o.getD n []).getD k (-1)
 | [],o,_,h1,h2=>⟨h1,h2,fun n k=>by rw[if_neg (fun⟨j,hj,_⟩=>by cases hj)];rfl⟩
 | j::r,o,hv,h1,h2=>by
  obtain⟨v1,v2⟩:=hv j List.mem_cons_self
  have hs:∀n,(setO o j now).getD n []=if n=j.cm then (o.getD j.cm []).set j.pt now else o.getD n []:=fun n=>by
   unfold setO
   by_cases e:n=j.cm
   ·subst e
    rw[if_pos rfl,getD_set_self (by rw[h1];exact v1)]
   ·rw[if_neg e,getD_set_other (fun g=>e g.symm)]
  obtain⟨q1,q2,q3⟩:=setO_fold r (setO o j now) (fun x hx=>hv x (List.mem_cons_of_mem _ hx)) (by unfold setO;rw[List.length_set];exact h1) (fun n hn=>by
   rw[hs]
   split
   ·rw[List.length_set];exact h2 _ v1
   ·exact h2 n hn)
  rw[List.foldl_cons]
  refine⟨q1,q2,fun n k=>?_⟩
  rw[q3]
  by_cases hr:∃x∈r,x.pt=k∧x.cm=n
  ·rw[if_pos hr,if_pos (by obtain⟨x,g1,g2⟩:=hr;exact⟨x,List.mem_cons_of_mem _ g1,g2⟩)]
  ·rw[if_neg hr,hs]
   by_cases hj:j.pt=k∧j.cm=n
   ·rw[if_pos hj.2.symm,if_pos (c:=∃x∈j::r,x.pt=k∧x.cm=n) ⟨j,List.mem_cons_self,hj⟩,← hj.1]
    exact getD_set_self (by rw[h2 _ v1];exact v2)
   ·rw[if_neg (c:=∃x∈j::r,x.pt=k∧x.cm=n) (by
     rintro⟨x,g1,g2⟩
     rcases List.mem_cons.1 g1 with g1|g1
     ·subst g1;exact hj g2
     ·exact hr ⟨x,g1,g2⟩)]
    by_cases e:n=j.cm
    ·rw[if_pos e,getD_set_other (fun g=>hj ⟨g,e.symm⟩),e]
    ·rw[if_neg e]
theorem tick_out(hT:Tc l tk cs Cm now F z s s')(hQ:QZ l s now)(hJ:DJ l s jobs){o:List (List Int)}(ho:OutR l cs.length o s):OutR l cs.length ((jobs.filter (dnF (ranX s F))).foldl (fun o j=>setO o j (now+1)) o) s':=by
 obtain⟨q1,q2,q3⟩:=setO_fold (now:=now+1) (L:=l.length) (jobs.filter (dnF (ranX s F))) o (fun j hj=>⟨(hJ.lf hT.iv (List.mem_filter.1 hj).1).2.2,((hJ.mem j).1 (List.mem_filter.1 hj).1).1⟩) ho.len ho.row
 refine⟨q1,q2,fun n k hk=>?_⟩
 rw[q3,hT.tr.e n k hk]
 have key:(∃j∈jobs.filter (dnF (ranX s F)),j.pt=k∧j.cm=n)↔rD s F k=true∧n=runC (J s k):=by
  constructor
  ·rintro⟨j,hj,rfl,rfl⟩
   obtain⟨j1,j2⟩:=List.mem_filter.1 hj
   exact(dn_iff hT.iv hT.hF hQ hJ j1).1 j2
  ·rintro⟨h1,h2⟩
   obtain⟨g1,g2,-⟩:=hT.isD h1
   obtain⟨y,y1,y2,y3,-⟩:=head_th hT.iv hQ hJ g1 (hT.hF k g2).2
   exact⟨y,List.mem_filter.2 ⟨y1,(dn_iff hT.iv hT.hF hQ hJ y1).2 ⟨by rw[y2];exact h1,by rw[y2];exact y3⟩⟩,y2,by rw[y3,h2]⟩
 by_cases h:rD s F k=true∧n=runC (J s k)
 ·rw[if_pos (key.2 h),if_pos h]
 ·rw[if_neg (fun g=>h (key.1 g)),if_neg h]
  exact ho.en n k hk
end
end Keep
namespace Keep
theorem comeF_suf{l:List Pa}{tk:List Int}{cs:List Co}{now:Int}:∀(ws:List Nat) (s:Sc),(comeF l tk cs now ws s).1 <:+ ws
 | [],_=>List.suffix_refl _
 | m::r,s=>by
  have e0:comeF l tk cs now (m::r) s=if (cs.getD m ⟨0,0⟩).a=now then comeF l tk cs now r (addJ l tk s (cs.getD m ⟨0,0⟩).k.toNat m now) else (m::r,s):=rfl
  rw[e0]
  split
  ·exact(comeF_suf r _).trans (List.suffix_cons m r)
  ·exact List.suffix_refl _
theorem playTo_suf{l:List Pa}{tk:List Int}{cs:List Co}{ord:List Nat}:∀t,(playTo l tk cs ord t).1 <:+ ord
 | 0=>List.suffix_refl _
 | t+1=>(comeF_suf _ _).trans (playTo_suf t)
section
variable {l:List Pa} {tk:List Int} {cs:List Co}
theorem ord_lex(cs:List Co):(ordF cs).Pairwise (fun a b=>at_ cs a<at_ cs b∨(at_ cs a=at_ cs b∧a<b)):=by
 have hnd:(ordF cs).Nodup:=(ordF_perm cs).nodup_iff.2 List.nodup_range
 refine(ordF_sorted cs).imp₂ (fun a b h1 h2=>?_) hnd
 unfold leC at h1
 simp only[decide_eq_true_eq]at h1
 show(Ck cs a).a<(Ck cs b).a∨((Ck cs a).a=(Ck cs b).a∧a<b)
 omega
theorem tick_QS{Cm:Nat→Prop}{now:Int}{F:Nat→Bool}{z:Int}{s s':Sc}(hT:Tc l tk cs Cm now F z s s')(hQ:QZ l s now):QS l s' (now+1):=by
 have hX:∀k,k<l.length→(if F k=true then runQ (J s k) else J s k).Pairwise lexC∧∀p∈(if F k=true then runQ (J s k) else J s k),p.si≤now:=fun k hk=>by
  split
  ·refine⟨runQ_pw (R:=fun a b c d=>b<d∨(b=d∧a<c)) (hQ.pw k hk),fun p hp=>?_⟩
   obtain⟨p0,r,e,h⟩:=runQ_mem hp
   rcases h with ⟨rfl,-⟩|h
   ·exact hQ.le k hk p0 (by rw[e];exact List.mem_cons_self)
   ·exact hQ.le k hk p (by rw[e];exact List.mem_cons_of_mem _ h)
  ·exact⟨hQ.pw k hk,hQ.le k hk⟩
 have hB:∀k,k<l.length→z=(k:Int)→fr l k≠-1∧se l k≠0:=fun k hk hz=>by
  rcases hT.hz with e|⟨u,e,hu,hne⟩
  ·omega
  ·have:u=k:=by omega
   subst this
   obtain⟨-,f,p,-,-,-,-,-,-,b6,b7,-,-,-,b11,-⟩:=hT.iv.headM hu hne
   exact⟨by omega,by omega⟩
 have hnew:∀k,k<l.length→∀p∈J s' k,p∈(if F k=true then runQ (J s k) else J s k)∨(p.si=now+1∧fr l k≠-1):=fun k hk p hp=>by
  rw[hT.tr.j k hk,List.mem_append,List.mem_append]at hp
  rcases hp with (hp|hp)|hp
  ·exact .inl hp
  ·obtain⟨g1,g2⟩:=mem_if hp
   exact .inr ⟨by rw[g2],g1.1⟩
  ·obtain⟨g1,g2⟩:=mem_if hp
   exact .inr ⟨by rw[g2],(hB k hk g1.1).1⟩
 refine⟨fun k hk=>?_,fun k hk p hp=>?_,fun k hk hf p hp=>?_⟩
 ·rw[hT.tr.j k hk,List.pairwise_append]
  refine⟨?_,pw_if,fun a ha b hb=>?_⟩
  ·rw[List.pairwise_append]
   refine⟨(hX k hk).1,pw_if,fun a ha b hb=>?_⟩
   obtain⟨-,g2⟩:=mem_if hb
   have:=(hX k hk).2 a ha
   left
   rw[g2]
   dsimp only
   omega
  ·obtain⟨g1,g2⟩:=mem_if hb
   rcases List.mem_append.1 ha with ha|ha
   ·have:=(hX k hk).2 a ha
    left
    rw[g2]
    dsimp only
    omega
   ·obtain⟨k1,-⟩:=mem_if ha
    exact absurd k1.2.1 (hB k hk g1.1).2
 ·rcases hnew k hk p hp with h|⟨h,-⟩
  ·have:=(hX k hk).2 p h
   omega
  ·omega
 ·rcases hnew k hk p hp with h|⟨-,h⟩
  ·have:=(hX k hk).2 p h
   omega
  ·exact absurd hf h
theorem qs_trace(h:Lg l cs (ordF cs)):∀t:Nat,QS l (Ss l tk cs (ordF cs) t) t∧QZ l (Zs l tk cs (ordF cs) t) t:=by
 have key:∀t:Nat,QS l (Ss l tk cs (ordF cs) t) t→QZ l (Zs l tk cs (ordF cs) t) t:=fun t hq=>by
  obtain⟨h1,h2,-⟩:=h.trace (tk:=tk) t
  refine come_QZ h.cs_ _ _ h1.lj ((ord_lex cs).sublist (playTo_suf t).sublist) (fun n hn=>(h2 n).1 hn) ⟨hq.pw,hq.le⟩ (fun n _ _ k hk hf p hp=>.inl (hq.lt k hk hf p hp))
 intro t
 induction t with
 | zero =>
  have h0:QS l (Ss l tk cs (ordF cs) 0) (0:Nat):=by
   have e1:Ss l tk cs (ordF cs) 0=scene0 l.length cs.length:=rfl
   have hj:=fun k=>(scene_empty l.length cs.length k).1
   rw[e1]
   exact⟨fun k _=>by rw[hj];exact List.Pairwise.nil,fun k _ p hp=>(by rw[hj]at hp;cases hp),fun k _ _ p hp=>(by rw[hj]at hp;cases hp)⟩
  exact⟨h0,key 0 h0⟩
 | succ t ih =>
  obtain⟨F,hT,-⟩:=h.tick2 (tk:=tk) t
  have h1:=tick_QS hT ih.2
  rw[show(t:Int)+1=((t+1:Nat):Int) by omega]at h1
  exact⟨h1,key _ h1⟩
def comeT(l:List Pa)(tk:List Int)(cs:List Co)(now:Int):Nat→List Th
 | 0=>[]
 | n+1=>comeT l tk cs now n++(if (Ck cs n).a=now then [⟨(Ck cs n).k.toNat,n,now,wkF l tk (Ck cs n).k.toNat n⟩] else [])
theorem comeT_mem{now:Int}{x:Th}:∀m,x∈comeT l tk cs now m↔x.cm<m∧(Ck cs x.cm).a=now∧x.pt=(Ck cs x.cm).k.toNat∧x.si=now∧x.lf=wkF l tk x.pt x.cm
 | 0=>by simp[comeT]
 | m+1=>by
  rw[comeT,List.mem_append,comeT_mem m]
  by_cases hc:(Ck cs m).a=now
  ·rw[if_pos hc,List.mem_singleton]
   constructor
   ·rintro(⟨h1,h2⟩|rfl)
    ·exact⟨by omega,h2⟩
    ·exact⟨Nat.lt_succ_self m,hc,rfl,rfl,rfl⟩
   ·rintro⟨h1,h2⟩
    by_cases e:x.cm=m
    ·right
     obtain⟨a,b,c,d⟩:=x
     dsimp only at *
     subst e
     obtain⟨-,rfl,rfl,rfl⟩:=h2
     rfl
    ·exact .inl ⟨by omega,h2⟩
  ·rw[if_neg hc]
   constructor
   ·rintro(⟨h1,h2⟩|h)
    ·exact⟨by omega,h2⟩
    ·cases h
   ·rintro⟨h1,h2⟩
    by_cases e:x.cm=m
    ·subst e;exact absurd h2.1 hc
    ·exact .inl ⟨by omega,h2⟩
theorem comeT_pw(now:Int):∀m,(comeT l tk cs now m).Pairwise (fun a b=>¬ Ke a b)
 | 0=>List.Pairwise.nil
 | m+1=>by
  rw[comeT,List.pairwise_append]
  refine⟨comeT_pw now m,by split<;>simp,fun a ha b hb=>?_⟩
  have h1:=((comeT_mem m).1 ha).1
  split at hb
  ·rw[List.mem_singleton.1 hb]
   intro g
   have:=g.2
   dsimp only at this
   omega
  ·cases hb
theorem come_DJ(h:Lg l cs (ordF cs)){t:Nat}{jobs:List Th}(hJ:DJ l (Ss l tk cs (ordF cs) t) jobs):DJ l (Zs l tk cs (ordF cs) t) (jobs++comeT l tk cs t cs.length):=by
 obtain⟨h1,h2,h3,h4,-⟩:=h.trace (tk:=tk) t
 have hf:=come_fnd (tk:=tk) (now:=(t:Int)) h.cs_ (playTo l tk cs (ordF cs) t).1 (Ss l tk cs (ordF cs) t) h1.lj h3 h4 (fun n hn=>(h2 n).1 hn)
 have hz:∀k n,fnd (J (Zs l tk cs (ordF cs) t) k) n=(fnd (J (Ss l tk cs (ordF cs) t) k) n).or (if n∈(playTo l tk cs (ordF cs) t).1∧at_ cs n=(t:Int)∧(cs.getD n ⟨0,0⟩).k.toNat=k then some ⟨n,(t:Int),wkF l tk k n⟩ else none):=hf
 have hno:∀k n,n<cs.length→at_ cs n=(t:Int)→(cs.getD n ⟨0,0⟩).k.toNat=k→k<l.length∧fnd (J (Ss l tk cs (ordF cs) t) k) n=none:=fun k n hn ha hk=>by
  obtain⟨k0,e1,e2,e3⟩:=h.cs_ n hn
  have:k0=k:=by rw[e1,Int.toNat_natCast]at hk;exact hk
  subst this
  refine⟨e2,?_⟩
  cases e:fnd (J (Ss l tk cs (ordF cs) t) k0) n with
  | none=>rfl
  | some p =>
   have:=(h1.rl k0 n e2 (by unfold rlJ;rw[e];rfl)).2.1 e3
   omega
 have hcm:∀x:Th,x∈comeT l tk cs t cs.length→x.pt<l.length∧fnd (J (Ss l tk cs (ordF cs) t) x.pt) x.cm=none:=fun x hx=>by
  obtain⟨g1,g2,g3,-⟩:=(comeT_mem _).1 hx
  exact hno x.pt x.cm g1 g2 g3.symm
 refine⟨?_,fun x=>?_⟩
 ·rw[List.pairwise_append]
  refine⟨hJ.nd,comeT_pw _ _,fun a ha b hb hk=>?_⟩
  have g1:=((hJ.mem a).1 ha).2
  rw[hk.1,hk.2,(hcm b hb).2]at g1
  cases g1
 ·rw[List.mem_append,hJ.mem,comeT_mem,hz]
  by_cases hc:x.cm<cs.length∧at_ cs x.cm=(t:Int)∧(cs.getD x.cm ⟨0,0⟩).k.toNat=x.pt
  ·obtain⟨g1,g2⟩:=hno x.pt x.cm hc.1 hc.2.1 hc.2.2
   rw[if_pos ⟨(h2 _).2 ⟨hc.1,by omega⟩,hc.2⟩,g2,Option.none_or]
   constructor
   ·rintro(⟨-,g⟩|⟨-,-,-,k1,k2⟩)
    ·cases g
    ·exact⟨g1,by rw[k1,k2]⟩
   ·rintro⟨-,g⟩
    have e:=Option.some.inj g
    simp only[Pc.mk.injEq]at e
    exact .inr ⟨hc.1,hc.2.1,hc.2.2.symm,e.2.1.symm,e.2.2.symm⟩
  ·rw[if_neg (fun g=>hc ⟨((h2 _).1 g.1).1,g.2⟩),Option.or_none]
   constructor
   ·rintro(g|⟨k1,k2,k3,-⟩)
    ·exact g
    ·exact absurd ⟨k1,k2,k3.symm⟩ hc
   ·exact .inl
structure Doc (l:List Pa) (tk:List Int) (cs:List Co) (t:Nat) (jobs mail:List Th) (sent:Option Th) (out:List (List Int)):Prop where
 j:DJ l (Ss l tk cs (ordF cs) t) jobs
 m:DM l (Ss l tk cs (ordF cs) t) mail sent
 o:OutR l cs.length out (Ss l tk cs (ordF cs) t)
theorem Doc.zero(l:List Pa)(tk:List Int)(cs:List Co):Doc l tk cs 0 [] [] none (List.replicate cs.length (List.replicate l.length (-1))):=by
 have e1:Ss l tk cs (ordF cs) 0=scene0 l.length cs.length:=rfl
 have hj:=fun k=>(scene_empty l.length cs.length k).1
 have hm:=fun k=>(scene_empty l.length cs.length k).2
 refine⟨⟨List.Pairwise.nil,fun x=>?_⟩,⟨List.Pairwise.nil,fun x=>?_,fun _=>rfl,fun x h=>by cases h⟩,⟨by simp,fun n hn=>?_,fun n k _=>rfl⟩⟩
 ·rw[e1,hj]
  exact⟨fun h=>(by cases h),fun h=>(by cases h.2)⟩
 ·rw[e1,hm]
  exact⟨fun h=>(by cases h),fun h=>(by cases h.2)⟩
 ·rw[List.getD_eq_getElem?_getD,List.getElem?_replicate,if_pos hn]
  simp
theorem Doc.job(h:Lg l cs (ordF cs)){t:Nat}{jobs mail:List Th}{sent:Option Th}{out:List (List Int)}(hd:Doc l tk cs t jobs mail sent out){js:List Th}(hjp:js.Perm (jobs++comeT l tk cs t cs.length)){x:Th}(hx:x∈js):x.pt<l.length∧x.cm<cs.length∧1≤x.lf∧x.lf≤10000:=by
 have hJ:=(come_DJ h hd.j).perm hjp
 obtain⟨-,-,-,-,hZ,-⟩:=h.trace (tk:=tk) t
 obtain⟨h1,h2,h3⟩:=hJ.lf hZ hx
 have h4:=((hJ.mem x).1 hx).1
 have:=(wkF_ok (tk:=tk) h.ok h4 x.cm).2
 exact⟨h4,h3,h1,by omega⟩
theorem Doc.sort{t:Nat}{js:List Th}{jobs:List Th}(h:Lg l cs (ordF cs))(hJ:DJ l (Ss l tk cs (ordF cs) t) jobs)(hjp:js.Perm (jobs++comeT l tk cs t cs.length)):js.Pairwise (fun a b=>¬ Ke a b):=((come_DJ h hJ).perm hjp).nd
theorem Doc.tick(h:Lg l cs (ordF cs)){t:Nat}{jobs mail:List Th}{sent:Option Th}{out:List (List Int)}(hd:Doc l tk cs t jobs mail sent out){js ml:List Th}(hjp:js.Perm (jobs++comeT l tk cs t cs.length))(hjs:js.Pairwise (fun a b=>ahJ l a b=true))(hmp:ml.Perm mail)(hms:ml.Pairwise (fun a b=>ahM a b=true)) :
  Doc l tk cs (t+1) ((js.foldl (stepD l tk ((t:Int)+1)) ⟨[],[],(takeS sent ml).2,out,[]⟩).st++((js.foldl (stepD l tk ((t:Int)+1)) ⟨[],[],(takeS sent ml).2,out,[]⟩).bg++msgB l tk ((t:Int)+1) (takeS sent ml).1)) (js.foldl (stepD l tk ((t:Int)+1)) ⟨[],[],(takeS sent ml).2,out,[]⟩).ml (decS (takeS sent ml).1) (js.foldl (stepD l tk ((t:Int)+1)) ⟨[],[],(takeS sent ml).2,out,[]⟩).out:=by
 have hJ:=(come_DJ h hd.j).perm hjp
 have hM:=hd.m.perm hmp
 obtain⟨-,-,-,-,hZ,-⟩:=h.trace (tk:=tk) t
 have hQ:=(qs_trace (tk:=tk) h t).2
 obtain⟨F,hT,hF⟩:=h.tick2 (tk:=tk) t
 have hMz:DM l (Zs l tk cs (ordF cs) t) ml sent:=by
  refine⟨hM.nd,fun x=>?_,fun e=>?_,fun x e=>?_⟩
  ·rw[h.mm];exact hM.mem x
  ·rw[(h.link t).2.2.1];exact hM.no e
  ·rw[(h.link t).2.2.1,h.mm];exact hM.so x e
 have hz:=sent_step hZ hMz hms
 have hnd:=hMz.nd
 have hmem:=hMz.mem
 rw[← takeS_list]at hnd
 simp only[← takeS_list sent ml]at hmem
 obtain⟨q1,q2,q3,q4⟩:=loopD_form (tk:=tk) (now:=(t:Int)+1) hjs (fun x hx=>ran_iff h.ok hZ hQ hJ hF hx) js [] ⟨[],[],(takeS sent ml).2,out,[]⟩ rfl (fun c=>by simp)
 rw[q1,q2,q3,q4]
 dsimp only
 rw[List.nil_append,List.nil_append]
 have ho:OutR l cs.length out (Zs l tk cs (ordF cs) t):=⟨hd.o.len,hd.o.row,fun n k hk=>by rw[h.en];exact hd.o.en n k hk⟩
 exact⟨tick_DJ hT hQ hJ hz,tick_DM hT hQ hJ hz hnd hmem,tick_out hT hQ hJ ho⟩
theorem Doc.ends(h:Lg l cs (ordF cs)){t:Nat}{jobs mail:List Th}{sent:Option Th}{out:List (List Int)}(hd:Doc l tk cs t jobs mail sent out):out=(playTo l tk cs (ordF cs) t).2.ends:=by
 obtain⟨hI,-⟩:=h.trace (tk:=tk) t
 have hIl:(playTo l tk cs (ordF cs) t).2.ends.length=cs.length:=hI.le
 refine List.ext_getElem (by rw[hd.o.len,hIl]) (fun n h1 h2=>?_)
 have hn:n<cs.length:=by rw[← hIl];exact h2
 have r1:=hd.o.row n hn
 have r2:((playTo l tk cs (ordF cs) t).2.ends.getD n []).length=l.length:=hI.er n hn
 have g1:out.getD n []=out[n]:=getD_some (List.getElem?_eq_getElem h1)
 have g2:(playTo l tk cs (ordF cs) t).2.ends.getD n []=(playTo l tk cs (ordF cs) t).2.ends[n]:=getD_some (List.getElem?_eq_getElem h2)
 rw[g1]at r1
 rw[g2]at r2
 refine List.ext_getElem (by rw[r1,r2]) (fun k h3 h4=>?_)
 have e:=hd.o.en n k (by rw[← r1];exact h3)
 unfold En at e
 rw[g1,show(Ss l tk cs (ordF cs) t).ends=(playTo l tk cs (ordF cs) t).2.ends from rfl,g2]at e
 have a1:out[n].getD k (-1)=out[n][k]:=getD_some (List.getElem?_eq_getElem h3)
 have a2:(playTo l tk cs (ordF cs) t).2.ends[n].getD k (-1)=(playTo l tk cs (ordF cs) t).2.ends[n][k]:=getD_some (List.getElem?_eq_getElem h4)
 rw[a1,a2]at e
 exact e
theorem nodup_len:∀(N:Nat) (q:List Nat),q.Nodup→(∀x∈q,x<N)→q.length≤N
 | 0,q,_,h=>by
  cases q with
  | nil=>exact Nat.le_refl _
  | cons x r=>exact absurd (h x List.mem_cons_self) (Nat.not_lt_zero _)
 | N+1,q,hd,h=>by
  by_cases hm:N∈q
  ·have h1:=nodup_len N (q.erase N) (hd.erase N) (fun x hx=>by
    have h2:=(List.Nodup.mem_erase_iff hd).1 hx
    have:=h x h2.2
    omega)
   rw[List.length_erase_of_mem hm]at h1
   omega
  ·have h1:=nodup_len N q hd (fun x hx=>by
    have:=h x hx
    have:x≠N:=fun e=>hm (e ▸ hx)
    omega)
   omega
theorem keys_len{q:List Th}{m:Nat}(hd:q.Pairwise (fun a b=>¬ Ke a b))(h:∀x∈q,x.pt<8∧x.cm<m):q.length≤8*m:=by
 have h1:=nodup_len (8*m) (q.map (fun x=>x.cm*8+x.pt)) (by
  rw[List.nodup_iff_pairwise_ne,List.pairwise_map]
  refine(hd.imp_of_mem (fun {a b} ha hb g e=>g ?_))
  have h2:=(h a ha).1
  have h3:=(h b hb).1
  exact⟨by omega,by omega⟩) (fun y hy=>by
  obtain⟨x,hx,rfl⟩:=List.mem_map.1 hy
  have:=h x hx
  omega)
 rwa[List.length_map]at h1
end
end Keep
end Go.Proofs.YtccoobcggbbcialGreatDoor
