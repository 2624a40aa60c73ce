import Derived.Test.YtccoobcggbbcialGreatDoorGXD
import Derived.Test.YtccoobcggbbcialGreatDoorGXR
namespace Go.Proofs.YtccoobcggbbcialGreatDoor
open Go.ChangeShapes Go.WideShapes Go.ChangeAt Go.RowKit
theorem Responses_ends{w:World}{g:Nat}{c k p:Value}{a:Act}(h:w.heap[g]?=some (.cells #[c,k] 33 (0,0)))(h2:a.tmps[4]?.getD undef=p)(h3:a.tmps[5]?.getD undef = .pointer (some ⟨g,0,none⟩)) :
    (results Tryz.f40 a.tmps).run Tryz.prog w = .ok (.tuple #[p,.agg #[c,k]]) w:=by
  obtain⟨c1,f1,l1⟩:=cells_of (l:=[_,_]) h
  have c10:=c1 0 _ rfl
  have c11:=c1 1 _ rfl
  simp[results,Tryz.results40,go_sem,h2,h3,c10,c11]
def NewSl(B:Nat)(v:Value):Prop:=∀a n c,v = .slice (some a) n c→B≤a.block
theorem NewSl.none(B n c:Nat):NewSl B (.slice none n c):=fun a n c h=>by cases h
theorem NewSl.mono{B C:Nat}{v:Value}(h:NewSl B v)(hc:C≤B):NewSl C v:=fun a n c e=>Nat.le_trans hc (h a n c e)
theorem NewSl.own{w:World}{B n size:Nat}{e:TypeId}{v:Value}{xs:List Value}(h:w.ownsRow B e size v n xs):NewSl B v:=by
  obtain⟨-,⟨rfl,-⟩|⟨g,cap,cur,rfl,hb,-⟩⟩:=h
  · exact NewSl.none _ _ _
  · intro a n c e
    cases e
    exact hb
set_option maxRecDepth 20000 in
set_option maxHeartbeats 4000000 in
theorem Responses_any(w:World)(l:List Ta)(bs:List Int)(v v2:Value)(hl:l.length≤1000000)(hv:RowSl Ta.vals w l v)(hv2:RowSl nuV w bs v2):Calls Tryz.prog 40 #[v,v2] w fun r w'=>∃u,r = .returned (.tuple #[u,.agg #[.int .i64 (responsesF l bs).2.1,.int .i64 (responsesF l bs).2.2]])∧RowSl nuV w' (responsesF l bs).1 u∧Below w.heap.size w w'∧NewSl w.heap.size u:=by
  obtain⟨ad,c,rfl⟩:=hv.len
  have HV:Hid (RowSl Ta.vals w l (.slice ad l.length c)):=hv
  have HF:Hid (FB w (w.alloc (.cells #[.int .i64 0,.int .i64 0] 33)) w.heap.size):=FB.start w
  have HC:=check_any (w.alloc (.cells #[.int .i64 0,.int .i64 0] 33)) l (.slice ad l.length c) hl (HV.out.below (below_new _ _))
  by_cases h0:(chkX l).1≠0
  · rw[show responsesF l bs=([],chkX l) by unfold responsesF;rw[if_pos h0]]
    obtain⟨ad2,c2,rfl⟩:=hv2.len
    clear hv hv2
    generalize (chkX l).1=z at *
    generalize (chkX l).2=z2 at *
    have hzb:(z != 0)=true:=by simpa using h0
    go_enter Tryz.func40,Tryz.ntmps40
    go_wp2_with (go_at_call 72;refine HC.mono ?_;rintro r w1 ⟨rfl,hb1⟩;have H1:Hid (FB w w1 w.heap.size):=HF.out.grow hb1;obtain⟨rs1,rf1,rl1⟩:=cells_of (l:=[_,_]) H1.out.res;have r10:=rs1 0 _ rfl;have r11:=rs1 1 _ rfl;have f10:=rf1 0;have f11:=rf1 1;clear rs1 rf1 hb1 HC)
    go_region
    all_goals go_wp2_with fail
    all_goals
      refine bodyPost_ret (Responses_ends (H1.out.endA (.int .i64 z) (.int .i64 z2) _).1 rfl rfl) rfl ?_
      exact⟨_,rfl,RowSl.nil _ _,(H1.out.endA (.int .i64 z) (.int .i64 z2) _).2.drew,NewSl.none _ _ _⟩
  · have hz:(chkX l).1=0:=by omega
    obtain⟨-,-,hl1,h8,hst,-⟩:=chkX_ok hz
    by_cases hle:bs.length=l.length
    · have EX:Hid (responsesF l bs=respsFrom l bs 0 []):=by
        show _=_
        unfold responsesF
        rw[if_neg h0,if_neg (by simp[hle])]
      obtain⟨ad2,c2,rfl,-,hcap2,hrow⟩:=hv2
      rcases hrow with h|⟨b2,o2,rfl,hrow⟩
      · rw[h]at hle;simp at hle;omega
      have HR:Hid (∀q u,(bs.flatMap nuV)[q]?=some u→w.cell? ⟨b2,o2+q,none⟩=some u):=hrow
      rw[hle]at hcap2 ⊢
      have HL:Hid (bs.length=l.length):=hle
      have HRsp:Hid (∀W,Below w.heap.size w W→∀i block,Calls Tryz.prog 74 #[.slice ad l.length c,.int .i64 i,.int .i64 block] W fun r w'=>r = .returned (.tuple #[.int .i64 (respF l i block).1,.agg #[.int .i64 (respF l i block).2.1,.int .i64 (respF l i block).2.2]])∧Below W.heap.size W w'):=fun W hb i block=>resp_any W l (.slice ad l.length c) i block h8 hst (HV.out.below hb)
      rw[hz]at HC
      generalize (chkX l).2=z2 at *
      clear hv hrow hst hle h0
      go_enter Tryz.func40,Tryz.ntmps40
      go_wp2_with (go_at_call 72;refine HC.mono ?_;rintro r w1 ⟨rfl,hb1⟩;have H1:Hid (FB w (w1.alloc (.cells #[.int .i64 0,.int .i64 z2] 33)) w.heap.size):=(HF.out.grow hb1).grow (below_new _ _);clear hb1 HC)
      go_loopw [7,26] (fun av iv wr=>∃(j:Nat) (acc:List Int),j≤l.length∧iv = .int .i64 (j:Int)∧acc.length≤j∧NO w wr w.heap.size acc av∧Hid (respsFrom l (bs.drop j) j acc=respsFrom l bs 0 [])) (fun _ iv _=>l.length-(intOf iv).toNat)
      case atStart=>exact⟨0,[],Nat.zero_le _,rfl,by simp,NO.start H1.out,rfl⟩
      case round =>
        obtain⟨j,acc,hjl,rfl,hac,hno,HQ⟩:=hrel
        obtain⟨ad5,c5,rfl⟩:=hno.val
        have HN:Hid (NO w wr w.heap.size acc (.slice ad5 acc.length c5)):=hno
        by_cases hlt:j<l.length
        · obtain⟨b,hb,hdr⟩:=drop_at (l:=bs) (k:=j) (by have:=HL.out;omega)
          have hq:=HQ.out
          rw[respsFrom_at hdr]at hq
          have cb:=nu_at (fun q u hq=>below_cell hno.fb.bel (HR.out q u hq)) hb
          have lb:b2<wr.heap.size:=World.block_lt_of_cell? _ _ cb
          have hj':(j:Int)<(l.length:Int):=by omega
          have HP:=fun W (hb:Below w.heap.size w W)=>HRsp.out W hb (j:Int) b
          have HQ':Hid ((if (respF l (j:Int) b).2.1≠0 then ([],(respF l (j:Int) b).2) else respsFrom l (bs.drop (j+1)) (j+1) (acc++[(respF l (j:Int) b).1]))=respsFrom l bs 0 []):=hq
          clear hq HQ hno hdr hb
          generalize eq0:respF l (j:Int) b=q at *
          obtain⟨q0,q1,q2⟩:=q
          dsimp only at *
          by_cases hz1:q1≠0
          · have hzb:(q1 != 0)=true:=by simpa using hz1
            have e:=HQ'.out
            rw[if_pos hz1]at e
            have HE:Hid (responsesF l bs=([],(q1,q2))):=EX.out.trans e.symm
            clear e HQ'
            go_wp2_with (go_at_call 74;refine(HP _ (by first|exact HN.out.fb.bel|exact below_seq HN.out.fb.bel (below_new _ _))).mono ?_;rintro r w2 ⟨rfl,hb2⟩;have H2:Hid (FB w w2 w.heap.size):=(by first|exact HN.out.fb.grow hb2|exact(HN.out.fb.grow (below_new _ _)).grow hb2);obtain⟨rs1,rf1,rl1⟩:=cells_of (l:=[_,_]) H2.out.res;have r10:=rs1 0 _ rfl;have r11:=rs1 1 _ rfl;have f10:=rf1 0;have f11:=rf1 1;clear rs1 rf1 hb2 HP)
            go_region
            all_goals go_wp2_with fail
            all_goals
              first
                | (refine bodyPost_ret (Responses_ends (H2.out.endA (.int .i64 q1) (.int .i64 q2) _).1 rfl rfl) rfl ?_
                   rw[HE.out]
                   exact⟨_,rfl,RowSl.nil _ _,(H2.out.endA (.int .i64 q1) (.int .i64 q2) _).2.drew,NewSl.none _ _ _⟩)
                | fail
          · have hz2:q1=0:=by omega
            subst hz2
            have e:=HQ'.out
            rw[if_neg (by simp)]at e
            have HE:Hid (respsFrom l (bs.drop (j+1)) (j+1) (acc++[q0])=respsFrom l bs 0 []):=e
            clear e HQ' hz1
            go_wp2_with (first|(go_at_call 74;refine(HP _ (by first|exact HN.out.fb.bel|exact below_seq HN.out.fb.bel (below_new _ _))).mono ?_;rintro r w2 ⟨rfl,hb2⟩;have H2:Hid (NO w w2 w.heap.size acc (.slice ad5 acc.length c5)):=(by first|exact HN.out.grow hb2|exact(HN.out.grow (below_new _ _)).grow hb2);obtain⟨ad9,c9,w9,hrun,ho9⟩:=NO.push (H2.out.grow (below_new w2 (.cells #[.int .i64 0,.int .i64 q2] 33))) q0 (by omega);rw[show(w2.alloc (.cells #[.int .i64 0,.int .i64 q2] 33)).heap.size=w2.heap.size+1 by simp]at hrun;have H9:Hid (NO w w9 w.heap.size (acc++[q0]) (.slice ad9 (acc.length+1) c9)):=ho9;clear hb2 HP ho9)|(at_builtin;refine append_known rfl (.tmp 42) (.tmp 44) 25 rfl rfl rfl hrun ?_))
            first
              | exact⟨⟨j+1,acc++[q0],by omega,by simp,by simp;omega,H9.out,HE.out⟩,by simp[intOf];omega⟩
              | fail
        · have hje:j=l.length:=by omega
          subst hje
          have hq:=HQ.out
          rw[← HL.out,List.drop_length,respsFrom]at hq
          obtain⟨rs1,rf1,rl1⟩:=cells_of (l:=[_,_]) hno.fb.res
          have r10:=rs1 0 _ rfl
          have r11:=rs1 1 _ rfl
          have f10:=rf1 0
          have f11:=rf1 1
          have HE:Hid (responsesF l bs=(acc,(0,0))):=EX.out.trans hq.symm
          clear rs1 rf1 hq hno HQ
          go_wp2_with fail
          first
            | (refine bodyPost_ret (Responses_ends (set_two HN.out.fb.res) rfl rfl) rfl ?_
               rw[HE.out]
               exact⟨_,rfl,HN.out.set _ _,HN.out.fb.set _ _,(NewSl.own HN.out.row).mono (by omega)⟩)
            | fail
    · rw[show responsesF l bs=([],(2,0)) by unfold responsesF;rw[if_neg h0,if_pos hle]]
      obtain⟨ad2,c2,rfl⟩:=hv2.len
      rw[hz]at HC
      clear hv hv2
      generalize (chkX l).2=z2 at *
      have hb':((bs.length:Int) != (l.length:Int))=true:=by simp;omega
      go_enter Tryz.func40,Tryz.ntmps40
      go_wp2_with (go_at_call 72;refine HC.mono ?_;rintro r w1 ⟨rfl,hb1⟩;have H1:Hid (FB w w1 w.heap.size):=HF.out.grow hb1;obtain⟨rs1,rf1,rl1⟩:=cells_of (l:=[_,_]) H1.out.res;have r10:=rs1 0 _ rfl;have r11:=rs1 1 _ rfl;have f10:=rf1 0;have f11:=rf1 1;clear rs1 rf1 hb1 HC)
      first
        | (refine bodyPost_ret (Responses_ends (H1.out.endA (.int .i64 2) (.int .i64 0) _).1 rfl rfl) rfl ?_
           exact⟨_,rfl,RowSl.nil _ _,(H1.out.endA (.int .i64 2) (.int .i64 0) _).2,NewSl.none _ _ _⟩)
        | (go_wp2_with (go_at_call 60;refine(F_any _ _ _).mono ?_;rintro r w3 ⟨rfl,hb3⟩;have H3:Hid (FB w w3 w.heap.size):=(H1.out.grow (below_new _ _)).grow hb3;obtain⟨rs1,rf1,rl1⟩:=cells_of (l:=[_,_]) H3.out.res;have s10:=rs1 0 _ rfl;have s11:=rs1 1 _ rfl;have t10:=rf1 0;have t11:=rf1 1;clear rs1 rf1 hb3)
           refine bodyPost_ret (Responses_ends (set_two H3.out.res) rfl rfl) rfl ?_
           exact⟨_,rfl,RowSl.nil _ _,H3.out.set _ _,NewSl.none _ _ _⟩)
        | fail
structure Fr where
 c:Int
 t:Int
 d:Int
 j:Int
def badFr(m:Fr):Bool:=!(decide (1≤m.c) && decide (m.c≤10000) && decide (1≤m.t) && decide (m.t≤10000) && decide (1≤m.d) && decide (m.d≤10000) && decide (0≤m.j) && decide (m.j≤10000))
def wrFr(m:Fr):Int:=if badFr m=true then 3 else if m.t<m.j then 12 else 0
def okFr(m:Fr):Prop:=1≤m.c∧m.c≤10000∧1≤m.t∧m.t≤10000∧1≤m.d∧m.d≤10000∧0≤m.j∧m.j≤m.t
def Fx(ask:Int→Int)(a:Int):Option Int→Prop
 | some w=>a≤w∧w≤100000∧ask w=w∧∀v,a≤v→v<w→ask v≠v
 | none=>∀v,a≤v→v≤100000→ask v≠v
theorem Fx.one{ask:Int→Int}{a:Int}{x y:Option Int}(h:Fx ask a x)(h':Fx ask a y):x=y:=by
 cases x with
 | none=>cases y with
  | none=>rfl
  | some w=>exact absurd h'.2.2.1 (h w h'.1 h'.2.1)
 | some v=>cases y with
  | none=>exact absurd h.2.2.1 (h' v h.1 h.2.1)
  | some w =>
   rcases Int.lt_trichotomy v w with e|e|e
   ·exact absurd h.2.2.1 (h'.2.2.2 v h.1 e)
   ·rw[e]
   ·exact absurd h'.2.2.1 (h.2.2.2 w h'.1 e)
def Mo(ask:Int→Int)(a:Int):Prop:=∀v w,a≤v→v≤w→ask v≤ask w
theorem Mo.step{ask:Int→Int}{a w:Int}(h:Mo ask a)(ha:a≤w)(hle:w≤ask w)(hn:∀v,a≤v→v<w→ask v≠v):a≤ask w∧ask w≤ask (ask w)∧(∀v,a≤v→v<ask w→ask v≠v):=by
 refine⟨by omega,h _ _ ha hle,fun v hv hlt e=>?_⟩
 by_cases hc:v<w
 ·exact hn v hv hc e
 ·have:=h w v ha (by omega)
  omega
theorem Fx.from'{ask:Int→Int}{a b:Int}{x:Option Int}(hab:a≤b)(hno:∀v,a≤v→v<b→ask v≠v)(h:Fx ask b x):Fx ask a x:=by
 cases x with
 | none =>
  intro v hv hv2
  by_cases e:v<b
  ·exact hno v hv e
  ·exact h v (by omega) hv2
 | some w =>
  refine⟨by have:=h.1;omega,h.2.1,h.2.2.1,fun v hv hlt=>?_⟩
  by_cases e:v<b
  ·exact hno v hv e
  ·exact h.2.2.2 v (by omega) hlt
def upF(w:Int)(m:Fr):Int:=(w+m.j+m.t-1) / m.t*m.c
def dnF(w:Int)(m:Fr):Int:=((w+m.j) / m.t+1)*m.c
def sumF(f:Int→Fr→Int)(w:Int):List Fr→Int
 | []=>0
 | m::r=>f w m+sumF f w r
theorem ediv_mono{a b t:Int}(ht:1≤t)(h:a≤b):a / t≤b / t:=Int.ediv_le_ediv (by omega) h
theorem upF_mono{m:Fr}(h:okFr m){v w:Int}(hvw:v≤w):upF v m≤upF w m:=by
 unfold upF
 obtain⟨h1,-,h3,-⟩:=h
 exact Int.mul_le_mul_of_nonneg_right (ediv_mono h3 (by omega)) (by omega)
theorem dnF_mono{m:Fr}(h:okFr m){v w:Int}(hvw:v≤w):dnF v m≤dnF w m:=by
 unfold dnF
 obtain⟨h1,-,h3,-⟩:=h
 have:=ediv_mono h3 (show v+m.j≤w+m.j by omega)
 exact Int.mul_le_mul_of_nonneg_right (by omega) (by omega)
theorem upF_c{m:Fr}(h:okFr m){w:Int}(hw:1≤w):m.c≤upF w m:=by
 unfold upF
 obtain⟨h1,-,h3,-,-,-,h7,-⟩:=h
 have e:1≤(w+m.j+m.t-1) / m.t:=by
  rw[Int.le_ediv_iff_mul_le (by omega)];omega
 have:=Int.mul_le_mul_of_nonneg_right e (show 0≤m.c by omega)
 omega
theorem dnF_c{m:Fr}(h:okFr m){w:Int}(hw:0≤w):m.c≤dnF w m:=by
 unfold dnF
 obtain⟨h1,-,h3,-,-,-,h7,-⟩:=h
 have e:0≤(w+m.j) / m.t:=Int.ediv_nonneg (by omega) (by omega)
 have:=Int.mul_le_mul_of_nonneg_right (show(1:Int)≤(w+m.j) / m.t+1 by omega) (show 0≤m.c by omega)
 omega
theorem sumF_mono{f:Int→Fr→Int}{l:List Fr}(hf:∀m∈l,∀v w,v≤w→f v m≤f w m){v w:Int}(h:v≤w):sumF f v l≤sumF f w l:=by
 induction l with
 | nil=>exact Int.le_refl _
 | cons m r ih =>
  have h1:=hf m List.mem_cons_self v w h
  have h2:=ih (fun x hx=>hf x (List.mem_cons_of_mem _ hx))
  simp only[sumF]
  omega
theorem sumF_nonneg{f:Int→Fr→Int}{l:List Fr}{w:Int}(hf:∀m∈l,0≤f w m):0≤sumF f w l:=by
 induction l with
 | nil=>exact Int.le_refl _
 | cons m r ih =>
  have h1:=hf m List.mem_cons_self
  have h2:=ih (fun x hx=>hf x (List.mem_cons_of_mem _ hx))
  simp only[sumF]
  omega
theorem sumF_append{f:Int→Fr→Int}{w:Int}:∀(a b:List Fr),sumF f w (a++b)=sumF f w a+sumF f w b
 | [],b=>by simp[sumF]
 | m::r,b=>by simp[sumF,sumF_append r b];omega
def heldF:List Fr→Int
 | []=>0
 | m::r=>max (m.c-1) (heldF r)
theorem heldF_nonneg:∀l,0≤heldF l
 | []=>Int.le_refl _
 | m::r=>by have:=heldF_nonneg r;simp only[heldF];omega
theorem heldF_small{l:List Fr}(h:∀m∈l,m.c≤10000):heldF l≤9999:=by
 induction l with
 | nil=>simp[heldF]
 | cons m r ih =>
  have h1:=h m List.mem_cons_self
  have h2:=ih (fun x hx=>h x (List.mem_cons_of_mem _ hx))
  simp only[heldF];omega
def busyAsk(b:Int)(hd:List Fr)(m:Fr)(w:Int):Int:=b+sumF upF w (hd++[m])
def qAsk(b:Int)(hd:List Fr)(m:Fr)(q:Int)(w:Int):Int:=b+q*m.c+sumF dnF w hd
def kinds(m:Fr)(busy:Int):Int:=(busy+m.j+m.t-1) / m.t
theorem Mo.pre{ask:Int→Int}{a:Int}(h:Mo ask a)(ha:a≤ask a):∀(n:Nat) (v:Int),(v-a).toNat≤n→a≤v→ask v≤v→∃w,a≤w∧w≤v∧ask w=w
 | 0,v,hn,hv,hp=>⟨v,hv,Int.le_refl _,by(have:v=a:=(by omega);subst this;omega)⟩
 | n+1,v,hn,hv,hp=>by
  by_cases e:ask v=v
  ·exact⟨v,hv,Int.le_refl _,e⟩
  ·have h1:a≤ask v:=Int.le_trans ha (h a v (Int.le_refl _) hv)
   obtain⟨w,g1,g2,g3⟩:=Mo.pre h ha n (ask v) (by omega) h1 (h _ _ h1 hp)
   exact⟨w,g1,by omega,g3⟩
theorem qAsk_mo{b:Int}{hd:List Fr}{m:Fr}{q:Int}(hh:∀x∈hd,okFr x):Mo (qAsk b hd m q) 0:=fun v w _ h=>by
 unfold qAsk
 have:=sumF_mono (f:=dnF) (l:=hd) (fun x hx v w h=>dnF_mono (hh x hx) h) h
 omega
theorem qAsk_low{b:Int}{hd:List Fr}{m:Fr}{q v:Int}(hh:∀x∈hd,okFr x)(hv:0≤v):b+q*m.c≤qAsk b hd m q v:=by
 unfold qAsk
 have:=sumF_nonneg (f:=dnF) (l:=hd) (w:=v) (fun x hx=>by have:=dnF_c (hh x hx) hv;have:=(hh x hx).1;omega)
 omega
theorem busyAsk_mo{b:Int}{hd:List Fr}{m:Fr}(hh:∀x∈hd,okFr x)(hm:okFr m):Mo (busyAsk b hd m) 1:=fun v w _ h=>by
 unfold busyAsk
 have:=sumF_mono (f:=upF) (l:=hd++[m]) (fun x hx v w h=>upF_mono (by rcases List.mem_append.1 hx with hx|hx;exact hh x hx;simp at hx;exact hx ▸ hm) h) h
 omega
theorem busyAsk_low{b:Int}{hd:List Fr}{m:Fr}{v:Int}(hh:∀x∈hd,okFr x)(hm:okFr m)(hv:1≤v):b+m.c≤busyAsk b hd m v:=by
 unfold busyAsk
 rw[sumF_append]
 have h1:=sumF_nonneg (f:=upF) (l:=hd) (w:=v) (fun x hx=>by have:=upF_c (hh x hx) hv;have:=(hh x hx).1;omega)
 have h2:=upF_c hm hv
 simp only[sumF]
 omega
theorem q_next{b q p:Int}{hd:List Fr}{m:Fr}{x:Option Int}(hh:∀x∈hd,okFr x)(hm:okFr m)(hb:0≤b)(hq:0≤q)(hp:Fx (qAsk b hd m q) 0 (some p))(h:Fx (qAsk b hd m (q+1)) p x):Fx (qAsk b hd m (q+1)) 0 x:=by
 refine h.from' hp.1 (fun v hv hlt e=>?_)
 have hle:qAsk b hd m q v≤v:=by
  have:qAsk b hd m q v≤qAsk b hd m (q+1) v:=by
   unfold qAsk
   have:=hm.1
   rw[Int.add_mul,Int.one_mul]
   omega
  omega
 have h0:0≤qAsk b hd m q 0:=by
  have:=qAsk_low (b:=b) (m:=m) (q:=q) (v:=0) hh (Int.le_refl _)
  have:=Int.mul_nonneg hq (show 0≤m.c by have:=hm.1;omega)
  omega
 obtain⟨w,g1,g2,g3⟩:=(qAsk_mo (b:=b) (m:=m) (q:=q) hh).pre h0 v.toNat v (by omega) hv hle
 exact hp.2.2.2 w g1 (by omega) g3
theorem q_start{b q p:Int}{hd:List Fr}{m:Fr}(hm:okFr m)(hp:Fx (qAsk b hd m q) 0 (some p)):p≤qAsk b hd m (q+1) p:=by
 have h:=hp.2.2.1
 unfold qAsk at h ⊢
 have:=hm.1
 rw[Int.add_mul,Int.one_mul]
 omega
inductive Tm (b:Int) (hd:List Fr) (m:Fr):Nat→Option Int→Prop
 | zero:Tm b hd m 0 (some 0)
 | gone {q:Nat}:Tm b hd m q none→Tm b hd m (q+1) none
 | stop {q:Nat} {v:Int}:Tm b hd m q (some v)→Fx (qAsk b hd m q) 0 none→Tm b hd m (q+1) none
 | next {q:Nat} {v w:Int}:Tm b hd m q (some v)→Fx (qAsk b hd m q) 0 (some w)→Tm b hd m (q+1) (some (max v (m.j+w-q*m.t+m.c)))
theorem Tm.one{b:Int}{hd:List Fr}{m:Fr}:∀ {q:Nat} {x y:Option Int},Tm b hd m q x→Tm b hd m q y→x=y
 | 0,_,_,.zero,.zero=>rfl
 | q+1,_,_,.gone h,.gone _=>rfl
 | q+1,_,_,.gone h,.stop h' _=>by cases h.one h'
 | q+1,_,_,.gone h,.next h' _=>by cases h.one h'
 | q+1,_,_,.stop h _,.gone h'=>by cases h.one h'
 | q+1,_,_,.stop h _,.stop h' _=>rfl
 | q+1,_,_,.stop h f,.next h' f'=>by cases h.one h';cases f.one f'
 | q+1,_,_,.next h _,.gone h'=>by cases h.one h'
 | q+1,_,_,.next h f,.stop h' f'=>by cases h.one h';cases f.one f'
 | q+1,_,_,.next h f,.next h' f'=>by
  have e1:=h.one h'
  have e2:=f.one f'
  cases e1;cases e2;rfl
theorem Tm.gone_to{b:Int}{hd:List Fr}{m:Fr}{q:Nat}(h:Tm b hd m q none):∀k,Tm b hd m (q+k) none
 | 0=>h
 | k+1=>(h.gone_to k).gone
theorem Tm.small{b:Int}{hd:List Fr}{m:Fr}(hm:okFr m):∀ {q:Nat} {v:Int},Tm b hd m q (some v)→0≤v∧v≤120000
 | _,_,.zero=>by omega
 | q+1,_,.next h f=>by
  have h1:=h.small hm
  have h2:=f.2.1
  obtain⟨g1,g2,g3,g4,g5,g6,g7,g8⟩:=hm
  have:0≤(q:Int)*m.t:=Int.mul_nonneg (by omega) (by omega)
  omega
inductive Wst (hd:List Fr) (m:Fr) (tl:List Fr):Option Int→Prop
 | none:Fx (busyAsk (heldF tl) hd m) 1 none→Wst hd m tl none
 | some {busy:Int} {x:Option Int}:Fx (busyAsk (heldF tl) hd m) 1 (some busy)→Tm (heldF tl) hd m (kinds m busy).toNat x→Wst hd m tl x
theorem Wst.one{hd tl:List Fr}{m:Fr}{x y:Option Int}(h:Wst hd m tl x)(h':Wst hd m tl y):x=y:=by
 cases h with
 | none f=>cases h' with
  | none f'=>rfl
  | some f' t'=>cases f.one f'
 | some f t=>cases h' with
  | none f'=>cases f.one f'
  | some f' t'=>cases f.one f';exact t.one t'
def TmsTo(l:List Fr)(ts:List Int):Prop:=ts.length≤l.length∧∀i m v,l[i]?=some m→ts[i]?=some v→Wst (l.take i) m (l.drop (i+1)) (some v)∧v≤m.d
def NoTm(l:List Fr)(i:Nat):Prop:=∃m x,l[i]?=some m∧Wst (l.take i) m (l.drop (i+1)) x∧∀v,x=some v→m.d<v
def Told(l:List Fr)(ts:List Int)(e:Int × Int):Prop :=
 (TmsTo l ts∧ts.length=l.length∧e=(0,0))∨(ts=[]∧∃us,TmsTo l us∧NoTm l us.length∧e=(13,(us.length:Int)))
theorem TmsTo.start(l:List Fr):TmsTo l []:=⟨Nat.zero_le _,fun i m v _ h=>by simp at h⟩
theorem TmsTo.snoc{l:List Fr}{ts:List Int}{m:Fr}{v:Int}(h:TmsTo l ts)(hm:l[ts.length]?=some m)(hw:Wst (l.take ts.length) m (l.drop (ts.length+1)) (some v))(hv:v≤m.d):TmsTo l (ts++[v]):=by
 have hlt:ts.length<l.length:=(List.getElem?_eq_some_iff.1 hm).1
 refine⟨by simp;omega,fun i m' v' h1 h2=>?_⟩
 by_cases hi:i<ts.length
 ·rw[List.getElem?_append_left hi]at h2
  exact h.2 i m' v' h1 h2
 ·rw[List.getElem?_append_right (by omega)]at h2
  have e:i=ts.length:=by
   have:=(List.getElem?_eq_some_iff.1 h2).1
   simp at this
   omega
  subst e
  rw[hm]at h1
  cases h1
  simp at h2
  subst h2
  exact⟨hw,hv⟩
theorem TmsTo.pre{l:List Fr}{ts us:List Int}(h:TmsTo l ts)(h':TmsTo l us)(hle:ts.length≤us.length):ts=us.take ts.length:=by
 apply List.ext_getElem?
 intro i
 by_cases hi:i<ts.length
 ·have hl:i<l.length:=by have:=h.1;omega
  have e1:=(h.2 i l[i] ts[i] (List.getElem?_eq_getElem hl) (List.getElem?_eq_getElem hi)).1
  have e2:=(h'.2 i l[i] (us[i]'(by omega)) (List.getElem?_eq_getElem hl) (List.getElem?_eq_getElem (by omega))).1
  have e3:=Option.some.inj (e1.one e2)
  rw[List.getElem?_take,if_pos hi,List.getElem?_eq_getElem hi,List.getElem?_eq_getElem (show i<us.length by omega),e3]
 ·rw[List.getElem?_eq_none (by omega),List.getElem?_eq_none (by rw[List.length_take];omega)]
theorem TmsTo.no{l:List Fr}{ts:List Int}{i:Nat}(h:TmsTo l ts)(hn:NoTm l i):¬ i<ts.length:=fun hi=>by
 obtain⟨m,x,h1,h2,h3⟩:=hn
 have:=h.2 i m ts[i] h1 (List.getElem?_eq_getElem hi)
 have e:=h2.one this.1
 have:=h3 _ e
 omega
theorem Told.one{l:List Fr}{ts us:List Int}{e f:Int × Int}(h:Told l ts e)(h':Told l us f):ts=us∧e=f:=by
 rcases h with ⟨h1,h2,rfl⟩|⟨rfl,ts',h1,h2,rfl⟩
 ·rcases h' with ⟨g1,g2,rfl⟩|⟨rfl,us',g1,g2,rfl⟩
  ·refine⟨?_,rfl⟩
   rw[h1.pre g1 (by omega),h2,← g2,List.take_length]
  ·have:=h1.no g2
   obtain⟨m,x,q1,-⟩:=g2
   have:=(List.getElem?_eq_some_iff.1 q1).1
   omega
 ·rcases h' with ⟨g1,g2,rfl⟩|⟨rfl,us',g1,g2,rfl⟩
  ·have:=g1.no h2
   obtain⟨m,x,q1,-⟩:=h2
   have:=(List.getElem?_eq_some_iff.1 q1).1
   omega
  ·refine⟨rfl,?_⟩
   have a1:=h1.no g2
   have a2:=g1.no h2
   have:ts'.length=us'.length:=by omega
   rw[this]
def Fr.vals(x:Fr):List Value:=[.int .i64 x.c,.int .i64 x.t,.int .i64 x.d,.int .i64 x.j]
def Fr.val(x:Fr):Value:=.agg #[.int .i64 x.c,.int .i64 x.t,.int .i64 x.d,.int .i64 x.j]
theorem Fr.len(x:Fr):x.vals.length=4:=rfl
def FrAt(w:World)(b o:Nat)(x:Fr):Prop:=w.cell? ⟨b,o,none⟩=some (.int .i64 x.c)∧w.cell? ⟨b,o+1,none⟩=some (.int .i64 x.t)∧w.cell? ⟨b,o+2,none⟩=some (.int .i64 x.d)∧w.cell? ⟨b,o+3,none⟩=some (.int .i64 x.j)
theorem fr_at{w:World}{l:List Fr}{b o j:Nat}{x:Fr}(h:∀q u,(l.flatMap Fr.vals)[q]?=some u→w.cell? ⟨b,o+q,none⟩=some u)(hj:l[j]?=some x):FrAt w b (o+j*4) x:=by
 have k:∀k u,k<4→x.vals[k]?=some u→w.cell? ⟨b,o+j*4+k,none⟩=some u:=fun k u hk hu=>by
  rw[Nat.add_assoc]
  exact h _ u ((flat_at Fr.vals 4 Fr.len l j k x hj hk).trans hu)
 exact⟨k 0 _ (by omega) rfl,k 1 _ (by omega) rfl,k 2 _ (by omega) rfl,k 3 _ (by omega) rfl⟩
def chkNF:List Fr→Nat→Int × Int
 | [],_=>(0,0)
 | m::r,i=>if wrFr m=0 then chkNF r (i+1) else (wrFr m,(i:Int))
def chkN(l:List Fr):Int × Int:=if l.length=0∨8<l.length then (2,0) else chkNF l 0
theorem chkNF_at{l:List Fr}{j:Nat}{x:Fr}(h:l.drop j=x::l.drop (j+1)):chkNF (l.drop j) j=if wrFr x=0 then chkNF (l.drop (j+1)) (j+1) else (wrFr x,(j:Int)):=by
 rw[h,chkNF]
theorem wrFr_ok{m:Fr}(h:wrFr m=0):okFr m:=by
 unfold wrFr at h
 by_cases h1:badFr m=true
 ·rw[if_pos h1]at h;cases h
 ·rw[if_neg h1]at h
  by_cases h2:m.t<m.j
  ·rw[if_pos h2]at h;cases h
  ·unfold badFr at h1
   simp at h1
   unfold okFr
   omega
theorem chkNF_ok:∀(l:List Fr) (i:Nat),(chkNF l i).1=0→(∀x∈l,okFr x)∧chkNF l i=(0,0)
 | [],_,_=>⟨fun _ h=>by simp at h,rfl⟩
 | m::r,i,h=>by
  rw[chkNF]at h ⊢
  by_cases hm:wrFr m=0
  ·rw[if_pos hm]at h ⊢
   obtain⟨h1,h2⟩:=chkNF_ok r (i+1) h
   exact⟨fun x hx=>by
    rcases List.mem_cons.1 hx with rfl|hx
    ·exact wrFr_ok hm
    ·exact h1 x hx,h2⟩
  ·rw[if_neg hm]at h
   exact absurd h hm
theorem chkN_ok{l:List Fr}(h:(chkN l).1=0):1≤l.length∧l.length≤8∧(∀x∈l,okFr x)∧chkN l=(0,0):=by
 unfold chkN at h ⊢
 by_cases h1:l.length=0∨8<l.length
 ·rw[if_pos h1]at h;cases h
 ·rw[if_neg h1]at h ⊢
  obtain⟨h2,h3⟩:=chkNF_ok l 0 h
  exact⟨by omega,by omega,h2,h3⟩
theorem withinN_any(w:World)(n a b:Int):Calls Tryz.prog 233 #[.int .i64 n,.int .i64 a,.int .i64 b] w fun r w'=>r = .returned (.bool (within n a b))∧w'=w:=by
 by_cases h:a≤n
 ·by_cases h2:n≤b
  ·have e:within n a b=true:=by simp[within,h,h2]
   rw[e]
   go_enter Tryz.func233,Tryz.ntmps233
   go_wp2_with fail
   go_ret
   exact⟨rfl,rfl⟩
  ·have e:within n a b=false:=by simp[within,h2]
   rw[e]
   go_enter Tryz.func233,Tryz.ntmps233
   go_wp2_with fail
   go_ret
   exact⟨rfl,rfl⟩
 ·have e:within n a b=false:=by simp[within,h]
  rw[e]
  go_enter Tryz.func233,Tryz.ntmps233
  go_wp2_with fail
  go_ret
  exact⟨rfl,rfl⟩
def isT(n:Int):Bool:=within n 1 10000
theorem isTimeN_any(w:World)(n:Int):Calls Tryz.prog 245 #[.int .i64 n] w fun r w'=>r = .returned (.bool (isT n))∧w'=w:=by
 unfold isT
 go_enter Tryz.func245,Tryz.ntmps245
 go_wp2_with (go_at_call 233;refine(withinN_any _ _ _ _).mono ?_;rintro r w1 ⟨rfl,hw1⟩;have hw2:=hw1.symm;subst hw2)
 go_ret
 exact⟨rfl,rfl⟩
set_option maxRecDepth 20000 in
set_option maxHeartbeats 1000000 in
theorem wrongN_any(w:World)(x:Fr):Calls Tryz.prog 234 #[x.val] w fun r w'=>r = .returned (.int .i64 (wrFr x))∧Below w.heap.size w w':=by
 obtain⟨c,t,d,j⟩:=x
 show Calls Tryz.prog 234 #[.agg #[.int .i64 c,.int .i64 t,.int .i64 d,.int .i64 j]] w _
 by_cases h1:isT c=true
 rotate_left 1
 ·have h1:isT c=false:=by simpa using h1
  have e:wrFr ⟨c,t,d,j⟩=3:=by unfold wrFr badFr;unfold isT within at *;simp at *;omega
  rw[e]
  go_enter Tryz.func234,Tryz.ntmps234
  go_wp2_with (first|(go_at_call 245;refine(isTimeN_any _ _).mono ?_;rintro r w1 ⟨rfl,hw1⟩;have hw2:=hw1.symm;subst hw2;first|rw[h1]|rw[h2]|rw[h3])|(go_at_call 233;refine(withinN_any _ _ _ _).mono ?_;rintro r w1 ⟨rfl,hw1⟩;have hw2:=hw1.symm;subst hw2;rw[h4]))
  go_ret
  exact⟨rfl,below_new _ _⟩
 by_cases h2:isT t=true
 rotate_left 1
 ·have h2:isT t=false:=by simpa using h2
  have e:wrFr ⟨c,t,d,j⟩=3:=by unfold wrFr badFr;unfold isT within at *;simp at *;omega
  rw[e]
  go_enter Tryz.func234,Tryz.ntmps234
  go_wp2_with (first|(go_at_call 245;refine(isTimeN_any _ _).mono ?_;rintro r w1 ⟨rfl,hw1⟩;have hw2:=hw1.symm;subst hw2;first|rw[h1]|rw[h2]|rw[h3])|(go_at_call 233;refine(withinN_any _ _ _ _).mono ?_;rintro r w1 ⟨rfl,hw1⟩;have hw2:=hw1.symm;subst hw2;rw[h4]))
  go_ret
  exact⟨rfl,below_new _ _⟩
 by_cases h3:isT d=true
 rotate_left 1
 ·have h3:isT d=false:=by simpa using h3
  have e:wrFr ⟨c,t,d,j⟩=3:=by unfold wrFr badFr;unfold isT within at *;simp at *;omega
  rw[e]
  go_enter Tryz.func234,Tryz.ntmps234
  go_wp2_with (first|(go_at_call 245;refine(isTimeN_any _ _).mono ?_;rintro r w1 ⟨rfl,hw1⟩;have hw2:=hw1.symm;subst hw2;first|rw[h1]|rw[h2]|rw[h3])|(go_at_call 233;refine(withinN_any _ _ _ _).mono ?_;rintro r w1 ⟨rfl,hw1⟩;have hw2:=hw1.symm;subst hw2;rw[h4]))
  go_ret
  exact⟨rfl,below_new _ _⟩
 by_cases h4:within j 0 10000=true
 rotate_left 1
 ·have h4:within j 0 10000=false:=by simpa using h4
  have e:wrFr ⟨c,t,d,j⟩=3:=by unfold wrFr badFr;unfold isT within at *;simp at *;omega
  rw[e]
  go_enter Tryz.func234,Tryz.ntmps234
  go_wp2_with (first|(go_at_call 245;refine(isTimeN_any _ _).mono ?_;rintro r w1 ⟨rfl,hw1⟩;have hw2:=hw1.symm;subst hw2;first|rw[h1]|rw[h2]|rw[h3])|(go_at_call 233;refine(withinN_any _ _ _ _).mono ?_;rintro r w1 ⟨rfl,hw1⟩;have hw2:=hw1.symm;subst hw2;rw[h4]))
  go_ret
  exact⟨rfl,below_new _ _⟩
 by_cases h5:t<j
 ·have e:wrFr ⟨c,t,d,j⟩=12:=by unfold wrFr badFr;unfold isT within at *;simp at *;omega
  rw[e]
  go_enter Tryz.func234,Tryz.ntmps234
  go_wp2_with (first|(go_at_call 245;refine(isTimeN_any _ _).mono ?_;rintro r w1 ⟨rfl,hw1⟩;have hw2:=hw1.symm;subst hw2;first|rw[h1]|rw[h2]|rw[h3])|(go_at_call 233;refine(withinN_any _ _ _ _).mono ?_;rintro r w1 ⟨rfl,hw1⟩;have hw2:=hw1.symm;subst hw2;rw[h4]))
  go_ret
  exact⟨rfl,below_new _ _⟩
 ·have e:wrFr ⟨c,t,d,j⟩=0:=by unfold wrFr badFr;unfold isT within at *;simp at *;omega
  rw[e]
  go_enter Tryz.func234,Tryz.ntmps234
  go_wp2_with (first|(go_at_call 245;refine(isTimeN_any _ _).mono ?_;rintro r w1 ⟨rfl,hw1⟩;have hw2:=hw1.symm;subst hw2;first|rw[h1]|rw[h2]|rw[h3])|(go_at_call 233;refine(withinN_any _ _ _ _).mono ?_;rintro r w1 ⟨rfl,hw1⟩;have hw2:=hw1.symm;subst hw2;rw[h4]))
  go_ret
  exact⟨rfl,below_new _ _⟩
theorem CheckN_ends{w:World}{g:Nat}{c k:Value}{a:Act}(h:w.heap[g]?=some (.cells #[c,k] 33 (0,0)))(h3:a.tmps[2]?.getD undef = .pointer (some ⟨g,0,none⟩)) :
  (results Tryz.f213 a.tmps).run Tryz.prog w = .ok (.agg #[c,k]) w:=by
 obtain⟨c1,f1,l1⟩:=cells_of (l:=[_,_]) h
 have c10:=c1 0 _ rfl
 have c11:=c1 1 _ rfl
 simp[results,Tryz.results213,go_sem,h3,c10,c11]
set_option maxRecDepth 20000 in
set_option maxHeartbeats 1000000 in
theorem CheckN_any(w:World)(l:List Fr)(v:Value)(hv:RowSl Fr.vals w l v):Calls Tryz.prog 213 #[v] w fun r w'=>r = .returned (.agg #[.int .i64 (chkN l).1,.int .i64 (chkN l).2])∧Below w.heap.size w w':=by
 by_cases hn:l.length=0∨8<l.length
 ·have e0:chkN l=(2,0):=by unfold chkN;rw[if_pos hn]
  rw[e0]
  obtain⟨ad,c,rfl⟩:=hv.len
  have HN:Hid (l.length=0∨8<l.length):=hn
  clear hv e0
  have hw:within (l.length:Int) 1 8=false:=by unfold within;simp;have:=HN.out;omega
  clear hn
  go_enter Tryz.func213,Tryz.ntmps213
  go_wp2_with (go_at_call 233;refine(withinN_any _ _ _ _).mono ?_;rintro r w1 ⟨rfl,hw1⟩;have hw2:=hw1.symm;subst hw2;rw[hw])
  refine bodyPost_ret (CheckN_ends (g:=w.heap.size) (c:=.int .i64 2) (k:=.int .i64 0) (heap_alloc_new _ _) rfl) rfl ?_
  exact⟨rfl,below_new _ _⟩
 have e0:chkN l=chkNF l 0:=by unfold chkN;rw[if_neg hn]
 rw[e0]
 have hw:within (l.length:Int) 1 8=true:=by unfold within;simp;omega
 have hl8:l.length≤8:=by omega
 clear e0 hn
 obtain⟨ad,c,rfl,-,hcap,hrow⟩:=hv
 have HR:Hid (l=[]∨∃b o,ad=some ⟨b,o,none⟩∧∀q u,(l.flatMap Fr.vals)[q]?=some u→w.cell? ⟨b,o+q,none⟩=some u):=hrow
 clear hrow
 go_enter Tryz.func213,Tryz.ntmps213
 go_wp2_with (go_at_call 233;refine(withinN_any _ _ _ _).mono ?_;rintro r w1 ⟨rfl,hw1⟩;have hw2:=hw1.symm;subst hw2;rw[hw])
 go_loopw [13] (fun i wr=>∃j:Nat,j≤l.length∧i = .int .i64 j∧FB w wr w.heap.size∧chkNF (l.drop j) j=chkNF l 0) (fun i _=>l.length-(intOf i).toNat)
 case atStart=>exact⟨0,Nat.zero_le _,rfl,FB.start _,rfl⟩
 case round =>
  obtain⟨j,hj,rfl,hg,hac⟩:=hrel
  have HG:Hid (FB w wr w.heap.size):=hg
  by_cases hjl:j<l.length
  ·obtain⟨x,hx,hd⟩:=drop_at hjl
   rcases HR.out with h|⟨gb,go,rfl,hr1⟩
   ·rw[h]at hjl;simp at hjl
   obtain⟨y0,y1,y2,y3⟩:=fr_at (fun q u hq=>below_cell hg.bel (hr1 q u hq)) hx
   rw[chkNF_at hd]at hac
   obtain⟨xc,xt,xd,xj⟩:=x
   dsimp only at y0 y1 y2 y3
   have HA:Hid ((if wrFr ⟨xc,xt,xd,xj⟩=0 then chkNF (l.drop (j+1)) (j+1) else (wrFr ⟨xc,xt,xd,xj⟩,(j:Int)))=chkNF l 0):=hac
   have hgl:=hg.lt
   clear hac hd hr1 hx hg
   by_cases h0:wrFr ⟨xc,xt,xd,xj⟩=0
   ·have hwr:=fun W=>wrongN_any W ⟨xc,xt,xd,xj⟩
    rw[h0]at hwr
    simp only[Fr.val]at hwr
    go_wp2_with (go_at_call 234;refine(hwr _).mono ?_;rintro r w2 ⟨rfl,hb2⟩;have H2:Hid (FB w w2 w.heap.size):=(HG.out.grow (below_new _ _)).grow hb2;clear hb2)
    have HA2:=HA.out
    rw[if_pos h0]at HA2
    exact⟨⟨j+1,by omega,by simp,H2.out,HA2⟩,by simp[intOf];omega⟩
   ·have hwr:=fun W=>wrongN_any W ⟨xc,xt,xd,xj⟩
    simp only[Fr.val]at hwr
    have HA2:=HA.out
    rw[if_neg h0]at HA2
    have HA3:Hid ((wrFr ⟨xc,xt,xd,xj⟩,(j:Int))=chkNF l 0):=HA2
    clear HA2 HA
    generalize wrFr ⟨xc,xt,xd,xj⟩=z at *
    have hz:(z != 0)=true:=by simpa using h0
    clear h0
    go_wp2_with (go_at_call 234;refine(hwr _).mono ?_;rintro r w2 ⟨rfl,hb2⟩;have H2:Hid (FB w w2 w.heap.size):=(HG.out.grow (below_new _ _)).grow hb2;obtain⟨qs,qf,ql⟩:=cells_of (l:=[_,_]) H2.out.res;have q0:=qs 0 _ rfl;have q1:=qs 1 _ rfl;have qf0:=qf 0;have qf1:=qf 1;clear qs qf hb2)
    refine bodyPost_ret (CheckN_ends (g:=w.heap.size) (c:=.int .i64 z) (k:=.int .i64 (j:Int)) (set_two H2.out.res) rfl) rfl ?_
    rw[← HA3.out]
    exact⟨rfl,H2.out.set _ _⟩
  ·have hje:j=l.length:=by omega
   subst hje
   rw[List.drop_length]at hac
   have HA:Hid ((0,0)=chkNF l 0):=hac
   obtain⟨qs,qf,ql⟩:=cells_of (l:=[_,_]) hg.res
   have q0:=qs 0 _ rfl
   have q1:=qs 1 _ rfl
   have qf0:=qf 0
   have qf1:=qf 1
   clear qs qf hac hg
   go_wp2_with fail
   refine bodyPost_ret (CheckN_ends (g:=w.heap.size) (c:=.int .i64 0) (k:=.int .i64 0) (set_two HG.out.res) rfl) rfl ?_
   rw[← HA.out]
   exact⟨rfl,HG.out.set _ _⟩
set_option maxRecDepth 20000 in
set_option maxHeartbeats 1000000 in
theorem holds_any(w:World)(l:List Fr)(v:Value)(hl:l.length≤8)(hok:∀x∈l,okFr x)(hv:RowSl Fr.vals w l v):Calls Tryz.prog 235 #[v] w fun r w'=>r = .returned (.int .i64 (heldF l))∧Below w.heap.size w w':=by
 obtain⟨ad,c,rfl,-,hcap,hrow⟩:=hv
 have HR:Hid ((l=[]∨∃b o,ad=some ⟨b,o,none⟩∧∀q u,(l.flatMap Fr.vals)[q]?=some u→w.cell? ⟨b,o+q,none⟩=some u)∧∀x∈l,okFr x):=⟨hrow,hok⟩
 clear hrow hok
 go_enter Tryz.func235,Tryz.ntmps235
 go_wp2_with fail
 go_loopw [3,8] (fun mv i wr=>∃(j:Nat) (mm:Int),j≤l.length∧i = .int .i64 j∧mv = .int .i64 mm∧Below w.heap.size w wr∧1≤mm∧mm≤10000∧Hid (max (mm-1) (heldF (l.drop j))=heldF l)) (fun _ i _=>l.length-(intOf i).toNat)
 case atStart=>exact⟨0,1,Nat.zero_le _,rfl,rfl,Below.refl _ _,by omega,by omega,by have:=heldF_nonneg l;show max (1-1) (heldF l)=heldF l;omega⟩
 case round =>
  obtain⟨j,mm,hj,rfl,rfl,hb,h1,h2,HM⟩:=hrel
  by_cases hjl:j<l.length
  ·obtain⟨x,hx,hd⟩:=drop_at hjl
   rcases HR.out.1 with h|⟨gb,go,rfl,hr1⟩
   ·rw[h]at hjl;simp at hjl
   obtain⟨y0,y1,y2,y3⟩:=fr_at (fun q u hq=>below_cell hb (hr1 q u hq)) hx
   have hxo:=HR.out.2 x (List.mem_of_getElem? hx)
   obtain⟨xc,xt,xd,xj⟩:=x
   dsimp only at y0 y1 y2 y3
   have hc1:1≤xc:=hxo.1
   have hc2:xc≤10000:=hxo.2.1
   have HB:Hid (Below w.heap.size w wr):=hb
   have HD:Hid (heldF (l.drop j)=max (xc-1) (heldF (l.drop (j+1)))):=by rw[hd];rfl
   clear hxo hd hx hr1 hb
   go_wp2_with fail
   refine⟨⟨j+1,max mm xc,by omega,by simp,?_,below_seq HB.out (below_new _ _),by omega,by omega,?_⟩,by simp[intOf];omega⟩
   ·first|rfl|(simp;done)|(congr 1;omega)
   ·have e:max (max mm xc-1) (heldF (l.drop (j+1)))=heldF l:=by
     rw[← HM.out,HD.out];omega
    exact e
  ·have hje:j=l.length:=by omega
   subst hje
   go_wp2_with fail
   go_ret
   refine⟨?_,hb⟩
   have:=HM.out
   rw[List.drop_length]at this
   have e:mm-1=heldF l:=by rw[← this];simp only[heldF];omega
   rw[e]
   rfl
theorem roundUp_any(w:World)(a b:Int)(h0:0≤a)(h1:a≤1000000)(h2:1≤b)(h3:b≤10000):Calls Tryz.prog 240 #[.int .i64 a,.int .i64 b] w fun r w'=>r = .returned (.int .i64 ((a+b-1) / b))∧w'=w:=by
 have e5:(a+b-1).tdiv b=(a+b-1) / b:=Int.tdiv_eq_ediv_of_nonneg (by omega)
 have q0:0≤(a+b-1) / b:=Int.ediv_nonneg (by omega) (by omega)
 have q1:(a+b-1) / b≤a+b-1:=Int.ediv_le_self b (by omega)
 have e6:IntKind.i64.wrap ((a+b-1) / b)=(a+b-1) / b:=by rw[IntKind.wrap_i64];omega
 have e7:IntKind.i64.wrap (a+b)=a+b:=by rw[IntKind.wrap_i64];omega
 have e8:IntKind.i64.wrap (a+b-1)=a+b-1:=by rw[IntKind.wrap_i64];omega
 have hb:(b == 0)=false:=by simp;omega
 have hb':¬ b=0:=by omega
 go_enter Tryz.func240,Tryz.ntmps240
 go_wp2_with fail
 go_ret
 exact⟨rfl,rfl⟩
theorem upF_range{m:Fr}(h:okFr m){w:Int}(h0:0≤w)(h1:w≤100000):0≤upF w m∧upF w m≤3000000000:=by
 obtain⟨g1,g2,g3,g4,g5,g6,g7,g8⟩:=h
 unfold upF
 have q0:0≤(w+m.j+m.t-1) / m.t:=Int.ediv_nonneg (by omega) (by omega)
 have q1:(w+m.j+m.t-1) / m.t≤w+m.j+m.t-1:=Int.ediv_le_self m.t (by omega)
 refine⟨Int.mul_nonneg q0 (by omega),?_⟩
 have:=Int.mul_le_mul (show(w+m.j+m.t-1) / m.t≤130000 by omega) g2 (by omega) (by omega)
 omega
theorem dnF_range{m:Fr}(h:okFr m){w:Int}(h0:0≤w)(h1:w≤100000):0≤dnF w m∧dnF w m≤3000000000:=by
 obtain⟨g1,g2,g3,g4,g5,g6,g7,g8⟩:=h
 unfold dnF
 have q0:0≤(w+m.j) / m.t:=Int.ediv_nonneg (by omega) (by omega)
 have q1:(w+m.j) / m.t≤w+m.j:=Int.ediv_le_self m.t (by omega)
 refine⟨Int.mul_nonneg (by omega) (by omega),?_⟩
 have:=Int.mul_le_mul (show(w+m.j) / m.t+1≤130000 by omega) g2 (by omega) (by omega)
 omega
theorem roundUp_q(w:World)(a b:Int)(h0:0≤a)(h1:a≤1000000)(h2:1≤b)(h3:b≤10000):Calls Tryz.prog 240 #[.int .i64 a,.int .i64 b] w fun r w'=>r = .returned (.int .i64 ((a+b-1) / b))∧∃n,w'=w.drewN n :=
 (roundUp_any w a b h0 h1 h2 h3).mono (by rintro r w' ⟨rfl,rfl⟩;exact⟨rfl,0,rfl⟩)
set_option maxRecDepth 20000 in
set_option maxHeartbeats 1000000 in
theorem wup_any(w:World)(x:Fr)(gw:Nat)(y:Int)(hx:okFr x)(hy:0≤y∧y≤100000)(hw:w.cell? ⟨gw,0,none⟩=some (.int .i64 y)):Calls Tryz.prog 239 #[x.val,.pointer (some ⟨gw,0,none⟩)] w fun r w'=>r = .returned (.int .i64 (upF y x))∧Below w.heap.size w w':=by
 have hr:=upF_range hx hy.1 hy.2
 obtain⟨c,t,d,j⟩:=x
 show Calls Tryz.prog 239 #[.agg #[.int .i64 c,.int .i64 t,.int .i64 d,.int .i64 j],_] w _
 obtain⟨g1,g2,g3,g4,g5,g6,g7,g8⟩:=hx
 dsimp only at g1 g2 g3 g4 g5 g6 g7 g8
 unfold upF at hr ⊢
 dsimp only at hr ⊢
 have l1:gw<w.heap.size:=World.block_lt_of_cell? _ _ hw
 have e1:IntKind.i64.wrap (y+j)=y+j:=by rw[IntKind.wrap_i64];omega
 have e2:IntKind.i64.wrap ((y+j+t-1) / t*c)=(y+j+t-1) / t*c:=by rw[IntKind.wrap_i64];omega
 have HQ:=fun W=>roundUp_q W (y+j) t (by omega) (by omega) (by omega) (by omega)
 clear hr
 go_enter Tryz.func239,Tryz.ntmps239
 go_wp2_with fail
 go_quiet (first|(go_at_call 240;exact Calls.quiet_of (HQ _)))
 go_wp2_with fail
 go_ret
 exact⟨rfl,below_seq (below_new _ _) below_drewN'⟩
set_option maxRecDepth 20000 in
set_option maxHeartbeats 1000000 in
theorem wdn_any(w:World)(x:Fr)(gw:Nat)(y:Int)(hx:okFr x)(hy:0≤y∧y≤100000)(hw:w.cell? ⟨gw,0,none⟩=some (.int .i64 y)):Calls Tryz.prog 242 #[x.val,.pointer (some ⟨gw,0,none⟩)] w fun r w'=>r = .returned (.int .i64 (dnF y x))∧Below w.heap.size w w':=by
 have hr:=dnF_range hx hy.1 hy.2
 obtain⟨c,t,d,j⟩:=x
 show Calls Tryz.prog 242 #[.agg #[.int .i64 c,.int .i64 t,.int .i64 d,.int .i64 j],_] w _
 obtain⟨g1,g2,g3,g4,g5,g6,g7,g8⟩:=hx
 dsimp only at g1 g2 g3 g4 g5 g6 g7 g8
 unfold dnF at hr ⊢
 dsimp only at hr ⊢
 have l1:gw<w.heap.size:=World.block_lt_of_cell? _ _ hw
 have e1:IntKind.i64.wrap (y+j)=y+j:=by rw[IntKind.wrap_i64];omega
 have q0:0≤(y+j) / t:=Int.ediv_nonneg (by omega) (by omega)
 have q1:(y+j) / t≤y+j:=Int.ediv_le_self t (by omega)
 have e5:(y+j).tdiv t=(y+j) / t:=Int.tdiv_eq_ediv_of_nonneg (by omega)
 have e3:IntKind.i64.wrap ((y+j) / t)=(y+j) / t:=by rw[IntKind.wrap_i64];omega
 have e4:IntKind.i64.wrap ((y+j) / t+1)=(y+j) / t+1:=by rw[IntKind.wrap_i64];omega
 have e2:IntKind.i64.wrap (((y+j) / t+1)*c)=((y+j) / t+1)*c:=by rw[IntKind.wrap_i64];omega
 have hb:(t == 0)=false:=by simp;omega
 have hb':¬ t=0:=by omega
 clear hr
 go_enter Tryz.func242,Tryz.ntmps242
 go_wp2_with fail
 go_quiet (fail)
 go_wp2_with fail
 go_ret
 exact⟨rfl,below_seq (below_new _ _) below_drewN'⟩
set_option maxRecDepth 20000 in
set_option maxHeartbeats 1000000 in
theorem sum_up_any(w:World)(l:List Fr)(v:Value)(gw:Nat)(y:Int)(hl:l.length≤8)(hok:∀x∈l,okFr x)(hy:0≤y∧y≤100000)(hv:RowSl Fr.vals w l v)(hw:w.cell? ⟨gw,0,none⟩=some (.int .i64 y)):Calls Tryz.prog 238 #[v,.func (Fn.func 239) #[] #[.pointer (some ⟨gw,0,none⟩)]] w fun r w'=>r = .returned (.int .i64 (sumF upF y l))∧Below w.heap.size w w':=by
 obtain⟨ad,c,rfl,-,hcap,hrow⟩:=hv
 have HR:Hid ((l=[]∨∃b o,ad=some ⟨b,o,none⟩∧∀q u,(l.flatMap Fr.vals)[q]?=some u→w.cell? ⟨b,o+q,none⟩=some u)∧∀x∈l,okFr x):=⟨hrow,hok⟩
 have HW:Hid (w.cell? ⟨gw,0,none⟩=some (.int .i64 y)):=hw
 clear hrow hok hw
 go_enter Tryz.func238,Tryz.ntmps238
 go_wp2_with fail
 go_loopw [5,10] (fun mv i wr=>∃(j:Nat) (mm:Int),j≤l.length∧i = .int .i64 j∧mv = .int .i64 mm∧Below w.heap.size w wr∧0≤mm∧mm≤(j:Int)*3000000000∧Hid (mm+sumF upF y (l.drop j)=sumF upF y l)) (fun _ i _=>l.length-(intOf i).toNat)
 case atStart=>exact⟨0,0,Nat.zero_le _,rfl,rfl,Below.refl _ _,by omega,by omega,by show 0+sumF upF y l=_;omega⟩
 case round =>
  obtain⟨j,mm,hj,rfl,rfl,hb,h1,h2,HM⟩:=hrel
  by_cases hjl:j<l.length
  ·obtain⟨x,hx,hd⟩:=drop_at hjl
   rcases HR.out.1 with h|⟨gb,go,rfl,hr1⟩
   ·rw[h]at hjl;simp at hjl
   obtain⟨y0,y1,y2,y3⟩:=fr_at (fun q u hq=>below_cell hb (hr1 q u hq)) hx
   have hxo:=HR.out.2 x (List.mem_of_getElem? hx)
   have hf:=upF_range hxo hy.1 hy.2
   have HF:=fun W (h:Below w.heap.size w W)=>wup_any W x gw y hxo hy (below_cell h HW.out)
   have HD:Hid (sumF upF y (l.drop j)=upF y x+sumF upF y (l.drop (j+1))):=by rw[hd];rfl
   obtain⟨xc,xt,xd,xj⟩:=x
   dsimp only at y0 y1 y2 y3
   simp only[Fr.val]at HF
   have HB:Hid (Below w.heap.size w wr):=hb
   have HFH:Hid (∀W,Below w.heap.size w W→Calls Tryz.prog 239 #[.agg #[.int .i64 xc,.int .i64 xt,.int .i64 xd,.int .i64 xj],.pointer (some ⟨gw,0,none⟩)] W fun r w'=>r = .returned (.int .i64 (upF y ⟨xc,xt,xd,xj⟩))∧Below W.heap.size W w'):=HF
   clear hxo hd hx hr1 hb HF
   generalize upF y ⟨xc,xt,xd,xj⟩=z at *
   have e1:IntKind.i64.wrap (mm+z)=mm+z:=by rw[IntKind.wrap_i64];omega
   go_wp2_with (go_at_call 239;refine(HFH.out _ (below_seq HB.out (below_new _ _))).mono ?_;rintro r w2 ⟨rfl,hb2⟩;have H2:Hid (Below w.heap.size w w2):=below_seq (below_seq HB.out (below_new _ _)) hb2;clear hb2)
   refine⟨⟨j+1,mm+z,by omega,by simp,rfl,H2.out,by omega,by omega,?_⟩,by simp[intOf];omega⟩
   have e:mm+z+sumF upF y (l.drop (j+1))=sumF upF y l:=by
    rw[← HM.out,HD.out];omega
   exact e
  ·have hje:j=l.length:=by omega
   subst hje
   go_wp2_with fail
   go_ret
   refine⟨?_,hb⟩
   have:=HM.out
   rw[List.drop_length]at this
   have e:mm=sumF upF y l:=by rw[← this];simp only[sumF];omega
   rw[e]
   rfl
set_option maxRecDepth 20000 in
set_option maxHeartbeats 1000000 in
theorem sum_dn_any(w:World)(l:List Fr)(v:Value)(gw:Nat)(y:Int)(hl:l.length≤8)(hok:∀x∈l,okFr x)(hy:0≤y∧y≤100000)(hv:RowSl Fr.vals w l v)(hw:w.cell? ⟨gw,0,none⟩=some (.int .i64 y)):Calls Tryz.prog 238 #[v,.func (Fn.func 242) #[] #[.pointer (some ⟨gw,0,none⟩)]] w fun r w'=>r = .returned (.int .i64 (sumF dnF y l))∧Below w.heap.size w w':=by
 obtain⟨ad,c,rfl,-,hcap,hrow⟩:=hv
 have HR:Hid ((l=[]∨∃b o,ad=some ⟨b,o,none⟩∧∀q u,(l.flatMap Fr.vals)[q]?=some u→w.cell? ⟨b,o+q,none⟩=some u)∧∀x∈l,okFr x):=⟨hrow,hok⟩
 have HW:Hid (w.cell? ⟨gw,0,none⟩=some (.int .i64 y)):=hw
 clear hrow hok hw
 go_enter Tryz.func238,Tryz.ntmps238
 go_wp2_with fail
 go_loopw [5,10] (fun mv i wr=>∃(j:Nat) (mm:Int),j≤l.length∧i = .int .i64 j∧mv = .int .i64 mm∧Below w.heap.size w wr∧0≤mm∧mm≤(j:Int)*3000000000∧Hid (mm+sumF dnF y (l.drop j)=sumF dnF y l)) (fun _ i _=>l.length-(intOf i).toNat)
 case atStart=>exact⟨0,0,Nat.zero_le _,rfl,rfl,Below.refl _ _,by omega,by omega,by show 0+sumF dnF y l=_;omega⟩
 case round =>
  obtain⟨j,mm,hj,rfl,rfl,hb,h1,h2,HM⟩:=hrel
  by_cases hjl:j<l.length
  ·obtain⟨x,hx,hd⟩:=drop_at hjl
   rcases HR.out.1 with h|⟨gb,go,rfl,hr1⟩
   ·rw[h]at hjl;simp at hjl
   obtain⟨y0,y1,y2,y3⟩:=fr_at (fun q u hq=>below_cell hb (hr1 q u hq)) hx
   have hxo:=HR.out.2 x (List.mem_of_getElem? hx)
   have hf:=dnF_range hxo hy.1 hy.2
   have HF:=fun W (h:Below w.heap.size w W)=>wdn_any W x gw y hxo hy (below_cell h HW.out)
   have HD:Hid (sumF dnF y (l.drop j)=dnF y x+sumF dnF y (l.drop (j+1))):=by rw[hd];rfl
   obtain⟨xc,xt,xd,xj⟩:=x
   dsimp only at y0 y1 y2 y3
   simp only[Fr.val]at HF
   have HB:Hid (Below w.heap.size w wr):=hb
   have HFH:Hid (∀W,Below w.heap.size w W→Calls Tryz.prog 242 #[.agg #[.int .i64 xc,.int .i64 xt,.int .i64 xd,.int .i64 xj],.pointer (some ⟨gw,0,none⟩)] W fun r w'=>r = .returned (.int .i64 (dnF y ⟨xc,xt,xd,xj⟩))∧Below W.heap.size W w'):=HF
   clear hxo hd hx hr1 hb HF
   generalize dnF y ⟨xc,xt,xd,xj⟩=z at *
   have e1:IntKind.i64.wrap (mm+z)=mm+z:=by rw[IntKind.wrap_i64];omega
   go_wp2_with (go_at_call 242;refine(HFH.out _ (below_seq HB.out (below_new _ _))).mono ?_;rintro r w2 ⟨rfl,hb2⟩;have H2:Hid (Below w.heap.size w w2):=below_seq (below_seq HB.out (below_new _ _)) hb2;clear hb2)
   refine⟨⟨j+1,mm+z,by omega,by simp,rfl,H2.out,by omega,by omega,?_⟩,by simp[intOf];omega⟩
   have e:mm+z+sumF dnF y (l.drop (j+1))=sumF dnF y l:=by
    rw[← HM.out,HD.out];omega
   exact e
  ·have hje:j=l.length:=by omega
   subst hje
   go_wp2_with fail
   go_ret
   refine⟨?_,hb⟩
   have:=HM.out
   rw[List.drop_length]at this
   have e:mm=sumF dnF y l:=by rw[← this];simp only[sumF];omega
   rw[e]
   rfl
end Go.Proofs.YtccoobcggbbcialGreatDoor
