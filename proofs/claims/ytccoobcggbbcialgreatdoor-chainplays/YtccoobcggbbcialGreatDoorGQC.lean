import Derived.Test.YtccoobcggbbcialGreatDoorGQT
import Derived.Test.YtccoobcggbbcialGreatDoorGQD9
import Derived.Deep.QuietTactic
namespace Go.Proofs.YtccoobcggbbcialGreatDoor
open Go.ChangeShapes Go.WideShapes Go.ChangeAt Go.RowKit
open Keep
set_option maxRecDepth 20000 in
set_option maxHeartbeats 16000000 in
theorem QCl:QTp.1:=by
 intro w l cs tk hcl htl z2 a pad pc cad cc tad tc H0 HV hmm w1 gc HZ HZ0 h4 h1 h8 HOK h4i zx2 u12 u46 u47 u48 u49 u50 u51 u52 H2 hk hkl u8 u14 u15 u16 u17 u63 u64 u65 u66 u67 u68 u69 u70 u71 u72 u73 u74 u75 u76 u77 u78 u79 u80 u81 u82 u83 u84 u85 u86 u87 u88 u89 u90 u91 u92 u93 u94 u95 u96 u97 u98 u99 u100 u101 u102 u103 u104 u105 u106 u107 u108 u109 u110 u111 u112 u113 u114 os oad oc zx1 zx2 HN HLg HI nn zx7 hn0 hn1 hn2 hn3 FO HFO W1 gM gJ HOL zx13 zx3 zx4 zx5 u25 u26 u27 u29 u30 u31 u32 u116 u117 u118 u119 u120 u121 u122 u123 zx6 zx7 zx8 zx9 zx10 zx11 zx12 zx13 zx14 zx15 zx16 zx17 zx18 zx19 zx20 zx21 zx22 zx23 zx24 zx25 zx26 zx27 zx28 u147 u148 u149 u150 u151 u152 u153 u154 u155 u156 u157 u158 u159 u160 u161 u162 u163 u164 u165 u166 u167 u168 u169 u170 u171 u172 u173 u174 u175 u176 u177 u178 u179 u180 u181 u182 u183 u184 u185 u186 u187 u188 u189 u190 u191 u192 u193 u194 u195 u196 u197 u198 u199 u200 u201 u202 u203 u204 u205 u206 u207 u208 u209 u210 u211 u212 u213 u214 u215 u216 u217 u218 u219 u220 u221 u222 u223 u224 u225 u226 u227 u228 u229 u230 u231 u232 u233 u234 u235 u236 u237 u238 u239 u240 u241 u242 u243 u244 u245 u246 u247 u248 u249 u250 u251 u252 u253 u254 u255 u256 u257 u258 u259 u260 u261 u262 u263 u264 u265 u266 u267 u268 u269 u270 u271 u272 u273 u274 u275 u276 u277 u278 u279 u280 u281 u282 u283 u284 u285 u286 u287 u288 u289 u290 u291 u292 u293 u294 u295 u296 u297 u298 u299 u300 u301 u302 u303 u304 u305 u306 u307 u308 u309 u310 u311 u312 u313 u314 u315 u316 u317 u318 u319 u320 u321 u322 u323 u324 u325 t zx29 mv zx30 mb sb zx31 zx32 out ht htn hti jobs mail sent HD zx33 zx34 zx35 zx36 zx37 wr u23 u24 u124 u125 u126 u127 u128 u129 u130 u131 u132 u133 u134 u135 u136 u137 u138 u139 u140 u141 u142 u143 u144 u145 u146 i jv jb T B hi HC hil
 try clear zx37
 try clear zx36
 try clear zx35
 try clear zx34
 try clear zx33
 try clear zx32
 try clear zx31
 try clear zx30
 try clear zx29
 try clear zx28
 try clear zx27
 try clear zx26
 try clear zx25
 try clear zx24
 try clear zx23
 try clear zx22
 try clear zx21
 try clear zx20
 try clear zx19
 try clear zx18
 try clear zx17
 try clear zx16
 try clear zx15
 try clear zx14
 try clear zx13
 try clear zx12
 try clear zx11
 try clear zx10
 try clear zx9
 try clear zx8
 try clear zx7
 try clear zx6
 try clear zx5
 try clear zx4
 try clear zx3
 try clear zx2
 try clear zx1
 obtain⟨x,hx,-⟩:=drop_at hil
 obtain⟨ad9,cc9,e9,-,hcap,hrow⟩:=HV.out.2.1.below HC.out.dw.bel
 cases e9
 rcases hrow with h|⟨b2,o2,rfl,hrow⟩
 ·rw[h]at hil;simp at hil
 obtain⟨x0,x1⟩:=co_at' hrow hx
 have lb2:b2<wr.heap.size:=World.block_lt_of_cell? _ _ x0
 have hii:(i:Int)<(cs.length:Int):=by omega
 have hcx:=HI.out.ci i x hx
 have HXc:Hid (Ck cs i=x):=getD_some hx
 clear hrow hx
 obtain⟨xk,xa⟩:=x
 obtain⟨k0,rfl⟩:∃k0:Nat,xk=(k0:Int):=⟨xk.toNat,by have:=hcx.1;dsimp only at this;omega⟩
 have hk0:k0<l.length:=by have:=hcx.2.1;dsimp only at this;omega
 dsimp only at x0 x1
 clear hcx
 go_upto_region 39 with fail
 have HC2:Hid (TC w (wr.alloc (.cells #[.int .i64 (k0:Int),.int .i64 xa] 49)) l tk cs (.slice pad l.length pc) (.slice tad tk.length tc) gJ gM os FO t i jobs mail sent jv mv jb mb sb T B out∧FL2 (wr.alloc (.cells #[.int .i64 (k0:Int),.int .i64 xa] 49)) wr.heap.size (k0:Int) xa):=⟨HC.out.grow (below_new _ _),heap_alloc_new _ _⟩
 clear x0 x1 lb2 HC
 generalize wr.alloc (.cells #[.int .i64 (k0:Int),.int .i64 xa] 49)=Wc at *
 generalize wr.heap.size=gc2 at *
 obtain⟨z0,z1,z2⟩:=HC2.out.2.cells
 obtain⟨jad,jc,rfl⟩:=HC2.out.1.dw.val 0 rfl
 by_cases hat:xa=(t:Int)
 rotate_left 1
 ·have hab:(xa == (t:Int))=false:=by simpa using hat
  have HN2:Hid (TC w Wc l tk cs (.slice pad l.length pc) (.slice tad tk.length tc) gJ gM os FO t (i+1) jobs mail sent (.slice jad jb.length jc) mv jb mb sb T B out):=HC2.out.1.skip (by rw[HXc.out];exact hat)
  go_wp2_with fail
  exact⟨⟨i+1,_,_,_,_,by omega,by simp,HN2.out⟩,by simp[intOf];omega⟩
 ·have hab:(xa == (t:Int))=true:=by simpa using hat
  have HX2:Hid ((Ck cs i).k=(k0:Int)∧(Ck cs i).a=(t:Int)):=⟨by rw[HXc.out],by rw[HXc.out];exact hat⟩
  clear hat
  go_upto_region 40 with fail
  obtain⟨b0,b1,b2x,b3,lb0,lb1,lb2x,lb3⟩:=HC2.out.1.dw.boxes
  refine wp_region_noPanic ?_
  refine wp_region_last (S:=fun w'=>w'.cell? ⟨gJ,0,none⟩=some (.slice jad jb.length jc)∧w'.cell? ⟨gc2,0,none⟩=some (.int .i64 (k0:Int))) (L:=14) (by kernel_rfl) ?_
  have hHeld:=(⟨(HC2.out.1.dw.boxes).2.2.1,z0⟩:_∧_)
  refine tkL (i:=0) (n:=132) (v:=?_) ?_ ?_
  rotate_left 1
  ·intro wz hSw
   obtain⟨s0,s1⟩:=hSw
   first|(go_simp;done)|(go_simp;with_reducible rfl)
  simp only[ls0,ls1]
  refine tkL (i:=1) (n:=133) (v:=?_) ?_ ?_
  rotate_left 1
  ·intro wz hSw
   obtain⟨s0,s1⟩:=hSw
   first|(go_simp;done)|(go_simp;with_reducible rfl)
  simp only[ls0,ls1]
  refine tkL (i:=2) (n:=134) (v:=?_) ?_ ?_
  rotate_left 1
  ·intro wz hSw
   obtain⟨s0,s1⟩:=hSw
   first|(go_simp;done)|(go_simp;with_reducible rfl)
  simp only[ls0,ls1]
  refine tkL (i:=3) (n:=135) (v:=?_) ?_ ?_
  rotate_left 1
  ·intro wz hSw
   obtain⟨s0,s1⟩:=hSw
   first|(go_simp;done)|(go_simp;with_reducible rfl)
  simp only[ls0,ls1]
  refine tkL (i:=4) (n:=136) (v:=?_) ?_ ?_
  rotate_left 1
  ·intro wz hSw
   obtain⟨s0,s1⟩:=hSw
   first|(go_simp;done)|(go_simp;with_reducible rfl)
  simp only[ls0,ls1]
  refine tkL (i:=5) (n:=137) (v:=?_) ?_ ?_
  rotate_left 1
  ·intro wz hSw
   obtain⟨s0,s1⟩:=hSw
   first|(go_simp;done)|(go_simp;with_reducible rfl)
  simp only[ls0,ls1]
  refine tkL (i:=6) (n:=138) (v:=?_) ?_ ?_
  rotate_left 1
  ·intro wz hSw
   obtain⟨s0,s1⟩:=hSw
   first|(go_simp;done)|(go_simp;with_reducible rfl)
  simp only[ls0,ls1]
  refine tkL (i:=7) (n:=139) (v:=?_) ?_ ?_
  rotate_left 1
  ·intro wz hSw
   obtain⟨s0,s1⟩:=hSw
   first|(go_simp;done)|(go_simp;with_reducible rfl)
  simp only[ls0,ls1]
  refine tkL (i:=8) (n:=140) (v:=?_) ?_ ?_
  rotate_left 1
  ·intro wz hSw
   obtain⟨s0,s1⟩:=hSw
   first|(go_simp;done)|(go_simp;with_reducible rfl)
  simp only[ls0,ls1]
  refine wpAnyL_one (i:=9) (by kernel_rfl) rfl (fun K hK=>?_)
  go_simp
  have hw9:Below Wc.heap.size Wc Wc.drew:=(Below.refl _ _).drew
  go_wp2_with (go_at_call 61;refine(lenD HI.out (HC2.out.1.grow hw9).dw hk0 (show i<4000 by have:=HI.out.cl;omega)).mono ?_;rintro r w4 ⟨rfl,hb4⟩)
  have HC4:Hid (TC w w4 l tk cs (.slice pad l.length pc) (.slice tad tk.length tc) gJ gM os FO t i jobs mail sent (.slice jad jb.length jc) mv jb mb sb T B out∧FL2 w4 gc2 (k0:Int) xa):=⟨(HC2.out.1.grow hw9).grow hb4,(hb4.block _ (heap_lt HC2.out.2)).trans HC2.out.2⟩
  clear hb4
  refine hK.out _ _ (fun _=>(⟨(HC4.out.1.dw.boxes).2.2.1,HC4.out.2.cells.1⟩:_∧_)) ?_
  clear hK K
  try simp only[ls0,ls1]
  clear hHeld
  have hHeld:=(⟨(HC4.out.1.dw.boxes).2.2.1,HC4.out.2.cells.1⟩:_∧_)
  refine tkL (i:=10) (n:=142) (v:=?_) ?_ ?_
  rotate_left 1
  ·intro wz hSw
   obtain⟨s0,s1⟩:=hSw
   first|(go_simp;done)|(go_simp;with_reducible rfl)
  simp only[ls0,ls1]
  obtain⟨ad8,c8,w8,hrun,hj8,hf8,hC8,hk8⟩:=HC4.out.1.push HX2.out.2 (by have:=HC4.out.1.few HI.out HD.out (by omega);omega)
  rw[HX2.out.1,Int.toNat_natCast]at hrun hC8
  have HC8:Hid (TC w (w8.setCell ⟨gJ,0,none⟩ (.slice ad8 (jb.length+1) c8)) l tk cs (.slice pad l.length pc) (.slice tad tk.length tc) gJ gM os FO t (i+1) jobs mail sent (.slice ad8 (jb.length+1) c8) mv (jb++[w4.heap.size]) mb sb (updT T w4.heap.size ⟨k0,i,t,wkF l tk k0 i⟩) (w4.heap.size::B) out):=hC8
  have HC5:Hid (TC w (w4.alloc (.cells (Th.arr ⟨k0,i,t,wkF l tk k0 i⟩) 133)) l tk cs (.slice pad l.length pc) (.slice tad tk.length tc) gJ gM os FO t i jobs mail sent (.slice jad jb.length jc) mv jb mb sb T B out∧FL2 (w4.alloc (.cells (Th.arr ⟨k0,i,t,wkF l tk k0 i⟩) 133)) gc2 (k0:Int) xa):=⟨HC4.out.1.grow (below_new _ _),((below_new w4 _).block _ (heap_lt HC4.out.2)).trans HC4.out.2⟩
  have HC6:Hid (TC w ((w4.alloc (.cells (Th.arr ⟨k0,i,t,wkF l tk k0 i⟩) 133)).alloc (.cells #[pvv w4.heap.size] 131)) l tk cs (.slice pad l.length pc) (.slice tad tk.length tc) gJ gM os FO t i jobs mail sent (.slice jad jb.length jc) mv jb mb sb T B out∧FL2 ((w4.alloc (.cells (Th.arr ⟨k0,i,t,wkF l tk k0 i⟩) 133)).alloc (.cells #[pvv w4.heap.size] 131)) gc2 (k0:Int) xa):=⟨HC5.out.1.grow (below_new _ _),((below_new (w4.alloc _) _).block _ (heap_lt HC5.out.2)).trans HC5.out.2⟩
  have GC8:=(FL2.cells (hk8 _ _ _ (by decide) HC4.out.2)).1
  clear hC8 hk8
  have hd5:=HC5.out
  have hd6:=HC6.out
  unfold Th.arr at hrun hd5 hd6
  unfold pvv at hrun hd6
  dsimp only at hrun hd5 hd6
  refine wpAnyL_one (i:=11) (by kernel_rfl) rfl (fun K hK=>?_)
  go_simp
  refine hK.out _ _ (fun _=>(⟨(hd5.1.dw.boxes).2.2.1,hd5.2.cells.1⟩:_∧_)) ?_
  clear hK K
  try simp only[ls0,ls1]
  clear hHeld
  have hHeld:=(⟨(hd5.1.dw.boxes).2.2.1,hd5.2.cells.1⟩:_∧_)
  refine wpAnyL_one (i:=12) (by kernel_rfl) rfl (fun K hK=>?_)
  go_simp
  refine hK.out _ _ (fun _=>(⟨(hd6.1.dw.boxes).2.2.1,hd6.2.cells.1⟩:_∧_)) ?_
  clear hK K
  try simp only[ls0,ls1]
  clear hHeld
  have hHeld:=(⟨(hd6.1.dw.boxes).2.2.1,hd6.2.cells.1⟩:_∧_)
  refine wpAnyL_one (i:=13) (by kernel_rfl) rfl (fun K hK=>?_)
  refine region_append2 rfl (.tmp 132) (.tmp 144) 130 145 rfl rfl rfl hrun rfl ?_
  refine hK.out _ _ (fun _=>(⟨hj8,GC8⟩:_∧_)) ?_
  clear hK K
  clear hHeld
  simp only[Act.put,List.setIfInBounds_toArray]
  try simp only[ls0,ls1]
  have lJ8:=World.block_lt_of_cell? _ _ hj8
  refine wpAnyL_one (i:=14) (by kernel_rfl) rfl (fun K hK=>?_)
  go_simp
  refine hK.out _ _ (fun h=>absurd rfl h) ?_
  clear hK K
  refine wpAnyL_done (by kernel_rfl) ?_ _
  refine NoPanic.normal ?_
  go_wp2_with fail
  exact⟨⟨i+1,_,_,_,_,by omega,by simp,HC8.out⟩,by simp[intOf];omega⟩
end Go.Proofs.YtccoobcggbbcialGreatDoor
