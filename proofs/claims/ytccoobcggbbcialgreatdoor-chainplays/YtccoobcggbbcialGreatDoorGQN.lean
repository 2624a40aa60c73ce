import Derived.Test.YtccoobcggbbcialGreatDoorGQP
import Derived.Test.YtccoobcggbbcialGreatDoorGQD9
import Derived.Deep.QuietTactic
namespace Go.Proofs.YtccoobcggbbcialGreatDoor
open Go.ChangeShapes Go.WideShapes Go.ChangeAt Go.RowKit
open Keep
set_option maxRecDepth 20000 in
set_option maxHeartbeats 16000000 in
theorem QNl:QPp.2.1:=by
 intro w l cs tk hcl htl z2 a pc cad cc tad tc hmm w1 gc HZ HZ0 h4 h8 HOK h4i zx2 u12 u46 u47 u48 u49 u50 u51 u52 hkl u8 u14 u15 u16 u17 u63 u64 u65 u66 u67 u68 u69 u70 u71 u72 u73 u74 u75 u76 u77 u78 u79 u80 u81 u82 u83 u84 u85 u86 u87 u88 u89 u90 u91 u92 u93 u94 u95 u96 u97 u98 u99 u100 u101 u102 u103 u104 u105 u106 u107 u108 u109 u110 u111 u112 u113 u114 os oc HLg nn zx1 hn0 hn1 hn2 hn3 FO W1 gM gJ HOL zx2 zx4 zx5 u25 u26 u27 zx6 zx3 zx4 zx5 u116 u117 u118 u119 u120 u121 u122 u123 zx6 zx7 zx8 zx9 zx10 zx11 zx12 zx13 zx14 zx15 zx16 zx17 zx18 zx19 zx20 zx21 zx22 zx23 zx24 zx25 zx26 zx27 zx28 u147 u148 u149 u150 u151 u152 u153 u154 zx29 zx30 zx31 zx32 zx33 zx34 u161 zx35 zx36 zx37 zx38 zx39 u167 u168 u169 u170 zx40 zx41 zx42 zx43 zx44 zx45 zx46 zx47 zx48 zx49 zx50 zx51 zx52 zx53 zx54 zx55 zx56 zx57 zx58 zx59 zx60 zx61 zx62 zx63 zx64 zx65 zx66 zx67 zx68 zx69 zx70 zx71 zx72 zx77 zx78 zx79 zx80 zx81 zx82 zx83 zx84 zx85 zx86 zx87 zx88 zx89 zx90 zx91 zx92 zx93 zx94 zx95 zx96 zx97 zx98 zx99 zx100 zx101 zx102 zx103 zx104 zx105 zx106 zx107 zx108 zx109 zx110 zx111 zx112 zx113 zx114 zx115 zx116 zx117 zx118 zx119 zx120 zx121 zx122 zx123 zx124 zx125 zx126 zx127 zx128 zx129 zx130 zx131 zx132 zx133 zx134 zx135 zx136 zx137 zx138 zx139 zx140 zx141 zx142 zx143 zx144 zx145 zx146 zx147 zx148 zx149 zx150 zx151 zx152 zx153 zx154 zx155 zx156 u284 u285 u286 u287 u288 u289 u290 u291 u292 u293 u294 u295 u296 u297 u298 u299 u300 u301 u302 u303 u304 u305 u306 u307 u308 u309 u310 u311 u312 u313 u314 u315 u316 u317 u318 u319 u320 u321 u322 u323 u324 u325 t jv zx157 sb zx162 ht htn hti jobs mail sent HD zx164 u23 u24 u124 u125 u126 u127 u128 u129 u130 u131 u132 u133 u134 u135 u136 u137 u138 u139 u140 u141 u142 u143 u144 u145 u146 jb zx168 w5 js w6 ms tb u155 u156 u157 u158 u159 u160 wc u162 u163 u164 u165 u166 mv' sb' ms' wm gm jc jsT HJT sent1 mail1 HJL d0 HJS HFW out0 HD0 HFIN zx179 u29 u30 zx7 zx8 u171 u172 u173 u174 u175 u176 u177 u178 u179 u180 u181 u182 u183 u184 u185 u186 u187 u188 u189 u190 u191 u192 u193 u194 u195 u196 u197 u198 u199 u200 u201 u202 u203 u204 u205 u206 u207 u208 u209 u210 u211 u212 u213 u214 u215 u216 u217 u218 u219 u220 zx9 zx10 zx11 zx12 zx13 zx14 zx15 zx16 zx17 zx18 zx19 zx20 zx21 zx22 zx23 zx24 zx25 zx26 zx27 zx28 zx29 zx30 zx31 zx32 zx33 zx34 zx35 zx36 zx37 zx38 zx39 zx40 zx41 zx42 zx43 zx44 zx45 zx46 zx47 zx48 zx49 zx50 zx51 zx52 zx53 zx54 zx55 zx56 zx57 zx58 zx59 zx60 zx61 zx62 zx63 zx64 zx65 zx66 zx67 zx68 zx69 zx70 u283 i sv zx71 zx72 zx73 stb zx74 T B out N M o hi hil b hb HB1 gj oj y bp op H0 HV H2 HI yc hii hyc3 pt cm si lf HX HY HCO hpi HPT zx75 nq HL wn hjq HF HN wm1 es ck h1l h2l wk H3 hcm go cur hFO HFO zx163 zx76 ge ce ex hce hrl hpl v0 hcmi hpli hHeld h1 h0n wr u31 u32 u221 u222 u223 u224 u225 u226 u227 u228 u229 u230 u231 u232 u233 u234 u235 u236 u237 u238 u239 u240 u241 u242 u243 u244 u245 u246 u247 u248 u249 u250 u251 u252 u253 u254 u255 u256 u257 u258 u259 u260 u261 u262 u263 u264 u265 u266 u267 u268 u269 u270 u271 u272 u273 u274 u275 u276 u277 u278 u279 u280 u281 u282 k bv mv mb bgb T2 B2 hk HK2 hkl2 hki yco yfr yse yc0 yt yd yp hse0 HFK zx73 zx74 zx75 zx76 zx77 zx78 zx79 wa gp HP p2 p01 p02 t0 t1 t2 t3 tf tl b0 b1 b2x b3 lb0 lb1 lb2x lb3 hf hfb hs
 have hsb:(yse == 0)=false:=by simpa using hs
 clear hFO h0n
 have hs0:(0:Int)<yse:=by omega
 have HS:Hid (fr l k=(pt:Int)∧0<se l k):=⟨HFK.out.1.trans hf,by rw[HFK.out.2];exact hs0⟩
 clear hs
 go_quiet (fail)
 have HP1:Hid (DW w (wa.drewN nq) [(.slice (some ⟨gj,oj,none⟩) js.length jc,js),(mv,mb),(sv,stb),(bv,bgb)] T2 B2 os (setO out ⟨pt,cm,si,lf⟩ ((t:Int)+1)) (F5 w (.slice (some ⟨bp,op,none⟩) l.length pc) (.slice tad tk.length tc) gJ gM (.slice (some ⟨gj,oj,none⟩) js.length jc) mv++(FO++[(gm,.map es ck)]))∧HtAt ((wa.drewN nq)) gm (N+1) (setH M (yc:Int) 1)∧((wa.drewN nq)).heap[gp]?=some (.cells #[.int .i64 yco,.int .i64 yfr,.int .i64 yse,.int .i64 yc0,.int .i64 yt,.int .i64 yd,.int .i64 yp] 66 (0,0))):=⟨HP.out.1.grow (below_drewN' (n:=nq)),HP.out.2.1.at_ HP.out.1.mapAt (HP.out.1.grow (below_drewN' (n:=nq))).mapAt,HP.out.2.2⟩
 generalize wa.drewN nq=wb at *
 clear p01 p02 p2 t0 t1 t2 t3 tf tl b0 b1 b2x b3 lb0 lb1 lb2x lb3
 obtain⟨p0,p1,p2⟩:=cells_of (l:=[_,_,_,_,_,_,_]) HP1.out.2.2
 have p01:=p0 1 _ rfl
 have p02:=p0 2 _ rfl
 clear p0 p1
 have hth:=HP1.out.1.th b HK2.out.2.1
 rw[HK2.out.2.2]at hth
 obtain⟨t0,t1,t2,t3,tf,tl⟩:=th_cells hth
 dsimp only at t0 t1 t2 t3
 clear hth
 obtain⟨b0,b1,b2x,b3,lb0,lb1,lb2x,lb3⟩:=HP1.out.1.boxes
 go_upto_region 63 with fail
 go_quiet (fail)
 have HP2:Hid (DW w (wb.drewN nq) [(.slice (some ⟨gj,oj,none⟩) js.length jc,js),(mv,mb),(sv,stb),(bv,bgb)] T2 B2 os (setO out ⟨pt,cm,si,lf⟩ ((t:Int)+1)) (F5 w (.slice (some ⟨bp,op,none⟩) l.length pc) (.slice tad tk.length tc) gJ gM (.slice (some ⟨gj,oj,none⟩) js.length jc) mv++(FO++[(gm,.map es ck)]))∧HtAt ((wb.drewN nq)) gm (N+1) (setH M (yc:Int) 1)∧((wb.drewN nq)).heap[gp]?=some (.cells #[.int .i64 yco,.int .i64 yfr,.int .i64 yse,.int .i64 yc0,.int .i64 yt,.int .i64 yd,.int .i64 yp] 66 (0,0))):=⟨HP1.out.1.grow (below_drewN' (n:=nq)),HP1.out.2.1.at_ HP1.out.1.mapAt (HP1.out.1.grow (below_drewN' (n:=nq))).mapAt,HP1.out.2.2⟩
 generalize wb.drewN nq=wc9 at *
 clear p01 p02 p2 t0 t1 t2 t3 tf tl b0 b1 b2x b3 lb0 lb1 lb2x lb3
 obtain⟨p0,p1,p2⟩:=cells_of (l:=[_,_,_,_,_,_,_]) HP2.out.2.2
 have p01:=p0 1 _ rfl
 have p02:=p0 2 _ rfl
 clear p0 p1
 have hth:=HP2.out.1.th b HK2.out.2.1
 rw[HK2.out.2.2]at hth
 obtain⟨t0,t1,t2,t3,tf,tl⟩:=th_cells hth
 dsimp only at t0 t1 t2 t3
 clear hth
 obtain⟨b0,b1,b2x,b3,lb0,lb1,lb2x,lb3⟩:=HP2.out.1.boxes
 go_upto_region 64 with fail
 have hwd:Below wc9.heap.size wc9 wc9.drew:=(Below.refl _ _).drew
 refine wp_region_noPanic ?_
 refine wp_region_last (S:=fun w'=>w'.cell? ⟨gM,0,none⟩=some mv∧w'.cell? ⟨b,1,none⟩=some (.int .i64 (cm:Int))∧w'.cell? ⟨gp,2,none⟩=some (.int .i64 yse)) (L:=14) (by kernel_rfl) ?_
 have hHeld:=(⟨b3,t1,p02⟩:_∧_∧_)
 refine tkL (i:=0) (n:=268) (v:=?_) ?_ ?_
 rotate_left 1
 ·intro wz hSw
  obtain⟨s0,s1,s2⟩:=hSw
  first|(go_simp;done)|(go_simp;with_reducible rfl)
 simp only[ls0,ls1]
 refine tkL (i:=1) (n:=269) (v:=?_) ?_ ?_
 rotate_left 1
 ·intro wz hSw
  obtain⟨s0,s1,s2⟩:=hSw
  first|(go_simp;done)|(go_simp;with_reducible rfl)
 simp only[ls0,ls1]
 refine tkL (i:=2) (n:=270) (v:=?_) ?_ ?_
 rotate_left 1
 ·intro wz hSw
  obtain⟨s0,s1,s2⟩:=hSw
  first|(go_simp;done)|(go_simp;with_reducible rfl)
 simp only[ls0,ls1]
 refine tkL (i:=3) (n:=271) (v:=?_) ?_ ?_
 rotate_left 1
 ·intro wz hSw
  obtain⟨s0,s1,s2⟩:=hSw
  first|(go_simp;done)|(go_simp;with_reducible rfl)
 simp only[ls0,ls1]
 refine tkL (i:=4) (n:=272) (v:=?_) ?_ ?_
 rotate_left 1
 ·intro wz hSw
  obtain⟨s0,s1,s2⟩:=hSw
  first|(go_simp;done)|(go_simp;with_reducible rfl)
 simp only[ls0,ls1]
 refine tkL (i:=5) (n:=273) (v:=?_) ?_ ?_
 rotate_left 1
 ·intro wz hSw
  obtain⟨s0,s1,s2⟩:=hSw
  first|(go_simp;done)|(go_simp;with_reducible rfl)
 simp only[ls0,ls1]
 refine tkL (i:=6) (n:=274) (v:=?_) ?_ ?_
 rotate_left 1
 ·intro wz hSw
  obtain⟨s0,s1,s2⟩:=hSw
  first|(go_simp;done)|(go_simp;with_reducible rfl)
 simp only[ls0,ls1]
 refine tkL (i:=7) (n:=275) (v:=?_) ?_ ?_
 rotate_left 1
 ·intro wz hSw
  obtain⟨s0,s1,s2⟩:=hSw
  first|(go_simp;done)|(go_simp;with_reducible rfl)
 simp only[ls0,ls1]
 refine tkL (i:=8) (n:=276) (v:=?_) ?_ ?_
 rotate_left 1
 ·intro wz hSw
  obtain⟨s0,s1,s2⟩:=hSw
  first|(go_simp;done)|(go_simp;with_reducible rfl)
 simp only[ls0,ls1]
 refine tkL (i:=9) (n:=277) (v:=?_) ?_ ?_
 rotate_left 1
 ·intro wz hSw
  obtain⟨s0,s1,s2⟩:=hSw
  first|(go_simp;done)|(go_simp;with_reducible rfl)
 simp only[ls0,ls1]
 refine tkL (i:=10) (n:=278) (v:=?_) ?_ ?_
 rotate_left 1
 ·intro wz hSw
  obtain⟨s0,s1,s2⟩:=hSw
  first|(go_simp;done)|(go_simp;with_reducible rfl)
 simp only[ls0,ls1]
 have HC4:Hid (DW w wc9.drew [(.slice (some ⟨gj,oj,none⟩) js.length jc,js),(mv,mb),(sv,stb),(bv,bgb)] T2 B2 os (setO out ⟨pt,cm,si,lf⟩ ((t:Int)+1)) (F5 w (.slice (some ⟨bp,op,none⟩) l.length pc) (.slice tad tk.length tc) gJ gM (.slice (some ⟨gj,oj,none⟩) js.length jc) mv++(FO++[(gm,.map es ck)]))∧HtAt (wc9.drew) gm (N+1) (setH M (yc:Int) 1)∧(wc9.drew).heap[gp]?=some (.cells #[.int .i64 yco,.int .i64 yfr,.int .i64 yse,.int .i64 yc0,.int .i64 yt,.int .i64 yd,.int .i64 yp] 66 (0,0))):=⟨HP2.out.1.grow hwd,HP2.out.2.1.at_ HP2.out.1.mapAt (HP2.out.1.grow hwd).mapAt,HP2.out.2.2⟩
 clear hwd
 generalize wc9.drew=wd at *
 have hth4:=HC4.out.1.th b HK2.out.2.1
 rw[HK2.out.2.2]at hth4
 obtain⟨ad8,c8,w8,hrun,hd8,hk8⟩:=HC4.out.1.push 1 rfl ⟨k,cm,(t:Int)+1,yse⟩ (by have:=(HK2.out.1.few HFW.out.1 (by omega) HFW.out.2.1 HFW.out.2.2.1 HFW.out.2.2.2.1 HFW.out.2.2.2.2.1).2;omega)
 have hd9:DW w w8 [(.slice (some ⟨gj,oj,none⟩) js.length jc,js),((.slice ad8 (mb.length+1) c8),(mb++[wd.heap.size])),(sv,stb),(bv,bgb)] (updT T2 wd.heap.size ⟨k,cm,(t:Int)+1,yse⟩) (wd.heap.size::B2) os (setO out ⟨pt,cm,si,lf⟩ ((t:Int)+1)) (F5 w (.slice (some ⟨bp,op,none⟩) l.length pc) (.slice tad tk.length tc) gJ gM (.slice (some ⟨gj,oj,none⟩) js.length jc) mv++(FO++[(gm,.map es ck)])):=hd8
 have hd10:=hd9.putM (.slice ad8 (mb.length+1) c8)
 have HNEW:Hid (DW w (w8.setCell ⟨gM,0,none⟩ (.slice ad8 (mb.length+1) c8)) [(.slice (some ⟨gj,oj,none⟩) js.length jc,js),((.slice ad8 (mb.length+1) c8),(mb++[wd.heap.size])),(sv,stb),(bv,bgb)] (updT T2 wd.heap.size ⟨k,cm,(t:Int)+1,yse⟩) (wd.heap.size::B2) os (setO out ⟨pt,cm,si,lf⟩ ((t:Int)+1)) (F5 w (.slice (some ⟨bp,op,none⟩) l.length pc) (.slice tad tk.length tc) gJ gM (.slice (some ⟨gj,oj,none⟩) js.length jc) (.slice ad8 (mb.length+1) c8)++(FO++[(gm,.map es ck)]))∧HtAt ((w8.setCell ⟨gM,0,none⟩ (.slice ad8 (mb.length+1) c8))) gm (N+1) (setH M (yc:Int) 1)∧((w8.setCell ⟨gM,0,none⟩ (.slice ad8 (mb.length+1) c8))).heap[gp]?=some (.cells #[.int .i64 yco,.int .i64 yfr,.int .i64 yse,.int .i64 yc0,.int .i64 yt,.int .i64 yd,.int .i64 yp] 66 (0,0))):=⟨hd10,HC4.out.2.1.at_ HC4.out.1.mapAt hd10.mapAt,(Below.heap_setCell _ _ _ _ (ty_ne (hk8 _ _ _ (by decide) HC4.out.2.2) (hd9.fr _ (mem5 (FO++[(gm,.map es ck)]) 4 rfl)) (by decide))).trans (hk8 _ _ _ (by decide) HC4.out.2.2)⟩
 have hb5:(wd.alloc (.cells (Th.arr ⟨k,cm,(t:Int)+1,yse⟩) 133)).heap[b]?=some (.cells (Th.arr ⟨pt,cm,si,lf-1⟩) 133 (0,0)):=((below_new wd _).block _ (heap_lt hth4)).trans hth4
 have hb6:((wd.alloc (.cells (Th.arr ⟨k,cm,(t:Int)+1,yse⟩) 133)).alloc (.cells #[pvv wd.heap.size] 131)).heap[b]?=some (.cells (Th.arr ⟨pt,cm,si,lf-1⟩) 133 (0,0)):=((below_new (wd.alloc _) _).block _ (heap_lt hb5)).trans hb5
 have c51:=(th_cells hb5).2.1
 have c61:=(th_cells hb6).2.1
 have c81:=(th_cells (hk8 _ _ _ (by decide) hth4)).2.1
 clear hb5 hb6
 have hp5:(wd.alloc (.cells (Th.arr ⟨k,cm,(t:Int)+1,yse⟩) 133)).heap[gp]?=some (.cells #[.int .i64 yco,.int .i64 yfr,.int .i64 yse,.int .i64 yc0,.int .i64 yt,.int .i64 yd,.int .i64 yp] 66 (0,0)):=((below_new wd _).block _ (heap_lt HC4.out.2.2)).trans HC4.out.2.2
 have hp6:((wd.alloc (.cells (Th.arr ⟨k,cm,(t:Int)+1,yse⟩) 133)).alloc (.cells #[pvv wd.heap.size] 131)).heap[gp]?=some (.cells #[.int .i64 yco,.int .i64 yfr,.int .i64 yse,.int .i64 yc0,.int .i64 yt,.int .i64 yd,.int .i64 yp] 66 (0,0)):=((below_new (wd.alloc _) _).block _ (heap_lt hp5)).trans hp5
 have c52:=(cells_of (l:=[_,_,_,_,_,_,_]) hp5).1 2 _ rfl
 have c62:=(cells_of (l:=[_,_,_,_,_,_,_]) hp6).1 2 _ rfl
 have c82:=(cells_of (l:=[_,_,_,_,_,_,_]) (hk8 _ _ _ (by decide) HC4.out.2.2)).1 2 _ rfl
 have c53:=(HC4.out.1.grow (below_new wd (.cells (Th.arr ⟨k,cm,(t:Int)+1,yse⟩) 133))).boxes.2.2.2.1
 have c63:=((HC4.out.1.grow (below_new wd (.cells (Th.arr ⟨k,cm,(t:Int)+1,yse⟩) 133))).grow (below_new (wd.alloc (.cells (Th.arr ⟨k,cm,(t:Int)+1,yse⟩) 133)) (.cells #[pvv wd.heap.size] 131))).boxes.2.2.2.1
 have c83:=hd9.boxes.2.2.2.1
 have f83:w8.frozen? ⟨gM,0,none⟩=false:=(cells_of (l:=[_]) (hd9.fr _ (mem5 (FO++[(gm,.map es ck)]) 4 rfl))).2.1 0
 have l83:=World.block_lt_of_cell? _ _ c83
 clear hp5 hp6 hd8 hd9 hd10 hk8
 unfold Th.arr at hrun c51 c61 c52 c62 c53 c63
 unfold pvv at hrun c61 c62 c63
 dsimp only at hrun c51 c61 c81 c52 c62 c53 c63
 have hwt:IntKind.i64.wrap ((t:Int)+1)=(t:Int)+1:=by rw[IntKind.wrap_i64];omega
 simp only[hwt]
 refine wpAnyL_one (i:=11) (by kernel_rfl) rfl (fun K hK=>?_)
 go_simp
 refine hK.out _ _ (fun _=>(⟨c53,c51,c52⟩:_∧_∧_)) ?_
 clear hK K
 try simp only[ls0,ls1]
 clear hHeld
 have hHeld:=(⟨c53,c51,c52⟩:_∧_∧_)
 refine wpAnyL_one (i:=12) (by kernel_rfl) rfl (fun K hK=>?_)
 go_simp
 refine hK.out _ _ (fun _=>(⟨c63,c61,c62⟩:_∧_∧_)) ?_
 clear hK K
 try simp only[ls0,ls1]
 clear hHeld
 have hHeld:=(⟨c63,c61,c62⟩:_∧_∧_)
 refine wpAnyL_one (i:=13) (by kernel_rfl) rfl (fun K hK=>?_)
 refine region_append2 rfl (.tmp 268) (.tmp 280) 130 281 rfl rfl rfl hrun rfl ?_
 refine hK.out _ _ (fun _=>(⟨c83,c81,c82⟩:_∧_∧_)) ?_
 clear hK K
 clear hHeld
 simp only[Act.put,List.setIfInBounds_toArray]
 try simp only[ls0,ls1]
 refine wpAnyL_one (i:=14) (by kernel_rfl) rfl (fun K hK=>?_)
 go_simp
 refine hK.out _ _ (fun h=>absurd rfl h) ?_
 clear hK K
 refine wpAnyL_done (by kernel_rfl) ?_ _
 refine NoPanic.normal ?_
 have hfrs:wd.heap.size ∉ B2:=HC4.out.1.fresh (Nat.le_refl _)
 have hTb:(updT T2 wd.heap.size ⟨k,cm,(t:Int)+1,yse⟩) b=⟨pt,cm,si,lf-1⟩:=(updT_ne (fun e=>hfrs (by rw[← e];exact HK2.out.2.1))).trans HK2.out.2.2
 have HK3:Hid (LK l tk ((t:Int)+1) i (k+1) jsT js d0 ⟨pt,cm,si,lf⟩ (mb++[wd.heap.size]) stb bgb sb' (updT T2 wd.heap.size ⟨k,cm,(t:Int)+1,yse⟩) T (wd.heap.size::B2)∧b∈(wd.heap.size::B2)∧(updT T2 wd.heap.size ⟨k,cm,(t:Int)+1,yse⟩) b=⟨pt,cm,si,lf-1⟩):=⟨by have h9:=HK2.out.1.addM hfrs HS.out;rw[HFK.out.2]at h9;exact h9,List.mem_cons_of_mem _ HK2.out.2.1,hTb⟩
 clear hfrs hTb
 go_wp2_with fail
 exact⟨⟨k+1,_,_,_,_,_,_,rfl,by omega,by simp,⟨HNEW.out.1,HNEW.out.2.1⟩,HK3.out⟩,by simp[intOf];omega⟩
end Go.Proofs.YtccoobcggbbcialGreatDoor
