import Derived.Test.YtccoobcggbbcialGreatDoorGQA
import Derived.Test.YtccoobcggbbcialGreatDoorGQD9
import Derived.Deep.QuietTactic
namespace Go.Proofs.YtccoobcggbbcialGreatDoor
open Go.ChangeShapes Go.WideShapes Go.ChangeAt Go.RowKit
open Keep
set_option maxRecDepth 20000 in
set_option maxHeartbeats 16000000 in
theorem QSl:QAp.1:=by
 intro w l cs tk hcl htl z2 a pad pc cad cc tad tc H0 HV hmm w1 gc HZ HZ0 h4 zx1 h8 HOK h4i zx2 u12 u46 u47 u48 u49 u50 u51 u52 H2 hk hkl u8 u14 u15 u16 u17 u63 u64 u65 u66 u67 u68 u69 u70 u71 u72 u73 u74 u75 u76 u77 u78 u79 u80 u81 u82 u83 u84 u85 u86 u87 u88 u89 u90 u91 u92 u93 u94 u95 u96 u97 u98 u99 u100 u101 u102 u103 u104 u105 u106 u107 u108 u109 u110 u111 u112 u113 u114 os oad oc zx1 zx2 HN HLg HI nn zx3 hn0 hn1 hn2 hn3 FO HFO W1 gM gJ HOL zx4 zx3 zx4 zx5 u25 u26 u27 zx6 zx7 zx8 zx9 u116 u117 u118 u119 u120 u121 u122 u123 zx10 zx11 zx12 zx13 zx14 zx15 zx16 zx17 zx18 zx19 zx20 zx21 zx22 zx23 zx24 zx25 zx26 zx27 zx28 zx29 zx30 zx31 zx32 u147 u148 u149 u150 u151 u152 u153 u154 zx33 zx34 zx35 zx36 zx37 zx38 u161 zx39 zx40 zx41 zx42 zx43 u167 u168 u169 u170 zx44 zx45 zx46 zx47 zx48 zx49 zx50 zx51 zx52 zx53 zx54 zx55 zx56 zx57 zx58 zx59 zx60 zx61 zx62 zx63 zx64 zx65 zx66 zx67 zx68 zx69 zx70 zx71 zx72 zx73 zx74 zx75 zx76 zx77 zx78 zx79 zx80 zx81 zx82 zx83 zx84 zx85 zx86 zx87 zx88 zx89 zx90 zx91 zx92 zx93 zx94 zx95 zx96 zx97 zx98 zx99 zx100 zx101 zx102 zx103 zx104 zx105 zx106 zx107 zx108 zx109 zx110 zx111 zx112 zx113 zx114 zx115 zx116 zx117 zx118 zx119 zx120 zx121 zx122 zx123 zx124 zx125 zx126 zx127 zx128 zx129 zx130 zx131 zx132 zx133 zx134 zx135 zx136 zx137 zx138 zx139 zx140 zx141 zx142 zx143 zx144 zx145 zx146 zx147 zx148 zx149 zx150 zx151 zx152 zx153 zx154 zx155 zx156 u284 u285 u286 u287 u288 u289 u290 u291 u292 u293 u294 u295 u296 u297 u298 u299 u300 u301 u302 u303 u304 u305 u306 u307 u308 u309 u310 u311 u312 u313 u314 u315 u316 u317 u318 u319 u320 u321 u322 u323 u324 u325 t jv zx157 zx158 zx159 sb zx160 zx161 zx162 ht htn hti jobs mail sent HD zx163 zx164 zx165 zx166 zx167 u23 u24 u124 u125 u126 u127 u128 u129 u130 u131 u132 u133 u134 u135 u136 u137 u138 u139 u140 u141 u142 u143 u144 u145 u146 jb zx168 zx169 zx170 zx171 zx172 zx173 zx174 w5 js w6 ms zx175 zx176 zx177 zx178 tb u155 u156 u157 u158 u159 u160 wc u162 u163 u164 u165 u166 mv' ms' wm gm jad jc jsT HJT sent1 mail1 HJL d0 HJS HFW out0 HD0 HFIN zx179 wr u29 u30 u31 u32 u171 u172 u173 u174 u175 u176 u177 u178 u179 u180 u181 u182 u183 u184 u185 u186 u187 u188 u189 u190 u191 u192 u193 u194 u195 u196 u197 u198 u199 u200 u201 u202 u203 u204 u205 u206 u207 u208 u209 u210 u211 u212 u213 u214 u215 u216 u217 u218 u219 u220 u221 u222 u223 u224 u225 u226 u227 u228 u229 u230 u231 u232 u233 u234 u235 u236 u237 u238 u239 u240 u241 u242 u243 u244 u245 u246 u247 u248 u249 u250 u251 u252 u253 u254 u255 u256 u257 u258 u259 u260 u261 u262 u263 u264 u265 u266 u267 u268 u269 u270 u271 u272 u273 u274 u275 u276 u277 u278 u279 u280 u281 u282 u283 sv bv mv mb stb bgb T B out N M o hi hil HF m HL HB1 pt cm si lf x4 x3 HPT HX zx5 zx6 zx7 zx8 zx9 zx10 zx11 wk H3 t0 t1 t2 t3 tf tl h1
 have hsb:(lf-1 == 0)=true:=by simpa using (show lf-1=0 by omega)
 have HLF:Hid (lf=1):=h1
 clear h1
 go_upto_region 70 with fail
 refine wp_region_noPanic ?_
 refine wp_region_last (S:=fun w'=>w'.cell? ⟨m,0,none⟩=some (.int .i64 (pt:Int))∧w'.cell? ⟨m,1,none⟩=some (.int .i64 (cm:Int))) (L:=25) (by kernel_rfl) ?_
 have hHeld:=(⟨t0,t1⟩:_∧_)
 refine tkL (i:=0) (n:=298) (v:=?_) ?_ ?_
 rotate_left 1
 ·intro wz hSw
  obtain⟨s0,s1⟩:=hSw
  first|(go_simp;done)|(go_simp;with_reducible rfl)
 simp only[ls0,ls1]
 refine tkL (i:=1) (n:=299) (v:=?_) ?_ ?_
 rotate_left 1
 ·intro wz hSw
  obtain⟨s0,s1⟩:=hSw
  first|(go_simp;done)|(go_simp;with_reducible rfl)
 simp only[ls0,ls1]
 refine tkL (i:=2) (n:=300) (v:=?_) ?_ ?_
 rotate_left 1
 ·intro wz hSw
  obtain⟨s0,s1⟩:=hSw
  first|(go_simp;done)|(go_simp;with_reducible rfl)
 simp only[ls0,ls1]
 refine tkL (i:=3) (n:=301) (v:=?_) ?_ ?_
 rotate_left 1
 ·intro wz hSw
  obtain⟨s0,s1⟩:=hSw
  first|(go_simp;done)|(go_simp;with_reducible rfl)
 simp only[ls0,ls1]
 refine tkL (i:=4) (n:=302) (v:=?_) ?_ ?_
 rotate_left 1
 ·intro wz hSw
  obtain⟨s0,s1⟩:=hSw
  first|(go_simp;done)|(go_simp;with_reducible rfl)
 simp only[ls0,ls1]
 refine tkL (i:=5) (n:=303) (v:=?_) ?_ ?_
 rotate_left 1
 ·intro wz hSw
  obtain⟨s0,s1⟩:=hSw
  first|(go_simp;done)|(go_simp;with_reducible rfl)
 simp only[ls0,ls1]
 refine tkL (i:=6) (n:=304) (v:=?_) ?_ ?_
 rotate_left 1
 ·intro wz hSw
  obtain⟨s0,s1⟩:=hSw
  first|(go_simp;done)|(go_simp;with_reducible rfl)
 simp only[ls0,ls1]
 refine tkL (i:=7) (n:=305) (v:=?_) ?_ ?_
 rotate_left 1
 ·intro wz hSw
  obtain⟨s0,s1⟩:=hSw
  first|(go_simp;done)|(go_simp;with_reducible rfl)
 simp only[ls0,ls1]
 refine tkL (i:=8) (n:=306) (v:=?_) ?_ ?_
 rotate_left 1
 ·intro wz hSw
  obtain⟨s0,s1⟩:=hSw
  first|(go_simp;done)|(go_simp;with_reducible rfl)
 simp only[ls0,ls1]
 refine tkL (i:=9) (n:=307) (v:=?_) ?_ ?_
 rotate_left 1
 ·intro wz hSw
  obtain⟨s0,s1⟩:=hSw
  first|(go_simp;done)|(go_simp;with_reducible rfl)
 simp only[ls0,ls1]
 refine tkL (i:=10) (n:=308) (v:=?_) ?_ ?_
 rotate_left 1
 ·intro wz hSw
  obtain⟨s0,s1⟩:=hSw
  first|(go_simp;done)|(go_simp;with_reducible rfl)
 simp only[ls0,ls1]
 refine tkL (i:=11) (n:=309) (v:=?_) ?_ ?_
 rotate_left 1
 ·intro wz hSw
  obtain⟨s0,s1⟩:=hSw
  first|(go_simp;done)|(go_simp;with_reducible rfl)
 simp only[ls0,ls1]
 refine tkL (i:=12) (n:=310) (v:=?_) ?_ ?_
 rotate_left 1
 ·intro wz hSw
  obtain⟨s0,s1⟩:=hSw
  first|(go_simp;done)|(go_simp;with_reducible rfl)
 simp only[ls0,ls1]
 refine tkL (i:=13) (n:=311) (v:=?_) ?_ ?_
 rotate_left 1
 ·intro wz hSw
  obtain⟨s0,s1⟩:=hSw
  first|(go_simp;done)|(go_simp;with_reducible rfl)
 simp only[ls0,ls1]
 refine tkL (i:=14) (n:=312) (v:=?_) ?_ ?_
 rotate_left 1
 ·intro wz hSw
  obtain⟨s0,s1⟩:=hSw
  first|(go_simp;done)|(go_simp;with_reducible rfl)
 simp only[ls0,ls1]
 refine tkL (i:=15) (n:=313) (v:=?_) ?_ ?_
 rotate_left 1
 ·intro wz hSw
  obtain⟨s0,s1⟩:=hSw
  first|(go_simp;done)|(go_simp;with_reducible rfl)
 simp only[ls0,ls1]
 refine tkL (i:=16) (n:=314) (v:=?_) ?_ ?_
 rotate_left 1
 ·intro wz hSw
  obtain⟨s0,s1⟩:=hSw
  first|(go_simp;done)|(go_simp;with_reducible rfl)
 simp only[ls0,ls1]
 refine tkL (i:=17) (n:=315) (v:=?_) ?_ ?_
 rotate_left 1
 ·intro wz hSw
  obtain⟨s0,s1⟩:=hSw
  first|(go_simp;done)|(go_simp;with_reducible rfl)
 simp only[ls0,ls1]
 refine tkL (i:=18) (n:=316) (v:=?_) ?_ ?_
 rotate_left 1
 ·intro wz hSw
  obtain⟨s0,s1⟩:=hSw
  first|(go_simp;done)|(go_simp;with_reducible rfl)
 simp only[ls0,ls1]
 refine tkL (i:=19) (n:=317) (v:=?_) ?_ ?_
 rotate_left 1
 ·intro wz hSw
  obtain⟨s0,s1⟩:=hSw
  first|(go_simp;done)|(go_simp;with_reducible rfl)
 simp only[ls0,ls1]
 refine wpAnyL_one (i:=20) (by kernel_rfl) rfl (fun K hK=>?_)
 go_simp
 have hw9:Below wk.heap.size wk wk.drew:=(Below.refl _ _).drew
 go_wp2_with (go_at_call 61;refine(lenD HI.out (H3.out.grow hw9) HX.out.1 (show cm<4000 by have:=HI.out.cl;have:=HX.out.2;omega)).mono ?_;rintro r w4 ⟨rfl,hb4⟩)
 have HC4:Hid (DW w w4 [(.slice jad js.length jc,js),(mv,mb),(sv,stb),(bv,bgb)] (updT T m ⟨pt,cm,si,lf-1⟩) B os out (F5 w (.slice pad l.length pc) (.slice tad tk.length tc) gJ gM (.slice jad js.length jc) mv++(FO++[(gm,o)]))):=(H3.out.grow hw9).grow hb4
 have hth4:=HC4.out.th m HB1.out
 rw[updT_self]at hth4
 have c40:=(th_cells hth4).1
 have c41:=(th_cells hth4).2.1
 dsimp only at c40 c41
 clear hb4
 refine hK.out _ _ (fun _=>(⟨c40,c41⟩:_∧_)) ?_
 clear hK K
 try simp only[ls0,ls1]
 clear hHeld
 have hHeld:=(⟨c40,c41⟩:_∧_)
 refine tkL (i:=21) (n:=319) (v:=?_) ?_ ?_
 rotate_left 1
 ·intro wz hSw
  obtain⟨s0,s1⟩:=hSw
  first|(go_simp;done)|(go_simp;with_reducible rfl)
 simp only[ls0,ls1]
 obtain⟨ad8,c8,w8,hrun,hd8,hk8⟩:=HC4.out.push 3 rfl ⟨pt,cm,(t:Int)+1,wkF l tk pt cm⟩ (by have:=HF.out.2;omega)
 have H8:Hid (DW w w8 [(.slice jad js.length jc,js),(mv,mb),(sv,stb),((.slice ad8 (bgb.length+1) c8),(bgb++[w4.heap.size]))] (updT (updT T m ⟨pt,cm,si,lf-1⟩) w4.heap.size ⟨pt,cm,(t:Int)+1,wkF l tk pt cm⟩) (w4.heap.size::B) os out (F5 w (.slice pad l.length pc) (.slice tad tk.length tc) gJ gM (.slice jad js.length jc) mv++(FO++[(gm,o)]))):=hd8
 have hb5:(w4.alloc (.cells (Th.arr ⟨pt,cm,(t:Int)+1,wkF l tk pt cm⟩) 133)).heap[m]?=some (.cells (Th.arr ⟨pt,cm,si,lf-1⟩) 133 (0,0)):=((below_new w4 _).block _ (heap_lt hth4)).trans hth4
 have hb6:((w4.alloc (.cells (Th.arr ⟨pt,cm,(t:Int)+1,wkF l tk pt cm⟩) 133)).alloc (.cells #[pvv w4.heap.size] 131)).heap[m]?=some (.cells (Th.arr ⟨pt,cm,si,lf-1⟩) 133 (0,0)):=((below_new (w4.alloc _) _).block _ (heap_lt hb5)).trans hb5
 have c50:=(th_cells hb5).1
 have c51:=(th_cells hb5).2.1
 have c60:=(th_cells hb6).1
 have c61:=(th_cells hb6).2.1
 have c80:=(th_cells (hk8 _ _ _ (by decide) hth4)).1
 have c81:=(th_cells (hk8 _ _ _ (by decide) hth4)).2.1
 clear hb5 hb6 hd8 hk8
 unfold Th.arr at hrun c50 c51 c60 c61
 unfold pvv at hrun c60 c61
 dsimp only at hrun c50 c51 c60 c61 c80 c81
 have hwt:IntKind.i64.wrap ((t:Int)+1)=(t:Int)+1:=by rw[IntKind.wrap_i64];omega
 simp only[hwt]
 refine wpAnyL_one (i:=22) (by kernel_rfl) rfl (fun K hK=>?_)
 go_simp
 refine hK.out _ _ (fun _=>(⟨c50,c51⟩:_∧_)) ?_
 clear hK K
 try simp only[ls0,ls1]
 clear hHeld
 have hHeld:=(⟨c50,c51⟩:_∧_)
 refine wpAnyL_one (i:=23) (by kernel_rfl) rfl (fun K hK=>?_)
 go_simp
 refine hK.out _ _ (fun _=>(⟨c60,c61⟩:_∧_)) ?_
 clear hK K
 try simp only[ls0,ls1]
 clear hHeld
 have hHeld:=(⟨c60,c61⟩:_∧_)
 refine wpAnyL_one (i:=24) (by kernel_rfl) rfl (fun K hK=>?_)
 refine region_append2 rfl (.tmp 298) (.tmp 321) 130 322 rfl rfl rfl hrun rfl ?_
 refine hK.out _ _ (fun _=>(⟨c80,c81⟩:_∧_)) ?_
 clear hK K
 clear hHeld
 simp only[Act.put,List.setIfInBounds_toArray]
 try simp only[ls0,ls1]
 refine wpAnyL_one (i:=25) (by kernel_rfl) rfl (fun K hK=>?_)
 go_simp
 refine hK.out _ _ (fun h=>absurd rfl h) ?_
 clear hK K
 refine wpAnyL_done (by kernel_rfl) ?_ _
 refine NoPanic.normal ?_
 clear hrun c40 c41 c50 c51 c60 c61 c80 c81
 have HFR:Hid (w4.heap.size ∉ B):=HC4.out.fresh (Nat.le_refl _)
 obtain⟨ad9,c9,w9,hrun,hd10⟩:=H8.out.joined (by have:=HF.out.1;omega) (by rw[List.length_append,List.length_singleton];have:=HF.out.2;omega)
 rw[List.length_append,List.length_singleton]at hrun hd10
 have hd9:=(hd10.putJ (.slice ad9 (stb.length+(bgb.length+1)) c9)).subF (F':=F5 w (.slice pad l.length pc) (.slice tad tk.length tc) gJ gM (.slice ad9 (stb.length+(bgb.length+1)) c9) mv++FO) ((List.Sublist.refl _).append (List.sublist_append_left _ _))
 have HNEW:Hid (TK w (w9.setCell ⟨gJ,0,none⟩ (.slice ad9 (stb.length+(bgb.length+1)) c9)) l tk cs (.slice pad l.length pc) (.slice tad tk.length tc) gJ gM os FO (t+1) (.slice ad9 (stb.length+(bgb.length+1)) c9) mv (stb++(bgb++[w4.heap.size])) mb none (updT (updT T m ⟨pt,cm,si,lf-1⟩) w4.heap.size ⟨pt,cm,(t:Int)+1,wkF l tk pt cm⟩) (w4.heap.size::B) out):=(by have h9:=TK.next2 HLg.out HFIN.out HD0.out HJS.out HL.out (by rw[HPT.out];exact HLF.out) HFR.out ⟨pt,cm,si,lf-1⟩ (by rw[HPT.out];exact hd9);rw[HPT.out]at h9;exact h9)
 have j83:=hd10.boxes.2.2.1
 have jf8:w9.frozen? ⟨gJ,0,none⟩=false:=(cells_of (l:=[_]) (hd10.fr _ (mem5 (FO++[(gm,o)]) 3 rfl))).2.1 0
 have lj8:=World.block_lt_of_cell? _ _ j83
 clear hd10 hd9
 go_wp2_with (at_builtin;refine append_known rfl (.tmp 323) (.tmp 324) 130 rfl rfl rfl hrun ?_)
 exact⟨⟨t+1,_,_,_,_,none,_,_,_,by omega,rfl,by simp,HNEW.out⟩,by simp[intOf];omega⟩
end Go.Proofs.YtccoobcggbbcialGreatDoor
