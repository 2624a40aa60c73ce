import Derived.Test.YtccoobcggbbcialGreatDoorGQT
import Derived.Test.YtccoobcggbbcialGreatDoorGQD9
import Derived.Deep.QuietTactic
namespace Go.Proofs.YtccoobcggbbcialGreatDoor
open Go.ChangeShapes Go.WideShapes Go.ChangeAt Go.RowKit
open Keep
set_option maxRecDepth 20000 in
set_option maxHeartbeats 16000000 in
def QAp:(P0:Prop) ×' (RIB P0→QTp.2.2.1):=by
 apply PSigma.mk
 ·intro hp_sent
  intro w l cs tk hcl htl z2 a pad pc cad cc tad tc H0 HV hmm w1 gc HZ HZ0 h4 h1 h8 HOK h4i zx2 u12 u46 u47 u48 u49 u50 u51 u52 H2 hk hkl u8 u14 u15 u16 u17 u63 u64 u65 u66 u67 u68 u69 u70 u71 u72 u73 u74 u75 u76 u77 u78 u79 u80 u81 u82 u83 u84 u85 u86 u87 u88 u89 u90 u91 u92 u93 u94 u95 u96 u97 u98 u99 u100 u101 u102 u103 u104 u105 u106 u107 u108 u109 u110 u111 u112 u113 u114 os oad oc zx1 zx2 HN HLg HI nn zx7 hn0 hn1 hn2 hn3 FO HFO W1 gM gJ HOL zx13 zx3 zx4 zx5 u25 u26 u27 zx6 zx7 zx8 zx9 u116 u117 u118 u119 u120 u121 u122 u123 zx10 zx11 zx12 zx13 zx14 zx15 zx16 zx17 zx18 zx19 zx20 zx21 zx22 zx23 zx24 zx25 zx26 zx27 zx28 zx29 zx30 zx31 zx32 u147 u148 u149 u150 u151 u152 u153 u154 zx33 zx34 zx35 zx36 zx37 zx38 u161 zx39 zx40 zx41 zx42 zx43 u167 u168 u169 u170 zx44 zx45 zx46 zx47 zx48 zx49 zx50 zx51 zx52 zx53 zx54 zx55 zx56 zx57 zx58 zx59 zx60 zx61 zx62 zx63 zx64 zx65 zx66 zx67 zx68 zx69 zx70 zx71 zx72 zx73 zx74 zx75 zx76 zx77 zx78 zx79 zx80 zx81 zx82 zx83 zx84 zx85 zx86 zx87 zx88 zx89 zx90 zx91 zx92 zx93 zx94 zx95 zx96 zx97 zx98 zx99 zx100 zx101 zx102 zx103 zx104 zx105 zx106 zx107 zx108 zx109 zx110 zx111 zx112 zx113 zx114 zx115 zx116 zx117 zx118 zx119 zx120 zx121 zx122 zx123 zx124 zx125 zx126 zx127 zx128 zx129 zx130 zx131 zx132 zx133 zx134 zx135 zx136 zx137 zx138 zx139 zx140 zx141 zx142 zx143 zx144 zx145 zx146 zx147 zx148 zx149 zx150 zx151 zx152 zx153 zx154 zx155 zx156 u284 u285 u286 u287 u288 u289 u290 u291 u292 u293 u294 u295 u296 u297 u298 u299 u300 u301 u302 u303 u304 u305 u306 u307 u308 u309 u310 u311 u312 u313 u314 u315 u316 u317 u318 u319 u320 u321 u322 u323 u324 u325 t jv zx157 zx158 zx159 sb zx160 zx161 zx162 ht htn hti jobs mail sent HD zx163 zx164 zx165 zx166 zx167 u23 u24 u124 u125 u126 u127 u128 u129 u130 u131 u132 u133 u134 u135 u136 u137 u138 u139 u140 u141 u142 u143 u144 u145 u146 jb zx168 zx169 zx170 zx171 zx172 zx173 zx174 w5 js w6 ms zx175 zx176 zx177 zx178 tb u155 u156 u157 u158 u159 u160 wc u162 u163 u164 u165 u166 mv' sb' ms' wm gm jad jc jsT HJT sent1 mail1 HJL d0 HJS HFW out0 HD0 HFIN zx179 zx180 wr u29 u30 u31 u32 u171 u172 u173 u174 u175 u176 u177 u178 u179 u180 u181 u182 u183 u184 u185 u186 u187 u188 u189 u190 u191 u192 u193 u194 u195 u196 u197 u198 u199 u200 u201 u202 u203 u204 u205 u206 u207 u208 u209 u210 u211 u212 u213 u214 u215 u216 u217 u218 u219 u220 u221 u222 u223 u224 u225 u226 u227 u228 u229 u230 u231 u232 u233 u234 u235 u236 u237 u238 u239 u240 u241 u242 u243 u244 u245 u246 u247 u248 u249 u250 u251 u252 u253 u254 u255 u256 u257 u258 u259 u260 u261 u262 u263 u264 u265 u266 u267 u268 u269 u270 u271 u272 u273 u274 u275 u276 u277 u278 u279 u280 u281 u282 u283 i sv bv mv mb stb bgb T B out N M o hi HR hil
  have hie:i=js.length:=by omega
  subst hie
  have HL:Hid (LP l tk ((t:Int)+1) js.length jsT js sent1 d0 mb stb bgb sb' T B out N M):=HR.out.2.2
  have hfw:=HL.out.few HFW.out.1 HFW.out.2.1 HFW.out.2.2.1 HFW.out.2.2.2.1 HFW.out.2.2.2.2.1 HFW.out.2.2.2.2.2.1 HFW.out.2.2.2.2.2.2
  have HF:Hid (stb.length≤40000∧bgb.length≤320000):=⟨hfw.1,hfw.2.1⟩
  clear hfw
  rcases sb' with _|m
  ·rw[show sbV none=Value.pointer none from rfl]
   obtain⟨ad8,c8,w8,hrun,hd8⟩:=HR.out.1.joined (by have:=HF.out.1;omega) (by have:=HF.out.2;omega)
   skip
   have hd9:=(hd8.putJ (.slice ad8 (stb.length+bgb.length) c8)).subF (F':=F5 w (.slice pad l.length pc) (.slice tad tk.length tc) gJ gM (.slice ad8 (stb.length+bgb.length) c8) mv++FO) ((List.Sublist.refl _).append (List.sublist_append_left _ _))
   have HNEW:Hid (TK w (w8.setCell ⟨gJ,0,none⟩ (.slice ad8 (stb.length+bgb.length) c8)) l tk cs (.slice pad l.length pc) (.slice tad tk.length tc) gJ gM os FO (t+1) (.slice ad8 (stb.length+bgb.length) c8) mv (stb++bgb) mb none T B out):=TK.next0 HLg.out HFIN.out HD0.out HJS.out HL.out hd9
   have j83:=hd8.boxes.2.2.1
   have jf8:w8.frozen? ⟨gJ,0,none⟩=false:=(cells_of (l:=[_]) (hd8.fr _ (mem5 (FO++[(gm,o)]) 3 rfl))).2.1 0
   have lj8:=World.block_lt_of_cell? _ _ j83
   clear hd8 hd9
   go_wp2_with (at_builtin;refine append_known rfl (.tmp 323) (.tmp 324) 130 rfl rfl rfl hrun ?_)
   exact⟨⟨t+1,_,_,_,_,none,_,_,_,by omega,rfl,by simp,HNEW.out⟩,by simp[intOf];omega⟩
  ·rw[show sbV (some m)=Value.pointer (some ⟨m,0,none⟩) from rfl]
   obtain⟨g1,g2,-,-,-⟩:=sent_out HL.out
   obtain⟨x1,x2,x3,x4⟩:=HJL.out.2.2 (T m) g1
   have hth:=HR.out.1.th m g2
   have HB1:Hid (m∈B):=g2
   obtain⟨pt,cm,si,lf,hTb⟩:∃pt cm si lf,T m=Th.mk pt cm si lf:=⟨_,_,_,_,rfl⟩
   rw[hTb]at hth x1 x2 x3 x4
   dsimp only at x1 x2 x3 x4
   have HPT:Hid (T m=⟨pt,cm,si,lf⟩):=hTb
   have HX:Hid (pt<l.length∧cm<cs.length):=⟨x1,x2⟩
   obtain⟨t0,t1,t2,t3,tf,tl⟩:=th_cells hth
   dsimp only at t0 t1 t2 t3
   have h3:=HR.out.1.setL g2 (lf-1)
   rw[hTb]at h3
   have H3:Hid (DW w (wr.setCell ⟨m,3,none⟩ (.int .i64 (lf-1))) [(.slice jad js.length jc,js),(mv,mb),(sv,stb),(bv,bgb)] (updT T m ⟨pt,cm,si,lf-1⟩) B os out (F5 w (.slice pad l.length pc) (.slice tad tk.length tc) gJ gM (.slice jad js.length jc) mv++(FO++[(gm,o)]))):=h3
   clear hTb h3 hth g1 g2 x1 x2 HR
   go_upto_region 69 with fail
   clear t0 t1 t2 t3 tf tl
   generalize wr.setCell ⟨m,3,none⟩ (.int .i64 (lf-1))=wk at *
   have hth:=H3.out.th m HB1.out
   rw[updT_self]at hth
   obtain⟨t0,t1,t2,t3,tf,tl⟩:=th_cells hth
   dsimp only at t0 t1 t2 t3
   clear hth
   by_cases h1:lf=1
   rotate_left 1
   ·have hsb:(lf-1 == 0)=false:=by simpa using (show ¬ lf-1=0 by omega)
    obtain⟨ad8,c8,w8,hrun,hd8⟩:=H3.out.joined (by have:=HF.out.1;omega) (by have:=HF.out.2;omega)
    skip
    have hd9:=(hd8.putJ (.slice ad8 (stb.length+bgb.length) c8)).subF (F':=F5 w (.slice pad l.length pc) (.slice tad tk.length tc) gJ gM (.slice ad8 (stb.length+bgb.length) c8) mv++FO) ((List.Sublist.refl _).append (List.sublist_append_left _ _))
    have HNEW:Hid (TK w (w8.setCell ⟨gJ,0,none⟩ (.slice ad8 (stb.length+bgb.length) c8)) l tk cs (.slice pad l.length pc) (.slice tad tk.length tc) gJ gM os FO (t+1) (.slice ad8 (stb.length+bgb.length) c8) mv (stb++bgb) mb (some m) (updT T m ⟨pt,cm,si,lf-1⟩) B out):=(by have h9:=TK.next1 HLg.out HFIN.out HD0.out HJS.out HL.out (by rw[HPT.out];exact h1) (by rw[HPT.out];exact hd9);rw[HPT.out]at h9;exact h9)
    have j83:=hd8.boxes.2.2.1
    have jf8:w8.frozen? ⟨gJ,0,none⟩=false:=(cells_of (l:=[_]) (hd8.fr _ (mem5 (FO++[(gm,o)]) 3 rfl))).2.1 0
    have lj8:=World.block_lt_of_cell? _ _ j83
    clear hd8 hd9
    go_wp2_with (at_builtin;refine append_known rfl (.tmp 323) (.tmp 324) 130 rfl rfl rfl hrun ?_)
    exact⟨⟨t+1,_,_,_,_,(some m),_,_,_,by omega,rfl,by simp,HNEW.out⟩,by simp[intOf];omega⟩
   ·rename_i zq1 zq2 zq3 zq4 zq5 zq6 zq7 zq8 zq9 zq10 zq11
    revert w l cs tk hcl htl z2 a pad pc cad cc tad tc H0 HV hmm w1 gc HZ HZ0 h4 zq1 h8 HOK h4i zq2 u12 u46 u47 u48 u49 u50 u51 u52 H2 hk hkl u8 u14 u15 u16 u17 u63 u64 u65 u66 u67 u68 u69 u70 u71 u72 u73 u74 u75 u76 u77 u78 u79 u80 u81 u82 u83 u84 u85 u86 u87 u88 u89 u90 u91 u92 u93 u94 u95 u96 u97 u98 u99 u100 u101 u102 u103 u104 u105 u106 u107 u108 u109 u110 u111 u112 u113 u114 os oad oc zx1 zx2 HN HLg HI nn zq3 hn0 hn1 hn2 hn3 FO HFO W1 gM gJ HOL zq4 zx3 zx4 zx5 u25 u26 u27 zx6 zx7 zx8 zx9 u116 u117 u118 u119 u120 u121 u122 u123 zx10 zx11 zx12 zx13 zx14 zx15 zx16 zx17 zx18 zx19 zx20 zx21 zx22 zx23 zx24 zx25 zx26 zx27 zx28 zx29 zx30 zx31 zx32 u147 u148 u149 u150 u151 u152 u153 u154 zx33 zx34 zx35 zx36 zx37 zx38 u161 zx39 zx40 zx41 zx42 zx43 u167 u168 u169 u170 zx44 zx45 zx46 zx47 zx48 zx49 zx50 zx51 zx52 zx53 zx54 zx55 zx56 zx57 zx58 zx59 zx60 zx61 zx62 zx63 zx64 zx65 zx66 zx67 zx68 zx69 zx70 zx71 zx72 zx73 zx74 zx75 zx76 zx77 zx78 zx79 zx80 zx81 zx82 zx83 zx84 zx85 zx86 zx87 zx88 zx89 zx90 zx91 zx92 zx93 zx94 zx95 zx96 zx97 zx98 zx99 zx100 zx101 zx102 zx103 zx104 zx105 zx106 zx107 zx108 zx109 zx110 zx111 zx112 zx113 zx114 zx115 zx116 zx117 zx118 zx119 zx120 zx121 zx122 zx123 zx124 zx125 zx126 zx127 zx128 zx129 zx130 zx131 zx132 zx133 zx134 zx135 zx136 zx137 zx138 zx139 zx140 zx141 zx142 zx143 zx144 zx145 zx146 zx147 zx148 zx149 zx150 zx151 zx152 zx153 zx154 zx155 zx156 u284 u285 u286 u287 u288 u289 u290 u291 u292 u293 u294 u295 u296 u297 u298 u299 u300 u301 u302 u303 u304 u305 u306 u307 u308 u309 u310 u311 u312 u313 u314 u315 u316 u317 u318 u319 u320 u321 u322 u323 u324 u325 t jv zx157 zx158 zx159 sb zx160 zx161 zx162 ht htn hti jobs mail sent HD zx163 zx164 zx165 zx166 zx167 u23 u24 u124 u125 u126 u127 u128 u129 u130 u131 u132 u133 u134 u135 u136 u137 u138 u139 u140 u141 u142 u143 u144 u145 u146 jb zx168 zx169 zx170 zx171 zx172 zx173 zx174 w5 js w6 ms zx175 zx176 zx177 zx178 tb u155 u156 u157 u158 u159 u160 wc u162 u163 u164 u165 u166 mv' ms' wm gm jad jc jsT HJT sent1 mail1 HJL d0 HJS HFW out0 HD0 HFIN zx179 wr u29 u30 u31 u32 u171 u172 u173 u174 u175 u176 u177 u178 u179 u180 u181 u182 u183 u184 u185 u186 u187 u188 u189 u190 u191 u192 u193 u194 u195 u196 u197 u198 u199 u200 u201 u202 u203 u204 u205 u206 u207 u208 u209 u210 u211 u212 u213 u214 u215 u216 u217 u218 u219 u220 u221 u222 u223 u224 u225 u226 u227 u228 u229 u230 u231 u232 u233 u234 u235 u236 u237 u238 u239 u240 u241 u242 u243 u244 u245 u246 u247 u248 u249 u250 u251 u252 u253 u254 u255 u256 u257 u258 u259 u260 u261 u262 u263 u264 u265 u266 u267 u268 u269 u270 u271 u272 u273 u274 u275 u276 u277 u278 u279 u280 u281 u282 u283 sv bv mv mb stb bgb T B out N M o hi hil HF m HL HB1 pt cm si lf x4 x3 HPT HX zq5 zq6 zq7 zq8 zq9 zq10 zq11 wk H3 t0 t1 t2 t3 tf tl h1
    exact hp_sent.out
end Go.Proofs.YtccoobcggbbcialGreatDoor
