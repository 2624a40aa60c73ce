import Derived.Test.YtibcbdihphbfeacDoorGMOver
import Derived.Test.YtibcbdihphbfeacDoorGSSv
namespace Go.Proofs.YtibcbdihphbfeacDoor
open Go.ChangeShapes Go.WideShapes Go.ChangeAt Go.RowKit
section
variable {P : Program} {ops : Array Oper} {Q : Exit → Act → World → Prop} {md : Region.Mode} {S : World → Prop} {L : Nat}
def shutB (md : Region.Mode) (ops : Array Oper) (l : Array Bool) : Bool :=
 (List.range ops.size).all fun k => !l.getD k false || match ops[k]? with
  | some o => o.after.all fun e => !Region.binds md e || l.getD e.on false
  | none => true
def ShutP (md : Region.Mode) (ops : Array Oper) (l : Array Bool) : Prop :=
 ∀ k o, ops[k]? = some o → l.getD k false = true → ∀ e ∈ o.after, Region.binds md e = true → l.getD e.on false = true
theorem shut_spec {l : Array Bool} (h : shutB md ops l = true) : ShutP md ops l := fun k o hk hl e he hb => by
 simp only [shutB, List.all_eq_true, List.mem_range] at h
 have h1 := h k (Array.getElem?_eq_some_iff.1 hk).1
 simp only [hk, hl, Bool.not_true, Bool.false_or] at h1
 have h2 := Array.all_eq_true_iff_forall_mem.1 h1 e he
 simpa [hb] using h2
theorem shut_set {l : Array Bool} {j : Nat} (h : ShutP md ops l) (hj : j ∈ Region.ready md ops l) : ShutP md ops (l.setIfInBounds j true) := fun k o hk hl e he hb => by
 by_cases hkj : j = k
 ·subst hkj
  obtain ⟨-, o', ho', hall⟩ := mem_ready.1 hj
  rw [hk] at ho'; cases ho'
  exact getD_set_true (hall e he hb)
 ·rw [getD_set_ne false hkj] at hl
  exact getD_set_true (h k o hk hl e he hb)
def lastB (md : Region.Mode) (ops : Array Oper) (L : Nat) : Bool :=
 L + 1 == ops.size && (List.range L).all fun i => (List.range (L + 1)).any fun j => decide (i < j) && match ops[j]? with
  | some o => o.after.any fun e => Region.binds md e && e.on == i
  | none => false
theorem last_spec {l : Array Bool} (hL : lastB md ops L = true) (h : ShutP md ops l) (hr : L ∈ Region.ready md ops l) : ∀ (d i : Nat), i < L → L - i ≤ d → l.getD i false = true
 | 0, i, hi, hd => by omega
 | d + 1, i, hi, hd => by
  simp only [lastB, Bool.and_eq_true, List.all_eq_true, List.mem_range, List.any_eq_true, decide_eq_true_eq] at hL
  obtain ⟨j, hj, hij, hm⟩ := hL.2 i hi
  cases ho : ops[j]? with
  | none => simp [ho] at hm
  | some o =>
   simp only [ho] at hm
   obtain ⟨e, he, hb⟩ := Array.any_eq_true'.1 hm
   simp only [Bool.and_eq_true, beq_iff_eq] at hb
   rw [← hb.2]
   by_cases hjL : j = L
   ·subst hjL
    obtain ⟨-, o', ho', hall⟩ := mem_ready.1 hr
    rw [ho] at ho'; cases ho'
    exact hall e he hb.1
   ·exact h j o ho (last_spec (by simp only [lastB, Bool.and_eq_true, List.all_eq_true, List.mem_range, List.any_eq_true, decide_eq_true_eq]; exact hL) h hr d j (by omega) (by omega)) e he hb.1
def wpAnyL (P : Program) (md : Region.Mode) (ops : Array Oper) (Q : Exit → Act → World → Prop) (S : World → Prop) (L : Nat) : Nat → Array Bool → Act → World → Prop
 | 0, l, a, w => Region.ready md ops l = [] ∧ Q .normal a w
 | f + 1, l, a, w => (Region.ready md ops l = [] → Q .normal a w) ∧ ∀ i ∈ Region.ready md ops l, wpOp P ops Q i (fun a' w' => (i ≠ L → S w') ∧ wpAnyL P md ops Q S L f (l.setIfInBounds i true) a' w') a w
theorem wpAnyL.any : ∀ (f : Nat) (l : Array Bool) (a : Act) (w : World), wpAnyL P md ops Q S L f l a w → wpAny P md ops Q f l a w
 | 0, _, _, _, h => h
 | f + 1, _, _, _, h => ⟨h.1, fun i hi => wpOp_mono (fun a' w' h' => wpAnyL.any f _ a' w' h'.2) (h.2 i hi)⟩
theorem wpAnyL_first {i : Nat} {oi : Oper} {v : Value} (hi : ops[i]? = some oi) (hsel : ∀ (j : Nat) (o : Oper) cs b, ops[j]? = some o → o.op ≠ .select cs b)
  (hQ : ∀ c a w, Q (.panic c) (a.put oi.dst v) w → Q (.panic c) a w) (hL : lastB md ops L = true) (hiL : i < L) :
  ∀ (f : Nat) (l : Array Bool) (a : Act) (w : World), ShutP md ops l →
   (∀ j oj, ops[j]? = some oj → j ≠ i → l.getD j true = false → (∀ e ∈ oj.after, Region.binds md e = true → e.on ≠ i) → oi.apart ops oj = true) →
   i ∈ Region.ready md ops l → YieldsIf P ops S oi v a → S w →
   wpAnyL P md ops Q S L f (l.setIfInBounds i true) (a.put oi.dst v) w → wpAnyL P md ops Q S L (f + 1) l a w
 | f, l, a, w => fun hsh hfree hr hy hS H => by
  refine ⟨fun h => (by rw [h] at hr; cases hr), fun j hj => ?_⟩
  by_cases hji : j = i
  ·subst hji; exact hy.wpOp hi hS ⟨fun _ => hS, H⟩
  have h0 := (mem_ready.1 hr).1
  have hjL : j ≠ L := fun e => by
   subst e
   have h1 := last_spec hL hsh hj (j - i) i hiL (Nat.le_refl _)
   rcases Nat.lt_or_ge i l.size with h' | h'
   ·simp [h'] at h0 h1; rw [h0] at h1; cases h1
   ·simp [Array.getElem?_eq_none h'] at h1
  cases f with
  | zero =>
   have := ready_mono hj hji
   rw [H.1] at this
   cases this
  | succ f =>
   obtain ⟨hjun, oj, hoj, hall⟩ := mem_ready.1 hj
   have hnot : ∀ e ∈ oj.after, Region.binds md e = true → e.on ≠ i := fun e he hb heq => by
    have h1 := hall e he hb
    rw [heq] at h1
    rcases Nat.lt_or_ge i l.size with h' | h'
    ·simp [h'] at h0 h1; rw [h0] at h1; cases h1
    ·simp [Array.getElem?_eq_none h'] at h1
   refine wpOp_mono (fun a' w' h3 => ?_) (wpOp_putIf hoj (hfree j oj hoj hji hjun hnot) (fun cs b => hsel i oi cs b hi) (fun cs b => hsel j oj cs b hoj) hQ hy (H.2 j (ready_mono hj hji)))
   refine ⟨h3.2.1, wpAnyL_first hi hsel hQ hL hiL f (l.setIfInBounds j true) a' w' (shut_set hsh hj) (fun k ok hk hki hun hno => ?_) (ready_mono hr (Ne.symm hji)) h3.1 (h3.2.1 hjL) (by rw [Array.setIfInBounds_comm _ _ hji]; exact h3.2.2)⟩
   refine hfree k ok hk hki ?_ hno
   by_cases hjk : j = k
   ·subst hjk; exact hjun
   ·rw [getD_set_ne true hjk] at hun; exact hun
theorem takeL_at {i n : Nat} {oi : Oper} {v : Value} {f : Nat} {l : Array Bool} {xs : List Value} {ds : List Deferred} {w : World}
  (hi : ops[i]? = some oi) (hd : oi.dst = some n) (hs : Region.noSelect ops = true) (hL : lastB md ops L = true) (hiL : i < L) (hsh : shutB md ops l = true) (hf : Region.free md ops l i = true) (hr : (Region.ready md ops l).contains i = true)
  (hQ : ∀ c a w, Q (.panic c) (a.put oi.dst v) w → Q (.panic c) a w) (hy : YieldsIf P ops S oi v ⟨xs.toArray, ds⟩) (hS : S w)
  (h : wpAnyL P md ops Q S L f (l.setIfInBounds i true) ⟨(xs.set n v).toArray, ds⟩ w) : wpAnyL P md ops Q S L (f + 1) l ⟨xs.toArray, ds⟩ w := by
 refine wpAnyL_first hi (Region.noSelect_spec hs) hQ hL hiL f l _ w (shut_spec hsh) (Region.free_spec hi hf) (by simpa using hr) hy hS ?_
 have e : Act.put ⟨xs.toArray, ds⟩ oi.dst v = ⟨(xs.set n v).toArray, ds⟩ := by rw [hd]; simp [Act.put]
 rw [e]
 exact h
theorem wpAnyL_one {i : Nat} {o : Oper} {f : Nat} {l : Array Bool} {a : Act} {w : World} (hr : Region.ready md ops l = [i]) (ho : ops[i]? = some o)
  (h : ∀ K' : Act → World → Prop, Shut (∀ a w, (i ≠ L → S w) → wpAnyL P md ops Q S L f (l.setIfInBounds i true) a w → K' a w) → if Region.wanted o (yielded ops a.tmps) = true then Oper.wp P o a w K' Q else K' (a.put o.dst undef) w) : wpAnyL P md ops Q S L (f + 1) l a w :=
 ⟨(fun h0 => absurd (hr.symm.trans h0) (by simp)), fun j hj => by
  rw [hr, List.mem_singleton] at hj
  subst hj
  exact wpOp_step ho (fun K' hK => h K' (fun a w hS hW => hK a w ⟨hS, hW⟩))⟩
theorem wpAnyL_done {l : Array Bool} {a : Act} {w : World} (hr : Region.ready md ops l = []) (h : Q .normal a w) : ∀ f, wpAnyL P md ops Q S L f l a w
 | 0 => ⟨hr, h⟩
 | _ + 1 => ⟨fun _ => h, by rw [hr]; simp⟩
theorem wp_region_last {id : Nat} {a : Act} {w : World} (hm : P.follows .mixedOrders = true)
  (h : wpAnyL P .any ops Q S L ops.size (Array.replicate ops.size false) a w.drew) : (Code.region id ops true).wp P Q a w :=
 wp_region_any hm (h.any _ _ _ _)
end
set_option maxRecDepth 20000 in
set_option maxHeartbeats 16000000 in
theorem st_op4 : StP.2.2.2.1 := by
 intro w l M ic vc nc vs ins most hv hi hmost i0 hmm vb vo qb qo hlen w3 ub uc _ _ w1 ob wr u9 u10 u16 u17 u18 u19 u20 u21 u22 u28 u29 u30 u31 u32 u33 u34 u35 u36 u37 u38 u39 u40 u41 u42 u43 u44 u45 u46 u47 u48 u49 u50 u51 u52 u53 u54 u55 u56 u57 u58 u59 u60 u61 u62 u63 u64 u65 u66 u67 u68 u69 u70 u71 u72 u73 u74 u75 u76 u77 u78 u79 u80 u81 u82 u83 u84 u85 u86 u87 u88 u89 u90 u91 u92 u93 u94 u95 u96 u97 u98 u99 u100 u101 u102 u103 u104 u105 u106 u107 u108 u109 u110 u111 u112 u113 u114 u115 u116 u117 u118 u119 u120 u121 u122 u123 u124 u125 u126 u127 u128 u129 u130 u131 u132 u133 u134 u135 u136 u137 u138 u139 u140 u141 u142 u143 u144 u145 u146 u147 u148 u149 u150 u151 u152 u153 u154 u155 u156 u157 u158 u159 u160 u161 u162 u163 u164 u165 u166 u167 u168 u169 u170 u171 u172 u173 u174 u175 u176 u177 u178 u179 u180 u181 u182 u183 u184 u185 u186 u187 u188 u189 u190 u191 u192 u193 u194 u195 u196 u197 u198 u199 u200 u201 u202 u203 u204 u205 u206 u207 u208 u209 u210 u211 u212 u213 u214 u215 u216 u217 u218 u219 u220 u221 u222 u223 u224 u225 u226 u227 u228 u229 u230 u231 u232 u233 u234 u235 u236 u237 u238 u239 u240 u241 u242 u243 u244 u245 u246 u247 u248 u249 d N s t tr ta tc hdm htl pa pcc gb gc g80 g81 g82 obf oc o80 o81 o82 hpc hd hdb hpi ib io HG hlow hstl sa sc HS hsb lsb hmf m x1 tt x2 htk hht x0 hform hnx hfo HX HX2
 obtain ⟨n, hn⟩ : ∃ n, s.st.length = n + 2 := ⟨s.st.length - 2, by have : takesOf (Int.toNat 4) = 2 := (by decide); omega⟩
 obtain ⟨b0, rfl, ctop, csec, lb, -, hcap⟩ := HS.out.dm.tops hn
 have csec := csec n rfl
 have hnn : b0 ≠ ob + 1 := by have := (HS.out.dm.stk.lt b0 rfl).1; omega
 have e1 : (s.st.length : Int) = (n : Int) + 2 := by omega
 rw [e1, hn] at HX2
 have hbb : Below wr.heap.size wr ((wr.alloc (.cells #[.int .i64 4, .int .i64 (m : Int), .int .i64 (tt : Int)] 35)).alloc (.cells #[.int .i64 ((n : Int) + 2)] 3)) := (below_new _ _).alloc (by simp) _
 have ct := below_cell hbb ctop
 have ct2 := below_cell hbb csec
 obtain ⟨-, zn, ⟨zs, zf, zl⟩, -⟩ := HX2.out.reads
 have lub := HX2.out.dm.ord
 have lbx := HX2.out.lx
 have lbn := HX2.out.ln
 have hw0 : IntKind.i64.wrap (n : Int) = (n : Int) := by rw [IntKind.wrap_i64]; omega
 have hw1 : IntKind.i64.wrap ((n : Int) + 1) = (n : Int) + 1 := by rw [IntKind.wrap_i64]; omega
 have hw2 : IntKind.i64.wrap ((n : Int) + 2 - 1) = (n : Int) + 1 := by rw [IntKind.wrap_i64]; omega
 have hw3 : IntKind.i64.wrap ((n : Int) + 2 - 2) = (n : Int) := by rw [IntKind.wrap_i64]; omega
 have hnl : (n : Int) < (n : Int) + 2 := by omega
 have hnl1 : (n : Int) + 1 < (n : Int) + 2 := by omega
 have hn0 : (0 : Int) ≤ (n : Int) := by omega
 have hn1 : (0 : Int) ≤ (n : Int) + 1 := by omega
 generalize htp : s.top = tp at *
 generalize hse : s.second = se at *
 have HT : Hid (s.top = tp ∧ s.second = se) := ⟨htp, hse⟩
 clear htp hse
 go_wp2_with fail
 generalize hwz : ((wr.alloc (.cells #[.int .i64 4, .int .i64 (m : Int), .int .i64 (tt : Int)] 35)).alloc (.cells #[.int .i64 ((n : Int) + 2)] 3)) = w2 at *
 clear hwz hbb
 have hS0 : w2.drew.cell? ⟨ob + 1, 0, none⟩ = some (.slice (some ⟨b0, 0, none⟩) (n + 2) sc) ∧ w2.drew.cell? ⟨wr.heap.size + 1, 0, none⟩ = some (.int .i64 ((n : Int) + 2)) ∧ w2.drew.cell? ⟨b0, n + 1, none⟩ = some (.int .i64 tp) ∧ w2.drew.cell? ⟨b0, n, none⟩ = some (.int .i64 se) := ⟨zs, zn, ct, ct2⟩
 have H2d : Hid (DX w w2.drew _ _ _ _ _ _ _ _ _ _ _ _ _ _ _ (.slice pa s.ps.length pcc) (.slice ta d tc)) := HX2.out.grow (Below.refl _ _).drew
 refine wp_region_noPanic ?_
 refine wp_region_last (S := fun w' => w'.cell? ⟨ob + 1, 0, none⟩ = some (.slice (some ⟨b0, 0, none⟩) (n + 2) sc) ∧ w'.cell? ⟨wr.heap.size + 1, 0, none⟩ = some (.int .i64 ((n : Int) + 2)) ∧ w'.cell? ⟨b0, n + 1, none⟩ = some (.int .i64 tp) ∧ w'.cell? ⟨b0, n, none⟩ = some (.int .i64 se)) (L := 12) (by kernel_rfl) ?_
 refine takeL_at (i := 0) (n := 85) (v := ?_) rfl rfl (by kernel_rfl) (by kernel_rfl) (by decide) (by kernel_rfl) (by kernel_rfl) (by kernel_rfl) (fun _ _ _ h => h) (Or.inl ⟨by rfl, ?_⟩) (by assumption) ?_
 rotate_left 1
 ·intro wz hSw
  first | (go_simp; done) | (go_simp; with_reducible rfl)
 simp only [List.set_cons_zero, List.set_cons_succ]
 refine takeL_at (i := 1) (n := 86) (v := ?_) rfl rfl (by kernel_rfl) (by kernel_rfl) (by decide) (by kernel_rfl) (by kernel_rfl) (by kernel_rfl) (fun _ _ _ h => h) (Or.inl ⟨by rfl, ?_⟩) (by assumption) ?_
 rotate_left 1
 ·intro wz hSw
  first | (go_simp; done) | (go_simp; with_reducible rfl)
 simp only [List.set_cons_zero, List.set_cons_succ]
 refine takeL_at (i := 2) (n := 87) (v := ?_) rfl rfl (by kernel_rfl) (by kernel_rfl) (by decide) (by kernel_rfl) (by kernel_rfl) (by kernel_rfl) (fun _ _ _ h => h) (Or.inl ⟨by rfl, ?_⟩) (by assumption) ?_
 rotate_left 1
 ·intro wz hSw
  first | (go_simp; done) | (go_simp; with_reducible rfl)
 simp only [List.set_cons_zero, List.set_cons_succ]
 refine takeL_at (i := 3) (n := 88) (v := ?_) rfl rfl (by kernel_rfl) (by kernel_rfl) (by decide) (by kernel_rfl) (by kernel_rfl) (by kernel_rfl) (fun _ _ _ h => h) (Or.inl ⟨by rfl, ?_⟩) (by assumption) ?_
 rotate_left 1
 ·intro wz hSw
  first | (go_simp; done) | (go_simp; with_reducible rfl)
 simp only [List.set_cons_zero, List.set_cons_succ]
 refine takeL_at (i := 4) (n := 89) (v := ?_) rfl rfl (by kernel_rfl) (by kernel_rfl) (by decide) (by kernel_rfl) (by kernel_rfl) (by kernel_rfl) (fun _ _ _ h => h) (Or.inl ⟨by rfl, ?_⟩) (by assumption) ?_
 rotate_left 1
 ·intro wz hSw
  first | (go_simp; done) | (go_simp; with_reducible rfl)
 simp only [List.set_cons_zero, List.set_cons_succ]
 refine takeL_at (i := 5) (n := 90) (v := ?_) rfl rfl (by kernel_rfl) (by kernel_rfl) (by decide) (by kernel_rfl) (by kernel_rfl) (by kernel_rfl) (fun _ _ _ h => h) (Or.inl ⟨by rfl, ?_⟩) (by assumption) ?_
 rotate_left 1
 ·intro wz hSw
  first | (go_simp; done) | (go_simp; with_reducible rfl)
 simp only [List.set_cons_zero, List.set_cons_succ]
 refine takeL_at (i := 6) (n := 91) (v := ?_) rfl rfl (by kernel_rfl) (by kernel_rfl) (by decide) (by kernel_rfl) (by kernel_rfl) (by kernel_rfl) (fun _ _ _ h => h) (Or.inl ⟨by rfl, ?_⟩) (by assumption) ?_
 rotate_left 1
 ·intro wz hSw
  first | (go_simp; done) | (go_simp; with_reducible rfl)
 simp only [List.set_cons_zero, List.set_cons_succ]
 refine takeL_at (i := 7) (n := 92) (v := ?_) rfl rfl (by kernel_rfl) (by kernel_rfl) (by decide) (by kernel_rfl) (by kernel_rfl) (by kernel_rfl) (fun _ _ _ h => h) (Or.inl ⟨by rfl, ?_⟩) (by assumption) ?_
 rotate_left 1
 ·intro wz hSw
  first | (go_simp; done) | (go_simp; with_reducible rfl)
 simp only [List.set_cons_zero, List.set_cons_succ]
 refine takeL_at (i := 8) (n := 93) (v := ?_) rfl rfl (by kernel_rfl) (by kernel_rfl) (by decide) (by kernel_rfl) (by kernel_rfl) (by kernel_rfl) (fun _ _ _ h => h) (Or.inl ⟨by rfl, ?_⟩) (by assumption) ?_
 rotate_left 1
 ·intro wz hSw
  first | (go_simp; done) | (go_simp; with_reducible rfl)
 simp only [List.set_cons_zero, List.set_cons_succ]
 refine takeL_at (i := 9) (n := 94) (v := ?_) rfl rfl (by kernel_rfl) (by kernel_rfl) (by decide) (by kernel_rfl) (by kernel_rfl) (by kernel_rfl) (fun _ _ _ h => h) (Or.inl ⟨by rfl, ?_⟩) (by assumption) ?_
 rotate_left 1
 ·intro wz hSw
  first | (go_simp; done) | (go_simp; with_reducible rfl)
 simp only [List.set_cons_zero, List.set_cons_succ]
 refine takeL_at (i := 10) (n := 95) (v := ?_) rfl rfl (by kernel_rfl) (by kernel_rfl) (by decide) (by kernel_rfl) (by kernel_rfl) (by kernel_rfl) (fun _ _ _ h => h) (Or.inl ⟨by rfl, ?_⟩) (by assumption) ?_
 rotate_left 1
 ·intro wz hSw
  first | (go_simp; done) | (go_simp; with_reducible rfl)
 simp only [List.set_cons_zero, List.set_cons_succ]
 refine takeL_at (i := 11) (n := 96) (v := ?_) rfl rfl (by kernel_rfl) (by kernel_rfl) (by decide) (by kernel_rfl) (by kernel_rfl) (by kernel_rfl) (fun _ _ _ h => h) (Or.inl ⟨by rfl, ?_⟩) (by assumption) ?_
 rotate_left 1
 ·intro wz hSw
  first | (go_simp; done) | (go_simp; with_reducible rfl)
 simp only [List.set_cons_zero, List.set_cons_succ]
 refine wpAnyL_one (i := 12) (by kernel_rfl) rfl (fun K hK => ?_)
 go_wp2_with (go_at_call 69; refine (two_any w _ _ _ _ _ _ _ _ _ _ _ s _ _ b0 sc n _ _ _ H2d.out hn (by omega)).mono ?_; rintro r w4 ⟨rfl, sv4, hdx⟩; have H4 : Hid (DX w w4 _ _ _ _ _ _ _ _ _ _ _ _ _ _ sv4 (.slice pa s.ps.length pcc) (.slice ta d tc)) := hdx; clear hdx)
 refine hK.out _ _ (fun h => absurd rfl h) ?_
 clear hK K
 refine wpAnyL_done (by kernel_rfl) ?_ _
 refine NoPanic.normal ?_
 obtain ⟨⟨q0, q1, q2⟩, -⟩ := H4.out.reads
 try dsimp only at q0 q1 q2
 have lq := H4.out.lts.1
 go_wp2_with (first | (go_at_call 28; refine (ticks_any _ ⟨4, (m : Int), (tt : Int)⟩ false hform).mono ?_; rintro r w5 ⟨rfl, hb5⟩; have H5 : Hid (DX w w5 _ _ _ _ _ _ _ _ _ _ _ _ _ _ _ _ _) := H4.out.grow hb5; have hcz := cost_le hform false; clear hb5) | (at_builtin; refine wp_pushT rfl (.tmp 238) (.tmp 242) rfl (ob + 1 + 1 + 1) (.slice ta d tc) tr s.pc _ w5.heap.size rfl rfl rfl H5.out.dm.stp H5.out.dm.bas (by have := HS.out.len; omega) ?_; intro ad6 c6 w6 ho6 hg6 hv6; have H6 : Hid (DX w w6 _ _ _ _ _ _ _ _ _ _ _ _ _ _ _ _ _) := H5.out.booked s.pc _ ho6 hg6 hv6; obtain ⟨-, -, -, -, -, b2, bf, bl⟩ := H6.out.reads; clear ho6 hg6 hv6))
 refine ⟨?_, by have := HS.out.len; simp [lenOf]; omega⟩
 have hst := HS.out.step HG.out.1 hpc (by omega) HX.out (by obtain ⟨rfl, rfl⟩ := HT.out; simp [mdo, nextI, overI, binI, wrap64]) rfl (N' := N) (by omega) ((H6.out.addT _).dm.setPc (s.pc + 1))
 exact ⟨d + 1, N, _, _, _, _, _, congrArg (Value.int .i64) (show (s.pc : Int) + 1 = ((s.pc + 1 : Nat) : Int) by omega), hst⟩
end Go.Proofs.YtibcbdihphbfeacDoor
