import Derived.Test.YtcmoehednkaehadDoorGMDoAll
import Derived.Test.YtcmoehednkaehadDoorGLend
import Derived.Lib.SliceRun
import Derived.OwnWalk
import Derived.Test.YtcmoehednkaehadDoorGWB
namespace Go.Proofs.YtcmoehednkaehadDoor
open Go.ChangeShapes Go.WideShapes Go.ChangeAt Go.RowKit

/-- An append to a slice of one's own: in its block, or in a new one. -/
theorem append_mine {P : Program} (w : World) {ops : Array Oper} {rest : List Oper} {o : Oper} {a : Act} {Q : Exit → Act → World → Prop}
    (hg : o.guard = none) (s x : Operand) (t : TypeId) (hop : o.op = Op.call { callee := Callee.builtin Builtin.append, args := #[s, x], argTypes := #[t, t] })
    (base : Nat) (e : TypeId) (i : TypeInfo) (z : Value) (size bytes : Nat) (h1 : P.underlying t = some (.slice e)) (h2 : P.info? e = some i) (h3 : i.zero = some z) (h4 : i.size = size) (h5 : i.bytes = bytes) (h6 : z.cells.size = size) (h7 : 0 < size)
    (v : Value) (n : Nat) (xs : List Value) (hs : a.eval s = v) (hown : w.ownsRow base e size v n xs)
    (ad : Addr) (m c : Nat) (news : List Value) (hx : a.eval x = .slice (some ad) m c) (hn : news.length = m * size) (hc : ∀ j u, news[j]? = some u → w.cell? (ad.add j) = some u) (h1c : ∀ u ∈ news, u.oneCell' = true)
    (hm : 0 < m) (b1 : n + m ≤ maxLen) (b2 : (n + m) * bytes ≤ 140737488355328) (hbase : base ≤ w.heap.size)
    (hK : ∀ v' w', w'.ownsRow base e size v' (n + m) (xs ++ news) → w.grownBy w' v.ownBlock → (v'.ownBlock = v.ownBlock ∨ ∀ k, v'.ownBlock = some k → w.heap.size ≤ k) → wpList P ops Q rest (a.put o.dst v') w') :
    wpList P ops Q (o :: rest) a w := by
  have up : ∀ v' w', w'.ownsRow w.heap.size e size v' (n + m) (xs ++ news) → w.grownBy w' none → wpList P ops Q rest (a.put o.dst v') w' := by
    intro v' w' ho hgr
    refine hK v' w' ?_ ⟨hgr.os, hgr.tape, hgr.output, hgr.size, fun k hk _ => hgr.block k hk (by simp)⟩ (.inr fun k hk => (ho.lt k hk).1)
    obtain ⟨q1, q2⟩ := ho
    refine ⟨q1, ?_⟩
    rcases q2 with q2 | ⟨g, cap, cur, hv, hb, r⟩
    · exact .inl q2
    · exact .inr ⟨g, cap, cur, hv, Nat.le_trans hbase hb, r⟩
  have hown' := hown
  obtain ⟨hl, ho⟩ := hown
  rcases ho with ⟨rfl, rfl⟩ | ⟨g, cap, cur, rfl, hb, hgg, hcap, hcm, hcs, htk⟩
  · have hxs : xs = [] := List.eq_nil_of_length_eq_zero (by simpa using hl)
    subst hxs
    exact wpList_append_grows w hg s x t hop e i z size bytes h1 h2 h3 h4 h5 h6 h7 none 0 0 [] hs (fun _ => ⟨rfl, rfl⟩) (by simp) (fun b hb => by cases hb) ad m c news hx hn hc h1c (by omega) b1 b2 up
  · by_cases hr : n + m ≤ cap
    · exact wpList_append_fits w hg s x t hop base e i size h1 h2 h4 g n cap xs hs hown' ad m c news hx hn hc h1c hr fun w' q1 q2 => hK _ w' q1 q2 (.inl rfl)
    · exact wpList_append_grows w hg s x t hop e i z size bytes h1 h2 h3 h4 h5 h6 h7 (some ⟨g, 0, none⟩) n cap xs hs (fun h => by cases h) hl (fun b hb' => by cases hb'; exact hown'.cells rfl) ad m c news hx hn hc h1c (by omega) b1 b2 up

theorem InSl.of_own {w : World} {B : Nat} {v : Value} {l : List In} (h : w.ownsRow B 27 3 v l.length (insVs l)) : InSl w l v ∧ ∀ ad n c, v = .slice (some ad) n c → B ≤ ad.block ∧ ad.block < w.heap.size := by
  obtain ⟨ad, cap, rfl⟩ := owns_value h
  have h' := h
  obtain ⟨-, ⟨e, he⟩ | ⟨g, cap', cur, e, hB, hg, -, -, -, ht⟩⟩ := h'
  · have hl0 : l = [] := List.length_eq_zero_iff.1 he
    subst hl0
    simp only [Value.slice.injEq] at e
    obtain ⟨rfl, -, rfl⟩ := e
    exact ⟨⟨_, _, rfl, .inl rfl⟩, fun ad n c e => by cases e⟩
  · simp only [Value.slice.injEq] at e
    obtain ⟨rfl, -, rfl⟩ := e
    refine ⟨⟨_, _, rfl, .inr ⟨g, 0, rfl, fun j hj => ?_⟩⟩, fun ad n c e => by cases e; exact ⟨hB, (Array.getElem?_eq_some_iff.1 hg).1⟩⟩
    obtain ⟨h0, h1, h2⟩ := insVs_at l j hj
    rw [Nat.zero_add]
    exact ⟨(h.cellAt (j * 3) (by omega)).trans h0, (h.cellAt (j * 3 + 1) (by omega)).trans h1, (h.cellAt (j * 3 + 2) (by omega)).trans h2⟩

set_option maxRecDepth 20000 in
set_option maxHeartbeats 2000000 in
theorem cloneI_any (w : World) (l : List In) (ad : Option Addr) (c : Nat) (hl : l.length ≤ 100000) (h : InSl w l (.slice ad l.length c)) (hnil : ad = none → l.length = 0 ∧ c = 0) :
    Calls Tryd.prog 79 #[.slice ad l.length c] w fun r w' => ∃ u, r = .returned u ∧ (InSl w' l u ∧ ∀ ad n c, u = .slice (some ad) n c → w.heap.size ≤ ad.block ∧ ad.block < w'.heap.size) ∧ Below w.heap.size w w' := by
  obtain ⟨i0, hi0, hz0, hz1, hz2⟩ := info_parts info52
  have q22 : ∀ (w : World) (a : Option Addr) (n c n' c' : Nat), (binOp .eql 22 (.slice a n c) (.slice none n' c')).run Tryd.prog w = .ok (.bool a.isNone) w := fun w a n c n' c' => Lib.run_eql_slice_nil w _ _ a n c n' c' Tryd.underlying22
  rcases ad with _ | ad
  · obtain ⟨h0, rfl⟩ := hnil rfl
    have hl0 : l = [] := List.length_eq_zero_iff.1 h0
    subst hl0
    go_enter Tryd.func79, Tryd.ntmps79
    go_wp2_with fail
    go_ret
    exact ⟨_, rfl, ⟨⟨none, 0, rfl, .inl rfl⟩, fun ad n c e => by cases e⟩, Below.refl _ _⟩
  · have HV : Hid (InSl w l (.slice (some ad) l.length c)) := h
    clear h hnil
    by_cases h0 : l.length = 0
    · have hl0 : l = [] := List.length_eq_zero_iff.1 h0
      subst hl0
      go_enter Tryd.func79, Tryd.ntmps79
      go_wp2_with (at_builtin; refine wpList_append_fits_any _ rfl (.tmp 5) (.tmp 6) 22 rfl w.heap.size 27 i0 3 Tryd.underlying22 hi0 hz1 w.heap.size 0 0 [] rfl (World.ownsRow_made w #[] 0 (Nat.le_refl _) (Nat.zero_le _) rfl) (some ad) 0 c [] rfl rfl (by intro e; cases e) (by intro ad' e j u hj; simp at hj) (by simp) (by omega) ?_; intro w2 ho2 hg2; have H2 : Hid (w2.ownsRow w.heap.size 27 3 (.slice (some ⟨w.heap.size, 0, none⟩) 0 0) 0 [] ∧ Below w.heap.size w w2) := ⟨by simpa using ho2, ((Below.refl _ w).alloc (Nat.le_refl _) _).grown hg2 (by simp) (by intro k hk; simp at hk; omega)⟩; clear ho2 hg2)
      go_ret
      exact ⟨_, rfl, InSl.of_own (l := []) H2.out.1, H2.out.2⟩
    · have hcell := HV.out.arg (below_new w (.cells #[] 27))
      go_enter Tryd.func79, Tryd.ntmps79
      go_wp2_with (at_builtin; refine append_mine _ rfl (.tmp 5) (.tmp 6) 22 rfl w.heap.size 27 i0 _ 3 24 Tryd.underlying22 hi0 hz0 hz1 hz2 rfl (by decide) (.slice (some ⟨w.heap.size, 0, none⟩) 0 0) 0 [] rfl (World.ownsRow_made w #[] 0 (Nat.le_refl _) (Nat.zero_le _) rfl) ad l.length c (insVs l) rfl (by rw [insVs_length]) (fun j u hj => hcell ad rfl j u hj) (fun u hu => insVs_one hu) (by omega) (by unfold maxLen; omega) (by omega) (by simp) ?_; intro v3 w3 hown3 hg3 hv3; have H3 : Hid (w3.ownsRow w.heap.size 27 3 v3 l.length (insVs l) ∧ Below w.heap.size w w3) := ⟨by simpa using hown3, ((Below.refl _ w).alloc (Nat.le_refl _) _).grown hg3 (by simp) (by intro k hk; simp [Value.ownBlock] at hk; omega)⟩; clear hown3 hg3 hv3)
      go_ret
      exact ⟨_, rfl, InSl.of_own H3.out.1, H3.out.2⟩

theorem intVs_one {vs : List Int} {u : Value} (h : u ∈ intVs vs) : u.oneCell' = true := by
  obtain ⟨x, _, rfl⟩ := List.mem_map.1 h
  rfl

theorem putVs_length (ps : List (Int × Int)) : (putVs ps).length = ps.length * 2 := by
  induction ps with
  | nil => rfl
  | cons p r ih =>
    have : putVs (p :: r) = .int .i64 p.1 :: .int .i64 p.2 :: putVs r := by simp [putVs]
    rw [this, List.length_cons, List.length_cons, ih, List.length_cons]
    omega

theorem putVs_one {ps : List (Int × Int)} {u : Value} (h : u ∈ putVs ps) : u.oneCell' = true := by
  obtain ⟨x, _, hx⟩ := List.mem_flatMap.1 h
  simp at hx
  rcases hx with rfl | rfl <;> rfl

set_option maxRecDepth 20000 in
set_option maxHeartbeats 2000000 in
/-- Clone, of numbers. -/
theorem cloneN_any (w : World) (b o c : Nat) (vs : List Int) (n : Nat) (hn : vs.length = n) (h0 : 0 < n) (hl : n ≤ 4000000) (hv : ∀ j, j < n → w.cell? ⟨b, o + j, none⟩ = some (.int .i64 (vs.getD j 0))) :
    Calls Tryd.prog 85 #[.slice (some ⟨b, o, none⟩) n c] w fun r w' => ∃ u, r = .returned u ∧ w'.ownsRow w.heap.size 3 1 u vs.length (intVs vs) ∧ Below w.heap.size w w' := by
  subst hn
  obtain ⟨i0, hi0, hz0, hz1, hz2⟩ := info_parts info3
  have q22 : ∀ (w : World) (a : Option Addr) (n c n' c' : Nat), (binOp .eql 23 (.slice a n c) (.slice none n' c')).run Tryd.prog w = .ok (.bool a.isNone) w := fun w a n c n' c' => Lib.run_eql_slice_nil w _ _ a n c n' c' Tryd.underlying23
  have hcell : ∀ j u, (intVs vs)[j]? = some u → (w.alloc (.cells #[] 3)).cell? ((⟨b, o, none⟩ : Addr).add j) = some u := by
    intro j u hj
    have hjl : j < vs.length := by have := (List.getElem?_eq_some_iff.1 hj).1; simpa [intVs] using this
    rw [Addr.add_lit]
    refine below_cell (below_new _ _) ?_
    rw [hv j hjl]
    rw [intVs_at hjl] at hj
    exact hj
  clear hv
  go_enter Tryd.func85, Tryd.ntmps85
  go_wp2_with (at_builtin; refine append_mine _ rfl (.tmp 5) (.tmp 6) 23 rfl w.heap.size 3 i0 _ 1 8 Tryd.underlying23 hi0 hz0 hz1 hz2 rfl (by decide) (.slice (some ⟨w.heap.size, 0, none⟩) 0 0) 0 [] rfl (World.ownsRow_made w #[] 0 (Nat.le_refl _) (Nat.zero_le _) rfl) ⟨b, o, none⟩ vs.length c (intVs vs) rfl (by rw [intVs_length, Nat.mul_one]) hcell (fun u hu => intVs_one hu) h0 (by unfold maxLen; omega) (by omega) (by simp) ?_; intro v3 w3 hown3 hg3 hv3; have H3 : Hid (w3.ownsRow w.heap.size 3 1 v3 vs.length (intVs vs) ∧ Below w.heap.size w w3) := ⟨by simpa using hown3, ((Below.refl _ w).alloc (Nat.le_refl _) _).grown hg3 (by simp) (by intro k hk; simp [Value.ownBlock] at hk; omega)⟩; clear hown3 hg3 hv3)
  go_ret
  exact ⟨_, rfl, H3.out.1, H3.out.2⟩

set_option maxRecDepth 20000 in
set_option maxHeartbeats 2000000 in
/-- Clone, of what went out. -/
theorem cloneP_any (w : World) (B : Nat) (pv : Value) (ps : List (Int × Int)) (h : w.ownsRow B 76 2 pv ps.length (putVs ps)) (hl : ps.length ≤ 4000000) :
    Calls Tryd.prog 86 #[pv] w fun r w' => ∃ u, r = .returned u ∧ w'.ownsRow w.heap.size 76 2 u ps.length (putVs ps) ∧ Below w.heap.size w w' := by
  obtain ⟨i0, hi0, hz0, hz1, hz2⟩ := info_parts infoPut
  have q22 : ∀ (w : World) (a : Option Addr) (n c n' c' : Nat), (binOp .eql 41 (.slice a n c) (.slice none n' c')).run Tryd.prog w = .ok (.bool a.isNone) w := fun w a n c n' c' => Lib.run_eql_slice_nil w _ _ a n c n' c' Tryd.underlying41
  have h' := h
  obtain ⟨hlen, ⟨rfl, he⟩ | ⟨g, cap, cur, rfl, hB, hg, hn, hm, hs, ht⟩⟩ := h'
  · go_enter Tryd.func86, Tryd.ntmps86
    go_wp2_with fail
    go_ret
    exact ⟨_, rfl, ⟨hlen, .inl ⟨rfl, he⟩⟩, Below.refl _ _⟩
  · have hcell : ∀ j u, (putVs ps)[j]? = some u → (w.alloc (.cells #[] 76)).cell? ((⟨g, 0, none⟩ : Addr).add j) = some u := by
      intro j u hj
      have hjl : j < ps.length * 2 := by have := (List.getElem?_eq_some_iff.1 hj).1; rwa [putVs_length] at this
      rw [Addr.add_lit, Nat.zero_add]
      exact below_cell (below_new _ _) ((h.cellAt j (by omega)).trans hj)
    clear h hg hn hm hs ht hlen
    by_cases h0 : ps.length = 0
    · have hp0 : ps = [] := List.length_eq_zero_iff.1 h0
      subst hp0
      go_enter Tryd.func86, Tryd.ntmps86
      go_wp2_with (at_builtin; refine wpList_append_fits_any _ rfl (.tmp 5) (.tmp 6) 41 rfl w.heap.size 76 i0 2 Tryd.underlying41 hi0 hz1 w.heap.size 0 0 [] rfl (World.ownsRow_made w #[] 0 (Nat.le_refl _) (Nat.zero_le _) rfl) (some ⟨g, 0, none⟩) 0 cap [] rfl rfl (by intro e; cases e) (by intro ad' e j u hj; simp at hj) (by simp) (by omega) ?_; intro w2 ho2 hg2; have H2 : Hid (w2.ownsRow w.heap.size 76 2 (.slice (some ⟨w.heap.size, 0, none⟩) 0 0) 0 [] ∧ Below w.heap.size w w2) := ⟨by simpa using ho2, ((Below.refl _ w).alloc (Nat.le_refl _) _).grown hg2 (by simp) (by intro k hk; simp at hk; omega)⟩; clear ho2 hg2)
      go_ret
      exact ⟨_, rfl, H2.out.1, H2.out.2⟩
    · go_enter Tryd.func86, Tryd.ntmps86
      go_wp2_with (at_builtin; refine append_mine _ rfl (.tmp 5) (.tmp 6) 41 rfl w.heap.size 76 i0 _ 2 16 Tryd.underlying41 hi0 hz0 hz1 hz2 rfl (by decide) (.slice (some ⟨w.heap.size, 0, none⟩) 0 0) 0 [] rfl (World.ownsRow_made w #[] 0 (Nat.le_refl _) (Nat.zero_le _) rfl) ⟨g, 0, none⟩ ps.length cap (putVs ps) rfl (by rw [putVs_length]) hcell (fun u hu => putVs_one hu) (by omega) (by unfold maxLen; omega) (by omega) (by simp) ?_; intro v3 w3 hown3 hg3 hv3; have H3 : Hid (w3.ownsRow w.heap.size 76 2 v3 ps.length (putVs ps) ∧ Below w.heap.size w w3) := ⟨by simpa using hown3, ((Below.refl _ w).alloc (Nat.le_refl _) _).grown hg3 (by simp) (by intro k hk; simp [Value.ownBlock] at hk; omega)⟩; clear hown3 hg3 hv3)
      go_ret
      exact ⟨_, rfl, H3.out.1, H3.out.2⟩
end Go.Proofs.YtcmoehednkaehadDoor
namespace Go.Proofs.YtcmoehednkaehadDoor
open Go.ChangeShapes Go.WideShapes Go.ChangeAt Go.RowKit

theorem MM.ivs {w : World} {mb B : Nat} {l : List In} {iv ov : Value} {ins : List Int} {sp : Int} {s : MS} {sv pv : Value} (h : MM w mb B l iv ov ins sp s sv pv) : ∃ ad c, iv = .slice ad l.length c := by
  obtain ⟨⟨ad, c, e, -⟩, -⟩ := h.img
  exact ⟨ad, c, e⟩

set_option maxRecDepth 20000 in
set_option maxHeartbeats 4000000 in
theorem Done_any (w : World) (mb B : Nat) (l : List In) (iv ov : Value) (ins : List Int) (sp : Int) (s : MS) (sv pv : Value) (h : MM w mb B l iv ov ins sp s sv pv) :
    Calls Tryd.prog 43 #[.pointer (some ⟨mb, 0, none⟩)] w fun r w' => r = .returned (.bool (decide (s.pc = l.length))) ∧ Below w.heap.size w w' := by
  have lm := h.lt
  have c0 := h.c_iv
  have c23 := h.c_pc
  obtain ⟨ad, c, rfl⟩ := h.ivs
  clear h
  by_cases e : s.pc = l.length
  · have f1 : ((s.pc : Int) == (l.length : Int)) = true := by rw [e]; simp
    have f2 : decide (s.pc = l.length) = true := by simpa using e
    rw [f2]
    clear f2
    generalize s.pc = p at *
    generalize l.length = n at *
    clear e
    go_enter Tryd.func43, Tryd.ntmps43
    go_wp2_with fail
    go_quiet (fail)
    go_wp2_with fail
    go_ret
    exact ⟨rfl, below_drewN'⟩
  · have f1 : ((s.pc : Int) == (l.length : Int)) = false := by simp; omega
    have f2 : decide (s.pc = l.length) = false := by simpa using e
    rw [f2]
    clear f2
    generalize s.pc = p at *
    generalize l.length = n at *
    clear e
    go_enter Tryd.func43, Tryd.ntmps43
    go_wp2_with fail
    go_quiet (fail)
    go_wp2_with fail
    go_ret
    exact ⟨rfl, below_drewN'⟩

set_option maxRecDepth 20000 in
set_option maxHeartbeats 4000000 in
theorem Vars_any (w : World) (mb B : Nat) (l : List In) (iv ov : Value) (ins : List Int) (sp : Int) (s : MS) (sv pv : Value) (h : MM w mb B l iv ov ins sp s sv pv) :
    Calls Tryd.prog 47 #[.pointer (some ⟨mb, 0, none⟩)] w fun r w' => ∃ u, r = .returned u ∧ w'.ownsRow w.heap.size 3 1 u s.vs.length (intVs s.vs) ∧ Below w.heap.size w w' := by
  have lm := h.lt
  have HM : Hid (MM w mb B l iv ov ins sp s sv pv) := h
  have cv0 := h.c_vs (j := 0) (by omega)
  clear h
  go_enter Tryd.func47, Tryd.ntmps47
  go_wp2_with (go_at_call 85; refine (cloneN_any _ mb 1 8 s.vs 8 HM.out.lv (by omega) (by omega) (fun j hj => by rw [Nat.add_comm]; exact HM.out.c_vs hj)).mono ?_; rintro r w3 ⟨u, rfl, ho, hb⟩; have H3 : Hid (_ ∧ _) := ⟨ho, hb⟩; clear ho hb)
  go_ret
  exact ⟨_, rfl, H3.out.1, H3.out.2⟩

set_option maxRecDepth 20000 in
set_option maxHeartbeats 4000000 in
theorem Puts_any (w : World) (mb B : Nat) (l : List In) (iv ov : Value) (ins : List Int) (sp : Int) (s : MS) (sv pv : Value) (h : MM w mb B l iv ov ins sp s sv pv) (hl : s.ps.length ≤ 4000000) :
    Calls Tryd.prog 48 #[.pointer (some ⟨mb, 0, none⟩)] w fun r w' => ∃ u, r = .returned u ∧ w'.ownsRow w.heap.size 76 2 u s.ps.length (putVs s.ps) ∧ Below w.heap.size w w' := by
  have lm := h.lt
  have HM : Hid (MM w mb B l iv ov ins sp s sv pv) := h
  have cp := h.c_pv
  clear h
  go_enter Tryd.func48, Tryd.ntmps48
  go_wp2_with (go_at_call 86; refine (cloneP_any _ B pv s.ps HM.out.pts hl).mono ?_; rintro r w3 ⟨u, rfl, ho, hb⟩; have H3 : Hid (_ ∧ _) := ⟨ho, hb⟩; clear ho hb)
  go_ret
  exact ⟨_, rfl, H3.out.1, H3.out.2⟩

/-- An entry that is new. -/
theorem ins_run (w : World) (q clock : Nat) (es : Array MapEntry) (z : Int) (v : Value) (h : w.heap[q]? = some (.map es clock)) (hf : Instr.findNow (.int .i64) (.int .i64 z) es.toList 0 = some none) :
    ∃ w', (Instr.mapUpdate 85 (.map (some q)) (.int .i64 z) v).run Tryd.prog w = .ok () w' ∧ w'.heap[q]? = some (.map (es.push ⟨.int .i64 z, v, clock⟩) (clock + 1)) ∧ w.grownBy w' (some q) := by
  have hck : ∀ e : Bool, (Instr.checkKey e 10000 3 (.int .i64 z)).run Tryd.prog w = .ok () w := fun e => MapKept.run_checkKey (d := .int .i64) (k := .int .i64 z) Tryd.underlying3 (by simp [MapKept.IsKey]) e 9999
  refine ⟨{ w with heap := w.heap.setIfInBounds q (.map (es.push ⟨.int .i64 z, v, clock⟩) (clock + 1)) }, ?_, (MapKept.heap_set h).1, ⟨rfl, rfl, rfl, by simp, fun k hk hne => (MapKept.heap_set h).2 k (fun e => hne (by rw [e]))⟩⟩
  simp [Instr.mapUpdate, run_underlying Tryd.underlying85, MapKept.run_getObj_map h, hck, MapKept.run_findKey (d := .int .i64) Tryd.underlying3 hf, MapKept.run_setObj_map _ h, Result.andThen]

theorem store_holds (w : World) : (store ⟨w.heap.size, 0, none⟩ (.func (Fn.func 107) #[] #[])).run Tryd.prog (w.alloc (.cells #[.nilFunc] 165)) = .ok () (w.alloc (.cells #[.func (Fn.func 107) #[] #[]] 165)) := by
  rw [run_store Tryd.prog _ _ (.func (Fn.func 107) #[] #[]) .plain rfl]
  simp [go_sem]

set_option maxRecDepth 20000 in
set_option maxHeartbeats 4000000 in
theorem operators_any (w : World) : Calls Tryd.prog 80 #[] w fun r w' => ∃ ov, r = .returned ov ∧ OpsAt w' w'.heap.size ov ∧ Below w.heap.size w w' := by
  have hmm := @run_makeMap Tryd.prog
  have h0 := heap_alloc_new (w.alloc (.cells #[.func (Fn.func 107) #[] #[]] 165)) (.map #[] 0)
  rw [show (w.alloc (.cells #[.func (Fn.func 107) #[] #[]] 165)).heap.size = w.heap.size + 1 by simp] at h0
  obtain ⟨w1, r1, m1, g1⟩ := ins_run _ (w.heap.size + 1) 0 #[] 4 (.func (Fn.func 108) #[] #[]) h0 rfl
  obtain ⟨w2, r2, m2, g2⟩ := ins_run _ (w.heap.size + 1) 1 _ 5 (.func (Fn.func 109) #[] #[]) m1 rfl
  obtain ⟨w3, r3, m3, g3⟩ := ins_run _ (w.heap.size + 1) 2 _ 6 (.func (Fn.func 110) #[] #[]) m2 rfl
  obtain ⟨w4, r4, m4, g4⟩ := ins_run _ (w.heap.size + 1) 3 _ 7 (.func (Fn.func 111) #[] #[.pointer (some ⟨w.heap.size, 0, none⟩)]) m3 rfl
  obtain ⟨w5, r5, m5, g5⟩ := ins_run _ (w.heap.size + 1) 4 _ 8 (.func (Fn.func 112) #[] #[.pointer (some ⟨w.heap.size, 0, none⟩)]) m4 rfl
  have gg := grown_trans (grown_trans (grown_trans (grown_trans g1 g2) g3) g4) g5
  have hw : w5.heap[w.heap.size]? = some (.cells #[.func (Fn.func 107) #[] #[]] 165 (0, 0)) := by
    rw [gg.block w.heap.size (by simp; omega) (by intro e; simp at e)]
    rw [Below.heap_alloc _ _ _ (by simp)]
    exact heap_alloc_new w _
  have HB : Hid (OpsAt w5 w5.heap.size (.map (some (w.heap.size + 1))) ∧ Below w.heap.size w w5) := by
    refine ⟨⟨w.heap.size + 1, w.heap.size, rfl, (Array.getElem?_eq_some_iff.1 m5).1, (Array.getElem?_eq_some_iff.1 hw).1, m5, hw⟩, ?_⟩
    exact (((Below.refl _ w).alloc (Nat.le_refl _) _).alloc (by simp) _).grown gg (by simp; omega) (by intro k hk; cases hk; omega)
  have hmf : ∀ (fn : Fn) (first cap : Array Value) (w : World), (Instr.makeFunc fn first cap).run Tryd.prog w = .ok (.func fn first cap) w := fun _ _ _ _ => rfl
  have hsh := store_holds w
  clear m1 m2 m3 m4 m5 g1 g2 g3 g4 g5 gg h0 hw
  go_enter Tryd.func80, Tryd.ntmps80
  go_wp2_with fail
  go_ret
  exact ⟨_, rfl, HB.out.1, HB.out.2⟩
end Go.Proofs.YtcmoehednkaehadDoor
namespace Go.Proofs.YtcmoehednkaehadDoor
open Go.ChangeShapes Go.WideShapes Go.ChangeAt Go.RowKit

theorem New_ends {w : World} {g : Nat} {c k p : Value} {a : Act} (h : w.heap[g]? = some (.cells #[c, k] 37 (0, 0))) (h2 : a.tmps[6]?.getD undef = p) (h3 : a.tmps[7]?.getD undef = .pointer (some ⟨g, 0, none⟩)) :
    (results Tryd.f42 a.tmps).run Tryd.prog w = .ok (.tuple #[p, .agg #[c, k]]) w := by
  obtain ⟨c1, f1, l1⟩ := cells_of (l := [_, _]) h
  have c10 := c1 0 _ rfl
  have c11 := c1 1 _ rfl
  subst h2
  simp [results, Tryd.results42, go_sem, h3, c10, c11]

/-- A block for a fault, and nothing else below it turned. -/
structure FB (w W : World) (g : Nat) : Prop where
  bel : Below w.heap.size w W
  res : W.heap[g]? = some (.cells #[.int .i64 0, .int .i64 0] 37 (0, 0))
  low : w.heap.size ≤ g

theorem FB.grow {w W W' : World} {g : Nat} (h : FB w W g) (hb : Below W.heap.size W W') : FB w W' g :=
  ⟨below_seq h.bel hb, (hb.block g (Array.getElem?_eq_some_iff.1 h.res).1).trans h.res, h.low⟩

theorem FB.start (w : World) : FB w (w.alloc (.cells #[.int .i64 0, .int .i64 0] 37)) w.heap.size := ⟨below_new _ _, heap_alloc_new _ _, Nat.le_refl _⟩

set_option maxRecDepth 20000 in
set_option maxHeartbeats 4000000 in
theorem New_bad (w : World) (l : List In) (iad : Option Addr) (ic : Nat) (vv iv2 : Value) (hkk : KindsIn w) (h : InSl w l (.slice iad l.length ic)) (c k : Int) (hc : checkI l = (c, k)) (h0 : c ≠ 0) :
    Calls Tryd.prog 42 #[.slice iad l.length ic, vv, iv2] w fun r w' => r = .returned (.tuple #[.pointer none, .agg #[.int .i64 c, .int .i64 k]]) ∧ Below w.heap.size w w' := by
  have hcb : (c != 0) = true := by simpa using h0
  have HK : Hid (KindsIn w ∧ InSl w l (.slice iad l.length ic) ∧ checkI l = (c, k)) := ⟨hkk, h, hc⟩
  clear hkk h hc
  go_enter Tryd.func42, Tryd.ntmps42
  go_wp2_with (go_at_call 32; refine (Check_all _ l _ _ (HK.out.1.below (below_new _ _)) (HK.out.2.1.below (below_new _ _)) c k HK.out.2.2).mono ?_; rintro r w9 ⟨rfl, hb9⟩; have H9 : Hid (FB w w9 w.heap.size) := (FB.start w).grow hb9; obtain ⟨rs9, rf9, rl9⟩ := cells_of (l := [_, _]) H9.out.res; have r90 := rs9 0 _ rfl; have r91 := rs9 1 _ rfl; clear hb9 rs9)
  go_region
  all_goals go_wp2_with fail
  all_goals
    refine bodyPost_ret (v := .tuple #[.pointer none, .agg #[.int .i64 c, .int .i64 k]]) (New_ends (set_alloc H9.out.res) rfl rfl) rfl ?_
    exact ⟨rfl, (((H9.out.bel.setCell (Nat.le_refl _) _).setCell (Nat.le_refl _) _).alloc (by have := H9.out.bel.size; simp; omega) _).drew⟩

set_option maxRecDepth 20000 in
set_option maxHeartbeats 4000000 in
theorem New_range (w : World) (l : List In) (iad : Option Addr) (ic : Nat) (vad nad : Option Addr) (n m vc nc : Nat) (hkk : KindsIn w) (h : InSl w l (.slice iad l.length ic)) (k : Int) (hc : checkI l = (0, k)) (hnm : n ≠ 8 ∨ m ≠ 4) :
    Calls Tryd.prog 42 #[.slice iad l.length ic, .slice vad n vc, .slice nad m nc] w fun r w' => r = .returned (.tuple #[.pointer none, .agg #[.int .i64 3, .int .i64 0]]) ∧ Below w.heap.size w w' := by
  have HK : Hid (KindsIn w ∧ InSl w l (.slice iad l.length ic) ∧ checkI l = (0, k)) := ⟨hkk, h, hc⟩
  clear hkk h hc
  by_cases hn : n = 8
  · subst hn
    have hm : ¬ ((m : Int) = 4) := by omega
    have hmb : ((m : Int) != 4) = true := by simpa using hm
    go_enter Tryd.func42, Tryd.ntmps42
    go_wp2_with (go_at_call 32; refine (Check_all _ l _ _ (HK.out.1.below (below_new _ _)) (HK.out.2.1.below (below_new _ _)) 0 k HK.out.2.2).mono ?_; rintro r w9 ⟨rfl, hb9⟩; have H9 : Hid (FB w w9 w.heap.size) := (FB.start w).grow hb9; obtain ⟨rs9, rf9, rl9⟩ := cells_of (l := [_, _]) H9.out.res; have r90 := rs9 0 _ rfl; have r91 := rs9 1 _ rfl; clear hb9 rs9)
    refine bodyPost_ret (v := .tuple #[.pointer none, .agg #[.int .i64 3, .int .i64 0]]) (New_ends (set_alloc H9.out.res) rfl rfl) rfl ?_
    exact ⟨rfl, (((H9.out.bel.setCell (Nat.le_refl _) _).setCell (Nat.le_refl _) _).alloc (by have := H9.out.bel.size; simp; omega) _)⟩
  · have hm : ¬ ((n : Int) = 8) := by omega
    have hmb : ((n : Int) != 8) = true := by simpa using hm
    go_enter Tryd.func42, Tryd.ntmps42
    go_wp2_with (go_at_call 32; refine (Check_all _ l _ _ (HK.out.1.below (below_new _ _)) (HK.out.2.1.below (below_new _ _)) 0 k HK.out.2.2).mono ?_; rintro r w9 ⟨rfl, hb9⟩; have H9 : Hid (FB w w9 w.heap.size) := (FB.start w).grow hb9; obtain ⟨rs9, rf9, rl9⟩ := cells_of (l := [_, _]) H9.out.res; have r90 := rs9 0 _ rfl; have r91 := rs9 1 _ rfl; clear hb9 rs9)
    refine bodyPost_ret (v := .tuple #[.pointer none, .agg #[.int .i64 3, .int .i64 0]]) (New_ends (set_alloc H9.out.res) rfl rfl) rfl ?_
    exact ⟨rfl, (((H9.out.bel.setCell (Nat.le_refl _) _).setCell (Nat.le_refl _) _).alloc (by have := H9.out.bel.size; simp; omega) _)⟩
end Go.Proofs.YtcmoehednkaehadDoor
