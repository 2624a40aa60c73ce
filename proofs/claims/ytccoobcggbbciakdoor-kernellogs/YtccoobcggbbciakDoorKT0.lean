import Derived.Test.YtccoobcggbbciakDoorKS0
namespace Go.Proofs.YtccoobcggbbciakDoor
open Go.ChangeShapes Go.WideShapes Go.ChangeAt Go.RowKit

theorem cut_true {c : UInt8} {l : List UInt8} (h : (Lib.cut l [c]).2.2 = true) : pcs c l = (Lib.cut l [c]).1 :: pcs c (Lib.cut l [c]).2.1 ∧ (Lib.cut l [c]).2.1.length < l.length ∧ (Lib.cut l [c]).1.length ≤ l.length := by
  unfold Lib.cut at h ⊢
  by_cases h0 : 0 ≤ Lib.index l [c]
  · rw [if_pos h0]
    dsimp only
    have hix := Lib.index_one l c
    obtain ⟨o, ho⟩ : ∃ o : Nat, Lib.index l [c] = o := ⟨(Lib.index l [c]).toNat, by omega⟩
    have hb : Lib.indexByte l c = o := by rw [← hix]; exact ho
    obtain ⟨h1, h2⟩ := cut_of hb
    have hlt : o < l.length := (List.getElem?_eq_some_iff.1 (Lib.indexByte_some hb).1).1
    rw [ho, Int.toNat_natCast, show ([c] : List UInt8).length = 1 from rfl]
    refine ⟨?_, by simp; omega, by rw [List.length_take]; omega⟩
    conv => lhs; rw [h1]
    unfold pcs
    rw [pcsS_hit h2, List.append_nil]
  · rw [if_neg h0] at h
    cases h

theorem cut_false {c : UInt8} {l : List UInt8} (h : (Lib.cut l [c]).2.2 = false) : pcs c l = [l] ∧ (Lib.cut l [c]).1 = l := by
  unfold Lib.cut at h ⊢
  by_cases h0 : 0 ≤ Lib.index l [c]
  · rw [if_pos h0] at h
    cases h
  · rw [if_neg h0]
    have hix := Lib.index_one l c
    have hg := Lib.indexByte_ge l c
    exact ⟨pcsS_none (no_of (by omega)), rfl⟩

theorem bdN (W : World) (n : Nat) : Below W.heap.size W (W.drewN n) := ⟨rfl, rfl, rfl, Nat.le_refl _, fun _ _ => rfl⟩
theorem bdNB (B : Nat) (W : World) (n : Nat) : Below B W (W.drewN n) := ⟨rfl, rfl, rfl, Nat.le_refl _, fun _ _ => rfl⟩

def strLen : Value → Nat
  | .string s => s.size
  | _ => 0

theorem set_two {w9 : World} {g : Nat} {a b x y : Value} (h : w9.heap[g]? = some (.cells #[x, y] 27 (0, 0))) : ((w9.setCell ⟨g, 0, none⟩ a).setCell ⟨g, 1, none⟩ b).heap[g]? = some (.cells #[a, b] 27 (0, 0)) := by
  rw [setCell_at (setCell_at h)]
  rfl

/-- A block for a fault, and nothing else below it turned. -/
structure FB (w W : World) (g : Nat) : Prop where
  bel : Below w.heap.size w W
  res : W.heap[g]? = some (.cells #[.int .i64 0, .int .i64 0] 27 (0, 0))
  low : w.heap.size ≤ g

theorem FB.grow {w W W' : World} {g : Nat} (h : FB w W g) (hb : Below W.heap.size W W') : FB w W' g :=
  ⟨below_seq h.bel hb, (hb.block g (Array.getElem?_eq_some_iff.1 h.res).1).trans h.res, h.low⟩

theorem FB.start (w : World) : FB w (w.alloc (.cells #[.int .i64 0, .int .i64 0] 27)) w.heap.size := ⟨below_new _ _, heap_alloc_new _ _, Nat.le_refl _⟩

theorem FB.lt {w W : World} {g : Nat} (h : FB w W g) : g < W.heap.size := (Array.getElem?_eq_some_iff.1 h.res).1

theorem FB.set {w W : World} {g : Nat} (h : FB w W g) (a b : Value) : Below w.heap.size w ((W.setCell ⟨g, 0, none⟩ a).setCell ⟨g, 1, none⟩ b) := (h.bel.setCell h.low _).setCell h.low _

theorem Parse_ends {w : World} {g : Nat} {c k p : Value} {a : Act} (h : w.heap[g]? = some (.cells #[c, k] 27 (0, 0))) (h2 : a.tmps[2]?.getD undef = p) (h3 : a.tmps[3]?.getD undef = .pointer (some ⟨g, 0, none⟩)) :
    (results Tryd.f5 a.tmps).run Tryd.prog w = .ok (.tuple #[p, .agg #[c, k]]) w := by
  obtain ⟨c1, f1, l1⟩ := cells_of (l := [_, _]) h
  have c10 := c1 0 _ rfl
  have c11 := c1 1 _ rfl
  simp [results, Tryd.results5, go_sem, h2, h3, c10, c11]

theorem FB.res2 {w W : World} {g : Nat} (h : FB w W g) : W.cell? ⟨g, 0, none⟩ = some (.int .i64 0) ∧ W.cell? ⟨g, 1, none⟩ = some (.int .i64 0) ∧ W.frozen? ⟨g, 0, none⟩ = false ∧ W.frozen? ⟨g, 1, none⟩ = false ∧ g < W.heap.size := by
  obtain ⟨c, f, l⟩ := cells_of (l := [_, _]) h.res
  exact ⟨c 0 _ rfl, c 1 _ rfl, f 0, f 1, l⟩


/-- What Parse tells, as it lies. -/
def ReadPost (w : World) (text : List UInt8) (r : Ending) (w' : World) : Prop := ∃ v, r = .returned (.tuple #[v, .agg #[.int .i64 (readE text).2.1, .int .i64 (readE text).2.2]]) ∧ RowSl Ev.vals w' (readE text).1 v ∧ Below w.heap.size w w'

theorem Ev.one {x : Ev} {u : Value} (h : u ∈ x.vals) : u.oneCell' = true := by
  unfold Ev.vals at h
  simp at h
  rcases h with rfl | rfl | rfl | rfl | rfl <;> rfl

/-- A fault's block, and a row of events of one's own behind it. -/
structure TO (w wr : World) (g : Nat) (acc : List Ev) (av : Value) : Prop where
  fb : FB w wr g
  row : wr.ownsRow (g + 1) 24 5 av acc.length (acc.flatMap Ev.vals)

theorem TO.grow {w wr wr' : World} {g : Nat} {acc : List Ev} {av : Value} (h : TO w wr g acc av) (hb : Below wr.heap.size wr wr') : TO w wr' g acc av := ⟨h.fb.grow hb, ownsRow_below h.row hb⟩

theorem TO.start {w wr : World} {g : Nat} (h : FB w wr g) : TO w wr g [] (.slice none 0 0) := ⟨h, ⟨rfl, .inl ⟨rfl, rfl⟩⟩⟩

theorem TO.push {w wr : World} {g : Nat} {acc : List Ev} {av : Value} (h : TO w wr g acc av) (x : Ev) (hl : acc.length ≤ 1000000) :
    ∃ ad c w4, (Builtin.append_ #[22, 22] 22 #[av, .slice (some ⟨wr.heap.size, 0, none⟩) 1 1]).run Tryd.prog (wr.alloc (.cells #[.int .i64 x.at_, .int .i64 x.k, .int .i64 x.t, .int .i64 x.m, .int .i64 x.n] 24)) = .ok (.slice ad (acc.length + 1) c) w4 ∧ TO w w4 g (acc ++ [x]) (.slice ad (acc.length + 1) c) ∧ ∀ (k : Nat) (cs : Array Value) (ty : TypeId), wr.heap[k]? = some (.cells cs ty (0, 0)) → ty ≠ 24 → w4.heap[k]? = some (.cells cs ty (0, 0)) := by
  have hlt := h.fb.lt
  have hlow := h.fb.low
  obtain ⟨ad, c, w4, h1, h2, h3, h4⟩ := own_push (T := 22) (E := 24) Tryd.underlying22 infoEv rfl (by omega) h.row x.vals rfl (fun u hu => Ev.one hu) hl (by omega) (by omega)
  refine ⟨ad, c, w4, h1, ⟨⟨h.fb.bel.trans (h3.mono (by omega)), h4 _ _ _ h.fb.res (.inr (by omega)), h.fb.low⟩, ?_⟩, fun k cs ty hk ht => h4 k cs ty hk (.inl ht)⟩
  rw [List.length_append, show (acc ++ [x]).flatMap Ev.vals = acc.flatMap Ev.vals ++ Ev.vals x by simp]
  exact h2

theorem TO.rowSl {w wr : World} {g : Nat} {acc : List Ev} {av : Value} (h : TO w wr g acc av) : RowSl Ev.vals wr acc av := by
  have h' := h.row
  obtain ⟨hl, ⟨h1, h2⟩ | ⟨g, cap, cur, he, hb, hg, hr⟩⟩ := h.row
  · subst h1
    have : acc = [] := by
      cases acc with
      | nil => rfl
      | cons x r => simp_all
    subst this
    exact RowSl.nil _ _
  · subst he
    refine ⟨_, cap, rfl, (fun e => by cases e), by omega, .inr ⟨g, 0, rfl, fun q u hq => ?_⟩⟩
    have hql := (List.getElem?_eq_some_iff.1 hq).1
    rw [flat_length Ev.vals 5 Ev.len] at hql
    rw [Nat.zero_add]
    exact (h'.cellAt q (by omega)).trans hq

theorem TO.val {w wr : World} {g : Nat} {acc : List Ev} {av : Value} (h : TO w wr g acc av) : ∃ ad c, av = .slice ad acc.length c := owns_value h.row

/-- What a row of one's own is, behind stores into the fault's block. -/
theorem TO.done {w wr : World} {g : Nat} {acc : List Ev} {av : Value} (h : TO w wr g acc av) (a b : Value) : RowSl Ev.vals ((wr.setCell ⟨g, 0, none⟩ a).setCell ⟨g, 1, none⟩ b) acc av := by
  have hr := h.rowSl
  obtain ⟨ad, c, e, hn, hcap, hc⟩ := hr
  refine ⟨ad, c, e, hn, hcap, ?_⟩
  rcases hc with hc | ⟨b', o, rfl, hrow⟩
  · exact .inl hc
  · refine .inr ⟨b', o, rfl, fun q u hq => ?_⟩
    have hne : b' ≠ g := by
      obtain ⟨hl, ⟨h1, h2⟩ | ⟨g', cap, cur, he, hb, -⟩⟩ := h.row
      · rw [e] at h1; cases h1
      · rw [e] at he
        cases he
        omega
    have h9 := hrow q u hq
    unfold World.cell? at h9 ⊢
    rw [Below.heap_setCell _ _ _ _ hne, Below.heap_setCell _ _ _ _ hne]
    exact h9

theorem scan_good {a : List UInt8} {b : List UInt8} {r : List (List UInt8)} {acc : List Ev} (h : followsB acc (candF a) = true) (hb : bodyE (candF a) = a) : scanE (a :: b :: r) acc = scanE (b :: r) (acc ++ [candF a]) := by
  have hs := follows_stands h
  have ha : acceptF a = some (candF a) := by unfold acceptF; rw [if_pos ⟨hs, hb⟩]
  rw [scanE, ha]
  have hle : lastE acc ≤ (candF a).at_ := by
    unfold followsB at h
    simp at h
    rcases h.1 with h0 | h0
    · rw [h0]
      exact hs.2.2.1
    · exact h0
  simp only
  rw [if_pos hle]

theorem scan_bad {a : List UInt8} {b : List UInt8} {r : List (List UInt8)} {acc : List Ev} (h : ¬ (followsB acc (candF a) = true ∧ bodyE (candF a) = a)) : scanE (a :: b :: r) acc = ([], (1, (acc.length : Int))) := by
  rw [scanE]
  cases ha : acceptF a with
  | none => rfl
  | some e =>
    obtain ⟨rfl, hs, hb⟩ := acceptF_is ha
    simp only
    rw [if_neg]
    intro hle
    refine h ⟨?_, hb⟩
    unfold followsB
    rw [standsB_is]
    simp [hle, hs]

set_option maxRecDepth 20000 in
set_option maxHeartbeats 8000000 in
theorem ParseK_any (w : World) (s : ByteArray) (hs : s.size ≤ 1000000) (hG : Gr w) :
    Calls Tryd.prog 5 #[.string s] w (ReadPost w s.data.toList) := by
  have H0 : Hid (FB w (w.alloc (.cells #[.int .i64 0, .int .i64 0] 27)) w.heap.size) := FB.start w
  have HM : Hid (Gr w) := hG
  clear hG
  go_enter Tryd.func5, Tryd.ntmps5
  go_wp2_with fail
  go_loopw [0, 4] (fun tv sv wr => ∃ (tx : ByteArray) (acc : List Ev), tv = .string tx ∧ acc.length + tx.size ≤ s.size ∧ TO w wr w.heap.size acc sv ∧ Hid (scanE (pcs 10 tx.data.toList) acc = scanE (pcs 10 s.data.toList) [])) (fun tv _ _ => strLen tv)
  case atStart => exact ⟨s, [], rfl, by simp, TO.start H0.out, rfl⟩
  case round =>
    obtain ⟨tx, acc, rfl, hsz, hto, HQ⟩ := hrel
    have HT : Hid (TO w wr w.heap.size acc u4) := hto
    clear hto H0
    obtain ⟨sa, sc, rfl⟩ := HT.out.val
    by_cases hz : tx.size = 0
    · have htx : tx = ⟨#[]⟩ := by
        obtain ⟨⟨td⟩⟩ := tx
        have : td = [] := List.eq_nil_of_length_eq_zero hz
        rw [this]
      subst htx
      have HS : Hid (readE s.data.toList = (acc, (0, 0))) := HQ.out.symm
      clear HQ
      obtain ⟨r10, r11, y10, y11, rl⟩ := HT.out.fb.res2
      go_wp2_with fail
      refine bodyPost_ret (Parse_ends (set_two HT.out.fb.res) rfl rfl) rfl ?_
      unfold ReadPost
      rw [HS.out]
      exact ⟨_, rfl, HT.out.done _ _, HT.out.fb.set _ _⟩
    have hemp : tx.toList.isEmpty = false := by
      rw [ByteArray.toList_eq]
      cases h : tx.data.toList with
      | nil => exact absurd (by rw [← size_list, h]; rfl) hz
      | cons _ _ => rfl
    obtain ⟨m, hm⟩ := (HM.out.below HT.out.fb.bel).mx
    obtain ⟨lc, hlc⟩ : ∃ lc, Lib.cut tx.data.toList [10] = lc := ⟨_, rfl⟩
    have HCut := sh_strings_Cut tx ⟨#[10]⟩ m wr (by omega) hm
    rw [show (⟨#[10]⟩ : ByteArray).data.toList = [10] from rfl, hlc] at HCut
    obtain ⟨c1, c2, c3⟩ := lc
    dsimp only at HCut
    have hl1 : c1.length ≤ tx.size := by
      cases c3 with
      | false =>
        have := (cut_false (c := 10) (l := tx.data.toList) (by rw [hlc])).2
        rw [hlc] at this
        dsimp only at this
        rw [this, size_list]
        exact Nat.le_refl _
      | true =>
        have := (cut_true (c := 10) (l := tx.data.toList) (by rw [hlc])).2.2
        rw [hlc, size_list] at this
        exact this
    have HEv := fun W hg => event_any W ⟨c1.toArray⟩ (by rw [back_size]; omega) hg
    rw [back_list] at HEv
    have hin := candF_in c1
    have HFo := fun W (hT : TO w W w.heap.size acc (.slice sa acc.length sc)) => follows_any W acc (.slice sa acc.length sc) (candF c1) (by omega) hT.rowSl
    have HLi := fun hst W (hg : Gr W) => lineK_any W (candF c1) hst hin hg
    have hstd := follows_stands (l := acc) (x := candF c1)
    obtain ⟨x, hx⟩ : ∃ x, candF c1 = x := ⟨_, rfl⟩
    obtain ⟨fo, hfo⟩ : ∃ fo, followsB acc x = fo := ⟨_, rfl⟩
    obtain ⟨bd, hbd⟩ : ∃ bd, bodyE x = bd := ⟨_, rfl⟩
    have HBad : Hid (¬ (c3 = true ∧ fo = true ∧ bd = c1) → scanE (pcs 10 s.data.toList) [] = ([], (1, (acc.length : Int)))) := by
      have h9 : ¬ (c3 = true ∧ fo = true ∧ bd = c1) → scanE (pcs 10 s.data.toList) [] = ([], (1, (acc.length : Int))) := fun hn => by
        rw [← HQ.out]
        cases c3 with
        | false =>
          rw [(cut_false (c := 10) (l := tx.data.toList) (by rw [hlc])).1, scanE, if_neg (fun e => hz (by rw [← size_list, e]; rfl))]
        | true =>
          have hp := (cut_true (c := 10) (l := tx.data.toList) (by rw [hlc])).1
          rw [hlc] at hp
          dsimp only at hp
          rw [hp]
          cases hq : pcs 10 c2 with
          | nil => exact absurd hq (pcsS_ne _)
          | cons a t => exact scan_bad (fun h => hn ⟨rfl, by rw [← hfo, ← hx]; exact h.1, by rw [← hbd, ← hx]; exact h.2⟩)
      exact h9
    have HGo : Hid (c3 = true → fo = true → bd = c1 → scanE (pcs 10 c2) (acc ++ [x]) = scanE (pcs 10 s.data.toList) [] ∧ c2.length < tx.size) := by
      have h9 : c3 = true → fo = true → bd = c1 → scanE (pcs 10 c2) (acc ++ [x]) = scanE (pcs 10 s.data.toList) [] ∧ c2.length < tx.size := fun h3 hok hbb => by
        subst h3
        obtain ⟨hp, hl, -⟩ := cut_true (c := 10) (l := tx.data.toList) (by rw [hlc])
        rw [hlc] at hp hl
        dsimp only at hp hl
        rw [size_list] at hl
        refine ⟨?_, hl⟩
        rw [← HQ.out, hp]
        cases hq : pcs 10 c2 with
        | nil => exact absurd hq (pcsS_ne _)
        | cons a t =>
          rw [scan_good (by rw [hx, hfo]; exact hok) (by rw [hx, hbd]; exact hbb), hx]
      exact h9
    rw [hx] at HEv HFo HLi hstd
    rw [hfo] at HFo hstd
    rw [hbd] at HLi
    clear hlc HQ hl1 hx hfo hbd hin hm
    obtain ⟨xa, xk, xt, xm, xn⟩ := x
    unfold Ev.val at HEv HFo HLi
    dsimp only at HEv HFo HLi
    by_cases hgo : c3 = true ∧ fo = true ∧ bd = c1
    rotate_left 1
    · have HSs : Hid (scanE (pcs 10 s.data.toList) [] = ([], (1, (acc.length : Int)))) := HBad.out hgo
      clear HBad HGo
      cases c3 with
      | false =>
        clear HFo HLi hstd
        go_upto_region 5 with (first
          | (go_at_call 18; refine HCut.mono ?_; rintro r w5 ⟨rfl, nn, hw5⟩; have H5 : Hid (TO w w5 w.heap.size acc (.slice sa acc.length sc)) := (by subst hw5; exact HT.out.grow (bdN _ _)); clear hw5 HCut)
          | (go_at_call 19; refine (HEv w5 (HM.out.below H5.out.fb.bel)).mono ?_; rintro r w7 ⟨rfl, hb7⟩; have H7 : Hid (TO w w7 w.heap.size acc (.slice sa acc.length sc)) := H5.out.grow hb7; clear hb7 HEv H5))
        have H8 : Hid (TO w (w7.alloc (.cells #[.int .i64 xa, .int .i64 xk, .int .i64 xt, .int .i64 xm, .int .i64 xn] 24)) w.heap.size acc (.slice sa acc.length sc) ∧ (w7.alloc (.cells #[.int .i64 xa, .int .i64 xk, .int .i64 xt, .int .i64 xm, .int .i64 xn] 24)).heap[w7.heap.size]? = some (.cells #[.int .i64 xa, .int .i64 xk, .int .i64 xt, .int .i64 xm, .int .i64 xn] 24 (0, 0))) := ⟨H7.out.grow (below_new _ _), heap_alloc_new _ _⟩
        generalize w7.alloc (.cells #[.int .i64 xa, .int .i64 xk, .int .i64 xt, .int .i64 xm, .int .i64 xn] 24) = w8 at *
        generalize w7.heap.size = ge at *
        obtain ⟨xs, -, xl⟩ := cells_of (l := [_, _, _, _, _]) H8.out.2
        have x0 := xs 0 _ rfl
        have x1 := xs 1 _ rfl
        have x2 := xs 2 _ rfl
        have x3 := xs 3 _ rfl
        have x4 := xs 4 _ rfl
        clear xs H7
        obtain ⟨r10, r11, y10, y11, rl⟩ := H8.out.1.fb.res2
        go_wp2_with fail
        refine bodyPost_ret (Parse_ends (set_two H8.out.1.fb.res) rfl rfl) rfl ?_
        unfold ReadPost readE
        rw [HSs.out]
        exact ⟨_, rfl, RowSl.nil _ _, H8.out.1.fb.set _ _⟩
      | true =>
        cases fo with
        | false =>
          clear HLi hstd
          go_upto_region 5 with (first
            | (go_at_call 18; refine HCut.mono ?_; rintro r w5 ⟨rfl, nn, hw5⟩; have H5 : Hid (TO w w5 w.heap.size acc (.slice sa acc.length sc)) := (by subst hw5; exact HT.out.grow (bdN _ _)); clear hw5 HCut)
            | (go_at_call 19; refine (HEv w5 (HM.out.below H5.out.fb.bel)).mono ?_; rintro r w7 ⟨rfl, hb7⟩; have H7 : Hid (TO w w7 w.heap.size acc (.slice sa acc.length sc)) := H5.out.grow hb7; clear hb7 HEv H5))
          have H8 : Hid (TO w (w7.alloc (.cells #[.int .i64 xa, .int .i64 xk, .int .i64 xt, .int .i64 xm, .int .i64 xn] 24)) w.heap.size acc (.slice sa acc.length sc) ∧ (w7.alloc (.cells #[.int .i64 xa, .int .i64 xk, .int .i64 xt, .int .i64 xm, .int .i64 xn] 24)).heap[w7.heap.size]? = some (.cells #[.int .i64 xa, .int .i64 xk, .int .i64 xt, .int .i64 xm, .int .i64 xn] 24 (0, 0))) := ⟨H7.out.grow (below_new _ _), heap_alloc_new _ _⟩
          generalize w7.alloc (.cells #[.int .i64 xa, .int .i64 xk, .int .i64 xt, .int .i64 xm, .int .i64 xn] 24) = w8 at *
          generalize w7.heap.size = ge at *
          obtain ⟨xs, -, xl⟩ := cells_of (l := [_, _, _, _, _]) H8.out.2
          have x0 := xs 0 _ rfl
          have x1 := xs 1 _ rfl
          have x2 := xs 2 _ rfl
          have x3 := xs 3 _ rfl
          have x4 := xs 4 _ rfl
          clear xs H7
          go_wp2_with (go_at_call 20; refine (HFo w8 H8.out.1).mono ?_; rintro r w9 ⟨rfl, hb9⟩; have H9 : Hid (TO w w9 w.heap.size acc (.slice sa acc.length sc)) := H8.out.1.grow hb9; obtain ⟨r10, r11, y10, y11, rl⟩ := H9.out.fb.res2; have d0 := below_cell hb9 x0; have d1 := below_cell hb9 x1; have d2 := below_cell hb9 x2; have d3 := below_cell hb9 x3; have d4 := below_cell hb9 x4; have ll := World.block_lt_of_cell? _ _ d0; clear hb9 HFo x0 x1 x2 x3 x4)
          refine bodyPost_ret (Parse_ends (set_two H9.out.fb.res) rfl rfl) rfl ?_
          unfold ReadPost readE
          rw [HSs.out]
          exact ⟨_, rfl, RowSl.nil _ _, H9.out.fb.set _ _⟩
        | true =>
          have hbb : ¬ bd = c1 := fun e => hgo ⟨rfl, rfl, e⟩
          have hne : (bd == c1) = false := beq_eq_false_iff_ne.2 hbb
          have HStd : Hid (standsE ⟨xa, xk, xt, xm, xn⟩) := hstd rfl
          clear hgo hstd hbb
          go_upto_region 5 with (first
            | (go_at_call 18; refine HCut.mono ?_; rintro r w5 ⟨rfl, nn, hw5⟩; have H5 : Hid (TO w w5 w.heap.size acc (.slice sa acc.length sc)) := (by subst hw5; exact HT.out.grow (bdN _ _)); clear hw5 HCut)
            | (go_at_call 19; refine (HEv w5 (HM.out.below H5.out.fb.bel)).mono ?_; rintro r w7 ⟨rfl, hb7⟩; have H7 : Hid (TO w w7 w.heap.size acc (.slice sa acc.length sc)) := H5.out.grow hb7; clear hb7 HEv H5))
          have H8 : Hid (TO w (w7.alloc (.cells #[.int .i64 xa, .int .i64 xk, .int .i64 xt, .int .i64 xm, .int .i64 xn] 24)) w.heap.size acc (.slice sa acc.length sc) ∧ (w7.alloc (.cells #[.int .i64 xa, .int .i64 xk, .int .i64 xt, .int .i64 xm, .int .i64 xn] 24)).heap[w7.heap.size]? = some (.cells #[.int .i64 xa, .int .i64 xk, .int .i64 xt, .int .i64 xm, .int .i64 xn] 24 (0, 0))) := ⟨H7.out.grow (below_new _ _), heap_alloc_new _ _⟩
          generalize w7.alloc (.cells #[.int .i64 xa, .int .i64 xk, .int .i64 xt, .int .i64 xm, .int .i64 xn] 24) = w8 at *
          generalize w7.heap.size = ge at *
          obtain ⟨xs, -, xl⟩ := cells_of (l := [_, _, _, _, _]) H8.out.2
          have x0 := xs 0 _ rfl
          have x1 := xs 1 _ rfl
          have x2 := xs 2 _ rfl
          have x3 := xs 3 _ rfl
          have x4 := xs 4 _ rfl
          clear xs H7
          go_wp2_with (first
            | (go_at_call 20; refine (HFo w8 H8.out.1).mono ?_; rintro r w9 ⟨rfl, hb9⟩; have H9 : Hid (TO w w9 w.heap.size acc (.slice sa acc.length sc)) := H8.out.1.grow hb9; obtain ⟨r10, r11, y10, y11, rl⟩ := H9.out.fb.res2; have d0 := below_cell hb9 x0; have d1 := below_cell hb9 x1; have d2 := below_cell hb9 x2; have d3 := below_cell hb9 x3; have d4 := below_cell hb9 x4; have ll := World.block_lt_of_cell? _ _ d0; clear hb9 HFo x0 x1 x2 x3 x4)
            | (go_at_call 21; refine (HLi HStd.out w9 (HM.out.below H9.out.fb.bel)).mono ?_; rintro r w10 ⟨rfl, hb10⟩; have H10 : Hid (TO w w10 w.heap.size acc (.slice sa acc.length sc)) := H9.out.grow hb10; clear r10 r11 y10 y11 rl; obtain ⟨r10, r11, y10, y11, rl⟩ := H10.out.fb.res2; have e0 := below_cell hb10 d0; have e1 := below_cell hb10 d1; have e2 := below_cell hb10 d2; have e3 := below_cell hb10 d3; have e4 := below_cell hb10 d4; have lk := World.block_lt_of_cell? _ _ e0; clear hb10 HLi d0 d1 d2 d3 d4 ll))
          refine bodyPost_ret (Parse_ends (set_two H10.out.fb.res) rfl rfl) rfl ?_
          unfold ReadPost readE
          rw [HSs.out]
          exact ⟨_, rfl, RowSl.nil _ _, H10.out.fb.set _ _⟩
    · obtain ⟨rfl, rfl, rfl⟩ := hgo
      obtain ⟨hg1, hg2⟩ := HGo.out rfl rfl rfl
      have HG : Hid (scanE (pcs 10 c2) (acc ++ [⟨xa, xk, xt, xm, xn⟩]) = scanE (pcs 10 s.data.toList) []) := hg1
      have HStd : Hid (standsE ⟨xa, xk, xt, xm, xn⟩) := hstd rfl
      clear hg1 HBad HGo hstd
      go_upto_region 5 with (first
        | (go_at_call 18; refine HCut.mono ?_; rintro r w5 ⟨rfl, nn, hw5⟩; have H5 : Hid (TO w w5 w.heap.size acc (.slice sa acc.length sc)) := (by subst hw5; exact HT.out.grow (bdN _ _)); clear hw5 HCut)
        | (go_at_call 19; refine (HEv w5 (HM.out.below H5.out.fb.bel)).mono ?_; rintro r w7 ⟨rfl, hb7⟩; have H7 : Hid (TO w w7 w.heap.size acc (.slice sa acc.length sc)) := H5.out.grow hb7; clear hb7 HEv H5))
      have H8 : Hid (TO w (w7.alloc (.cells #[.int .i64 xa, .int .i64 xk, .int .i64 xt, .int .i64 xm, .int .i64 xn] 24)) w.heap.size acc (.slice sa acc.length sc) ∧ (w7.alloc (.cells #[.int .i64 xa, .int .i64 xk, .int .i64 xt, .int .i64 xm, .int .i64 xn] 24)).heap[w7.heap.size]? = some (.cells #[.int .i64 xa, .int .i64 xk, .int .i64 xt, .int .i64 xm, .int .i64 xn] 24 (0, 0))) := ⟨H7.out.grow (below_new _ _), heap_alloc_new _ _⟩
      generalize w7.alloc (.cells #[.int .i64 xa, .int .i64 xk, .int .i64 xt, .int .i64 xm, .int .i64 xn] 24) = w8 at *
      generalize w7.heap.size = ge at *
      obtain ⟨xs, -, xl⟩ := cells_of (l := [_, _, _, _, _]) H8.out.2
      have x0 := xs 0 _ rfl
      have x1 := xs 1 _ rfl
      have x2 := xs 2 _ rfl
      have x3 := xs 3 _ rfl
      have x4 := xs 4 _ rfl
      clear xs H7
      go_upto_region 7 with (first
        | (go_at_call 20; refine (HFo w8 H8.out.1).mono ?_; rintro r w9 ⟨rfl, hb9⟩; have H9 : Hid (TO w w9 w.heap.size acc (.slice sa acc.length sc)) := H8.out.1.grow hb9; obtain ⟨r10, r11, y10, y11, rl⟩ := H9.out.fb.res2; have d0 := below_cell hb9 x0; have d1 := below_cell hb9 x1; have d2 := below_cell hb9 x2; have d3 := below_cell hb9 x3; have d4 := below_cell hb9 x4; have ll := World.block_lt_of_cell? _ _ d0; clear hb9 HFo x0 x1 x2 x3 x4)
        | (go_at_call 21; refine (HLi HStd.out w9 (HM.out.below H9.out.fb.bel)).mono ?_; rintro r w10 ⟨rfl, hb10⟩; have H10 : Hid (TO w w10 w.heap.size acc (.slice sa acc.length sc)) := H9.out.grow hb10; clear r10 r11 y10 y11 rl; obtain ⟨r10, r11, y10, y11, rl⟩ := H10.out.fb.res2; have e0 := below_cell hb10 d0; have e1 := below_cell hb10 d1; have e2 := below_cell hb10 d2; have e3 := below_cell hb10 d3; have e4 := below_cell hb10 d4; have lk := World.block_lt_of_cell? _ _ e0; clear hb10 HLi d0 d1 d2 d3 d4 ll))
      obtain ⟨ad, cc, w11, hrun, h11, -⟩ := H10.out.push ⟨xa, xk, xt, xm, xn⟩ (by omega)
      have H11 : Hid (TO w w11 w.heap.size (acc ++ [⟨xa, xk, xt, xm, xn⟩]) (.slice ad (acc.length + 1) cc)) := h11
      clear h11
      go_wp2_with (at_builtin; refine append_known rfl (.tmp 36) (.tmp 38) 22 rfl rfl rfl hrun ?_)
      refine ⟨⟨⟨c2.toArray⟩, acc ++ [⟨xa, xk, xt, xm, xn⟩], rfl, by rw [back_size]; simp; omega, H11.out, ?_⟩, ?_⟩
      · show scanE (pcs 10 (⟨c2.toArray⟩ : ByteArray).data.toList) _ = _
        rw [back_list]
        exact HG.out
      · show (⟨c2.toArray⟩ : ByteArray).size < tx.size
        rw [back_size]
        exact hg2
end Go.Proofs.YtccoobcggbbciakDoor
