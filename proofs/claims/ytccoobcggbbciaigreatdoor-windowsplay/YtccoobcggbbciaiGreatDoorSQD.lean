import Derived.Test.YtccoobcggbbciaiGreatDoorSQE
import Derived.Deep.CutBlock
namespace Go.Proofs.YtccoobcggbbciaiGreatDoor.S8
open Go.ChangeShapes Go.WideShapes Go.ChangeAt Go.RowKit

theorem L_take {l : List Int} {j i : Nat} (hj : j < l.length) : L (l.take (j + 1)) i = if i = j then L l j else L (l.take j) i := by
  unfold L
  rw [List.getD_eq_getElem?_getD, List.getD_eq_getElem?_getD, List.getD_eq_getElem?_getD, List.getElem?_take, List.getElem?_take]
  by_cases h : i = j
  · subst h; simp
  · rw [if_neg h]
    by_cases h2 : i < j
    · rw [if_pos (by omega), if_pos h2]
    · rw [if_neg (by omega), if_neg h2]

theorem L_c {l : List Jb} {j : Nat} (hj : j < l.length) : L (l.map (·.c)) j = (J l j).c := by
  unfold L J
  rw [List.getD_eq_getElem?_getD, List.getD_eq_getElem?_getD, List.getElem?_map, List.getElem?_eq_getElem hj]
  rfl

/-- Who runs, as it lies. -/
def PickW (l : List Jb) (pol : Int) (pre : Bool) (t : Nat) (s : St) (B : Nat) (W0 : World) (v : Value) (W : World) : Prop :=
  Below W0.heap.size W0 W ∧ ∃ b, Pick l pol pre t s b ∧ ((b = -1 ∧ ∃ ad c, v = .slice ad 0 c) ∨ (∃ (i g n c : Nat), b = (i : Int) ∧ i < l.length ∧ 0 < L s.left i ∧ v = .slice (some ⟨g, 0, none⟩) (n + 1) c ∧ n + 1 ≤ c ∧ n ≤ 4000 ∧ W.cell? ⟨g, 0, none⟩ = some (.int .i64 (i : Int)) ∧ B ≤ g))

theorem PickW.best {l : List Jb} {pol : Int} {pre : Bool} {t : Nat} {s : St} {B : Nat} {W : World} {tad : Option Addr} {tc : Nat} {th : List Nat} (ho : Own W B (.slice tad th.length tc) (zI th)) (hs : Sorted l pol s.left (t : Int) l.length th) (hl : th.length ≤ 4000) (hn : ¬ (pre = false ∧ s.on)) : PickW l pol pre t s B W (.slice tad th.length tc) W := by
  refine ⟨Below.refl _ _, fore th, .inr ⟨hn, hs.best⟩, ?_⟩
  cases th with
  | nil => exact .inl ⟨rfl, _, _, rfl⟩
  | cons p r =>
    obtain ⟨a, -, c0⟩ := (hs.mem p).1 List.mem_cons_self
    rcases ho.cases with ⟨e, e2⟩ | ⟨g, cap, cur, e, hB, hg, hc, -⟩
    · simp [zI] at e2
    · rw [zI_len] at e hc
      cases e
      refine .inr ⟨p, g, r.length, tc, rfl, a, c0, rfl, hc, by simp at hl; omega, ?_, hB⟩
      have h2 : Own W B (.slice (some ⟨g, 0, none⟩) (zI (p :: r)).length tc) (zI (p :: r)) := by rw [zI_len]; exact ho
      exact h2.cell (j := 0) (by simp [zI])

/-- Whether the one that ran goes on. -/
def OnW (l : List Jb) (pre : Bool) (t : Nat) (s : St) (rb : Nat) (ob : Bool) (W : World) : Prop :=
  (ob = false ∧ ¬ (pre = false ∧ s.on)) ∨ (ob = true ∧ pre = false ∧ ∃ t' i eg ecap : Nat, t = t' + 1 ∧ i < l.length ∧ s.last = (i : Int) ∧ 0 < L s.left i ∧ W.cell? ⟨rb, t', none⟩ = some (.slice (some ⟨eg, 0, none⟩) 1 ecap) ∧ W.cell? ⟨eg, 0, none⟩ = some (.int .i64 (i : Int)))

theorem ent_last {w W : World} {mb eb rb cnt n : Nat} {s : St} {vs : List Value} {l : List Jb} {t : Nat} (h : RefW w W mb eb rb cnt n s.left s.ends s.runs vs) (ho : Ok l (t + 1) s) : ∃ v, W.cell? ⟨rb, t, none⟩ = some v ∧ EntW W mb eb rb v s.last := by
  have hl : t < s.runs.length := by rw [ho.runs]; omega
  obtain ⟨v, h1, h2⟩ := h.ent t s.runs[t] (List.getElem?_eq_getElem hl)
  refine ⟨v, (cells_of h.rv).1 t v h1, ?_⟩
  have e : s.last = s.runs[t] := by
    unfold St.last
    rw [List.getLast?_eq_getElem?, ho.runs, Nat.add_sub_cancel, List.getElem?_eq_getElem hl]
    rfl
  rw [e]
  exact h2

theorem after_some {t i : Nat} {s : St} : s.after t (i : Int) = ⟨s.left.set i (L s.left i - 1), if L s.left i - 1 = 0 then s.ends.set i ((t : Int) + 1) else s.ends, s.runs ++ [(i : Int)]⟩ := by
  unfold St.after
  rw [if_neg (by omega), Int.toNat_natCast]

/-- The list of ends, so far. -/
def endCells (N j : Nat) : List Value := List.replicate j (.int .i64 (-1)) ++ List.replicate (N - j) (.int .i64 0)

set_option maxRecDepth 20000 in
set_option maxHeartbeats 8000000 in
theorem Played_any (w : World) (l : List Jb) (v : Value) (pol : Int) (pre : Bool) (n : Nat) (op : Nat → Bool) (c1 c2 : Value) (hv : RowSl Jb.vals w l v) (hp : pol = 1 ∨ pol = 2) (hl : l.length ≤ 4000) (hok : ∀ x ∈ l, okJ x) (hn : n ≤ 20000)
    (HO : ∀ W, Below w.heap.size w W → ∀ t : Nat, t ≤ 20000 → Calls Tryz.prog 51 #[.int .i64 (t : Int), c1, c2] W fun r w' => r = .returned (.bool (op t)) ∧ Below W.heap.size W w') :
    Calls Tryz.prog 50 #[v, .int .i64 pol, .bool pre, .int .i64 1, .int .i64 (n : Int), .func (.func 51) #[] #[c1, c2]] w fun r W => ∃ s mb eb rb cnt vs, PlaysP l op pol pre n s ∧ r = .returned (.tuple #[.slice (some ⟨rb, 0, none⟩) n n, .slice (some ⟨eb, 0, none⟩) l.length l.length]) ∧ RefW w W mb eb rb cnt n s.left s.ends s.runs vs := by
  obtain ⟨ad, c, rfl, -, hcap0, hrow⟩ := hv
  have HV : Hid ((l = [] ∨ ∃ b o, ad = some ⟨b, o, none⟩ ∧ ∀ q u, (l.flatMap Jb.vals)[q]? = some u → w.cell? ⟨b, o + q, none⟩ = some u) ∧ (∀ x ∈ l, okJ x) ∧ (pol = 1 ∨ pol = 2)) := ⟨hrow, hok, hp⟩
  have HT : Hid (∀ W, Below w.heap.size w W → ∀ t : Nat, t ≤ 20000 → Calls Tryz.prog 51 #[.int .i64 (t : Int), c1, c2] W fun r w' => r = .returned (.bool (op t)) ∧ Below W.heap.size W w') := HO
  clear hrow hok hp HO
  have hmm := @run_makeMap Tryz.prog
  obtain ⟨w2, hmk, hb2, hh2⟩ := make_ex (w.alloc (.map #[] 0)) l.length (by omega)
  have hsz : (w.alloc (.map #[] 0)).heap.size = w.heap.size + 1 := by simp
  rw [hsz] at hmk hb2 hh2
  have H2 : Hid (IniW w w2 w.heap.size (w.heap.size + 1) 0 ((l.map (·.c)).take 0) (repCells l.length 0)) := by
    refine ⟨(below_new w _).trans (hb2.mono (by omega)), ?_, hh2, ⟨Nat.le_refl _, by omega⟩, by omega⟩
    refine (MapW.start w).kept (row := none) ⟨hb2.os, hb2.tape, hb2.output, hb2.size, fun i hi _ => hb2.block i (by omega)⟩ (by simp)
  clear hb2 hh2 hsz
  go_enter Tryz.func50, Tryz.ntmps50
  go_wp2_with fail
  go_loopw [32] (fun i wr => ∃ j : Nat, j ≤ l.length ∧ i = .int .i64 j ∧ IniW w wr w.heap.size (w.heap.size + 1) j ((l.map (·.c)).take j) (repCells l.length j)) (fun i _ => l.length - (intOf i).toNat)
  case atStart => exact ⟨0, Nat.zero_le _, rfl, H2.out⟩
  case round =>
    obtain ⟨j, hj, rfl, hin⟩ := hrel
    by_cases hjl : j < l.length
    · obtain ⟨x, hx, -⟩ := drop_at hjl
      have hJ : J l j = x := by unfold J; rw [List.getD_eq_getElem?_getD, hx]; rfl
      rcases HV.out.1 with h | ⟨gb, go, rfl, hr1⟩
      · rw [h] at hjl; simp at hjl
      obtain ⟨y0, y1, y2, y3, y4⟩ := jb_at (fun q u hq => below_cell hin.bel (hr1 q u hq)) hx
      have hxo := HV.out.2.1 x (List.mem_of_getElem? hx)
      obtain ⟨xk, xa, xc, xd, xp⟩ := x
      dsimp only at y0 y1 y2 y3 y4
      have h3 := hin.grow (below_new wr (.cells #[.int .i64 xk, .int .i64 xa, .int .i64 xc, .int .i64 xd, .int .i64 xp] 63))
      unfold okJ at hxo
      dsimp only at hxo
      obtain ⟨w4, hup, hm4, hg4⟩ := h3.map.put (left' := (l.map (·.c)).take (j + 1)) j xc (by omega) (by omega) (by omega) (by omega) (fun q => by rw [L_take (by simpa using hjl), L_c hjl, hJ])
      have h4 := h3.putMap hm4 hg4
      have hel : j < (repCells l.length j).length := by rw [rep_len _ _ hj]; exact hjl
      obtain ⟨ec, ef, el⟩ := cells_of (l := repCells l.length j) h4.ev
      have e0 := ec j _ (List.getElem?_eq_getElem hel)
      have ef0 := ef j
      generalize (repCells l.length j)[j] = eold at e0
      have h5 := h4.setE (i := j) (u := .int .i64 (-1))
      have hrep : (repCells l.length j).set j (.int .i64 (-1)) = repCells l.length (j + 1) := by
        unfold repCells
        rw [List.set_append_right _ _ (by simp)]
        obtain ⟨m, hm⟩ : ∃ m, l.length - j = m + 1 := ⟨l.length - j - 1, by omega⟩
        rw [hm, List.replicate_succ, List.replicate_succ']
        simp [show l.length - (j + 1) = m by omega]
      rw [hrep] at h5
      have H5 : Hid (IniW w (w4.setCell ⟨w.heap.size + 1, j, none⟩ (.int .i64 (-1))) w.heap.size (w.heap.size + 1) (j + 1) ((l.map (·.c)).take (j + 1)) (repCells l.length (j + 1))) := h5
      have hji : (j : Int) < (l.length : Int) := by omega
      clear hr1 hx hJ hin h3 h4 h5 hm4 hg4 hrep ec ef hel hxo
      go_wp2_with fail
      exact ⟨⟨j + 1, by omega, by simp, H5.out⟩, by simp [intOf]; omega⟩
    · have hje : j = l.length := by omega
      subst hje
      rw [List.take_of_length_le (by simp)] at hin
      have hrep : repCells l.length l.length = (List.replicate l.length (-1)).map (Value.int .i64) := by simp [repCells]
      obtain ⟨w6, hmk6, hb6, hh6⟩ := make_rows wr n (by omega)
      have h6 := hin.grow hb6
      have H6 : Hid (RefW w w6 w.heap.size (w.heap.size + 1) wr.heap.size l.length n (l.map (·.c)) (List.replicate l.length (-1)) [] (List.replicate n (.slice none 0 0))) := ⟨h6.bel, h6.map, by rw [← hrep]; exact h6.ev, hh6, ⟨h6.low.1, h6.low.2, hin.bel.size⟩, ⟨h6.ds, by have := hin.map.lt; omega, by have := lt_of_heap hin.ev; omega⟩, by simp, by simp⟩
      clear hin hrep hb6 hh6 h6
      go_wp2_with fail
      generalize wr.heap.size = rb at *
      go_loopw [19] (fun i wt => ∃ (t : Nat) (s : St) (cnt : Nat) (vs : List Value), t ≤ n ∧ i = .int .i64 t ∧ RefW w wt w.heap.size (w.heap.size + 1) rb cnt n s.left s.ends s.runs vs ∧ cnt ≤ l.length + t ∧ PlaysP l op pol pre t s ∧ ∀ i : Nat, t ≤ i → i < n → vs[i]? = some (.slice none 0 0)) (fun i _ => n - (intOf i).toNat)
      case atStart => exact ⟨0, St.init l, l.length, _, Nat.zero_le _, rfl, H6.out, by omega, rfl, fun i _ hi => by rw [List.getElem?_replicate, if_pos hi]⟩
      case round =>
        obtain ⟨t, s, cnt, vs, ht, rfl, href, hcnt, hpl, hrs⟩ := hrel
        have hokt := playsP_ok HV.out.2.1 t s hpl
        have HRS : Hid (∀ i : Nat, t ≤ i → i < n → vs[i]? = some (.slice none 0 0)) := hrs
        clear hrs
        by_cases hlt : t < n
        · have HR0 : Hid (RefW w wr w.heap.size (w.heap.size + 1) rb cnt n s.left s.ends s.runs vs ∧ PlaysP l op pol pre t s ∧ Ok l t s) := ⟨href, hpl, hokt⟩
          have HE0 : Hid (∀ (i : Nat) b v, s.runs[i]? = some b → vs[i]? = some v → 0 ≤ b → ∀ g, v.ownBlock = some g → g < wr.heap.size) := fun i b v hi hv h0 g hg => by
            obtain ⟨v', h1, h2⟩ := href.ent i b hi
            rw [hv] at h1
            cases h1
            rcases h2 with ⟨h2, -⟩ | ⟨-, g', c', e1, e2, -⟩
            · omega
            · rw [e1] at hg
              cases hg
              exact World.block_lt_of_cell? _ _ e2
          clear href hpl hokt
          have HO := HT.out wr HR0.out.1.bel t (by omega)
          by_cases hop : op t = true
          rotate_left 1
          · have hop' : op t = false := by simpa using hop
            rw [hop'] at HO
            go_wp2_with (go_at_call 51; refine HO.mono ?_; rintro r w1 ⟨rfl, hb1⟩; have H1 : Hid (RefW w w1 w.heap.size (w.heap.size + 1) rb cnt n s.left s.ends (s.runs ++ [-1]) vs) := (HR0.out.1.grow hb1).idle (by rw [HR0.out.2.2.runs]; exact HRS.out t (Nat.le_refl _) hlt); clear hb1 HO)
            exact ⟨⟨t + 1, s.after t (-1), cnt, vs, by omega, by simp, by rw [show s.after t (-1) = ⟨s.left, s.ends, s.runs ++ [-1]⟩ from rfl]; exact H1.out, by omega, ⟨s, -1, HR0.out.2.1, .inl ⟨hop', rfl⟩, rfl⟩, fun i h1 h2 => HRS.out i (by omega) h2⟩, by simp [intOf]; omega⟩
          rw [hop] at HO
          go_wp2_with (go_at_call 51; refine HO.mono ?_; rintro r w1 ⟨rfl, hb1⟩; have HR : Hid (RefW w w1 w.heap.size (w.heap.size + 1) rb cnt n s.left s.ends s.runs vs ∧ PlaysP l op pol pre t s ∧ Ok l t s) := ⟨HR0.out.1.grow hb1, HR0.out.2.1, HR0.out.2.2⟩; have HE : Hid (∀ (i : Nat) b v, s.runs[i]? = some b → vs[i]? = some v → 0 ≤ b → ∀ g, v.ownBlock = some g → g < w1.heap.size) := (fun i b v hi hv h0 g hg => Nat.lt_of_lt_of_le (HE0.out i b v hi hv h0 g hg) hb1.size); clear hb1 HO HR0 HE0)
          go_loopw [20, 58] (fun tv i wr => ∃ (j : Nat) (th : List Nat), j ≤ l.length ∧ i = .int .i64 j ∧ Own wr w1.heap.size tv (zI th) ∧ Sorted l pol s.left (t : Int) j th ∧ RefW w wr w.heap.size (w.heap.size + 1) rb cnt n s.left s.ends s.runs vs ∧ w1.heap.size ≤ wr.heap.size ∧ th.length ≤ j) (fun _ i _ => l.length - (intOf i).toNat)
          case atStart => exact ⟨0, [], Nat.zero_le _, rfl, ⟨rfl, .inl ⟨rfl, rfl⟩⟩, ⟨List.Pairwise.nil, fun j => by simp⟩, HR.out.1, Nat.le_refl _, Nat.le_refl _⟩
          case round =>
            obtain ⟨j, th, hj, rfl, hown, hsrt, href3, hsz3, htl⟩ := hrel
            obtain ⟨tad, tc, rfl⟩ := own_slice hown
            by_cases hjl : j < l.length
            · obtain ⟨x, hx, -⟩ := drop_at hjl
              have hJ : J l j = x := by unfold J; rw [List.getD_eq_getElem?_getD, hx]; rfl
              rcases HV.out.1 with h | ⟨gb, go, rfl, hr1⟩
              · rw [h] at hjl; simp at hjl
              obtain ⟨y0, y1, y2, y3, y4⟩ := jb_at (fun q u hq => below_cell href3.bel (hr1 q u hq)) hx
              obtain ⟨xk, xa, xc, xd, xp⟩ := x
              dsimp only at y0 y1 y2 y3 y4
              have h3 := href3.grow (below_new wr (.cells #[.int .i64 xk, .int .i64 xa, .int .i64 xc, .int .i64 xd, .int .i64 xp] 63))
              have hlk := h3.map.get j (by omega)
              have hown3 : Own (wr.alloc (.cells #[.int .i64 xk, .int .i64 xa, .int .i64 xc, .int .i64 xd, .int .i64 xp] 63)) w1.heap.size (.slice tad th.length tc) (zI th) := hown.same (fun q e => Below.heap_alloc _ _ _ (hown.low e).2)
              have HQ : Hid (Own (wr.alloc (.cells #[.int .i64 xk, .int .i64 xa, .int .i64 xc, .int .i64 xd, .int .i64 xp] 63)) w1.heap.size (.slice tad th.length tc) (zI th) ∧ Sorted l pol s.left (t : Int) j th ∧ RefW w (wr.alloc (.cells #[.int .i64 xk, .int .i64 xa, .int .i64 xc, .int .i64 xd, .int .i64 xp] 63)) w.heap.size (w.heap.size + 1) rb cnt n s.left s.ends s.runs vs ∧ w1.heap.size ≤ (wr.alloc (.cells #[.int .i64 xk, .int .i64 xa, .int .i64 xc, .int .i64 xd, .int .i64 xp] 63)).heap.size ∧ (J l j).a = xa) := ⟨hown3, hsrt, h3, by simp; omega, by rw [hJ]⟩
              have hji : (j : Int) < (l.length : Int) := by omega
              obtain ⟨Lv, hLv⟩ : ∃ Lv, L s.left j = Lv := ⟨_, rfl⟩
              rw [hLv] at hlk
              have HLv : Hid (L s.left j = Lv) := hLv
              clear hx hJ h3 hown3 hown hsrt href3 hLv
              by_cases qa : xa ≤ (t : Int)
              · have ea : decide (xa ≤ (t : Int)) = true := by simpa using qa
                by_cases qL : 0 < Lv
                · have eL : decide (0 < Lv) = true := by simpa using qL
                  have h9 : (J l j).a ≤ (t : Int) ∧ 0 < L s.left j := by rw [HQ.out.2.2.2.2, HLv.out]; exact ⟨qa, qL⟩
                  have HT : Hid ((J l j).a ≤ (t : Int) ∧ 0 < L s.left j) := h9
                  clear h9
                  clear qa qL
                  go_upto_block 6 with fail
                  generalize wr.alloc (.cells #[.int .i64 xk, .int .i64 xa, .int .i64 xc, .int .i64 xd, .int .i64 xp] 63) = w4 at *
                  clear hlk ea eL y0 y1 y2 y3 y4
                  go_cut [23] from 75 to 89 (fun v wk => ∃ k : Nat, k ≤ th.length ∧ v = .int .i64 k ∧ Below w4.heap.size w4 wk ∧ (∀ q x, k ≤ q → th[q]? = some x → lexJ pol l j x) ∧ (∀ x, 0 < k → th[k - 1]? = some x → ¬ lexJ pol l j x))
                  case first =>
                    go_wp2_with fail
                    go_loopw [23] (fun kv wr => ∃ k : Nat, k ≤ th.length ∧ kv = .int .i64 k ∧ Below w4.heap.size w4 wr ∧ (∀ q x, k ≤ q → th[q]? = some x → lexJ pol l j x)) (fun kv _ => (intOf kv).toNat)
                    case atStart => exact ⟨th.length, Nat.le_refl _, rfl, Below.refl _ _, fun q x hq hx => by have := (List.getElem?_eq_some_iff.1 hx).1; omega⟩
                    case round =>
                      obtain ⟨k, hk, rfl, hb4, hlx⟩ := hrel
                      have HK : Hid (Below w4.heap.size w4 wr ∧ (∀ q x, k ≤ q → th[q]? = some x → lexJ pol l j x)) := ⟨hb4, hlx⟩
                      clear hb4 hlx
                      by_cases hk0 : k = 0
                      · subst hk0
                        go_wp2_with fail
                        go_meet
                        case rel => exact ⟨0, hk, rfl, HK.out.1, HK.out.2, fun x h => absurd h (by omega)⟩
                      · obtain ⟨k', rfl⟩ : ∃ k', k = k' + 1 := ⟨k - 1, by omega⟩
                        obtain ⟨x, hx, -⟩ := drop_at (l := th) (k := k') (by omega)
                        have hxj := ((HQ.out.2.1.mem x).1 (List.mem_of_getElem? hx)).1
                        rcases HQ.out.1.cases with ⟨e, e2⟩ | ⟨g, cap, cur, e, -⟩
                        · have : th = [] := by simpa [zI] using e2
                          subst this; simp at hk
                        rw [zI_len] at e
                        cases e
                        have hown4 : Own wr w1.heap.size (.slice (some ⟨g, 0, none⟩) (zI th).length tc) (zI th) := by
                          rw [zI_len]
                          exact HQ.out.1.same (fun q e => HK.out.1.block q (HQ.out.1.low e).2)
                        have cx : wr.cell? ⟨g, k', none⟩ = some (.int .i64 (x : Int)) := hown4.cell (by simp [zI, hx])
                        have HG := Goes_any wr l (.slice (some ⟨gb, go, none⟩) l.length c) j x pol ⟨_, c, rfl, (fun e => by cases e), hcap0, .inr ⟨gb, go, rfl, fun q u hq => below_cell (below_seq HQ.out.2.2.1.bel HK.out.1) (hr1 q u hq)⟩⟩ HV.out.2.2 hjl (by omega)
                        have HX : Hid (th[k']? = some x) := hx
                        clear hown4 hx
                        go_wp2_with (go_at_call 80; refine HG.mono ?_; rintro r w5 ⟨b, rfl, hbx, hb5⟩; have H5 : Hid ((b = true ↔ lexJ pol l j x) ∧ Below w4.heap.size w4 w5) := ⟨hbx, below_seq HK.out.1 hb5⟩; clear hbx hb5 HG)
                        · have hb9 : b = true := by assumption
                          exact ⟨⟨k', by omega, rfl, H5.out.2, fun q y hq hy => by
                            rcases Nat.lt_or_ge k' q with g9 | g9
                            · exact HK.out.2 q y (by omega) hy
                            · have : q = k' := by omega
                              subst this
                              rw [HX.out] at hy
                              cases hy
                              exact H5.out.1.1 hb9⟩, by simp [intOf]⟩
                        · have hb9 : b = false := by assumption
                          subst hb9
                          go_meet
                          case rel =>
                            refine ⟨k' + 1, hk, rfl, H5.out.2, HK.out.2, fun y _ hy hlex => ?_⟩
                            rw [show k' + 1 - 1 = k' by omega, HX.out] at hy
                            cases hy
                            cases (H5.out.1.2 hlex)
                  case rest =>
                    obtain ⟨k, hk, rfl, hb4, hlx, hlx2⟩ := hcut
                    have HK : Hid (Below w4.heap.size w4 wc ∧ (∀ q x, k ≤ q → th[q]? = some x → lexJ pol l j x) ∧ (∀ x, 0 < k → th[k - 1]? = some x → ¬ lexJ pol l j x)) := ⟨hb4, hlx, hlx2⟩
                    clear hb4 hlx hlx2
                    go_upto_region 22 with fail
                    rcases HQ.out.1.cases with ⟨e, e2⟩ | ⟨g, cap, cur, e, -⟩
                    · have hth : th = [] := by simpa [zI] using e2
                      subst hth
                      cases e
                      have hkz : k = 0 := by simpa using hk
                      subst hkz
                      obtain ⟨hr1, ad2, n2, c2, W3, hr2, ho3, hg3⟩ := ins_run0 wc.drew w1.heap.size (j : Int) (by show w1.heap.size ≤ wc.heap.size; have := HQ.out.2.2.2.1; have := HK.out.1.size; omega)
                      have hrefW := (HQ.out.2.2.1.grow HK.out.1).grow (Below.refl _ _).drew
                      have hb3 : Below wc.drew.heap.size wc.drew W3 := ⟨hg3.os, hg3.tape, hg3.output, hg3.size, fun q hq => hg3.block q hq (by simp)⟩
                      have HN : Hid (Own W3 w1.heap.size (.slice ad2 n2 c2) (zI (([] : List Nat).take 0 ++ j :: ([] : List Nat).drop 0)) ∧ RefW w W3 w.heap.size (w.heap.size + 1) rb cnt n s.left s.ends s.runs vs ∧ w1.heap.size ≤ W3.heap.size) := ⟨ho3, hrefW.grow hb3, by have := hb3.size; have h9 : wc.drew.heap.size = wc.heap.size := rfl; have := HQ.out.2.2.2.1; have := HK.out.1.size; omega⟩
                      clear ho3 hg3 hb3 hrefW
                      have hS0 : (fun _ : World => True) wc.drew := trivial
                      refine wp_region_noPanic ?_
                      refine wp_region_held_drew (S := fun _ => True) (by kernel_rfl) hS0 (fun hHeld => ?_)
                      refine take_at (i := 0) (n := 90) (v := ?_) rfl rfl (by kernel_rfl) (by kernel_rfl) (by kernel_rfl) (fun _ _ _ h => h) (Or.inl ⟨by rfl, ?_⟩) (by assumption) ?_
                      rotate_left 1
                      · intro wz hSw
                        first | (go_simp; done) | (go_simp; with_reducible rfl)
                      simp only [List.set_cons_zero, List.set_cons_succ]
                      refine take_at (i := 1) (n := 91) (v := ?_) rfl rfl (by kernel_rfl) (by kernel_rfl) (by kernel_rfl) (fun _ _ _ h => h) (Or.inl ⟨by rfl, ?_⟩) (by assumption) ?_
                      rotate_left 1
                      · intro wz hSw
                        first | (go_simp; done) | (go_simp; with_reducible rfl)
                      simp only [List.set_cons_zero, List.set_cons_succ]
                      refine take_at (i := 2) (n := 92) (v := ?_) rfl rfl (by kernel_rfl) (by kernel_rfl) (by kernel_rfl) (fun _ _ _ h => h) (Or.inl ⟨by rfl, ?_⟩) (by assumption) ?_
                      rotate_left 1
                      · intro wz hSw
                        first | (go_simp; done) | (go_simp; with_reducible rfl)
                      simp only [List.set_cons_zero, List.set_cons_succ]
                      refine take_at (i := 3) (n := 93) (v := ?_) rfl rfl (by kernel_rfl) (by kernel_rfl) (by kernel_rfl) (fun _ _ _ h => h) (Or.inl ⟨by rfl, ?_⟩) (by assumption) ?_
                      rotate_left 1
                      · intro wz hSw
                        first | (go_simp; done) | (go_simp; with_reducible rfl)
                      simp only [List.set_cons_zero, List.set_cons_succ]
                      refine take_at (i := 5) (n := 95) (v := ?_) rfl rfl (by kernel_rfl) (by kernel_rfl) (by kernel_rfl) (fun _ _ _ h => h) (Or.inl ⟨by rfl, ?_⟩) (by assumption) ?_
                      rotate_left 1
                      · intro wz hSw
                        first | (go_simp; done) | (go_simp; with_reducible rfl)
                      simp only [List.set_cons_zero, List.set_cons_succ]
                      refine take_at (i := 6) (n := 96) (v := ?_) rfl rfl (by kernel_rfl) (by kernel_rfl) (by kernel_rfl) (fun _ _ _ h => h) (Or.inl ⟨by rfl, ?_⟩) (by assumption) ?_
                      rotate_left 1
                      · intro wz hSw
                        first | (go_simp; done) | (go_simp; with_reducible rfl)
                      simp only [List.set_cons_zero, List.set_cons_succ]
                      refine take_at (i := 7) (n := 97) (v := ?_) rfl rfl (by kernel_rfl) (by kernel_rfl) (by kernel_rfl) (fun _ _ _ h => h) (Or.inl ⟨by rfl, ?_⟩) (by assumption) ?_
                      rotate_left 1
                      · intro wz hSw
                        first | (go_simp; done) | (go_simp; with_reducible rfl)
                      simp only [List.set_cons_zero, List.set_cons_succ]
                      refine wpAnyH_ready (rs := [4]) (by kernel_rfl) (by simp) ?_
                      refine AllReadyH.cons rfl (fun K' hK' => ?_) AllReadyH.nil
                      go_simp
                      refine hK'.out _ _ trivial (fun hHeld => ?_)
                      clear hK' K'
                      refine wpAnyH_ready (rs := [8]) (by kernel_rfl) (by simp) ?_
                      refine AllReadyH.cons rfl (fun K' hK' => ?_) AllReadyH.nil
                      refine region_append_at rfl 98 rfl (.tmp 94) (.tmp 97) 24 rfl rfl rfl hr1 ?_
                      refine hK'.out _ _ trivial (fun hHeld => ?_)
                      clear hK' K'
                      simp only [List.set_cons_zero, List.set_cons_succ]
                      refine wpAnyH_ready (rs := [9]) (by kernel_rfl) (by simp) ?_
                      refine AllReadyH.cons rfl (fun K' hK' => ?_) AllReadyH.nil
                      refine region_append_at rfl 99 rfl (.tmp 92) (.tmp 98) 24 rfl rfl rfl hr2 ?_
                      refine hK'.out _ _ trivial (fun hHeld => ?_)
                      clear hK' K'
                      simp only [List.set_cons_zero, List.set_cons_succ]
                      refine take_at (i := 10) (n := 20) (v := ?_) rfl rfl (by kernel_rfl) (by kernel_rfl) (by kernel_rfl) (fun _ _ _ h => h) (Or.inl ⟨by rfl, ?_⟩) (by assumption) ?_
                      rotate_left 1
                      · intro wz hSw
                        first | (go_simp; done) | (go_simp; with_reducible rfl)
                      simp only [List.set_cons_zero, List.set_cons_succ]
                      refine wpAnyH_done (by kernel_rfl) ?_ _
                      refine NoPanic.normal ?_
                      clear hr1 hr2
                      go_wp2_with fail
                      exact ⟨⟨j + 1, _, by omega, by simp, HN.out.1, HQ.out.2.1.ins HT.out (by simp) (HK.out.2.1) (HK.out.2.2), HN.out.2.1, HN.out.2.2, by first | (simp; done) | (simp; omega)⟩, by simp [intOf]; omega⟩
                    · rw [zI_len] at e
                      cases e
                      have hownW : Own wc.drew w1.heap.size (.slice (some ⟨g, 0, none⟩) (zI th).length tc) (zI th) := by
                        rw [zI_len]
                        exact HQ.out.1.same (fun q e => HK.out.1.block q (HQ.out.1.low e).2)
                      obtain ⟨ad1, n1, c1, W2, ad2, n2, c2, W3, hr1, hr2, ho3, hg3⟩ := ins_run wc.drew w1.heap.size g tc (k) (zI th) (j : Int) hownW (by rw [zI_len]; omega) (by rw [zI_len]; omega)
                      rw [zI_len] at hr1
                      have hglow := (hownW.low (g := g) rfl).1
                      have hrefW := ((HQ.out.2.2.1.grow HK.out.1).grow (Below.refl _ _).drew).other hg3 (fun q e => by
                        cases e
                        have b1 := HR.out.1.bel.size
                        have b2 := HR.out.1.map.lt
                        have b3 := lt_of_heap HR.out.1.ev
                        have b4 := lt_of_heap HR.out.1.rv
                        exact ⟨by omega, by omega, by omega, by omega⟩) (fun i b v hi hv h0 e => by have := HE.out i b v hi hv h0 g e; omega)
                      have HN : Hid (Own W3 w1.heap.size (.slice ad2 n2 c2) (zI (th.take (k) ++ j :: th.drop (k))) ∧ RefW w W3 w.heap.size (w.heap.size + 1) rb cnt n s.left s.ends s.runs vs ∧ w1.heap.size ≤ W3.heap.size) := ⟨by rw [show zI (th.take (k) ++ j :: th.drop (k)) = (zI th).take (k) ++ (j : Int) :: (zI th).drop (k) by simp [zI]]; exact ho3, hrefW, by have := hg3.size; have h9 : wc.drew.heap.size = wc.heap.size := rfl; have := HQ.out.2.2.2.1; have := HK.out.1.size; omega⟩
                      have htc : th.length ≤ tc := by
                        rcases hownW.cases with ⟨e, -⟩ | ⟨g', cap', cur, e, _, _, hc', _⟩
                        · cases e
                        · rw [zI_len] at e hc'; cases e; exact hc'
                      have hki : ((k : Nat) : Int) ≤ (th.length : Int) := by omega
                      have hkc : k ≤ tc := by omega
                      have hkt : k ≤ th.length := by omega
                      clear ho3 hg3 hrefW hownW hglow
                      have hS0 : (fun _ : World => True) wc.drew := trivial
                      refine wp_region_noPanic ?_
                      refine wp_region_held_drew (S := fun _ => True) (by kernel_rfl) hS0 (fun hHeld => ?_)
                      refine take_at (i := 0) (n := 90) (v := ?_) rfl rfl (by kernel_rfl) (by kernel_rfl) (by kernel_rfl) (fun _ _ _ h => h) (Or.inl ⟨by rfl, ?_⟩) (by assumption) ?_
                      rotate_left 1
                      · intro wz hSw
                        first | (go_simp; done) | (go_simp; with_reducible rfl)
                      simp only [List.set_cons_zero, List.set_cons_succ]
                      refine take_at (i := 1) (n := 91) (v := ?_) rfl rfl (by kernel_rfl) (by kernel_rfl) (by kernel_rfl) (fun _ _ _ h => h) (Or.inl ⟨by rfl, ?_⟩) (by assumption) ?_
                      rotate_left 1
                      · intro wz hSw
                        first | (go_simp; done) | (go_simp; with_reducible rfl)
                      simp only [List.set_cons_zero, List.set_cons_succ]
                      refine take_at (i := 2) (n := 92) (v := ?_) rfl rfl (by kernel_rfl) (by kernel_rfl) (by kernel_rfl) (fun _ _ _ h => h) (Or.inl ⟨by rfl, ?_⟩) (by assumption) ?_
                      rotate_left 1
                      · intro wz hSw
                        first | (go_simp; done) | (go_simp; with_reducible rfl)
                      simp only [List.set_cons_zero, List.set_cons_succ]
                      refine take_at (i := 3) (n := 93) (v := ?_) rfl rfl (by kernel_rfl) (by kernel_rfl) (by kernel_rfl) (fun _ _ _ h => h) (Or.inl ⟨by rfl, ?_⟩) (by assumption) ?_
                      rotate_left 1
                      · intro wz hSw
                        first | (go_simp; done) | (go_simp; with_reducible rfl)
                      simp only [List.set_cons_zero, List.set_cons_succ]
                      refine take_at (i := 5) (n := 95) (v := ?_) rfl rfl (by kernel_rfl) (by kernel_rfl) (by kernel_rfl) (fun _ _ _ h => h) (Or.inl ⟨by rfl, ?_⟩) (by assumption) ?_
                      rotate_left 1
                      · intro wz hSw
                        first | (go_simp; done) | (go_simp; with_reducible rfl)
                      simp only [List.set_cons_zero, List.set_cons_succ]
                      refine take_at (i := 6) (n := 96) (v := ?_) rfl rfl (by kernel_rfl) (by kernel_rfl) (by kernel_rfl) (fun _ _ _ h => h) (Or.inl ⟨by rfl, ?_⟩) (by assumption) ?_
                      rotate_left 1
                      · intro wz hSw
                        first | (go_simp; done) | (go_simp; with_reducible rfl)
                      simp only [List.set_cons_zero, List.set_cons_succ]
                      refine take_at (i := 7) (n := 97) (v := ?_) rfl rfl (by kernel_rfl) (by kernel_rfl) (by kernel_rfl) (fun _ _ _ h => h) (Or.inl ⟨by rfl, ?_⟩) (by assumption) ?_
                      rotate_left 1
                      · intro wz hSw
                        first | (go_simp; done) | (go_simp; with_reducible rfl)
                      simp only [List.set_cons_zero, List.set_cons_succ]
                      refine wpAnyH_ready (rs := [4]) (by kernel_rfl) (by simp) ?_
                      refine AllReadyH.cons rfl (fun K' hK' => ?_) AllReadyH.nil
                      go_simp
                      refine hK'.out _ _ trivial (fun hHeld => ?_)
                      clear hK' K'
                      refine wpAnyH_ready (rs := [8]) (by kernel_rfl) (by simp) ?_
                      refine AllReadyH.cons rfl (fun K' hK' => ?_) AllReadyH.nil
                      refine region_append_at rfl 98 rfl (.tmp 94) (.tmp 97) 24 rfl rfl rfl hr1 ?_
                      refine hK'.out _ _ trivial (fun hHeld => ?_)
                      clear hK' K'
                      simp only [List.set_cons_zero, List.set_cons_succ]
                      refine wpAnyH_ready (rs := [9]) (by kernel_rfl) (by simp) ?_
                      refine AllReadyH.cons rfl (fun K' hK' => ?_) AllReadyH.nil
                      refine region_append_at rfl 99 rfl (.tmp 92) (.tmp 98) 24 rfl rfl rfl hr2 ?_
                      refine hK'.out _ _ trivial (fun hHeld => ?_)
                      clear hK' K'
                      simp only [List.set_cons_zero, List.set_cons_succ]
                      refine take_at (i := 10) (n := 20) (v := ?_) rfl rfl (by kernel_rfl) (by kernel_rfl) (by kernel_rfl) (fun _ _ _ h => h) (Or.inl ⟨by rfl, ?_⟩) (by assumption) ?_
                      rotate_left 1
                      · intro wz hSw
                        first | (go_simp; done) | (go_simp; with_reducible rfl)
                      simp only [List.set_cons_zero, List.set_cons_succ]
                      refine wpAnyH_done (by kernel_rfl) ?_ _
                      refine NoPanic.normal ?_
                      clear hr1 hr2
                      go_wp2_with fail
                      exact ⟨⟨j + 1, _, by omega, by simp, HN.out.1, HQ.out.2.1.ins HT.out (by omega) (HK.out.2.1) (HK.out.2.2), HN.out.2.1, HN.out.2.2, by first | (simp; done) | (simp; omega)⟩, by simp [intOf]; omega⟩
                · have eL : decide (0 < Lv) = false := by simpa using qL
                  have HT : Hid (¬ ((J l j).a ≤ (t : Int) ∧ 0 < L s.left j)) := by have h9 : ¬ ((J l j).a ≤ (t : Int) ∧ 0 < L s.left j) := by rw [HLv.out]; omega
                                                                                   exact h9
                  clear qa qL
                  go_wp2_with fail
                  exact ⟨⟨j + 1, th, by omega, by simp, HQ.out.1, HQ.out.2.1.skip HT.out, HQ.out.2.2.1, HQ.out.2.2.2.1, by omega⟩, by simp [intOf]; omega⟩
              · have ea : decide (xa ≤ (t : Int)) = false := by simpa using qa
                have HT : Hid (¬ ((J l j).a ≤ (t : Int) ∧ 0 < L s.left j)) := by have h9 : ¬ ((J l j).a ≤ (t : Int) ∧ 0 < L s.left j) := by rw [HQ.out.2.2.2.2]; omega
                                                                                 exact h9
                clear qa
                go_wp2_with fail
                exact ⟨⟨j + 1, th, by omega, by simp, HQ.out.1, HQ.out.2.1.skip HT.out, HQ.out.2.2.1, HQ.out.2.2.2.1, by omega⟩, by simp [intOf]; omega⟩
            · have hje : j = l.length := by omega
              subst hje
              have HD : Hid (Own wr w1.heap.size (.slice tad th.length tc) (zI th) ∧ Sorted l pol s.left (t : Int) l.length th ∧ RefW w wr w.heap.size (w.heap.size + 1) rb cnt n s.left s.ends s.runs vs ∧ w1.heap.size ≤ wr.heap.size) := ⟨hown, hsrt, href3, hsz3⟩
              clear hown hsrt href3 hsz3 hj hjl
              go_upto_region 24 with fail
              go_cut [127] from 101 to 126 (fun c W => ∃ ob : Bool, c = .bool ob ∧ W = wr ∧ OnW l pre t s rb ob wr)
              case first =>
                cases hpre : pre with
                | true =>
                  subst hpre
                  go_wp2_with fail
                  go_meet
                  case rel => exact ⟨false, rfl, rfl, .inl ⟨rfl, fun e => by cases e.1⟩⟩
                | false =>
                  subst hpre
                  rcases t with _ | t'
                  · have hno : ¬ s.on := fun e => by
                      have h9 := HR.out.2.1
                      rw [show s = _ from h9] at e
                      have := e.1
                      simp [St.last, St.init] at this
                    go_wp2_with fail
                    go_meet
                    case rel => exact ⟨false, rfl, rfl, .inl ⟨rfl, fun e => hno e.2⟩⟩
                  · obtain ⟨ev, ec, hent⟩ := ent_last HD.out.2.2.1 HR.out.2.2
                    have htp : (0 : Int) < (t' : Int) + 1 := by omega
                    have htn : (t' : Int) < (n : Int) := by omega
                    rcases hent with ⟨he1, ead, ecap, rfl⟩ | ⟨he0, eg, ecap, rfl, he2, -⟩
                    · have hno : ¬ s.on := fun e => by have := e.1; omega
                      go_wp2_with fail
                      go_meet
                      case rel => exact ⟨false, rfl, rfl, .inl ⟨rfl, fun e => hno e.2⟩⟩
                    · obtain ⟨i, hi⟩ : ∃ i : Nat, s.last = (i : Int) := ⟨s.last.toNat, by omega⟩
                      have hil : i < l.length := by
                        rcases last_rng HR.out.2.2 with e | ⟨_, e⟩
                        · omega
                        · omega
                      rw [hi] at he2
                      have hlk := HD.out.2.2.1.map.get i (by omega)
                      obtain ⟨Lv, hLv⟩ : ∃ Lv, L s.left i = Lv := ⟨_, rfl⟩
                      rw [hLv] at hlk
                      have HLv : Hid (L s.left i = Lv ∧ s.last = (i : Int)) := ⟨hLv, hi⟩
                      clear hLv hi he0
                      by_cases qL : 0 < Lv
                      · have eL : decide (0 < Lv) = true := by simpa using qL
                        go_wp2_with fail
                        go_meet
                        case rel => exact ⟨true, rfl, rfl, .inr ⟨rfl, rfl, t', i, eg, ecap, rfl, hil, HLv.out.2, by rw [HLv.out.1]; exact qL, ec, he2⟩⟩
                      · have eL : decide (0 < Lv) = false := by simpa using qL
                        have hno : ¬ s.on := fun e => by have := e.2; rw [HLv.out.2, Int.toNat_natCast, HLv.out.1] at this; omega
                        go_wp2_with fail
                        go_meet
                        case rel => exact ⟨false, rfl, rfl, .inl ⟨rfl, fun e => hno e.2⟩⟩
              case rest =>
               obtain ⟨ob, rfl, rfl, hon⟩ := hcut
               refine from_K (by assumption) _ _ ?_
               go_cut [20] from 128 to 135 (fun v W => PickW l pol pre t s w1.heap.size wc v W)
               case first =>
                 rcases hon with ⟨rfl, hno⟩ | ⟨rfl, rfl, t', i, eg, ecap, rfl, hil, hi, hLp, ec, he2⟩
                 · go_wp2_with fail
                   go_meet
                   case rel => exact PickW.best HD.out.1 HD.out.2.1 (by omega) hno
                 · have htp : (0 : Int) < (t' : Int) + 1 := by omega
                   have htn : (t' : Int) < (n : Int) := by omega
                   have HI : Hid (s.last = (i : Int) ∧ 0 < L s.left i) := ⟨hi, hLp⟩
                   clear hi hLp
                   go_wp2_with fail
                   go_meet
                   case rel =>
                     refine ⟨below_new _ _, (i : Int), .inl ⟨rfl, ⟨by rw [HI.out.1]; omega, by rw [HI.out.1, Int.toNat_natCast]; exact HI.out.2⟩, HI.out.1.symm⟩, .inr ⟨i, wc.heap.size, 0, 1, rfl, hil, HI.out.2, rfl, Nat.le_refl _, by omega, ?_, HD.out.2.2.2⟩⟩
                     exact (cells_of (l := [_]) (heap_alloc_new wc (.cells #[.int .i64 (i : Int)] 3))).1 0 _ rfl
               case rest =>
                 obtain ⟨hbel, b, hpick, hcase⟩ := hcut
                 have hrefc := HD.out.2.2.1.grow hbel
                 have hrl := HR.out.2.2.runs
                 obtain ⟨rc, rf, rl⟩ := cells_of hrefc.rv
                 have hvl : t < vs.length := by rw [hrefc.len]; exact hlt
                 have r0 := rc t _ (List.getElem?_eq_getElem hvl)
                 have rf0 := rf t
                 generalize vs[t] = rold at r0
                 have hti : (t : Int) < (n : Int) := by omega
                 have HP : Hid (Pick l pol pre t s b) := hpick
                 clear rc rf rl hvl hbel hpick
                 rcases hcase with ⟨rfl, ead, ecap, rfl⟩ | ⟨i, g, m, ecap, rfl, hil, hLp, rfl, hmc, hm4, cg, hgB⟩
                 · have h6 := hrefc.setR (v := .slice ead 0 ecap) (b := -1) (by rw [hrl]; exact hlt) (.inl ⟨rfl, _, _, rfl⟩)
                   rw [hrl] at h6
                   have H6 : Hid (RefW w (wc.setCell ⟨rb, t, none⟩ (.slice ead 0 ecap)) w.heap.size (w.heap.size + 1) rb cnt n s.left s.ends (s.runs ++ [-1]) (vs.set t (.slice ead 0 ecap))) := h6
                   clear h6 hrefc
                   go_wp2_with fail
                   go_loopw [149] (fun i W => i = .int .i64 0 ∧ W = wc.setCell ⟨rb, t, none⟩ (.slice ead 0 ecap)) (fun _ _ => 0)
                   case atStart => exact ⟨rfl, rfl⟩
                   case round =>
                     obtain ⟨rfl, rfl⟩ := hrel
                     go_wp2_with fail
                     exact ⟨⟨t + 1, s.after t (-1), cnt, vs.set t (.slice ead 0 ecap), by omega, by simp, by rw [show s.after t (-1) = ⟨s.left, s.ends, s.runs ++ [-1]⟩ from rfl]; exact H6.out, by omega, ⟨s, -1, HR.out.2.1, .inr ⟨hop, HP.out⟩, rfl⟩, fun q h1 h2 => by rw [List.getElem?_set_ne (by omega)]; exact HRS.out q (by omega) h2⟩, by simp [intOf]; omega⟩
                 · have hlow : w.heap.size < w1.heap.size ∧ (w.heap.size + 1) < w1.heap.size ∧ rb < w1.heap.size := ⟨HR.out.1.map.lt, lt_of_heap HR.out.1.ev, lt_of_heap HR.out.1.rv⟩
                   have h6 := hrefc.setR (v := .slice (some ⟨g, 0, none⟩) 1 ecap) (b := (i : Int)) (by rw [hrl]; exact hlt) (.inr ⟨by omega, g, ecap, rfl, cg, by omega, by omega, by omega⟩)
                   rw [hrl] at h6
                   have cg6 : (wc.setCell ⟨rb, t, none⟩ (.slice (some ⟨g, 0, none⟩) 1 ecap)).cell? ⟨g, 0, none⟩ = some (.int .i64 (i : Int)) := by
                     unfold World.cell? at cg ⊢
                     rw [Below.heap_setCell _ _ _ _ (by show g ≠ rb; omega)]
                     exact cg
                   clear hlow
                   go_upto_if 139 with fail
                   go_cut [20] from 140 to 142 (fun v W => v = .slice (some ⟨g, 0, none⟩) 1 ecap ∧ W = wc)
                   case first =>
                     rcases m with _ | m'
                     · go_wp2_with fail
                       go_meet
                       case rel => exact ⟨rfl, rfl⟩
                     · have h1c : (1 : Int) ≤ (ecap : Int) := by omega
                       have h1m : (1 : Int) < (m' : Int) + 1 + 1 := by omega
                       go_wp2_with fail
                       go_meet
                       case rel => exact ⟨rfl, rfl⟩
                   case rest =>
                     obtain ⟨rfl, rfl⟩ := hcut
                     have H6 : Hid (RefW w (wc.setCell ⟨rb, t, none⟩ (.slice (some ⟨g, 0, none⟩) 1 ecap)) w.heap.size (w.heap.size + 1) rb cnt n s.left s.ends (s.runs ++ [(i : Int)]) (vs.set t (.slice (some ⟨g, 0, none⟩) 1 ecap))) := h6
                     clear h6 hrefc cg
                     go_wp2_with fail
                     generalize wc.setCell ⟨rb, t, none⟩ (.slice (some ⟨g, 0, none⟩) 1 ecap) = w6 at *
                     go_loopw [149] (fun iv W => (iv = .int .i64 0 ∧ W = w6) ∨ (iv = .int .i64 1 ∧ RefW w W w.heap.size (w.heap.size + 1) rb (cnt + 1) n (s.after t (i : Int)).left (s.after t (i : Int)).ends (s.after t (i : Int)).runs (vs.set t (.slice (some ⟨g, 0, none⟩) 1 ecap)))) (fun iv _ => 1 - (intOf iv).toNat)
                     case atStart => exact .inl ⟨rfl, rfl⟩
                     case round =>
                       rcases hrel with ⟨rfl, rfl⟩ | ⟨rfl, hr9⟩
                       · have hlk := H6.out.map.get i (by omega)
                         have hsm := HR.out.2.2.small i
                         have hLl : i < s.left.length := by rw [HR.out.2.2.left]; exact hil
                         obtain ⟨w7, hup, hm7, hg7⟩ := H6.out.map.put (left' := s.left.set i (L s.left i - 1)) i (L s.left i - 1) (by omega) (by omega) (by omega) (by omega) (fun q => L_set hLl)
                         have h7 := H6.out.putMap hm7 hg7
                         have hlk7 := hm7.get i (by omega)
                         rw [L_set hLl, if_pos rfl] at hlk7
                         have hel : i < (s.ends.map (Value.int .i64)).length := by rw [List.length_map, HR.out.2.2.ends]; exact hil
                         obtain ⟨ec, ef, el⟩ := cells_of h7.ev
                         have e0 := ec i _ (List.getElem?_eq_getElem hel)
                         have ef0 := ef i
                         generalize (s.ends.map (Value.int .i64))[i] = eold at e0
                         have h8 := h7.setE (i := i) (v := (t : Int) + 1)
                         have hii : (i : Int) < (l.length : Int) := by omega
                         have HE7 : Hid (RefW w w7 w.heap.size (w.heap.size + 1) rb (cnt + 1) n (s.left.set i (L s.left i - 1)) s.ends (s.runs ++ [(i : Int)]) (vs.set t (.slice (some ⟨g, 0, none⟩) 1 ecap)) ∧ RefW w (w7.setCell ⟨w.heap.size + 1, i, none⟩ (.int .i64 ((t : Int) + 1))) w.heap.size (w.heap.size + 1) rb (cnt + 1) n (s.left.set i (L s.left i - 1)) (s.ends.set i ((t : Int) + 1)) (s.runs ++ [(i : Int)]) (vs.set t (.slice (some ⟨g, 0, none⟩) 1 ecap))) := ⟨h7, h8⟩
                         have HA : Hid (s.after t (i : Int) = ⟨s.left.set i (L s.left i - 1), if L s.left i - 1 = 0 then s.ends.set i ((t : Int) + 1) else s.ends, s.runs ++ [(i : Int)]⟩) := after_some
                         clear hm7 hg7 h7 h8 ec ef hel
                         obtain ⟨Lv, hLv⟩ : ∃ Lv, L s.left i = Lv := ⟨_, rfl⟩
                         rw [hLv] at hlk hlk7 hup HA HE7 hsm hLp
                         clear hLv
                         by_cases qL : Lv - 1 = 0
                         · have eL : (Lv - 1 == 0) = true := by simpa using qL
                           rw [if_pos qL] at HA
                           have eL2 : Lv = 1 := by omega
                           subst eL2
                           clear qL eL
                           rw [show (1 : Int) - 1 = 0 from rfl] at hup hlk7 HE7 HA
                           go_wp2_with fail
                           refine ⟨.inr ⟨rfl, ?_⟩, by simp [intOf]⟩
                           rw [HA.out]
                           exact HE7.out.2
                         · have eL : (Lv - 1 == 0) = false := by simpa using qL
                           rw [if_neg qL] at HA
                           go_wp2_with fail
                           refine ⟨.inr ⟨rfl, ?_⟩, by simp [intOf]⟩
                           rw [HA.out]
                           exact HE7.out.1
                       · have H9 : Hid (RefW w wr w.heap.size (w.heap.size + 1) rb (cnt + 1) n (s.after t (i : Int)).left (s.after t (i : Int)).ends (s.after t (i : Int)).runs (vs.set t (.slice (some ⟨g, 0, none⟩) 1 ecap))) := hr9
                         clear hr9
                         go_wp2_with fail
                         exact ⟨⟨t + 1, s.after t (i : Int), cnt + 1, _, by omega, by simp, H9.out, by omega, ⟨s, (i : Int), HR.out.2.1, .inr ⟨hop, HP.out⟩, rfl⟩, fun q h1 h2 => by rw [List.getElem?_set_ne (by omega)]; exact HRS.out q (by omega) h2⟩, by simp [intOf]; omega⟩
        · have hte : t = n := by omega
          subst hte
          have H9 : Hid (RefW w wr w.heap.size (w.heap.size + 1) rb cnt t s.left s.ends s.runs vs ∧ PlaysP l op pol pre t s) := ⟨href, hpl⟩
          clear href hpl hokt
          go_wp2_with fail
          go_ret2
          exact ⟨s, _, _, _, _, _, H9.out.2, rfl, H9.out.1⟩
end Go.Proofs.YtccoobcggbbciaiGreatDoor.S8
