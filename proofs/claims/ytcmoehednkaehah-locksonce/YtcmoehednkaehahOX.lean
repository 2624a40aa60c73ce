import Derived.Test.YtcmoehednkaehahOW
namespace Go.Proofs.Ytcmoehednkaehah
open Go.ChangeShapes Go.WideShapes Go.ChangeAt Go.RowKit

/- The run, step by step, as numbers. -/
def foreF (x : Rs) (now : Int) : Nat → Int
  | 0 => -1
  | k + 1 => match x.es[k]?, x.en[k]? with
    | some e, some d => if now < e.x.a then foreF x now k else if d ≠ -1 then foreF x now k else if e.wt ≠ -1 then foreF x now k else if foreF x now k = -1 then (k : Int) else match x.es[(foreF x now k).toNat]? with
      | some g => if or3 (cmpI g.ac e.ac) (ltr e.bg - ltr g.bg) (cmpI e.x.a g.x.a) < 0 then (k : Int) else foreF x now k
      | none => foreF x now k
    | _, _ => foreF x now k

theorem foreF_best (x : Rs) (now : Int) : ∀ k, k ≤ x.es.length → k ≤ x.en.length → Best x now k (foreF x now k)
  | 0, _, _ => Best.zero _ _
  | k + 1, h1, h2 => by
    have ih := foreF_best x now k (by omega) (by omega)
    obtain ⟨e, he⟩ := at_lt (l := x.es) rfl (show k < x.es.length by omega)
    obtain ⟨d, hd⟩ := at_lt (l := x.en) rfl (show k < x.en.length by omega)
    rw [foreF, he, hd]
    dsimp only
    by_cases ha : now < e.x.a
    · rw [if_pos ha]
      exact ih.skip (by rintro ⟨e', h1, -, h2, -⟩; rw [he] at h1; cases h1; omega)
    · rw [if_neg ha]
      by_cases hdn : d ≠ -1
      · rw [if_pos hdn]
        exact ih.skip (by rintro ⟨e', -, h1, -⟩; rw [hd] at h1; cases h1; exact hdn rfl)
      · rw [if_neg hdn]
        by_cases hw : e.wt ≠ -1
        · rw [if_pos hw]
          exact ih.skip (by rintro ⟨e', h1, -, -, h2⟩; rw [he] at h1; cases h1; exact hw h2)
        · rw [if_neg hw]
          have hdn' : d = -1 := Classical.byContradiction hdn
          subst hdn'
          have hel : Elig x now k := ⟨e, he, hd, by omega, Classical.byContradiction hw⟩
          by_cases hz : foreF x now k = -1
          · rw [if_pos hz]
            rw [hz] at ih
            exact ih.first hel
          · rw [if_neg hz]
            obtain ⟨i, hik, hi⟩ : ∃ i : Nat, i < k ∧ foreF x now k = i := by
              rcases ih with ⟨h, -⟩ | ⟨i, h1, h2, -⟩
              · exact absurd h hz
              · exact ⟨i, h1, h2⟩
            rw [hi] at ih ⊢
            rw [Int.toNat_natCast]
            obtain ⟨g, hg⟩ := at_lt (l := x.es) rfl (show i < x.es.length by omega)
            rw [hg]
            dsimp only
            by_cases hq : or3 (cmpI g.ac e.ac) (ltr e.bg - ltr g.bg) (cmpI e.x.a g.x.a) < 0
            · rw [if_pos hq]
              refine ih.win hel ?_
              intro e1 g1 h1 h2
              rw [he] at h1; rw [hg] at h2; cases h1; cases h2
              rw [or3_lt] at hq
              unfold bf; omega
            · rw [if_neg hq]
              refine ih.keep ?_
              intro g1 e1 h2 h1
              rw [he] at h1; rw [hg] at h2; cases h1; cases h2
              rw [or3_lt] at hq
              unfold bf; omega

theorem Best.one {x : Rs} {now : Int} {k : Nat} {f g : Int} (h : Best x now k f) (h' : Best x now k g) : f = g := by
  rcases h with ⟨rfl, h⟩ | ⟨i, h1, rfl, h2, h3⟩
  · rcases h' with ⟨rfl, -⟩ | ⟨j, j1, -, j2, -⟩
    · rfl
    · exact absurd j2 (h j j1)
  · rcases h' with ⟨-, h'⟩ | ⟨j, j1, rfl, j2, j3⟩
    · exact absurd h2 (h' i h1)
    · by_cases e : i = j
      · rw [e]
      · exfalso
        obtain ⟨a, ha, -⟩ := id h2
        obtain ⟨b, hb, -⟩ := id j2
        have q1 := h3 j j1 (Ne.symm e) j2 a b ha hb
        have q2 := j3 i h1 e h2 b a hb ha
        unfold bf at q1 q2
        omega

def actF (x : Rs) (i : Nat) (now : Int) : Option (Bool × Rs) := match x.es[i]? with
  | none => none
  | some e => if e.x.acts.length = 0 then some (false, { x with es := x.es.set i (begF e), en := x.en.set i now }) else match e.x.acts[e.nx]? with
    | none => none
    | some a => if a.d = 1 then (if 0 ≤ e.rn then (if a.n ≤ 1000 then (if e.rn + 1 = a.n then some (true, endF { x with es := x.es.set i { e with bg := true, rn := e.rn + 1 } } i { e with bg := true, rn := e.rn + 1 } (now + 1)) else if e.rn + 1 < a.n then some (true, { x with es := x.es.set i { e with bg := true, rn := e.rn + 1 } }) else none) else none) else none)
      else if 0 ≤ a.n then (if a.n < 4 then (if a.d = 2 then (match x.hs[a.n.toNat]? with
          | none => none
          | some z => if z = -1 then some (false, endF { x with hs := x.hs.set a.n.toNat i, es := x.es.set i (begF e) } i (begF e) now) else some (false, { x with es := x.es.set i { e with bg := true, wt := a.n } }))
        else if a.d = 3 then some (false, endF { x with hs := x.hs.set a.n.toNat (-1), es := (x.es.set i (begF e)).map (unF a.n) } i (unF a.n (begF e)) now) else none) else none) else none

theorem act_exact {l : List Lj} (hacts : ∀ y ∈ l, y.acts.length ≤ 200) (w0 w : World) (A : Ad) (pr : Int) (tp : List Int) (rv : Value) (x x' : Rs) (hr : RunW w0 w A pr tp l.length rv x) (hrow : ∀ y ∈ l, RowSl Ac.vals w0 y.acts y.v) (hn : l.length ≤ 100) (hle : x.es.map En.x = l) (now : Nat) (hnow : now ≤ 20000) (i : Nat) (b : Bool) (h : actF x i now = some (b, x')) :
    Calls Try.prog 35 #[.pointer (some ⟨A.R, 0, none⟩), .int .i64 (i : Int), .int .i64 (now : Int)] w fun r w' => r = .returned (.bool b) ∧ RunW w0 w' A pr tp l.length rv x' := by
  unfold actF at h
  cases he : x.es[i]? with
  | none => rw [he] at h; cases h
  | some e =>
    rw [he] at h
    dsimp only at h
    have hjob : l[i]? = some e.x := by rw [← hle, List.getElem?_map, he]; rfl
    have hmem := List.mem_of_getElem? hjob
    have hro := hrow _ hmem
    have hlen := hacts _ hmem
    split at h
    · rename_i h0
      cases h
      obtain ⟨ad, c, hv⟩ := hro.len
      rw [h0] at hv
      exact act_none w0 w A pr tp l.length rv x hr i e now he ad c hv
    · split at h
      · cases h
      · rename_i a ha
        obtain ⟨d, an⟩ := a
        dsimp only at h
        split at h
        · rename_i hd
          subst hd
          split at h
          · rename_i r0
            split at h
            · rename_i h2
              split at h
              · rename_i hm
                cases h
                exact act_worked w0 w A pr tp l.length rv x hr hn i e now he hro hlen an ha hm h2 r0 (by omega) (by omega)
              · split at h
                · rename_i r1
                  cases h
                  exact act_work w0 w A pr tp l.length rv x hr hn i e now he hro hlen an ha r0 r1 h2
                · cases h
            · cases h
          · cases h
        · split at h
          · rename_i h0
            split at h
            · rename_i h4
              obtain ⟨m, rfl⟩ : ∃ m : Nat, an = (m : Int) := ⟨an.toNat, by omega⟩
              have hm : m < 4 := by omega
              rw [Int.toNat_natCast] at h
              split at h
              · rename_i hd
                subst hd
                split at h
                · cases h
                · rename_i z hz
                  split at h
                  · rename_i hz1
                    subst hz1
                    cases h
                    exact act_take w0 w A pr tp l.length rv x hr hn i e now he hro hlen m ha hm hz
                  · rename_i hz1
                    cases h
                    exact act_wait w0 w A pr tp l.length rv x hr hn i e now he hro hlen m ha hm z hz hz1
              · split at h
                · rename_i hd
                  subst hd
                  cases h
                  exact act_give w0 w A pr tp l.length rv x hr hn i e now he hro hlen m ha hm
                · cases h
            · cases h
          · cases h

theorem set_x {es : List En} {i : Nat} {e e' : En} (he : es[i]? = some e) (hx : e'.x = e.x) : (es.set i e').map En.x = es.map En.x := by
  rw [List.map_set, hx, set_same (by rw [List.getElem?_map, he]; rfl)]
theorem end_x {x : Rs} {i : Nat} {e e' : En} {now : Int} (he : x.es[i]? = some e) (hx : e'.x = e.x) : (endF x i e' now).es.map En.x = x.es.map En.x := set_x (e := e) he hx
theorem un_x (m : Int) (es : List En) : (es.map (unF m)).map En.x = es.map En.x := by
  rw [List.map_map]
  exact List.map_congr_left (fun e _ => unF_x m e)

theorem actF_x {x x' : Rs} {i : Nat} {now : Int} {b : Bool} (h : actF x i now = some (b, x')) : x'.es.map En.x = x.es.map En.x := by
  unfold actF at h
  cases he : x.es[i]? with
  | none => rw [he] at h; cases h
  | some e =>
    rw [he] at h
    dsimp only at h
    have hl := (List.getElem?_eq_some_iff.1 he).1
    have hs : ∀ e' : En, (x.es.set i e')[i]? = some e' := fun e' => List.getElem?_set_self hl
    (repeat' split at h) <;> first | (cases h; done) | skip
    all_goals first | cases h | skip
    all_goals first | exact set_x he rfl | (rw [end_x (hs _) rfl]; exact set_x he rfl) | (rw [end_x (e := unF _ (begF e)) (by rw [List.getElem?_map, hs]; rfl) rfl]; rw [un_x]; exact set_x he rfl)

end Go.Proofs.Ytcmoehednkaehah
