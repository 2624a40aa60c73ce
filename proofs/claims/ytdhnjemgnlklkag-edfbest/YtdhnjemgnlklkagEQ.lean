import Derived.Test.YtdhnjemgnlklkagEK
import Derived.Test.YtdhnjemgnlklkagEX
import Derived.Test.YtdhnjemgnlklkagPX
import Derived.Test.YtdhnjemgnlklkagLA
namespace Go.Proofs.Ytdhnjemgnlklkag
open Go.ChangeShapes Go.WideShapes Go.ChangeAt Go.RowKit

theorem J_at {l : List Jb} {i : Nat} (hi : i < l.length) : l[i]? = some (J l i) := by unfold J; rw [List.getD_eq_getElem?_getD]; simp [hi]

theorem J_mem {l : List Jb} {i : Nat} (hi : i < l.length) : J l i ∈ l := List.mem_of_getElem? (J_at hi)

theorem mem_J {l : List Jb} {x : Jb} (h : x ∈ l) : ∃ i, i < l.length ∧ J l i = x := by
  obtain ⟨i, hi, e⟩ := List.getElem_of_mem h
  refine ⟨i, hi, ?_⟩
  unfold J
  rw [List.getD_eq_getElem?_getD, List.getElem?_eq_getElem hi]
  exact e

theorem sumN_G (g : Jb → Int) (l : List Jb) : FK.sumN l.length (fun i => g (J l i)) = sumG g l := by
  have key : ∀ k, k ≤ l.length → FK.sumN k (fun i => g (J l i)) = sumG g (l.take k) := by
    intro k
    induction k with
    | zero => intro _; rw [List.take_zero]; rfl
    | succ k ih =>
      intro hk
      rw [List.take_add_one, J_at (show k < l.length by omega), sumG_append]
      show FK.sumN k _ + g (J l k) = _
      rw [ih (by omega)]
      simp [sumG]
  have := key l.length (Nat.le_refl _)
  rwa [List.take_length] at this

theorem sumN_W (a b : Int) (l : List Jb) : FK.sumN l.length (fun i => if a ≤ (J l i).a ∧ (J l i).d ≤ b then (J l i).c else 0) = sumW a b l := by
  unfold sumW
  rw [← sumN_G]
  rfl

/- What is left, against what could be done. -/
def sumL (a b : Int) (l : List Jb) (left : List Int) : Int := FK.sumN l.length (fun i => if a ≤ (J l i).a ∧ (J l i).d ≤ b then L left i else 0)

def cut (a b : Int) (t : Nat) : Int := if (t : Int) ≤ b then (if a ≤ (t : Int) then (t : Int) - a else 0) else (if a ≤ b then b - a else 0)

structure Inv (l : List Jb) (left : List Int) (t : Nat) : Prop where
  len : left.length = l.length
  nneg : ∀ i, 0 ≤ L left i
  top : ∀ i, L left i ≤ 10000
  sum : ∀ a b, sumW a b l - cut a b t ≤ sumL a b l left

theorem L_map {l : List Jb} {i : Nat} (hi : i < l.length) : L (l.map (·.c)) i = (J l i).c := by
  unfold L
  rw [List.getD_eq_getElem?_getD, List.getElem?_map, J_at hi]
  rfl

theorem L_out {left : List Int} {i : Nat} (hi : ¬ i < left.length) : L left i = 0 := by
  unfold L
  rw [List.getD_eq_getElem?_getD, List.getElem?_eq_none (by omega)]
  rfl

theorem inv_init {l : List Jb} (hok : ∀ x ∈ l, okJ x) : Inv l (l.map (·.c)) 0 := by
  have hb : ∀ i, 0 ≤ L (l.map (·.c)) i ∧ L (l.map (·.c)) i ≤ 10000 := fun i => by
    by_cases hi : i < l.length
    · rw [L_map hi]
      have := hok _ (J_mem hi)
      unfold okJ at this
      omega
    · rw [L_out (by simpa using hi)]; omega
  refine ⟨by simp, fun i => (hb i).1, fun i => (hb i).2, fun a b => ?_⟩
  have e : sumL a b l (l.map (·.c)) = sumW a b l := by
    rw [← sumN_W]
    unfold sumL
    exact FK.sumN_eq _ (fun i hi => by rw [L_map hi])
  rw [e]
  have : 0 ≤ cut a b 0 := by unfold cut; split <;> split <;> omega
  omega

theorem inv_same {l : List Jb} {left : List Int} {t : Nat} (h : Inv l left t) : Inv l left (t + 1) :=
  ⟨h.len, h.nneg, h.top, fun a b => by
    have h1 := h.sum a b
    have : cut a b t ≤ cut a b (t + 1) := by unfold cut; split <;> split <;> split <;> (try split) <;> omega
    omega⟩

theorem inv_step {l : List Jb} {left : List Int} {t k : Nat} (h : Inv l left t) (hk : k < l.length) (h1 : (J l k).a ≤ (t : Int)) (h2 : (t : Int) < (J l k).d) (h3 : 0 < L left k) : Inv l (left.set k (L left k - 1)) (t + 1) := by
  have hL : ∀ j, L (left.set k (L left k - 1)) j = if j = k then L left k - 1 else L left j := fun j => L_set (by rw [h.len]; exact hk)
  refine ⟨by rw [List.length_set]; exact h.len, fun i => ?_, fun i => ?_, fun a b => ?_⟩
  · rw [hL]
    have := h.nneg i
    split <;> omega
  · rw [hL]
    have h4 := h.top i
    have h5 := h.top k
    split <;> omega
  · have h4 := h.sum a b
    by_cases hin : a ≤ (J l k).a ∧ (J l k).d ≤ b
    · have e : sumL a b l (left.set k (L left k - 1)) = sumL a b l left - 1 := by
        refine FK.sumN_one l.length k hk ?_ (fun i hi hne => ?_)
        · rw [if_pos hin, if_pos hin, hL, if_pos rfl]
        · rw [hL, if_neg hne]
      have : cut a b (t + 1) = cut a b t + 1 := by
        unfold cut
        rw [if_pos (by omega), if_pos (by omega), if_pos (by omega), if_pos (by omega)]
        omega
      omega
    · have e : sumL a b l (left.set k (L left k - 1)) = sumL a b l left := by
        refine FK.sumN_eq _ (fun i hi => ?_)
        by_cases hik : i = k
        · subst hik; rw [if_neg hin, if_neg hin]
        · rw [hL, if_neg hik]
      have : cut a b t ≤ cut a b (t + 1) := by unfold cut; split <;> split <;> split <;> (try split) <;> omega
      omega

theorem inv_end {l : List Jb} {left : List Int} {t : Nat} (hok : ∀ x ∈ l, okJ x) (h : Inv l left t) (hz : ∀ i, i < l.length → L left i ≤ 0) (a b : Int) : ¬ Bad l a b := by
  rintro ⟨-, -, ⟨j, hj, h1, h2⟩, h3⟩
  have h4 := h.sum a b
  have e : sumL a b l left ≤ 0 := by
    have e0 : FK.sumN l.length (fun i => (fun _ => (0 : Int)) (J l i)) = sumG (fun _ => 0) l := sumN_G (fun _ => 0) l
    rw [sumG_zero] at e0
    rw [← e0]
    refine FK.sumN_le _ (fun i hi => ?_)
    have := hz i hi
    show (if a ≤ (J l i).a ∧ (J l i).d ≤ b then L left i else 0) ≤ (0 : Int)
    split <;> omega
  have e1 : 1 ≤ sumW a b l := by
    have hc := hok j hj
    unfold okJ at hc
    have h5 : inW a b j ≤ sumW a b l := sumG_one (fun x hx => by have := (hok x hx).2.2.1; unfold inW; split <;> omega) hj
    have h6 : inW a b j = j.c := by unfold inW; rw [if_pos ⟨h1, h2⟩]
    omega
  have : cut a b t ≤ b - a ∨ cut a b t ≤ 0 := by unfold cut; split <;> split <;> omega
  omega

/- What is due first goes first. -/
theorem seq_of {l : List Jb} {pol : Int} {pre : Bool} : ∀ (t : Nat) (s : St), Plays l pol pre t s → ∃ f : Nat → St, f t = s ∧ (∀ u, u ≤ t → Plays l pol pre u (f u)) ∧ ∀ u, u < t → ∃ b, Pick l pol pre u (f u) b ∧ f (u + 1) = (f u).after u b
  | 0, s, h => ⟨fun _ => s, rfl, fun u hu => by rw [show u = 0 by omega]; exact h, fun u hu => by omega⟩
  | t + 1, s, h => by
    obtain ⟨s0, b, h1, h2, h3⟩ := id h
    obtain ⟨f, e, hp, hs⟩ := seq_of t s0 h1
    refine ⟨fun u => if u ≤ t then f u else s, by dsimp only; rw [if_neg (by omega)], fun u hu => ?_, fun u hu => ?_⟩
    · dsimp only
      by_cases hc : u ≤ t
      · rw [if_pos hc]; exact hp u hc
      · rw [if_neg hc, show u = t + 1 by omega]; exact h
    · dsimp only
      by_cases hc : u + 1 ≤ t
      · rw [if_pos hc, if_pos (show u ≤ t by omega)]
        exact hs u (by omega)
      · have hu' : u = t := by omega
        subst hu'
        rw [if_neg hc, if_pos (Nat.le_refl u), e]
        exact ⟨b, h2, h3⟩

theorem after_nat {s : St} {t i : Nat} : s.after t (i : Int) = ⟨s.left.set i (L s.left i - 1), if L s.left i - 1 = 0 then s.ends.set i ((t : Int) + 1) else s.ends, s.runs ++ [(i : Int)]⟩ := by
  unfold St.after
  rw [if_neg (by omega), Int.toNat_natCast]

theorem edf_run {js : List Jb} {N : Nat} {f : Nat → St} (hok : ∀ x ∈ js, okJ x) (hp : ∀ u, u ≤ N → Plays js 2 true u (f u)) (hs : ∀ u, u < N → ∃ b, Pick js 2 true u (f u) b ∧ f (u + 1) = (f u).after u b) (D : Int) :
    FK.Run js.length N (fun i => (J js i).a) (fun i => (J js i).c) (fun i => (J js i).d ≤ D) (fun t i => L (f t).left i) := by
  have hO : ∀ u, u ≤ N → Ok js u (f u) := fun u hu => plays_ok hok u _ (hp u hu)
  refine ⟨fun i hi => (hok _ (J_mem hi)).1, fun i hi => ?_, fun t i ht hi => (hO t ht).nneg i, fun t ht => ?_⟩
  · have h0 : f 0 = St.init js := hp 0 (Nat.zero_le _)
    show L (f 0).left i = _
    rw [h0]
    exact L_map hi
  · obtain ⟨b, hb, he⟩ := hs t ht
    have hn := (hO t (by omega)).nneg
    have hl := (hO t (by omega)).left
    rcases hb with ⟨h, -⟩ | ⟨-, hb⟩
    · cases h
    rcases hb with ⟨rfl, hb⟩ | ⟨k, rfl, hk, h1, h2, h3⟩
    · refine .inl ⟨fun i hi => ?_, fun i hi _ hr => ?_⟩
      · show L (f (t + 1)).left i = _
        rw [he]; rfl
      · have := hb i hi
        have := hn i
        show L (f t).left i = 0
        omega
    · have hL : ∀ j, L (f (t + 1)).left j = if j = k then L (f t).left k - 1 else L (f t).left j := fun j => by
        rw [he, after_nat]
        exact L_set (by rw [hl]; exact hk)
      refine .inr ⟨k, hk, h1, h2, ?_, fun i hi hne => ?_, ?_⟩
      · show L (f (t + 1)).left k = _
        rw [hL, if_pos rfl]
      · show L (f (t + 1)).left i = _
        rw [hL, if_neg hne]
      · by_cases hH : (J js k).d ≤ D
        · exact .inl hH
        · refine .inr fun i hi hHi hr => ?_
          apply Classical.byContradiction
          intro hne
          have hpos : 0 < L (f t).left i := by have := hn i; have : ¬ L (f t).left i = 0 := hne; omega
          have hik : i ≠ k := fun e => by subst e; exact hH hHi
          have := h3 i hi hr hpos hik
          unfold lexJ lex key at this
          rw [if_neg (by decide), if_neg (by decide)] at this
          have hHi' : (J js i).d ≤ D := hHi
          omega

theorem ends_two {js : List Jb} {N : Nat} {f : Nat → St} (hok : ∀ x ∈ js, okJ x) (hp : ∀ u, u ≤ N → Plays js 2 true u (f u)) (hs : ∀ u, u < N → ∃ b, Pick js 2 true u (f u) b ∧ f (u + 1) = (f u).after u b) :
    ∀ u, u ≤ N → ∀ i, i < js.length → (0 < L (f u).left i ∧ (f u).ends[i]? = some (-1)) ∨ ∃ e : Nat, 1 ≤ e ∧ e ≤ u ∧ (f u).ends[i]? = some (e : Int) ∧ L (f e).left i = 0 ∧ ∀ t, t < e → 0 < L (f t).left i := by
  have R := edf_run hok hp hs 0
  intro u
  induction u with
  | zero =>
    intro _ i hi
    refine .inl ⟨?_, ?_⟩
    · have h2 := (hok _ (J_mem hi)).2.2.1
      have h3 : L (f 0).left i = (J js i).c := R.init i hi
      omega
    · have h0 : f 0 = St.init js := hp 0 (Nat.zero_le _)
      rw [h0]
      unfold St.init
      simp [hi]
  | succ u ih =>
    intro hu i hi
    obtain ⟨b, hb, he⟩ := hs u (by omega)
    have hO := plays_ok hok u _ (hp u (by omega))
    have hpick := pick_rng hO hb
    rcases ih (by omega) i hi with ⟨hpos, hend⟩ | ⟨e, e1, e2, e3, e4, e5⟩
    · rcases hpick with rfl | ⟨k, rfl, hk, hkp⟩
      · refine .inl ⟨?_, ?_⟩
        · rw [he]; exact hpos
        · rw [he]; exact hend
      · have hL : ∀ j, L (f (u + 1)).left j = if j = k then L (f u).left k - 1 else L (f u).left j := fun j => by
          rw [he, after_nat]
          exact L_set (by rw [hO.left]; exact hk)
        by_cases hik : i = k
        · subst hik
          by_cases hz : L (f u).left i - 1 = 0
          · refine .inr ⟨u + 1, by omega, Nat.le_refl _, ?_, by rw [hL, if_pos rfl]; exact hz, fun t ht => ?_⟩
            · rw [he, after_nat]
              show (if L (f u).left i - 1 = 0 then (f u).ends.set i ((u : Int) + 1) else (f u).ends)[i]? = _
              rw [if_pos hz, List.getElem?_set_self (by rw [hO.ends]; exact hi)]
              rfl
            · apply Classical.byContradiction
              intro hc
              have h0 := R.nneg t i (by omega) hi
              have h0' : 0 ≤ L (f t).left i := h0
              have := R.zero (t := t) (u := u) hi (show L (f t).left i = 0 by omega) (by omega) (by omega)
              have h' : L (f u).left i = 0 := this
              omega
          · refine .inl ⟨by rw [hL, if_pos rfl]; omega, ?_⟩
            rw [he, after_nat]
            show (if L (f u).left i - 1 = 0 then (f u).ends.set i ((u : Int) + 1) else (f u).ends)[i]? = _
            rw [if_neg hz]
            exact hend
        · refine .inl ⟨by rw [hL, if_neg hik]; exact hpos, ?_⟩
          rw [he, after_nat]
          show (if L (f u).left k - 1 = 0 then (f u).ends.set k ((u : Int) + 1) else (f u).ends)[i]? = _
          split
          · rw [List.getElem?_set_ne (Ne.symm hik)]; exact hend
          · exact hend
    · refine .inr ⟨e, e1, by omega, ?_, e4, e5⟩
      rw [he]
      rcases hpick with rfl | ⟨k, rfl, hk, hkp⟩
      · exact e3
      · rw [after_nat]
        have hz : L (f u).left i = 0 := R.zero (t := e) (u := u) hi e4 e2 (by omega)
        have hik : k ≠ i := fun e => by subst e; omega
        show (if L (f u).left k - 1 = 0 then (f u).ends.set k ((u : Int) + 1) else (f u).ends)[i]? = _
        split
        · rw [List.getElem?_set_ne hik]; exact e3
        · exact e3

theorem min_at {l : List Jb} {p : Jb → Prop} (h : ∃ x ∈ l, p x) : ∃ x ∈ l, p x ∧ ∀ y ∈ l, p y → x.a ≤ y.a := by
  induction l with
  | nil => obtain ⟨x, hx, -⟩ := h; simp at hx
  | cons z l ih =>
    by_cases hl : ∃ x ∈ l, p x
    · obtain ⟨x, hx, h1, h2⟩ := ih hl
      by_cases hz : p z ∧ z.a < x.a
      · refine ⟨z, List.mem_cons_self, hz.1, fun y hy hp => ?_⟩
        rcases List.mem_cons.1 hy with rfl | hy
        · exact Int.le_refl _
        · have := h2 y hy hp; omega
      · refine ⟨x, List.mem_cons_of_mem _ hx, h1, fun y hy hp => ?_⟩
        rcases List.mem_cons.1 hy with rfl | hy
        · apply Classical.byContradiction
          intro hc
          exact hz ⟨hp, by omega⟩
        · exact h2 y hy hp
    · obtain ⟨x, hx, h1⟩ := h
      rcases List.mem_cons.1 hx with rfl | hx
      · refine ⟨x, List.mem_cons_self, h1, fun y hy hp => ?_⟩
        rcases List.mem_cons.1 hy with rfl | hy
        · exact Int.le_refl _
        · exact absurd ⟨y, hy, hp⟩ hl
      · exact absurd ⟨x, hx, h1⟩ hl

/-- Nobody is late where there is never too much to do. -/
theorem edf_done {js : List Jb} {N : Nat} {f : Nat → St} (hok : ∀ x ∈ js, okJ x) (hp : ∀ u, u ≤ N → Plays js 2 true u (f u)) (hs : ∀ u, u < N → ∃ b, Pick js 2 true u (f u) b ∧ f (u + 1) = (f u).after u b) (hN : ∀ x ∈ js, x.d ≤ (N : Int)) (hno : ∀ a b, ¬ Bad js a b) :
    ∀ i, i < js.length → L (f (J js i).d.toNat).left i = 0 := by
  intro i hi
  apply Classical.byContradiction
  intro hne
  have hoi := hok _ (J_mem hi)
  unfold okJ at hoi
  have hdN := hN _ (J_mem hi)
  have hc1 : ∀ a b, ∀ x ∈ js, 0 ≤ inW a b x := fun a b x hx => by have := (hok x hx).2.2.1; unfold inW; split <;> omega
  by_cases had : (J js i).a ≤ (J js i).d
  · have R := edf_run hok hp hs (J js i).d
    obtain ⟨t0, h1, h2⟩ := R.late (i := i) (m := (J js i).a.toNat) (dd := (J js i).d.toNat) hi (Int.le_refl _) (by show (J js i).a = _; omega) (by omega) (by omega) (fun k hk => (hok _ (J_mem hk)).2.2.1) hne
    have e1 : FK.sumN js.length (fun k => if (J js k).d ≤ (J js i).d ∧ (t0 : Int) ≤ (J js k).a then (J js k).c else 0) = sumW t0 (J js i).d js := by
      rw [← sumN_W]
      refine FK.sumN_eq _ (fun k _ => ?_)
      by_cases hc : (t0 : Int) ≤ (J js k).a ∧ (J js k).d ≤ (J js i).d
      · rw [if_pos ⟨hc.2, hc.1⟩, if_pos hc]
      · rw [if_neg (fun h => hc ⟨h.2, h.1⟩), if_neg hc]
    have h2' : ((J js i).d.toNat : Int) - (t0 : Int) < sumW t0 (J js i).d js := by rw [← e1]; exact h2
    obtain ⟨x, hx, ⟨hx1, hx2⟩, hx3⟩ := min_at (l := js) (p := fun y => (t0 : Int) ≤ y.a ∧ y.d ≤ (J js i).d) ⟨J js i, J_mem hi, by omega, Int.le_refl _⟩
    have e2 : sumW x.a (J js i).d js = sumW t0 (J js i).d js := by
      unfold sumW
      refine sumG_eq (fun y hy => ?_)
      unfold inW
      by_cases hc : (t0 : Int) ≤ y.a ∧ y.d ≤ (J js i).d
      · rw [if_pos hc, if_pos ⟨hx3 y hy hc, hc.2⟩]
      · rw [if_neg hc, if_neg (fun h => hc ⟨by omega, h.2⟩)]
    refine hno x.a (J js i).d ⟨⟨x, hx, rfl⟩, ⟨J js i, J_mem hi, rfl⟩, ⟨x, hx, Int.le_refl _, hx2⟩, ?_⟩
    rw [e2]
    omega
  · refine hno (J js i).a (J js i).d ⟨⟨J js i, J_mem hi, rfl⟩, ⟨J js i, J_mem hi, rfl⟩, ⟨J js i, J_mem hi, Int.le_refl _, Int.le_refl _⟩, ?_⟩
    have h5 : inW (J js i).a (J js i).d (J js i) ≤ sumW (J js i).a (J js i).d js := sumG_one (hc1 _ _) (J_mem hi)
    have h6 : inW (J js i).a (J js i).d (J js i) = (J js i).c := by unfold inW; rw [if_pos ⟨Int.le_refl _, Int.le_refl _⟩]
    omega

/-- Where nobody is late there is never too much to do. -/
theorem edf_fits {js : List Jb} {N : Nat} {f : Nat → St} (hok : ∀ x ∈ js, okJ x) (hp : ∀ u, u ≤ N → Plays js 2 true u (f u)) (hs : ∀ u, u < N → ∃ b, Pick js 2 true u (f u) b ∧ f (u + 1) = (f u).after u b) (hN : ∀ x ∈ js, x.d ≤ (N : Int)) (hd : ∀ i, i < js.length → L (f (J js i).d.toNat).left i = 0) (a b : Int) : ¬ Bad js a b := by
  have R := edf_run hok hp hs 0
  have key : ∀ t, t ≤ N → Inv js (f t).left t := by
    intro t
    induction t with
    | zero =>
      intro _
      have h0 : f 0 = St.init js := hp 0 (Nat.zero_le _)
      rw [h0]
      exact inv_init hok
    | succ t ih =>
      intro ht
      have hI := ih (by omega)
      obtain ⟨b, hb, he⟩ := hs t (by omega)
      rcases hb with ⟨h, -⟩ | ⟨-, hb⟩
      · cases h
      rcases hb with ⟨rfl, hb⟩ | ⟨k, rfl, hk, h1, h2, h3⟩
      · rw [he]; exact inv_same hI
      · rw [he, after_nat]
        refine inv_step hI hk h1 ?_ h2
        apply Classical.byContradiction
        intro hc
        have hok' := hok _ (J_mem hk)
        unfold okJ at hok'
        have hz := R.zero (t := (J js k).d.toNat) (u := t) hk (hd k hk) (by omega) (by omega)
        have hz' : L (f t).left k = 0 := hz
        omega
  refine inv_end hok (key N (Nat.le_refl N)) (fun i hi => ?_) a b
  have hN' := hN _ (J_mem hi)
  have hok' := hok _ (J_mem hi)
  unfold okJ at hok'
  have hz := R.zero (t := (J js i).d.toNat) (u := N) hi (hd i hi) (by omega) (Nat.le_refl _)
  have hz' : L (f N).left i = 0 := hz
  omega

theorem late_nil {R : Nat} : ∀ (l : List Jb) (es : List Int) (i : Nat), es.length = l.length → (lateFrom R l es i = [] ↔ ∀ (n : Nat) (x : Jb) (e : Int), l[n]? = some x → es[n]? = some e → ¬ (x.d < e ∨ (e < 0 ∧ x.d ≤ (R : Int))))
  | [], es, i, _ => by rw [lateFrom_end]; simp
  | x :: l, [], i, h => by simp at h
  | x :: l, e :: es, i, h => by
    have ih := late_nil (R := R) l es (i + 1) (by simpa using h)
    rw [lateFrom]
    by_cases hc : x.d < e ∨ (e < 0 ∧ x.d ≤ (R : Int))
    · rw [if_pos hc]
      constructor
      · intro h; cases h
      · intro h; exact absurd hc (h 0 x e rfl rfl)
    · rw [if_neg hc, ih]
      constructor
      · intro h n y e' h1 h2
        cases n with
        | zero => simp at h1 h2; subst h1 h2; exact hc
        | succ n => exact h n y e' (by simpa using h1) (by simpa using h2)
      · intro h n y e' h1 h2
        exact h (n + 1) y e' (by simpa using h1) (by simpa using h2)

/-- Earliest deadlines first are best. -/
theorem edf_best {js : List Jb} {N : Nat} {s : St} (hok : ∀ x ∈ js, okJ x) (hp : Plays js 2 true N s) (hN : ∀ x ∈ js, x.d ≤ (N : Int)) : lateFrom N js s.ends 0 = [] ↔ ∀ a b, ¬ Bad js a b := by
  obtain ⟨f, rfl, hpf, hsf⟩ := seq_of N s hp
  have hO := plays_ok hok N _ (hpf N (Nat.le_refl N))
  have R := edf_run hok hpf hsf 0
  rw [late_nil js (f N).ends 0 hO.ends]
  have hiff : (∀ (n : Nat) (x : Jb) (e : Int), js[n]? = some x → (f N).ends[n]? = some e → ¬ (x.d < e ∨ (e < 0 ∧ x.d ≤ (N : Int)))) ↔ ∀ i, i < js.length → L (f (J js i).d.toNat).left i = 0 := by
    constructor
    · intro h i hi
      have hN' := hN _ (J_mem hi)
      have hok' := hok _ (J_mem hi)
      unfold okJ at hok'
      rcases ends_two hok hpf hsf N (Nat.le_refl N) i hi with ⟨h1, h2⟩ | ⟨e, e1, e2, e3, e4, e5⟩
      · exact absurd (.inr ⟨by omega, hN'⟩) (h i _ _ (J_at hi) h2)
      · have h9 := h i _ _ (J_at hi) e3
        exact R.zero (t := e) hi e4 (by omega) (by omega)
    · intro h n x e hx he
      have hn : n < js.length := (List.getElem?_eq_some_iff.1 hx).1
      have hxe : x = J js n := by have := J_at hn; rw [hx] at this; exact Option.some.inj this
      subst hxe
      have hz := h n hn
      have hN' := hN _ (J_mem hn)
      have hok' := hok _ (J_mem hn)
      unfold okJ at hok'
      rcases ends_two hok hpf hsf N (Nat.le_refl N) n hn with ⟨h1, h2⟩ | ⟨e', e1, e2, e3, e4, e5⟩
      · have hz' : L (f N).left n = 0 := R.zero (t := (J js n).d.toNat) (u := N) hn hz (by omega) (Nat.le_refl _)
        omega
      · rw [e3] at he
        have hee : (e' : Int) = e := Option.some.inj he
        subst hee
        rintro (h1 | h1)
        · have := e5 (J js n).d.toNat (by omega)
          omega
        · omega
  rw [hiff]
  exact ⟨fun h => edf_fits hok hpf hsf hN h, fun h => edf_done hok hpf hsf hN h⟩

end Go.Proofs.Ytdhnjemgnlklkag
