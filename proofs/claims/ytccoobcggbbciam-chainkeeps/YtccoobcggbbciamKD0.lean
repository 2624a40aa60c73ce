import Derived.Test.YtccoobcggbbciamKC7
import Derived.Test.YtccoobcggbbciamSS7
import Derived.Test.YtccoobcggbbciamHY2
namespace Go.Proofs.Ytccoobcggbbciam
open Go.ChangeShapes Go.WideShapes Go.ChangeAt Go.RowKit

/- Chapter 18, pure: which comings the law takes, and what it asks of the ends. -/
namespace Keep
def TakeC (l : List Pa) (c : Co) : Prop := 0 ≤ c.k ∧ c.k < (l.length : Int) ∧ (l.getD c.k.toNat paZ).fr = -1 ∧ 0 ≤ c.a ∧ c.a ≤ 2000
def FarC (l : List Pa) (c o : Co) : Prop := o.k = c.k → (l.getD c.k.toNat paZ).t ≤ max (c.a - o.a) (o.a - c.a)
structure TakeTo (l : List Pa) (cs : List Co) (j : Nat) (e : Int) : Prop where
  e0 : 0 ≤ e
  e1 : e ≤ 12000
  at_ : ∀ n, n < j → TakeC l (Ck cs n) ∧ (Ck cs n).a + (l.getD (Ck cs n).k.toNat paZ).t ≤ e ∧ ∀ m, m < n → FarC l (Ck cs n) (Ck cs m)

theorem TakeTo.zero (l : List Pa) (cs : List Co) : TakeTo l cs 0 0 := ⟨by omega, by omega, fun n h => by omega⟩
theorem part_t {l : List Pa} (hok : PsOk l) {k : Nat} (hk : k < l.length) : 1 ≤ (l.getD k paZ).t ∧ (l.getD k paZ).t ≤ 10000 := by
  have h := hok.at_ k _ (some_getD (d := paZ) hk)
  have h1 := h.c
  have h2 := h.cd
  have h3 := h.dt
  have h4 := h.t
  omega
theorem TakeTo.next {l : List Pa} {cs : List Co} {j : Nat} {e : Int} (hok : PsOk l) (h : TakeTo l cs j e) (hc : TakeC l (Ck cs j)) (hf : ∀ m, m < j → FarC l (Ck cs j) (Ck cs m)) : TakeTo l cs (j + 1) (max e ((Ck cs j).a + (l.getD (Ck cs j).k.toNat paZ).t)) := by
  obtain ⟨h0, h1, h2⟩ := h
  have ht := part_t hok (k := (Ck cs j).k.toNat) (by have := hc.1; have := hc.2.1; omega)
  have hc4 := hc.2.2.2
  refine ⟨by omega, by omega, fun n hn => ?_⟩
  rcases Nat.lt_or_ge n j with g | g
  · obtain ⟨a1, a2, a3⟩ := h2 n g
    exact ⟨a1, by omega, a3⟩
  · have : n = j := by omega
    subst this
    exact ⟨hc, by omega, hf⟩

theorem lg_of {l : List Pa} {cs : List Co} {e : Int} (hok : PsOk l) (h : TakeTo l cs cs.length e) : Lg l cs (ordF cs) := by
  refine ⟨hok, fun n hn => ?_, fun n hn => ?_, fun n => ?_, ?_, ?_⟩
  · obtain ⟨⟨a1, a2, a3, -⟩, -⟩ := h.at_ n hn
    exact ⟨(Ck cs n).k.toNat, by show (Ck cs n).k = _; omega, by omega, a3⟩
  · exact (h.at_ n hn).1.2.2.2.1
  · rw [(ordF_perm cs).mem_iff, List.mem_range]
  · refine (ordF_sorted cs).imp fun {a b} h => ?_
    unfold leC at h
    simp only [decide_eq_true_eq] at h
    show (Ck cs a).a ≤ (Ck cs b).a
    omega
  · exact (ordF_perm cs).nodup_iff.2 List.nodup_range

theorem sp_of {l : List Pa} {cs : List Co} {e : Int} (h : TakeTo l cs cs.length e) : Sp l cs := by
  intro n n' hn hn' hne hk ha
  show (Ck cs n).a + (l.getD (Ck cs n).k.toNat paZ).t ≤ (Ck cs n').a
  have hk' : (Ck cs n).k = (Ck cs n').k := hk
  have ha' : (Ck cs n).a ≤ (Ck cs n').a := ha
  rcases Nat.lt_or_ge n n' with g | g
  · have h9 := (h.at_ n' hn').2.2 n g hk'
    rw [← hk'] at h9
    have h8 : (l.getD (Ck cs n).k.toNat paZ).t ≤ (Ck cs n').a - (Ck cs n).a := by omega
    omega
  · have h9 := (h.at_ n hn).2.2 n' (by omega) hk'.symm
    omega

theorem chkC_zero {l : List Pa} : ∀ (cs : List Co) (i : Nat), (∀ c ∈ cs, 0 ≤ c.k ∧ c.k < (l.length : Int) ∧ (l.getD c.k.toNat paZ).fr = -1 ∧ 0 ≤ c.a ∧ c.a ≤ 20000) → chkC l cs i = (0, 0)
  | [], _, _ => rfl
  | c :: r, i, h => by
    obtain ⟨a1, a2, a3, a4, a5⟩ := h c List.mem_cons_self
    unfold chkC
    rw [if_neg (by rw [not_or]; exact ⟨by simp [within]; omega, fun g => g a3⟩), if_neg (by simp [within]; omega)]
    exact chkC_zero r (i + 1) (fun y hy => h y (List.mem_cons_of_mem _ hy))

theorem chk3_of {l : List Pa} {cs : List Co} {tk : List Int} {e : Int} (h0 : (chkP l).1 = 0) (hl : cs.length ≤ 200) (h : TakeTo l cs cs.length e) (_ : e ≤ 3000) (hn : (chkPl l cs tk e).1 ≠ 0) : (chkPl l cs tk e).1 = 3 := by
  have hz : chkC l cs 0 = (0, 0) := chkC_zero cs 0 (fun c hc => by
    obtain ⟨n, hn⟩ := List.getElem?_of_mem hc
    obtain ⟨⟨a1, a2, a3, a4, a5⟩, -⟩ := h.at_ n (List.getElem?_eq_some_iff.1 hn).1
    have e9 : Ck cs n = c := getD_some hn
    rw [e9] at a1 a2 a3 a4 a5
    exact ⟨a1, a2, a3, a4, by omega⟩)
  unfold chkPl at hn ⊢
  rw [if_neg (by simpa using h0), if_neg (by omega)] at hn ⊢
  by_cases g : within e 0 20000 = false ∨ 0 ≤ firstNeg tk 0
  · rw [if_pos g]
  · rw [if_neg g, hz] at hn
    exact absurd rfl hn

theorem resps_zero {l : List Pa} {ts : List Int} {z : Int} (h : RespsR l ts (0, z)) : RespsR l ts (0, 0) ∧ z = 0 := by
  have h9 := h
  rcases h with ⟨h1, -, h2⟩ | ⟨h1, res, h2, ⟨-, -, h3⟩ | ⟨-, -, h3⟩⟩
  · rw [← h2] at h1; exact absurd rfl h1
  · cases h3
  · cases h3; exact ⟨h9, rfl⟩
theorem resps_none {l : List Pa} {ts : List Int} {x z : Int} (h : RespsR l ts (x, z)) (hx : x ≠ 0) : ts = [] := by
  rcases h with ⟨h1, h3, h2⟩ | ⟨h1, res, h2, ⟨-, h4, h3⟩ | ⟨-, -, h3⟩⟩
  · exact h3
  · exact h4
  · cases h3; exact absurd rfl hx
theorem resps_ok {l : List Pa} {ts : List Int} (h : RespsR l ts (0, 0)) : PsOk l ∧ ts.length = l.length ∧ (chkP l).1 = 0 := by
  rcases h with ⟨h1, -, h2⟩ | ⟨h1, res, h2, ⟨-, -, h3⟩ | ⟨-, h4, h3⟩⟩
  · rw [← h2] at h1; exact absurd rfl h1
  · cases h3
  · exact ⟨chkP_ok h1, h4, h1⟩

theorem said_of {l : List Pa} {tk ts : List Int} {cs : List Co} {e : Int} (hr : RespsR l ts (0, 0)) (hT : TakeTo l cs cs.length e) (n k : Nat) (hn : n < cs.length) (hk : k < l.length) :
    ∃ r v x, (playTo l tk cs (ordF cs) e.toNat).2.ends.getD n [] = r ∧ r.length = l.length ∧ r[k]? = some v ∧ ts[k]? = some x ∧ -1 ≤ v ∧ v ≤ 12000 ∧ (rt l k = (Ck cs n).k.toNat → 0 ≤ v ∧ v - (Ck cs n).a ≤ x) ∧ (rt l k ≠ (Ck cs n).k.toNat → v = -1) := by
  obtain ⟨hok, htl, -⟩ := resps_ok hr
  have hL := lg_of hok hT
  obtain ⟨g1, g2⟩ := chain_pure (tk := tk) (N := e.toNat) hr hL (sp_of hT) (fun n hn => by
    have := (hT.at_ n hn).2.1
    have h0 := hT.e0
    show (Ck cs n).a + (l.getD (Ck cs n).k.toNat paZ).t ≤ _
    omega) n k hn hk
  obtain ⟨hI, -⟩ := hL.trace (tk := tk) e.toNat
  have her := hI.er n hn
  have hev := hI.ev n k
  have he1 := hT.e1
  have hk' : k < ((Ss l tk cs (ordF cs) e.toNat).ends.getD n []).length := by rw [her]; exact hk
  have hv : ((Ss l tk cs (ordF cs) e.toNat).ends.getD n [])[k]? = some (En (Ss l tk cs (ordF cs) e.toNat) n k) := some_getD (d := (-1 : Int)) hk'
  refine ⟨_, _, _, rfl, her, hv, some_getD (d := (0 : Int)) (by rw [htl]; exact hk), ?_, ?_, fun h => ?_, fun h => ?_⟩
  · rcases hev with h | h <;> omega
  · have h0 := hT.e0
    rcases hev with h | h <;> omega
  · exact g1 h
  · exact g2 h

theorem rt_root {l : List Pa} {k : Nat} (h : fr l k = -1) : rt l k = k := by
  unfold rt
  cases k with
  | zero => rfl
  | succ k => rw [rtG, if_pos h]
end Keep
end Go.Proofs.Ytccoobcggbbciam
