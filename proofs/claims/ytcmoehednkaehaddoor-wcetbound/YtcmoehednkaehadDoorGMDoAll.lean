import Derived.Test.YtcmoehednkaehadDoorGMDoA
import Derived.Test.YtcmoehednkaehadDoorGMDoB
import Derived.Test.YtcmoehednkaehadDoorGMDoC
import Derived.Test.YtcmoehednkaehadDoorGMDoD
import Derived.Test.YtcmoehednkaehadDoorGMDoE
import Derived.Test.YtcmoehednkaehadDoorGMDoF
import Derived.Test.YtcmoehednkaehadDoorGMDoG
import Derived.Test.YtcmoehednkaehadDoorGMCost
namespace Go.Proofs.YtcmoehednkaehadDoor
open Go.ChangeShapes Go.WideShapes Go.ChangeAt Go.RowKit

/-- What do does. -/
theorem do_any (w : World) (mb B : Nat) (l : List In) (iv ov : Value) (ins : List Int) (sp : Int) (s : MS) (sv pv : Value) (x : In) (h : MM w mb B l iv ov ins sp s sv pv) (hf : formErr x = 0) (ht : takesOf x.op.toNat ≤ (s.st.length : Int)) (hl : s.st.length ≤ 1000) (hpc : s.pc ≤ 1000000) (hps : s.ps.length ≤ 4000000) (hc : ∀ j, 0 ≤ s.cs.getD j 0 ∧ s.cs.getD j 0 ≤ 1000) :
    Calls Tryd.prog 46 #[.pointer (some ⟨mb, 0, none⟩), x.val] w (Does w mb B l iv ov ins sp s sv pv x) := by
  obtain ⟨h1, h2, -⟩ := form_op hf
  obtain ⟨ha, h7, h3, -, -, -, -, hb, -⟩ := form_a hf
  obtain ⟨op, a, b⟩ := x
  dsimp only at h1 h2 ha h7 h3 hb ht
  obtain ⟨m, rfl⟩ : ∃ m : Nat, a = m := ⟨a.toNat, by omega⟩
  obtain ⟨t, rfl⟩ : ∃ t : Nat, b = t := ⟨b.toNat, by omega⟩
  show Calls Tryd.prog 46 #[.pointer (some ⟨mb, 0, none⟩), .agg #[.int .i64 op, .int .i64 m, .int .i64 t]] w _
  have tk1 : ∀ q : Nat, takesOf q = 1 → takesOf q ≤ (s.st.length : Int) → ∃ n, s.st.length = n + 1 := fun q e h => ⟨s.st.length - 1, by omega⟩
  have tk2 : ∀ q : Nat, takesOf q = 2 → takesOf q ≤ (s.st.length : Int) → ∃ n, s.st.length = n + 2 := fun q e h => ⟨s.st.length - 2, by omega⟩
  rcases eighteen h1 h2 with e | e | e | e | e | e | e | e | e | e | e | e | e | e | e | e | e | e <;> subst e
  · exact do_1 w mb B l iv ov ins sp s sv pv _ _ h hl hpc
  · exact do_2 w mb B l iv ov ins sp s sv pv m _ h hl hpc (by have := h7 (by omega); omega)
  · obtain ⟨n, hn⟩ := tk1 _ (by decide) ht
    exact do_3 w mb B l iv ov ins sp s sv pv m _ n h hl hpc (by have := h7 (by omega); omega) hn
  · obtain ⟨n, hn⟩ := tk2 _ (by decide) ht
    exact do_4 w mb B l iv ov ins sp s sv pv _ _ n h hl hpc hn
  · obtain ⟨n, hn⟩ := tk2 _ (by decide) ht
    exact do_5 w mb B l iv ov ins sp s sv pv _ _ n h hl hpc hn
  · obtain ⟨n, hn⟩ := tk2 _ (by decide) ht
    exact do_6 w mb B l iv ov ins sp s sv pv _ _ n h hl hpc hn
  · obtain ⟨n, hn⟩ := tk2 _ (by decide) ht
    exact do_7 w mb B l iv ov ins sp s sv pv _ _ n h hl hpc hn
  · obtain ⟨n, hn⟩ := tk2 _ (by decide) ht
    exact do_8 w mb B l iv ov ins sp s sv pv _ _ n h hl hpc hn
  · exact do_9 w mb B l iv ov ins sp s sv pv m _ h hl hpc (by have := h3 (by omega); omega)
  · obtain ⟨n, hn⟩ := tk1 _ (by decide) ht
    exact do_10 w mb B l iv ov ins sp s sv pv m _ n h hl hpc hn hps
  · exact do_11 w mb B l iv ov ins sp s sv pv m _ h hl hpc
  · obtain ⟨n, hn⟩ := tk1 _ (by decide) ht
    by_cases hz : s.top = 0
    · exact do_12t w mb B l iv ov ins sp s sv pv m _ n h hl hpc hn hz
    · exact do_12f w mb B l iv ov ins sp s sv pv _ _ n h hl hpc hn hz
  · exact do_13 w mb B l iv ov ins sp s sv pv m _ h hl hpc (by have := h7 (by omega); omega)
  · have hm : m < 8 := by have := h7 (by omega); omega
    have hcm := hc m
    by_cases hz : s.cs.getD m 0 = 0
    · exact do_14f w mb B l iv ov ins sp s sv pv m _ h hl hpc hm hz
    · exact do_14t w mb B l iv ov ins sp s sv pv m t _ h hl hpc hm rfl (by omega) hcm.2
  · exact do_15 w mb B l iv ov ins sp s sv pv m _ h hl hpc (by have := h7 (by omega); omega)
  · exact do_16 w mb B l iv ov ins sp s sv pv _ _ h hl hpc
  · exact do_17 w mb B l iv ov ins sp s sv pv _ _ h hl hpc
  · exact do_18 w mb B l iv ov ins sp s sv pv _ _ h hl hpc
end Go.Proofs.YtcmoehednkaehadDoor
