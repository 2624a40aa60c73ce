import Derived.Test.YtccoobcggbbciadDoorRI0
import Derived.Test.YtccoobcggbbciadDoorTN
import Derived.Shelf.Vars
import Derived.Lib.LaidTab
namespace Go.Proofs.YtccoobcggbbciadDoor
open Go.ChangeShapes Go.WideShapes Go.ChangeAt Go.RowKit

theorem max_of {W : World} (h : W.ShapedOpen Tryd.prog) : ∃ m, W.cell? ⟨3, 0, none⟩ = some (.int .i64 m) :=
  Go.Proofs.cell_of_shapedOpen_int (zero := #[.int .i64 0]) (t := 3) h (of_decide_eq_true (by kernel_rfl)) (by kernel_rfl) rfl (by kernel_rfl) (by kernel_rfl) (by kernel_rfl)

theorem iface_trod {H : Type} {enc : TypeId × Value → H} {P : Program} {w : World} {base : Nat} {sp : Nat → Bool} {held : Bool} {fuel : Nat} {t : TypeId} {ms : Array (String × TypeId)} {cs : List Value} {x : DataW H × List MemPlace} (hu : P.underlying t = some (.interface ms)) (h : DataW.trod enc P w base sp held fuel t cs = some x) : ∃ ev, cs = [ev] ∧ (ev = .nilIface ∨ ∃ a b, ev = .iface a b) := by
  cases fuel with
  | zero => simp [DataW.trod] at h
  | succ n =>
    rcases cs with _ | ⟨c, _ | ⟨c2, r⟩⟩
    · simp [DataW.trod, hu] at h
    · cases c <;> simp [DataW.trod, hu] at h <;> first | exact ⟨_, rfl, .inl rfl⟩ | exact ⟨_, rfl, .inr ⟨_, _, rfl⟩⟩
    · simp [DataW.trod, hu] at h

theorem err_laid {W : World} {g : Nat} {name : String} {cs : Array Value} {fuel : Nat} {sp : Nat → Bool} {held : Bool} {x : DataW Unit × List MemPlace} {base : Nat} {enc : TypeId × Value → Unit} (hg : Tryd.prog.globalNamed name = some g) (hv : W.var? Tryd.prog name = some cs) (hd : DataW.trod enc Tryd.prog W base sp held fuel 106 cs.toList = some x) : ErrAt W g := by
  obtain ⟨ev, h1, h2⟩ := iface_trod Tryd.underlying106 hd
  have c0 := World.var?_cell hg hv 0
  rw [← Array.getElem?_toList, h1] at c0
  exact ⟨ev, c0, h2⟩

theorem of_laidR {W : World} (h : laidMetH Tryd.prog Rows.tasksReadsRow.laid W) : TaAt W 1 0 noT ∧ Lib.TabIs Tryd.prog W "internal/strconv.uint64pow10" .u64 Lib.pow10Tab ∧ ErrAt W 4 ∧ ErrAt W 5 := by
  rw [MakeChecks.laidMetH_plain _ _ _ (by kernel_rfl)] at h
  obtain ⟨ps, hlv, _, _⟩ := h
  obtain ⟨ga, ta, csa, fa, pa, qa, hga, hta, hva, hda, ⟨gb, tb, csb, fb, pb, qb, hgb, htb, hvb, hdb, ⟨gc, tc, csc, fc, pc, qc, hgc, htc, hvc, hdc, ⟨gd, td, csd, fd, pd, qd, hgd, htd, hvd, hdd, ⟨ge, te, cse, fe, pe, qe, hge, hte, hve, hde, ⟨gf, tf, csf, ff, pf, qf, hgf, htf, hvf, hdf, ⟨g0, t0, cs0, f0, p0, q0, hg0, ht0, hv0, hd0, _, _⟩, _⟩, _⟩, _⟩, _⟩, _⟩, _⟩ := hlv
  refine ⟨?_, ?_, ?_, ?_⟩
  · obtain rfl := Option.some.inj (gNoTask.symm.trans hg0)
    obtain rfl := Option.some.inj (tNoTask'.symm.trans ht0)
    have c0 : ∀ j, W.cell? ⟨1, j, none⟩ = cs0[j]? := World.var?_cell hg0 hv0
    have hlen : cs0.toList.length = 7 := by
      obtain ⟨xs, n1, -, -, hl, -⟩ := DataW.trod_struct Tryd.underlying55 hd0
      rw [hl, cells32]
    obtain ⟨x, hx, -, hy⟩ := ta_one hlen hd0
    have hxe : x = noT := vals_of_val (hy.symm.trans rfl)
    subst hxe
    have key : ∀ k u, noT.vals[k]? = some u → W.cell? ⟨1, k, none⟩ = some u := fun k u hu => by
      rw [c0, ← Array.getElem?_toList, hx]; exact hu
    exact ⟨key 0 _ rfl, key 1 _ rfl, key 2 _ rfl, key 3 _ rfl, key 4 _ rfl, key 5 _ rfl, key 6 _ rfl⟩
  · obtain rfl := Option.some.inj ((show Tryd.prog.globalNamed "internal/strconv.uint64pow10" = some 6 by kernel_rfl).symm.trans hgc)
    obtain rfl := Option.some.inj ((show (Tryd.prog.globals[6]?).map (·.type) = some 199 by kernel_rfl).symm.trans htc)
    unfold Lib.TabIs
    rw [hvc, ← Lib.cells_of_tab (zs := Lib.pow10Tab) (k := .u64) (show Tryd.prog.underlying 199 = some (.array 20 183) by kernel_rfl) (by kernel_rfl) (by kernel_rfl) (by kernel_rfl) hdc]
  · obtain rfl := Option.some.inj ((show Tryd.prog.globalNamed "strconv.ErrSyntax" = some 4 by kernel_rfl).symm.trans hgf)
    obtain rfl := Option.some.inj ((show (Tryd.prog.globals[4]?).map (·.type) = some 106 by kernel_rfl).symm.trans htf)
    exact err_laid hgf hvf hdf
  · obtain rfl := Option.some.inj ((show Tryd.prog.globalNamed "strconv.ErrRange" = some 5 by kernel_rfl).symm.trans hge)
    obtain rfl := Option.some.inj ((show (Tryd.prog.globals[5]?).map (·.type) = some 106 by kernel_rfl).symm.trans hte)
    exact err_laid hge hve hde
end Go.Proofs.YtccoobcggbbciadDoor
