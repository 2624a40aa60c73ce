import Derived.Test.YtccoobcggbbciakDoorKA1
import Derived.Test.YtccoobcggbbciakDoorKY0
import Derived.Shelf.Vars
import Derived.Lib.LaidTab
import Derived.Lib.LaidU8
import Derived.Ground.NamesProg
namespace Go.Proofs.YtccoobcggbbciakDoor
open Go.ChangeShapes Go.WideShapes Go.ChangeAt Go.RowKit

open Go.Shelf
def lays199_ren : Go.Shelf.Ren := ⟨fun | 199 => 50 | 261 => 75 | 311 => 107 | 312 => 108 | n => n, fun | 21 => 21 | 4 => 4 | 51 => 136 | 141 => 138 | 0 => 0 | 196 => 172 | 193 => 169 | 3 => 3 | 198 => 175 | 49 => 173 | 194 => 170 | 201 => 178 | 226 => 226 | 46 => 166 | 227 => 227 | n => n, fun | 6 => 3 | n => n⟩
theorem lays199 : Go.Proofs.Lays.n199 Tryd.prog lays199_ren := {
  mixed := by kernel_rfl
  f199 := Tryd.func50.trans (congrArg some (by kernel_rfl))
  f261 := Tryd.func75.trans (congrArg some (by kernel_rfl))
  f311 := Tryd.func107.trans (congrArg some (by kernel_rfl))
  f312 := Tryd.func108.trans (congrArg some (by kernel_rfl))
  t0 := Tryd.underlying0
  a0 := Tryd.isAgg0
  z0 := Tryd.sizeOf0
  v0 := Tryd.zeroValue0
  t3 := Tryd.underlying3
  a3 := Tryd.isAgg3
  z3 := Tryd.sizeOf3
  v3 := Tryd.zeroValue3
  t4 := Tryd.underlying4
  a4 := Tryd.isAgg4
  z4 := Tryd.sizeOf4
  v4 := Tryd.zeroValue4
  t21 := Tryd.underlying21
  a21 := Tryd.isAgg21
  z21 := Tryd.sizeOf21
  v21 := Tryd.zeroValue21
  t46 := Tryd.underlying166
  a46 := Tryd.isAgg166
  z46 := Tryd.sizeOf166
  v46 := Tryd.zeroValue166
  t49 := Tryd.underlying173
  a49 := Tryd.isAgg173
  z49 := Tryd.sizeOf173
  v49 := Tryd.zeroValue173
  t51 := Tryd.underlying136
  a51 := Tryd.isAgg136
  z51 := Tryd.sizeOf136
  v51 := Tryd.zeroValue136
  t141 := Tryd.underlying138
  a141 := Tryd.isAgg138
  z141 := Tryd.sizeOf138
  v141 := Tryd.zeroValue138
  t193 := Tryd.underlying169
  a193 := Tryd.isAgg169
  z193 := Tryd.sizeOf169
  v193 := Tryd.zeroValue169
  t194 := Tryd.underlying170
  a194 := Tryd.isAgg170
  z194 := Tryd.sizeOf170
  v194 := Tryd.zeroValue170
  t196 := Tryd.underlying172
  a196 := Tryd.isAgg172
  z196 := Tryd.sizeOf172
  v196 := Tryd.zeroValue172
  t198 := Tryd.underlying175
  a198 := Tryd.isAgg175
  z198 := Tryd.sizeOf175
  v198 := Tryd.zeroValue175
  t201 := Tryd.underlying178
  a201 := Tryd.isAgg178
  z201 := Tryd.sizeOf178
  v201 := Tryd.zeroValue178
  t226 := Tryd.underlying226
  a226 := Tryd.isAgg226
  z226 := Tryd.sizeOf226
  v226 := Tryd.zeroValue226
  t227 := Tryd.underlying227
  a227 := Tryd.isAgg227
  z227 := Tryd.sizeOf227
  v227 := Tryd.zeroValue227
  g6 := by kernel_rfl }
theorem max_of {W : World} (h : W.ShapedOpen Tryd.prog) : ∃ m, W.cell? ⟨4, 0, none⟩ = some (.int .i64 m) :=
  Go.Proofs.cell_of_shapedOpen_int (zero := #[.int .i64 0]) (t := 3) h (of_decide_eq_true (by kernel_rfl)) (by kernel_rfl) rfl (by kernel_rfl) (by kernel_rfl) (by kernel_rfl)

theorem iface_trod {H : Type} {enc : TypeId × Value → H} {P : Program} {w : World} {base : Nat} {sp : Nat → Bool} {held : Bool} {fuel : Nat} {t : TypeId} {ms : Array (String × TypeId)} {cs : List Value} {x : DataW H × List MemPlace} (hu : P.underlying t = some (.interface ms)) (h : DataW.trod enc P w base sp held fuel t cs = some x) : ∃ ev, cs = [ev] ∧ (ev = .nilIface ∨ ∃ a b, ev = .iface a b) := by
  cases fuel with
  | zero => simp [DataW.trod] at h
  | succ n =>
    rcases cs with _ | ⟨c, _ | ⟨c2, r⟩⟩
    · simp [DataW.trod, hu] at h
    · cases c <;> simp [DataW.trod, hu] at h <;> first | exact ⟨_, rfl, .inl rfl⟩ | exact ⟨_, rfl, .inr ⟨_, _, rfl⟩⟩
    · simp [DataW.trod, hu] at h

theorem err_laid {W : World} {g : Nat} {name : String} {cs : Array Value} {fuel : Nat} {sp : Nat → Bool} {held : Bool} {x : DataW Unit × List MemPlace} {base : Nat} {enc : TypeId × Value → Unit} (hg : Tryd.prog.globalNamed name = some g) (hv : W.var? Tryd.prog name = some cs) (hd : DataW.trod enc Tryd.prog W base sp held fuel 56 cs.toList = some x) : ErrAt W g := by
  obtain ⟨ev, h1, h2⟩ := iface_trod Tryd.underlying56 hd
  have c0 := World.var?_cell hg hv 0
  rw [← Array.getElem?_toList, h1] at c0
  exact ⟨ev, c0, h2⟩

def noE : Ev := ⟨-9, 0, 0, 0, 0⟩

theorem words_laid {W : World} (h : Lib.VarReads Tryd.prog W "punctual/kernel.words" Rows.laid_punctual_kernel_words) : ∀ (k : Nat) (b : ByteArray), wordsB[k]? = some b → W.cell? ⟨1, k, none⟩ = some (.string b) := by
  obtain ⟨g, t, cs, fuel, p, hg, ht, hv, hd⟩ := h
  obtain rfl := Option.some.inj ((show Tryd.prog.globalNamed "punctual/kernel.words" = some 1 by kernel_rfl).symm.trans hg)
  obtain rfl := Option.some.inj ((show (Tryd.prog.globals[1]?).map (·.type) = some 95 by kernel_rfl).symm.trans ht)
  obtain ⟨xs, n1, rfl, hy, hlen, hxl, hf⟩ := DataW.trod_array (show Tryd.prog.underlying 95 = some (.array 7 9) by kernel_rfl) hd
  intro k b hb
  have hk : k < 7 := (List.getElem?_eq_some_iff.1 hb).1
  have h1 := hf k hk
  rw [show Tryd.prog.cellsOf 9 = 1 by kernel_rfl, Nat.mul_one] at h1
  rw [World.var?_cell hg hv k, ← Array.getElem?_toList]
  have hxk : k < xs.length := by omega
  rw [List.getElem?_eq_getElem hxk] at h1
  have hy1 : (xs.map (·.1))[k]? = some xs[k].1 := by rw [List.getElem?_map, List.getElem?_eq_getElem hxk]; rfl
  have hkl : k < cs.toList.length := by rw [hlen]; exact (show k < Tryd.prog.cellsOf 95 by rw [show Tryd.prog.cellsOf 95 = 7 by kernel_rfl]; exact hk)
  rw [show (cs.toList.drop k).take 1 = [cs.toList[k]] by rw [List.drop_eq_getElem_cons hkl]; rfl] at h1
  obtain ⟨s0, e0, g0, -⟩ := DataW.trod_string Tryd.underlying9 h1
  have hm : wordsB.map (fun b : ByteArray => (DataW.lit (.string b.data.toList) : DataW Unit)) = xs.map (·.1) := DataW.agg.inj (congrArg Prod.fst hy)
  rw [← hm, List.getElem?_map, hb, g0] at hy1
  simp only [Option.map_some, Option.some.injEq, DataW.lit.injEq, Lit.string.injEq] at hy1
  have hbs : b = s0 := bytes_same hy1
  simp only [List.cons.injEq, and_true] at e0
  rw [List.getElem?_eq_getElem hkl, e0, hbs]

theorem noE_laid {W : World} (h : Lib.VarReads Tryd.prog W "punctual/punctuallaw.noEvent" Rows.laid_punctual_punctuallaw_noEvent) : EvAt W 0 0 noE := by
  obtain ⟨g, t, cs, fuel, p, hg, ht, hv, hd⟩ := h
  obtain rfl := Option.some.inj ((show Tryd.prog.globalNamed "punctual/punctuallaw.noEvent" = some 0 by kernel_rfl).symm.trans hg)
  obtain rfl := Option.some.inj ((show (Tryd.prog.globals[0]?).map (·.type) = some 24 by kernel_rfl).symm.trans ht)
  have c0 : ∀ j, W.cell? ⟨0, j, none⟩ = cs[j]? := World.var?_cell hg hv
  have hlen : cs.toList.length = 5 := by
    obtain ⟨xs, n1, -, -, hl, -⟩ := DataW.trod_struct Tryd.underlying24 hd
    rw [hl, cellsE]
  obtain ⟨x, hx, -, hy⟩ := ev_one hlen hd
  have hxe : x = noE := by
    obtain ⟨xa, xk, xt, xm, xn⟩ := x
    unfold Rows.laid_punctual_punctuallaw_noEvent at hy
    simp only [DataW.agg.injEq, List.cons.injEq, DataW.lit.injEq, Lit.int.injEq, true_and, and_true] at hy
    obtain ⟨h1, h2, h3, h4, h5⟩ := hy
    unfold noE
    rw [← h1, ← h2, ← h3, ← h4, ← h5]
  subst hxe
  have key : ∀ k u, noE.vals[k]? = some u → W.cell? ⟨0, k, none⟩ = some u := fun k u hu => by
    rw [c0, ← Array.getElem?_toList, hx]; exact hu
  exact ⟨key 0 _ rfl, key 1 _ rfl, key 2 _ rfl, key 3 _ rfl, key 4 _ rfl⟩

theorem whiteX : WhiteExtra Tryd.prog lays199_ren := ⟨by kernel_rfl, by kernel_rfl, by kernel_rfl, by kernel_rfl, by kernel_rfl, by kernel_rfl, by kernel_rfl, by kernel_rfl⟩

theorem white_is : (Rows.laid_unicode_White_Space : DataW Unit) = Lib.whiteData := by kernel_rfl

theorem pow_laid {W : World} (h : Lib.VarReads Tryd.prog W "internal/strconv.uint64pow10" Rows.laid_internal_strconv_uint64pow10) : Lib.TabIs Tryd.prog W "internal/strconv.uint64pow10" .u64 Lib.pow10Tab := by
  obtain ⟨g, t, cs, fuel, p, hg, ht, hv, hd⟩ := h
  obtain rfl := Option.some.inj ((show Tryd.prog.globalNamed "internal/strconv.uint64pow10" = some 7 by kernel_rfl).symm.trans hg)
  obtain rfl := Option.some.inj ((show (Tryd.prog.globals[7]?).map (·.type) = some 233 by kernel_rfl).symm.trans ht)
  unfold Lib.TabIs
  rw [hv, ← Lib.cells_of_tab (zs := Lib.pow10Tab) (k := .u64) (show Tryd.prog.underlying 233 = some (.array 20 180) by kernel_rfl) (by kernel_rfl) (by kernel_rfl) (by kernel_rfl) hd]

set_option maxRecDepth 100000 in
theorem sp_laid {W : World} (h : Lib.VarReads Tryd.prog W "strings.asciiSpace" Rows.laid_strings_asciiSpace) : Lib.TabIs Tryd.prog W "strings.asciiSpace" .u8 Lib.asciiSpaceTab := by
  obtain ⟨g, t, cs, fuel, p, hg, ht, hv, hd⟩ := h
  obtain rfl := Option.some.inj ((show Tryd.prog.globalNamed "strings.asciiSpace" = some 2 by kernel_rfl).symm.trans hg)
  obtain rfl := Option.some.inj ((show (Tryd.prog.globals[2]?).map (·.type) = some 98 by kernel_rfl).symm.trans ht)
  unfold Lib.TabIs
  rw [hv, ← Lib.cells_of_tab (zs := Lib.asciiSpaceTab) (k := .u8) (show Tryd.prog.underlying 98 = some (.array 256 5) by kernel_rfl) (by kernel_rfl) (by kernel_rfl) (by kernel_rfl) hd]

theorem errv_laid {W : World} {name : String} {g : Nat} {d : DataW Unit} (hn : Tryd.prog.globalNamed name = some g) (hy : (Tryd.prog.globals[g]?).map (·.type) = some 56) (h : Lib.VarReads Tryd.prog W name d) : ErrAt W g := by
  obtain ⟨g', t, cs, fuel, p, hg, ht, hv, hd⟩ := h
  obtain rfl := Option.some.inj (hn.symm.trans hg)
  obtain rfl := Option.some.inj (hy.symm.trans ht)
  exact err_laid hg hv hd

theorem of_laidK {W : World} (h : laidMetH Tryd.prog Rows.kernelLogsRow.laid W) (hsh : W.ShapedOpen Tryd.prog) : Gr W ∧ EvAt W 0 0 noE := by
  rw [MakeChecks.laidMetH_plain _ _ _ (by kernel_rfl)] at h
  obtain ⟨ps, hlv, _, _⟩ := h
  have R := fun n d hm => Lib.LaidVars_reads hlv n d hm
  unfold Rows.kernelLogsRow at R
  dsimp only at R
  refine ⟨⟨max_of hsh, errv_laid (by kernel_rfl) (by kernel_rfl) (R "strconv.ErrSyntax" Rows.laid_strconv_ErrSyntax (by simp)), errv_laid (by kernel_rfl) (by kernel_rfl) (R "strconv.ErrRange" Rows.laid_strconv_ErrRange (by simp)), pow_laid (R _ _ (by simp)), sp_laid (R _ _ (by simp)), whiteTab_of_reads lays199 whiteX (by rw [← white_is]; exact R _ _ (by simp)), words_laid (R _ _ (by simp))⟩, noE_laid (R _ _ (by simp))⟩
end Go.Proofs.YtccoobcggbbciakDoor
