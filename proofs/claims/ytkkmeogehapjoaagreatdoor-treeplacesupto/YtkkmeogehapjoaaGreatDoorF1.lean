/- What the rows list of the library's tables; a world for the witness. -/
import Derived.Test.YtkkmeogehapjoaaGreatDoorCards
import Derived.Test.YtkkmeogehapjoaaGreatDoorTie
import Derived.Test.YtkkmeogehapjoaaGreatDoorTA
import Derived.ProofKit
import Derived.OpenShut
import Derived.Deep.DeepHandedRow
import Derived.Deep.DeepWitnessRowRef
import Derived.Deep.DeepLaidRun
import Derived.LaidMore
import Derived.Lib.LaidTab
import Derived.Lib.LaidU8
import Derived.Lib.SmallJoins
namespace Go.Proofs.YtkkmeogehapjoaaGreatDoor
open Go.ChangeShapes Go.WideShapes Go.ChangeAt Go.RowKit Go.Deep Go.Joins
theorem own : ownKnob Tryz.prog.godebug = none := by kernel_rfl
/-- What every row lists. -/
def laidL : List (String × DataW Unit) := [("math/bits.deBruijn32tab", Rows.laid_math_bits_deBruijn32tab), ("math/bits.deBruijn64tab", Rows.laid_math_bits_deBruijn64tab), ("internal/strconv.uint64pow10", Rows.laid_internal_strconv_uint64pow10), ("unicode/utf8.acceptRanges", Rows.laid_unicode_utf8_acceptRanges), ("strconv.ErrRange", Rows.laid_strconv_ErrRange), ("strconv.ErrSyntax", Rows.laid_strconv_ErrSyntax), ("unicode/utf8.first", Rows.laid_unicode_utf8_first)]
theorem laid_plain {W : World} (h : laidMetH Tryz.prog laidL W) : laidMet Tryz.prog laidL W := h
theorem u8x : U8Extra Tryz.prog Tryz.lays260_ren := ⟨by kernel_rfl, by kernel_rfl, by kernel_rfl, by kernel_rfl, by kernel_rfl, by kernel_rfl, by kernel_rfl⟩
theorem first_eq : Rows.laid_unicode_utf8_first = Lib.firstData := by kernel_rfl
theorem accept_eq : (Rows.laid_unicode_utf8_acceptRanges : DataW Unit) = Lib.acceptData := by kernel_rfl
theorem pow_eq : (Rows.laid_internal_strconv_uint64pow10 : DataW Unit) = Lib.tabData .u64 Lib.pow10Tab := by kernel_rfl
theorem iface_of {W : World} {fuel : Nat} {t : TypeId} {ms : Array (String × TypeId)} {cs : List Value} {n : String} {d : DataW Unit} {p : List MemPlace} (ht : Tryz.prog.underlying t = some (.interface ms)) (h : DataW.trod (fun _ => ()) Tryz.prog W 0 (fun _ => true) false fuel t cs = some (.iface n d, p)) : ∃ u v, cs = [.iface u v] := by
  cases fuel with
  | zero => simp [DataW.trod] at h
  | succ m =>
    unfold DataW.trod at h
    rw [ht] at h
    split at h <;> simp_all
theorem tPow : (Tryz.prog.globals[0]?).map (·.type) = some 155 := by kernel_rfl
theorem cPow : Tryz.prog.cellsOf 155 = 20 := by kernel_rfl
theorem c74 : Tryz.prog.cellsOf 74 = 1 := by kernel_rfl
theorem err_cell {W : World} {n : String} {g : Nat} {m : String} {d : DataW Unit} (hg : Tryz.prog.globalNamed n = some g) (ht : (Tryz.prog.globals[g]?).map (·.type) = some 99) (h : Lib.VarReads Tryz.prog W n (.iface m d)) : ∃ te pe, W.cell? ⟨g, 0, none⟩ = some (.iface te pe) := by
  obtain ⟨g', t, cs, fuel, p, hg', ht', hv, hd⟩ := h
  obtain rfl := Option.some.inj (hg.symm.trans hg')
  obtain rfl := Option.some.inj (ht.symm.trans ht')
  obtain ⟨u, v, e⟩ := iface_of Tryz.underlying99 hd
  have := World.var?_cell hg hv 0
  rw [← Array.getElem?_toList, e] at this
  exact ⟨u, v, this⟩
theorem tbOf {W : World} (h : laidMetH Tryz.prog laidL W) : Tb W := by
  have hm := laid_plain h
  obtain ⟨t1, p1, e1⟩ := err_cell (g := 6) (by kernel_rfl) (by kernel_rfl) (Lib.laidMet.reads hm (n := "strconv.ErrSyntax") (d := Rows.laid_strconv_ErrSyntax) (by simp [laidL]))
  obtain ⟨t2, p2, e2⟩ := err_cell (g := 7) (by kernel_rfl) (by kernel_rfl) (Lib.laidMet.reads hm (n := "strconv.ErrRange") (d := Rows.laid_strconv_ErrRange) (by simp [laidL]))
  have u1 : Lib.VarReads Tryz.prog W "unicode/utf8.first" Lib.firstData := by
    rw [← first_eq]
    exact Lib.laidMet.reads hm (by simp [laidL])
  have u2 : Lib.VarReads Tryz.prog W "unicode/utf8.acceptRanges" Lib.acceptData := by
    rw [← accept_eq]
    exact Lib.laidMet.reads hm (by simp [laidL])
  have u3 : Lib.VarReads Tryz.prog W "internal/strconv.uint64pow10" (Lib.tabData .u64 Lib.pow10Tab) := by
    rw [← pow_eq]
    exact Lib.laidMet.reads hm (by simp [laidL])
  refine ⟨⟨t1, p1, e1⟩, ⟨t2, p2, e2⟩, utf8Tabs_of_reads Tryz.lays260 u8x u1 u2, ?_, World.block_lt_of_cell? _ _ e2⟩
  obtain ⟨g, t, cs, fuel, p, hg, ht, hv, hd⟩ := u3
  obtain rfl := Option.some.inj (gPow.symm.trans hg)
  obtain rfl := Option.some.inj (tPow.symm.trans ht)
  have hc := Lib.cells_of_tab Tryz.underlying155 Tryz.underlying74 c74 cPow hd
  unfold Lib.TabIs
  rw [hv, ← hc]
/-- A world for the witness: what the initialisers lay, and the great table. -/
noncomputable def laidWorld (os : Os) : World :=
  { World.doorLaid Tryz.prog 191 os with heap := (World.doorLaid Tryz.prog 191 os).heap.modify 4 fun
      | .cells _ t frozen => .cells (Lib.firstTab.map fun z => Value.int .u8 z).toArray t frozen
      | o => o }
theorem tmOf {W : World} (h : laidMetH Tryz.prog laidL W) (hs : W.ShapedOpen Tryz.prog) : Tm W := ⟨tbOf h, Tryz.laysM219.s1_3 W hs⟩
end Go.Proofs.YtkkmeogehapjoaaGreatDoor
