/- What the row lists of the table of forms; a world for the witness. -/
import Derived.Test.YthkkoppnenfnfaaDoorCards
import Derived.Test.YthkkoppnenfnfaaDoorTie
import Derived.Test.YthkkoppnenfnfaaDoorA5
import Derived.ProofKit
import Derived.OpenShut
import Derived.Deep.DeepHandedRow
import Derived.Deep.DeepWitnessRowRef
import Derived.Deep.DeepLaidRun
import Derived.LaidMore
import Derived.Lib.LaidTab
import Derived.Lib.LaidU8
import Derived.Lib.SmallJoins
namespace Go.Proofs.YthkkoppnenfnfaaDoor
open Go.ChangeShapes Go.WideShapes Go.ChangeAt Go.RowKit Go.Deep Go.Joins
theorem own : ownKnob Tryd.prog.godebug = none := by kernel_rfl
/-- What the row lists. -/
def laidL : List (String × DataW Unit) := [("math/bits.deBruijn32tab", Rows.laid_math_bits_deBruijn32tab), ("math/bits.deBruijn64tab", Rows.laid_math_bits_deBruijn64tab), ("internal/strconv.uint64pow10", Rows.laid_internal_strconv_uint64pow10), ("patina/lir.forms", Rows.laid_patina_lir_forms)]
theorem laid_plain {W : World} (h : laidMetH Tryd.prog laidL W) : laidMet Tryd.prog laidL W := h
theorem gFor : Tryd.prog.globalNamed "patina/lir.forms" = some 0 := by kernel_rfl
theorem tFor : (Tryd.prog.globals[0]?).map (·.type) = some 104 := by kernel_rfl
theorem c104 : Tryd.prog.cellsOf 104 = 24 := by kernel_rfl
theorem c103 : Tryd.prog.cellsOf 103 = 2 := by kernel_rfl
theorem c9 : Tryd.prog.cellsOf 9 = 1 := by kernel_rfl
theorem f103 : ∃ fs, Tryd.prog.underlying 103 = some (.struct fs) ∧ (fs[1]?).map (fun f => (f.type, f.offset)) = some (9, 1) := ⟨_, Tryd.underlying103, by kernel_rfl⟩
/-- The second text of the i-th form. -/
theorem form_at {W : World} {fuel : Nat} {cs : List Value} {ds : List (DataW Unit)} {p : List MemPlace} (h : DataW.trod (fun _ => ()) Tryd.prog W 0 (fun _ => true) false fuel 104 cs = some (.agg ds, p)) (i : Nat) (hi : i < 12) (d0 : DataW Unit) (z : List UInt8) (hd : ds[i]? = some (.agg [d0, .lit (.string z)])) : cs[2 * i + 1]? = some (.string ⟨z.toArray⟩) := by
  cases fuel with
  | zero => simp [DataW.trod] at h
  | succ fuel =>
    simp only [DataW.trod, Tryd.underlying104, c103, c104] at h
    split at h
    · rename_i hl
      obtain ⟨xs, hm, hx⟩ := Option.map_eq_some_iff.1 h
      have hxs : xs.map (·.1) = ds := by
        have := congrArg Prod.fst hx
        simpa using this
      obtain ⟨b, hb, hf⟩ := Lib.mapM_at hm i i (by simp [hi])
      obtain ⟨fs, hu, hfs⟩ := f103
      obtain ⟨ys, n, -, hy, -, -, hk⟩ := DataW.trod_struct hu hf
      obtain ⟨fl, hfl, hfe⟩ := Option.map_eq_some_iff.1 hfs
      have h1 := hk 1 fl hfl
      have hb' : b.1 = .agg [d0, .lit (.string z)] := by
        have : (xs.map (·.1))[i]? = some b.1 := by simp [hb]
        rw [hxs, hd] at this
        exact (Option.some.inj this).symm
      rw [hy] at hb'
      have hys : (ys.map (·.1))[1]? = some (.lit (.string z)) := by
        have := DataW.agg.inj hb'
        rw [this]
        rfl
      simp only [List.getElem?_map, Option.map_eq_some_iff] at hys
      obtain ⟨y, hy1, hy2⟩ := hys
      rw [hy1] at h1
      have e1 : fl.type = 9 := congrArg Prod.fst hfe
      have e2 : fl.offset = 1 := congrArg Prod.snd hfe
      rw [e1, e2] at h1
      obtain ⟨s, hc, rfl, _⟩ := DataW.trod_string Tryd.underlying9 h1
      have hz : s.data.toList = z := by
        have := hy2
        simpa using this
      have hcs : cs[2 * i + 1]? = some (.string s) := by
        have t := congrArg (·[0]?) hc
        rw [c9] at t
        simp [List.getElem?_drop] at t
        rw [show 2 * i + 1 = i * 2 + 1 by omega]
        exact t
      rw [hcs, ← hz]
    · cases h
theorem tfOf {W : World} (h : laidMetH Tryd.prog laidL W) : Tf W := by
  have hm := laid_plain h
  obtain ⟨g, t, cs, fuel, p, hg, ht, hv, hd⟩ := Lib.laidMet.reads hm (n := "patina/lir.forms") (d := Rows.laid_patina_lir_forms) (by simp [laidL])
  obtain rfl := Option.some.inj (gFor.symm.trans hg)
  obtain rfl := Option.some.inj (tFor.symm.trans ht)
  have k : ∀ i d0 z, i < 12 → (match (Rows.laid_patina_lir_forms : DataW Unit) with | .agg ds => ds[i]? | _ => none) = some (.agg [d0, .lit (.string z)]) → W.cell? ⟨0, 2 * i + 1, none⟩ = some (.string ⟨z.toArray⟩) := fun i d0 z hi hds => by
    rw [World.var?_cell gFor hv, ← Array.getElem?_toList]
    exact form_at hd i hi d0 z hds
  have k1 := k 1 _ [68, 78] (by omega) rfl
  have k7 := k 7 _ [68, 83, 82] (by omega) rfl
  have k10 := k 10 _ [65] (by omega) rfl
  exact ⟨k1, k7, k10, World.block_lt_of_cell? _ _ k1⟩
/-- A world for the witness: what the initialisers lay. -/
noncomputable def laidWorld (os : Os) : World := World.doorLaid Tryd.prog 118 os
theorem met_row (os : Os) : laidMet Tryd.prog laidL ((laidWorld os).forCall (fun _ _ => 0) ⟨#[], #[.string ⟨#[]⟩, .int .i64 0, .int .i64 0], []⟩).memory :=
  laidMet_of_run3 8 (by kernel_rfl) (by kernel_rfl) (by kernel_rfl)
end Go.Proofs.YthkkoppnenfnfaaDoor
