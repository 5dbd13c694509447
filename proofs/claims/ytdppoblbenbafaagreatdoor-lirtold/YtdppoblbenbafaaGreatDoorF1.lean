/- What the row lists of the table of forms; a world for the witness. -/
import Derived.Test.YtdppoblbenbafaaGreatDoorCards
import Derived.Test.YtdppoblbenbafaaGreatDoorTie
import Derived.Test.YtdppoblbenbafaaGreatDoorII
import Derived.ProofKit
import Derived.OpenShut
import Derived.Deep.DeepHandedRow
import Derived.Deep.DeepWitnessRowRef
import Derived.Deep.DeepLaidRun
import Derived.LaidMore
import Derived.Lib.LaidTab
import Derived.Lib.LaidU8
import Derived.Lib.SmallJoins
namespace Go.Proofs.YtdppoblbenbafaaGreatDoor
open Go.ChangeShapes Go.WideShapes Go.ChangeAt Go.RowKit Go.Deep Go.Joins
theorem own : ownKnob Tryz.prog.godebug = none := by kernel_rfl
/-- What the row lists. -/
def laidL : List (String × DataW Unit) := [("math/bits.deBruijn32tab", Rows.laid_math_bits_deBruijn32tab), ("math/bits.deBruijn64tab", Rows.laid_math_bits_deBruijn64tab), ("internal/strconv.uint64pow10", Rows.laid_internal_strconv_uint64pow10), ("patina/lir.forms", Rows.laid_patina_lir_forms)]
theorem laid_plain {W : World} (h : laidMetH Tryz.prog laidL W) : laidMet Tryz.prog laidL W := h
theorem gFor : Tryz.prog.globalNamed "patina/lir.forms" = some 0 := by kernel_rfl
theorem tFor : (Tryz.prog.globals[0]?).map (·.type) = some 155 := by kernel_rfl
theorem c155 : Tryz.prog.cellsOf 155 = 24 := by kernel_rfl
theorem c154 : Tryz.prog.cellsOf 154 = 2 := by kernel_rfl
theorem c9 : Tryz.prog.cellsOf 9 = 1 := by kernel_rfl
theorem f154 : ∃ fs, Tryz.prog.underlying 154 = some (.struct fs) ∧ (fs[1]?).map (fun f => (f.type, f.offset)) = some (9, 1) := ⟨_, Tryz.underlying154, by kernel_rfl⟩
/-- The second text of the i-th form. -/
theorem form_at {W : World} {fuel : Nat} {cs : List Value} {ds : List (DataW Unit)} {p : List MemPlace} (h : DataW.trod (fun _ => ()) Tryz.prog W 0 (fun _ => true) false fuel 155 cs = some (.agg ds, p)) (i : Nat) (hi : i < 12) (d0 : DataW Unit) (z : List UInt8) (hd : ds[i]? = some (.agg [d0, .lit (.string z)])) : cs[2 * i + 1]? = some (.string ⟨z.toArray⟩) := by
  cases fuel with
  | zero => simp [DataW.trod] at h
  | succ fuel =>
    simp only [DataW.trod, Tryz.underlying155, c154, c155] at h
    split at h
    · rename_i hl
      obtain ⟨xs, hm, hx⟩ := Option.map_eq_some_iff.1 h
      have hxs : xs.map (·.1) = ds := by
        have := congrArg Prod.fst hx
        simpa using this
      obtain ⟨b, hb, hf⟩ := Lib.mapM_at hm i i (by simp [hi])
      obtain ⟨fs, hu, hfs⟩ := f154
      obtain ⟨ys, n, -, hy, -, -, hk⟩ := DataW.trod_struct hu hf
      obtain ⟨fl, hfl, hfe⟩ := Option.map_eq_some_iff.1 hfs
      have h1 := hk 1 fl hfl
      have hb' : b.1 = .agg [d0, .lit (.string z)] := by
        have : (xs.map (·.1))[i]? = some b.1 := by simp [hb]
        rw [hxs, hd] at this
        exact (Option.some.inj this).symm
      rw [hy] at hb'
      have hys : (ys.map (·.1))[1]? = some (.lit (.string z)) := by
        have := DataW.agg.inj hb'
        rw [this]
        rfl
      simp only [List.getElem?_map, Option.map_eq_some_iff] at hys
      obtain ⟨y, hy1, hy2⟩ := hys
      rw [hy1] at h1
      have e1 : fl.type = 9 := congrArg Prod.fst hfe
      have e2 : fl.offset = 1 := congrArg Prod.snd hfe
      rw [e1, e2] at h1
      obtain ⟨s, hc, rfl, _⟩ := DataW.trod_string Tryz.underlying9 h1
      have hz : s.data.toList = z := by
        have := hy2
        simpa using this
      have hcs : cs[2 * i + 1]? = some (.string s) := by
        have t := congrArg (·[0]?) hc
        rw [c9] at t
        simp [List.getElem?_drop] at t
        rw [show 2 * i + 1 = i * 2 + 1 by omega]
        exact t
      rw [hcs, ← hz]
    · cases h
theorem tfOf {W : World} (h : laidMetH Tryz.prog laidL W) : Tfa W := by
  have hm := laid_plain h
  obtain ⟨g, t, cs, fuel, p, hg, ht, hv, hd⟩ := Lib.laidMet.reads hm (n := "patina/lir.forms") (d := Rows.laid_patina_lir_forms) (by simp [laidL])
  obtain rfl := Option.some.inj (gFor.symm.trans hg)
  obtain rfl := Option.some.inj (tFor.symm.trans ht)
  have k : ∀ i d0 z, i < 12 → (match (Rows.laid_patina_lir_forms : DataW Unit) with | .agg ds => ds[i]? | _ => none) = some (.agg [d0, .lit (.string z)]) → W.cell? ⟨0, 2 * i + 1, none⟩ = some (.string ⟨z.toArray⟩) := fun i d0 z hi hds => by
    rw [World.var?_cell gFor hv, ← Array.getElem?_toList]
    exact form_at hd i hi d0 z hds
  have k1 := k 1 _ [68, 78] (by omega) rfl
  have k2 := k 2 _ [68, 65] (by omega) rfl
  have k3 := k 3 _ [68, 83, 65, 66] (by omega) rfl
  have k4 := k 4 _ [68, 65, 78] (by omega) rfl
  have k5 := k 5 _ [65, 78, 66] (by omega) rfl
  have k6 := k 6 _ [68, 78] (by omega) rfl
  have k7 := k 7 _ [68, 83, 82] (by omega) rfl
  have k8 := k 8 _ [84] (by omega) rfl
  have k9 := k 9 _ [65, 84, 69] (by omega) rfl
  have k10 := k 10 _ [65] (by omega) rfl
  have k11 := k 11 _ [78] (by omega) rfl
  refine ⟨fun i h1 h2 => ?_, World.block_lt_of_cell? _ _ k1⟩
  obtain rfl | rfl | rfl | rfl | rfl | rfl | rfl | rfl | rfl | rfl | rfl : i = 1 ∨ i = 2 ∨ i = 3 ∨ i = 4 ∨ i = 5 ∨ i = 6 ∨ i = 7 ∨ i = 8 ∨ i = 9 ∨ i = 10 ∨ i = 11 := by omega
  · exact k1
  · exact k2
  · exact k3
  · exact k4
  · exact k5
  · exact k6
  · exact k7
  · exact k8
  · exact k9
  · exact k10
  · exact k11
/-- A world for the witness: what the initialisers lay. -/
noncomputable def laidWorld (os : Os) : World := World.doorLaid Tryz.prog 210 os
end Go.Proofs.YtdppoblbenbafaaGreatDoor
