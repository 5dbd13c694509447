/- What RvApart and RvTexts share: the listed tables as the walks read them; a world for the witness. -/
import Derived.Test.YtndbkkldfinggaaDoorFrame
import Derived.Test.YtndbkkldfinggaaDoorS2
namespace Go.Proofs.YtndbkkldfinggaaDoor
open Go.ChangeShapes Go.WideShapes Go.ChangeAt Go.RowKit Go.Deep Go.Joins
theorem laid_tail {P : Program} {n : String} {d : DataW Unit} {r : List (String × DataW Unit)} {w : World} (h : laidMet P ((n, d) :: r) w) : laidMet P r w := by
  obtain ⟨ps, ⟨g, t, cs, fuel, p, q, -, -, -, -, hq, rfl⟩, hn, hc⟩ := h
  exact ⟨q, hq, (List.nodup_append.1 hn).2.1, fun b o hb => hc b o (List.mem_append_right _ hb)⟩
/-- An array of texts that reads as the list holds them, cell for cell. -/
theorem cells_of_texts {H : Type} {enc : TypeId × Value → H} {P : Program} {w : World} {base : Nat} {sp : Nat → Bool} {held : Bool} {fuel : Nat} {t e : TypeId} {n : Nat} {cs : List Value} {zs : List (List UInt8)} {p : List MemPlace}
    (ht : P.underlying t = some (.array n e)) (he : P.underlying e = some .string) (hce : P.cellsOf e = 1) (hct : P.cellsOf t = n)
    (h : DataW.trod enc P w base sp held fuel t cs = some (.agg (zs.map fun z => .lit (.string z)), p)) : cs = zs.map fun z => Value.string (tx z) := by
  cases fuel with
  | zero => simp [DataW.trod] at h
  | succ fuel =>
    simp only [DataW.trod, ht, hce, hct, Nat.mul_one] at h
    split at h
    · rename_i hl
      obtain ⟨xs, hm, hx⟩ := Option.map_eq_some_iff.1 h
      have hxs : xs.map (·.1) = zs.map fun z => (DataW.lit (.string z) : DataW H) := by
        have := congrArg Prod.fst hx
        simpa using this
      have hxl : xs.length = n := by simpa using Lib.mapM_length hm
      have hzl : zs.length = n := by
        have := congrArg List.length hxs
        simp at this
        omega
      apply List.ext_getElem?
      intro i
      by_cases hi : i < n
      · obtain ⟨b, hb, hf⟩ := Lib.mapM_at hm i i (by simp [hi])
        obtain ⟨z, hc, rfl, _⟩ := DataW.trod_string he hf
        have h1 : cs[i]? = some (.string z) := by
          have := congrArg (·[0]?) hc
          simpa [List.getElem?_take, List.getElem?_drop] using this
        have h2 : (xs.map (·.1))[i]? = some (DataW.lit (.string z.data.toList) : DataW H) := by simp [hb]
        rw [hxs] at h2
        simp only [List.getElem?_map, Option.map_eq_some_iff, DataW.lit.injEq, Lit.string.injEq] at h2
        obtain ⟨z', hz', rfl⟩ := h2
        rw [h1, List.getElem?_map, hz']
        simp [tx]
      · rw [List.getElem?_eq_none (by omega), List.getElem?_eq_none (by simp; omega)]
    · cases h
theorem gNam : Tryd.prog.globalNamed "patina/rv.names" = some 1 := by kernel_rfl
theorem gNamType : (Tryd.prog.globals[1]?).map (·.type) = some 70 := by kernel_rfl
theorem cells70 : Tryd.prog.cellsOf 70 = 66 := by kernel_rfl
theorem cells9 : Tryd.prog.cellsOf 9 = 1 := by kernel_rfl
theorem gPowType : (Tryd.prog.globals[2]?).map (·.type) = some 110 := by kernel_rfl
theorem cells110 : Tryd.prog.cellsOf 110 = 20 := by kernel_rfl
theorem nam_of_head {W : World} {rest : List (String × DataW Unit)} (h : laidMet Tryd.prog (("patina/rv.names", Rows.laid_patina_rv_names) :: rest) W) : W.var? Tryd.prog "patina/rv.names" = some (([] :: nmL).map fun z => Value.string (tx z)).toArray := by
  obtain ⟨_, ⟨g, t, cs, fuel, p, q, hg, ht, hv, hd, -, -⟩, -, -⟩ := h
  obtain rfl := Option.some.inj (gNam.symm.trans hg)
  obtain rfl := Option.some.inj (gNamType.symm.trans ht)
  rw [hv, ← cells_of_texts (zs := [] :: nmL) Tryd.underlying70 Tryd.underlying9 cells9 cells70 hd]
theorem nam_cells {W : World} (h : W.var? Tryd.prog "patina/rv.names" = some (([] :: nmL).map fun z => Value.string (tx z)).toArray) : Nam W := by
  have hc : ∀ k : Int, 0 ≤ k → k ≤ 65 → W.cell? ⟨1, k.toNat, none⟩ = some (.string (tx (nameT k))) := by
    intro k h1 h2
    have t := World.var?_cell gNam h k.toNat
    rw [t]
    by_cases h0 : 1 ≤ k
    · obtain ⟨j, hj⟩ : ∃ j : Nat, k = j + 1 := ⟨(k - 1).toNat, by omega⟩
      subst hj
      have hl : j < nmL.length := by simp [nmL]; omega
      simp [nameT, h0, hl, List.getD, show ((j : Int) + 1).toNat = j + 1 from by omega]
    · obtain rfl : k = 0 := by omega
      simp [nameT]
  refine ⟨?_, hc⟩
  have h1 := hc 1 (by omega) (by omega)
  rcases Nat.lt_or_ge 1 W.heap.size with e | e
  · exact e
  · have : W.heap[1]? = none := by simp; omega
    simp [World.cell?, this] at h1
theorem cells100 : Tryd.prog.cellsOf 100 = 1 := by kernel_rfl
/-- All that the walks read of the listed tables. -/
theorem tables5 {W : World} (h : laidMetH Tryd.prog Rows.rvApartRow.laid W) : Tab W ∧ Nam W ∧ Pow W := by
  have h0 : laidMet Tryd.prog [("math/bits.deBruijn32tab", Rows.laid_math_bits_deBruijn32tab), ("math/bits.deBruijn64tab", Rows.laid_math_bits_deBruijn64tab), ("internal/strconv.uint64pow10", Rows.laid_internal_strconv_uint64pow10), ("patina/rv.names", Rows.laid_patina_rv_names), ("patina/rv.fixed", Rows.laid_patina_rv_fixed)] W := h
  have h2 := laid_tail (laid_tail h0)
  have h3 := laid_tail h2
  exact ⟨tab_cells (Lib.tabIs_of_head (rest := []) gTab gTabType Tryd.underlying58 Tryd.underlying24 cells24 cells58 (laid_tail h3)), nam_cells (nam_of_head h3), Lib.tabIs_of_head gPow gPowType Tryd.underlying110 Tryd.underlying100 cells100 cells110 h2⟩
def t32 : List Int := [0, 1, 28, 2, 29, 14, 24, 3, 30, 22, 20, 15, 25, 17, 4, 8, 31, 27, 13, 23, 21, 19, 16, 7, 26, 12, 18, 6, 11, 5, 10, 9]
def t64 : List Int := [0, 1, 56, 2, 57, 49, 28, 3, 61, 58, 42, 50, 38, 29, 17, 4, 62, 47, 59, 36, 45, 43, 51, 22, 53, 39, 33, 30, 24, 18, 12, 5, 63, 55, 48, 27, 60, 41, 37, 16, 46, 35, 44, 21, 52, 32, 23, 11, 54, 26, 40, 15, 34, 20, 31, 10, 25, 14, 19, 9, 13, 8, 7, 6]
/-- A block's cells laid anew. -/
def relay (w : World) (i : Nat) (l : List Value) : World := { w with heap := w.heap.modify i fun | .cells _ t frozen => .cells l.toArray t frozen | o => o }
/-- A world for the witness: the settled one, the five tables holding what their initialisers lay. -/
noncomputable def laidWorld5 (os : Os) : World :=
  relay (relay (relay (relay (laidWorld os) 1 (([] :: nmL).map fun z => Value.string (tx z))) 2 (Lib.pow10Tab.map fun z => Value.int .u64 z)) 4 (t32.map fun z => Value.int .u8 z)) 5 (t64.map fun z => Value.int .u8 z)
end Go.Proofs.YtndbkkldfinggaaDoor
