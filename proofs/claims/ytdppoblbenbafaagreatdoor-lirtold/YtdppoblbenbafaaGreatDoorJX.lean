/- The document's own look at an instruction. An instruction is right by the document just if it is by the program: plain. -/
import Derived.Test.YtdppoblbenbafaaGreatDoorJ6
import Derived.Test.YtdppoblbenbafaaGreatDoorJ7
import Derived.Test.YtdppoblbenbafaaGreatDoorJ8
import Derived.Test.YtdppoblbenbafaaGreatDoorJ9
import Derived.Test.YtdppoblbenbafaaGreatDoorJ5
import Derived.Test.YtdppoblbenbafaaGreatDoorIJ
namespace Go.Proofs.YtdppoblbenbafaaGreatDoor
section
open Go.RowKit Go.Shelf
theorem fmL_ne {k : Int} (h : fmL k ≠ []) : 1 ≤ k ∧ k ≤ 11 := by
  by_cases h1 : 1 ≤ k ∧ k ≤ 11
  · exact h1
  · exfalso
    apply h
    unfold fmL
    rw [if_neg (by omega), if_neg (by omega), if_neg (by omega), if_neg (by omega), if_neg (by omega), if_neg (by omega), if_neg (by omega), if_neg (by omega), if_neg (by omega), if_neg (by omega), if_neg (by omega)]
theorem rfields63 (f : Fnh) (i : Ins) (w : World) (hAr : ArA w i.ar i.ac i.gs) : Calls Tryz.prog 63 #[fnhV f, inV i] w fun e w' => e = .returned (.bool (fdR f i)) ∧ G w w' := by
  by_cases h0 : fmL i.op = []
  · have hv : fdR f i = false := by unfold fdR; rw [h0]; rfl
    rw [hv]
    exact rf_none f i w h0
  by_cases h1 : flB f.rg (fmL i.op) 68 100 i.d = false ∨ flB f.rg (fmL i.op) 65 97 i.a = false ∨ flB f.rg (fmL i.op) 66 98 i.b = false
  · have hv : fdR f i = false := by
      unfold fdR
      rcases h1 with h | h | h <;> rw [h] <;> simp
    rw [hv]
    exact rf_early f i w h0 h1
  have hD : flB f.rg (fmL i.op) 68 100 i.d = true := by simp at h1; exact h1.1
  have hA : flB f.rg (fmL i.op) 65 97 i.a = true := by simp at h1; exact h1.2.1
  have hB : flB f.rg (fmL i.op) 66 98 i.b = true := by simp at h1; exact h1.2.2
  have hk := fmL_ne h0
  obtain h | h | h | h | h | h | h | h | h | h | h : i.op = 1 ∨ i.op = 2 ∨ i.op = 3 ∨ i.op = 4 ∨ i.op = 5 ∨ i.op = 6 ∨ i.op = 7 ∨ i.op = 8 ∨ i.op = 9 ∨ i.op = 10 ∨ i.op = 11 := by omega
  · exact rf_1 f i w h hAr hD hA hB
  · exact rf_2 f i w h hAr hD hA hB
  · exact rf_3 f i w h hAr hD hA hB
  · exact rf_4 f i w h hAr hD hA hB
  · exact rf_5 f i w h hAr hD hA hB
  · exact rf_6 f i w h hAr hD hA hB
  · exact rf_7 f i w h hAr hD hA hB
  · exact rf_8 f i w h hAr hD hA hB
  · exact rf_9 f i w h hAr hD hA hB
  · exact rf_10 f i w h hAr hD hA hB
  · exact rf_11 f i w h hAr hD hA hB
end
section
open Go.RowKit Go.Shelf
/-- Is an instruction right by the document? -/
def inR (f : Fnh) (i : Ins) : Bool := fdR f i && (nuR f.fr i.op i.n i.nm.data.toList && caR i.op i.nm.data.toList i.gs.length)
theorem rg_bel (rg : Int) : (fun y => belB y true rg) = rgB rg := by
  funext y
  unfold belB rgB
  rfl
theorem isE (l : List Int) : l.isEmpty = decide (l.length = 0) := by rw [Bool.eq_iff_iff]; simp
set_option maxHeartbeats 4000000 in
theorem inR_eq (f : Fnh) (i : Ins) : inR f i = insB f i (frS i.op) none := by
  by_cases h : 1 ≤ i.op ∧ i.op ≤ 11
  · have hg := rg_bel f.rg
    have hE := isE i.gs
    unfold inR insB fdR
    rw [hg]
    obtain ⟨a1, a2⟩ := h
    obtain h | h | h | h | h | h | h | h | h | h | h : i.op = 1 ∨ i.op = 2 ∨ i.op = 3 ∨ i.op = 4 ∨ i.op = 5 ∨ i.op = 6 ∨ i.op = 7 ∨ i.op = 8 ∨ i.op = 9 ∨ i.op = 10 ∨ i.op = 11 := by omega
    all_goals
      have e1 : decide ((1 : Int) ≤ i.op) = true := by simpa using a1
      have e2 : decide (i.op ≤ (11 : Int)) = true := by simpa using a2
      rw [e1, e2, h, hE]
      generalize i.gs.all (rgB f.rg) = AL
      try rw [show frS 1 = ⟨#[68, 78]⟩ from rfl]
      try rw [show frS 2 = ⟨#[68, 65]⟩ from rfl]
      try rw [show frS 3 = ⟨#[68, 83, 65, 66]⟩ from rfl]
      try rw [show frS 4 = ⟨#[68, 65, 78]⟩ from rfl]
      try rw [show frS 5 = ⟨#[65, 78, 66]⟩ from rfl]
      try rw [show frS 6 = ⟨#[68, 78]⟩ from rfl]
      try rw [show frS 7 = ⟨#[68, 83, 82]⟩ from rfl]
      try rw [show frS 8 = ⟨#[84]⟩ from rfl]
      try rw [show frS 9 = ⟨#[65, 84, 69]⟩ from rfl]
      try rw [show frS 10 = ⟨#[65]⟩ from rfl]
      try rw [show frS 11 = ⟨#[78]⟩ from rfl]
      rw [Bool.eq_iff_iff]
      simp [hsB, Lib.indexByte, fmL, flB, belB, rgB, toR, numB, nanB, nuR, caR, calB]
      try grind
  · have h1 : fdR f i = false := by
      unfold fdR
      have : fmL i.op = [] := by
        by_cases h0 : fmL i.op = []
        · exact h0
        · exfalso
          apply h0
          unfold fmL
          rw [if_neg (by omega), if_neg (by omega), if_neg (by omega), if_neg (by omega), if_neg (by omega), if_neg (by omega), if_neg (by omega), if_neg (by omega), if_neg (by omega), if_neg (by omega), if_neg (by omega)]
      rw [this]
      rfl
    have h2 : (decide (1 ≤ i.op) && decide (i.op ≤ 11)) = false := by
      rw [Bool.eq_false_iff]
      intro t
      simp at t
      exact h t
    unfold inR insB
    rw [h1, h2]
    rfl
end
end Go.Proofs.YtdppoblbenbafaaGreatDoor
