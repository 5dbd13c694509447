/- For every state of a machine, pages, input and two numbers of steps, what is read being of bulk at most 1048576: running for n steps, and then for m, is running for n and m, to the machine's state and its pages; the table of fixed words starts as the program's text lays it. -/
import Derived.Test.YtnmpbihpoefeoaaDoorF0
import Derived.Test.YtnmpbihpoefeoaaDoorP1
namespace Go.Proofs.YtnmpbihpoefeoaaDoor.cpuParts
open Go.ChangeShapes Go.WideShapes Go.ChangeAt Go.RowKit

theorem laidOut : laidOutB Tryd.prog = true := by kernel_rfl
theorem table {W : World} (h : laidMetH Tryd.prog Rows.cpuPartsUptoRow.laid W) : Tab W :=
  tab_cells (Lib.tabIs_of_head (rest := []) gTab gTabType Tryd.underlying109 Tryd.underlying63 cells63 cells109 h)

set_option maxRecDepth 100000 in
theorem contract (H : Type) (enc : TypeId × Value → H) (W : World) (base : Nat) (args : Array Value) (ds gs : List (DataW H)) (before : List MemPlace)
    (hval : ∀ (j : Nat) t v, Tryd.f4.params[j]? = some t → args[j]? = some v → Value.okWide Tryd.prog W .any base t v)
    (hW : DataW.Whole enc Tryd.prog Tryd.f4.params.toList Rows.cpuPartsSpec.vars false W args.toList ds gs before) (hL : laidMetH Tryd.prog Rows.cpuPartsUptoRow.laid W)
    (hk : Rows.uptoSmall H (ds ++ gs) = true) :
    Calls Tryd.prog 4 args W fun e W' => ∃ v, e = .returned v ∧ Rows.cpuPartsSpec.post enc Tryd.prog Tryd.f4 false true false false W args v W' := by
  have hW' := hW
  obtain ⟨p, q, hA0, hV, rfl, hfz, hnd⟩ := hW
  have hA : DataW.TrodAll enc Tryd.prog W 0 (fun _ => true) true Tryd.f4.params.toList args.toList ds p := hA0
  rw [Tryd.params4] at hA hval
  obtain ⟨v0, vs0, d0, ds0, p0, q0, hargs, rfl, rfl, h0, r0⟩ := trodAll_cons hA
  obtain ⟨v1, vs1, d1, ds1, p1, q1, hargs1, rfl, rfl, h1, r1⟩ := trodAll_cons r0
  obtain ⟨rfl, rfl, rfl⟩ := trodAll_nil r1
  obtain rfl : args = #[v0, v1] := by cases args; simp_all
  obtain ⟨rfl, rfl⟩ := trodVars_none hV
  have hb : Rows.uptoBulk d0 ≤ 1048576 := by
    have t := of_decide_eq_true hk
    simp only [List.cons_append, List.nil_append, Rows.uptoBulkAll] at t
    omega
  have h0k := h0
  obtain ⟨s, a0, n0, c0, Y0, pa, pl, pc, ai, ni, ci, Yi, k, pp, ao, bl, bc, Y, n, rfl, hP, hB0, hBi, hYi, hsx, hspc, hn0, hni⟩ := case_open (hval 0 40 v0 rfl rfl) h0
  obtain ⟨more, rfl, rfl, rfl, y1⟩ := open_int Tryd.underlying3 (hval 1 3 v1 rfl rfl) h1
  clear hA0 h0
  simp only [List.append_nil] at hW'
  have hlt : ∀ x ∈ p0, x.block < W.heap.size := fun x hx => by simpa using hW'.lt x hx
  refine (parts4_all (table hL) hP hB0 hBi hYi hsx hspc (by omega) (by omega)).mono fun e W' ⟨he, hg⟩ => ?_
  subst he
  exact ⟨_, rfl, _, _, _, _, _, _, hW', trodAll_cons_mk (shut_bool Tryd.underlying4 _) trodAll_mk0, trodAll_cons_mk (Below.trod laidOut (by kernel_rfl) (of_decide_eq_true (by kernel_rfl)) h0k hg hlt) (trodAll_cons_mk (shut_int Tryd.underlying3 y1) trodAll_mk0), rfl, hg.frame _, fun h => by cases h⟩

/-- A state, pages and an input that are all nothing. -/
def noneV : Value := .agg (cs4 ⟨0, fun _ => 0, 0, false, 0, 0, 0⟩ (.slice none 0 0) (.slice none 0 0) (.slice none 0 0) 0).toArray
def noneD {H : Type} : DataW H := .agg [.agg [.lit (.int .u64 0), .agg (List.replicate 32 (.lit (.int .u64 0))), .lit (.int .i64 0), .lit (.bool false), .lit (.int .i64 0), .lit (.int .i64 0), .nil, .lit (.int .i64 0)], .nil, .nil, .lit (.int .i64 0)]
theorem laid_met (os : Os) : laidMet Tryd.prog Rows.cpuPartsUptoRow.laid ((laidWorld os).forCall (fun _ _ => 0) ⟨#[], #[noneV, .int .i64 0], []⟩).memory :=
  laidMet_of_run' 8 (by kernel_rfl) (by kernel_rfl)
theorem reads (os : Os) {H : Type} (enc : TypeId × Value → H) : ∃ places, DataW.whole enc Tryd.prog ((laidWorld os).forCall (fun _ _ => 0) ⟨#[], #[noneV, .int .i64 0], []⟩).memory Tryd.f4.params.toList Rows.cpuPartsSpec.vars false (#[noneV, .int .i64 0] : Array Value).toList 8 = some ([noneD, .lit (.int .i64 0)], [], places) :=
  ⟨[], by kernel_rfl⟩

set_option maxRecDepth 100000 in
theorem lifted (os : Os) (started : os.Started) (H : Type) (enc : TypeId × Value → H) (F : Stop.Interp) :
    ReturnsInHanded {} Tryd.checked os 4 .any ((Rows.OpenSpec.upto Rows.cpuPartsSpec).preRow enc Tryd.prog Tryd.f4 Rows.cpuPartsUptoRow.domain false Rows.cpuPartsUptoRow.laid) (((Rows.OpenSpec.upto Rows.cpuPartsSpec).at F).post enc Tryd.prog Tryd.f4 false true false false) := by
  obtain ⟨places, hx⟩ := reads os enc
  refine returnsInHanded_of_row (C := Tryd.checked) (s := Rows.OpenSpec.upto Rows.cpuPartsSpec) own started (by kernel_rfl) Tryd.func4
    (witness_row_at (enc := enc) (C := Tryd.checked) false (laidWorld os) #[noneV, .int .i64 0] rfl (by kernel_rfl) (by kernel_rfl) (by kernel_rfl)
      (OpenSpec.preRow_of_cond 8 hx (by kernel_rfl) (fun k hk => by cases hk; kernel_rfl) (by kernel_rfl) (laid_met os))) ?_
  intro W base args ds gs before hval hW _ hcond _ hL _ _
  exact contract H enc W base args ds gs before hval hW hL (hcond _ rfl)

theorem said : Rows.CpuPartsUptoSaid :=
  OpenClaim.holds_of_cond 4 Tryd.f4 rfl rfl rfl rfl rfl rfl rfl ⟨rfl, rfl, rfl, rfl, rfl⟩ rfl rfl rfl rfl rfl (by kernel_rfl) Tryd.func4 (by kernel_rfl)
    (of_decide_eq_true (by kernel_rfl)) (by unfold Func.isWrapper; first | (rw [if_pos (by decide +kernel)]; kernel_rfl) | (rw [if_neg (by decide +kernel)]; exact ⟨rfl, rfl⟩))
    (fun os started H enc _ F => by rw [OpenClaim.pre_eq_preRow]; exact lifted os started H enc F)

theorem plain (f : FuncId) (fn : Func) (hf : Tryd.pinned.checked.prog.funcNamed "patina/patinalaw03.CpuParts" = some f) (hfn : Tryd.pinned.checked.prog.funcs[f]? = some fn) :
    false = Tryd.pinned.checked.prog.looks [] ∧ ∀ (j : Nat) t, fn.params[j]? = some t → Tryd.pinned.checked.prog.wantsStandIn t = false := by
  obtain rfl : f = 4 := Option.some.inj ((show Tryd.prog.funcNamed "patina/patinalaw03.CpuParts" = some 4 by kernel_rfl).symm.trans hf) |>.symm
  obtain rfl : fn = Tryd.f4 := (Option.some.inj (Tryd.func4.symm.trans hfn)).symm
  refine ⟨by kernel_rfl, fun j t ht => ?_⟩
  rw [Tryd.params4] at ht
  have ht' : t = 40 ∨ t = 3 := by
    have := Array.mem_of_getElem? ht
    simp at this
    omega
  rcases ht' with rfl | rfl
  · exact (show Tryd.prog.wantsStandIn 40 = false by kernel_rfl)
  · exact (show Tryd.prog.wantsStandIn 3 = false by kernel_rfl)

end Go.Proofs.YtnmpbihpoefeoaaDoor.cpuParts
namespace Go.Proofs.YtnmpbihpoefeoaaDoor
theorem cpuPartsUpto_card : Rows.CpuPartsUptoCardSaid :=
  Claim7.holds_tied_plain_at .later [] _ _ _ _ cpuParts.said (fun _ h => by cases h) (by kernel_rfl) (fun _ h => by cases h) cpuPartsUpto_row_tie rfl ⟨rfl, rfl⟩ (by kernel_rfl) rfl cpuParts.plain (by kernel_rfl)
end Go.Proofs.YtnmpbihpoefeoaaDoor
