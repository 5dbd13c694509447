/- Any instruction, looked at. -/
import Derived.Test.YtdppoblbenbafaaGreatDoorH5
import Derived.Test.YtdppoblbenbafaaGreatDoorH6
import Derived.Test.YtdppoblbenbafaaGreatDoorH7
import Derived.Test.YtdppoblbenbafaaGreatDoorH8
import Derived.Test.YtdppoblbenbafaaGreatDoorHA
namespace Go.Proofs.YtdppoblbenbafaaGreatDoor
open Go.RowKit Go.Shelf
/-- Is an instruction right? F: which fields its form has. -/
def insB (f : Fnh) (i : Ins) (F : ByteArray) (fd : Option (Option Int)) : Bool :=
  (decide (1 ≤ i.op) && decide (i.op ≤ 11)) && ((i.gs.all fun y => belB y true f.rg) && (((i.op == 7 && i.d == -1) || belB i.d (hsB F 68) f.rg) && (((i.op == 10 && i.a == -1) || belB i.a (hsB F 65) f.rg) && (belB i.b (hsB F 66) f.rg && (belB i.to (hsB F 84) f.bl && (belB i.el (hsB F 69) f.bl && (numB f.fr i.op i.n && nanB i.op i.nm.data.toList i.gs.length fd)))))))
set_option maxRecDepth 100000 in
set_option maxHeartbeats 4000000 in
theorem ins_op (f : Fnh) (i : Ins) (m : Nat) (po : Option Nat) (w : World) (h : i.op < 1 ∨ 11 < i.op) : Calls Tryz.prog 91 #[.agg #[.map (some m), .map po], fnhV f, inV i] w fun e w' => e = .returned (.bool false) ∧ G w w' := by
  unfold fnhV inV
  generalize i.gs.length = al
  by_cases h1 : i.op < 1
  · go_enter Tryz.func91, Tryz.ntmps91
    go_wp2
    go_ret
    exact ⟨rfl, (((G.refl _).alloc _).alloc _).alloc _⟩
  · have h2 : 11 < i.op := by omega
    clear h
    go_enter Tryz.func91, Tryz.ntmps91
    go_wp2
    go_ret
    exact ⟨rfl, (((G.refl _).alloc _).alloc _).alloc _⟩
set_option maxRecDepth 100000 in
set_option maxHeartbeats 4000000 in
theorem ins_arg (f : Fnh) (i : Ins) (k m : Nat) (po : Option Nat) (F : ByteArray) (w : World) (hop : i.op = k) (k1 : 1 ≤ k) (k2 : k ≤ 11) (hF : w.cell? ⟨0, k * 2 + 1, none⟩ = some (.string F)) (h0 : 0 < w.heap.size) (hA : ArA w i.ar i.ac i.gs) (hG : (i.gs.all fun y => belB y true f.rg) = false) : Calls Tryz.prog 91 #[.agg #[.map (some m), .map po], fnhV f, inV i] w fun e w' => e = .returned (.bool false) ∧ G w w' := by
  have HA : Hid (ArA w i.ar i.ac i.gs) := hA
  have HG : Hid ((i.gs.all fun y => belB y true f.rg) = false) := hG
  have hac := hA.1
  have hac2 := hA.2.1
  unfold fnhV inV at *
  rw [hop]
  obtain ⟨al, hal⟩ : ∃ al, al = i.gs.length := ⟨_, rfl⟩
  have HL : Hid (al = i.gs.length) := hal
  rw [← hal] at hac ⊢
  clear hal hA hG hop
  go_enter Tryz.func91, Tryz.ntmps91
  go_wp2
  have HW : Hid (Below w.heap.size w ((((w.alloc (.cells #[.map (some m), .map po] 60)).alloc (.cells #[.string f.nm, .int .i64 f.pa, .int .i64 f.rg, .int .i64 f.fr, .slice f.ba f.bl f.bc] 27)).alloc (.cells #[.int .i64 k, .int .i64 i.d, .int .i64 i.a, .int .i64 i.b, .int .i64 i.n, .string i.nm, .slice i.ar al i.ac, .int .i64 i.to, .int .i64 i.el] 54)).alloc (.cells #[.string F] 9))) := ((((G.refl _).alloc _).alloc _).alloc _ |>.alloc _).below
  have HGW : Hid (G w ((((w.alloc (.cells #[.map (some m), .map po] 60)).alloc (.cells #[.string f.nm, .int .i64 f.pa, .int .i64 f.rg, .int .i64 f.fr, .slice f.ba f.bl f.bc] 27)).alloc (.cells #[.int .i64 k, .int .i64 i.d, .int .i64 i.a, .int .i64 i.b, .int .i64 i.n, .string i.nm, .slice i.ar al i.ac, .int .i64 i.to, .int .i64 i.el] 54)).alloc (.cells #[.string F] 9))) := (((G.refl _).alloc _).alloc _).alloc _ |>.alloc _
  have f2 : ((((w.alloc (.cells #[.map (some m), .map po] 60)).alloc (.cells #[.string f.nm, .int .i64 f.pa, .int .i64 f.rg, .int .i64 f.fr, .slice f.ba f.bl f.bc] 27)).alloc (.cells #[.int .i64 k, .int .i64 i.d, .int .i64 i.a, .int .i64 i.b, .int .i64 i.n, .string i.nm, .slice i.ar al i.ac, .int .i64 i.to, .int .i64 i.el] 54)).alloc (.cells #[.string F] 9)).cell? ⟨w.heap.size + 1, 2, none⟩ = some (.int .i64 f.rg) := by go_simp
  go_loop [28] (fun v => ∃ j : Nat, j ≤ al ∧ v = .int .i64 j ∧ (i.gs.take j).all (fun y => belB y true f.rg) = true) (fun v => al - (intOf v).toNat)
  case atStart => exact ⟨0, Nat.zero_le _, rfl, rfl⟩
  case round =>
    obtain ⟨j, hj, rfl, htk⟩ := hrel
    have HT : Hid ((i.gs.take j).all (fun y => belB y true f.rg) = true) := htk
    clear htk
    by_cases hlt : j < al
    · obtain ⟨g, oo, hao, hcc⟩ := (HA.out.below HW.out).2.2 (by have := HL.out; omega)
      obtain ⟨yv, hy⟩ : ∃ yv, i.gs[j]? = some yv := ⟨_, List.getElem?_eq_getElem (by have := HL.out; omega)⟩
      have hcell := hcc j yv hy
      have HY : Hid (i.gs.take (j + 1) = i.gs.take j ++ [yv]) := by show _ = _; rw [List.take_add_one, hy]; rfl
      clear hcc hy
      cases hbv : belB yv true f.rg with
      | true =>
        have hB : ∀ W : World, Calls Tryz.prog 126 #[.int .i64 yv, .bool true, .int .i64 f.rg] W fun e w' => e = .returned (.bool true) ∧ w' = W := fun W => by
          have t := below65 yv true f.rg W
          rw [hbv] at t
          exact t
        have HT2 : Hid ((i.gs.take (j + 1)).all (fun y => belB y true f.rg) = true) := by show _ = _; rw [HY.out, List.all_append, HT.out]; simp [hbv]
        clear hbv
        rw [hao] at *
        go_wp2_with (first | (go_at_call 126; refine (hB _).mono ?_; rintro e w' ⟨rfl, rfl⟩))
        go_round
        case rel => exact ⟨j + 1, by omega, by go_num, HT2.out⟩
        case measure => simp [intOf]; omega
      | false =>
        have hB : ∀ W : World, Calls Tryz.prog 126 #[.int .i64 yv, .bool true, .int .i64 f.rg] W fun e w' => e = .returned (.bool false) ∧ w' = W := fun W => by
          have t := below65 yv true f.rg W
          rw [hbv] at t
          exact t
        clear hbv
        rw [hao] at *
        go_wp2_with (first | (go_at_call 126; refine (hB _).mono ?_; rintro e w' ⟨rfl, rfl⟩))
        go_ret
        exact ⟨rfl, ((((G.refl _).alloc _).alloc _).alloc _).alloc _⟩
    · exfalso
      have t := HT.out
      rw [List.take_of_length_le (by have := HL.out; omega), HG.out] at t
      cases t
/-- What is told where each look tells so. -/
theorem instruction59 (f : Fnh) (i : Ins) (m : Nat) (po : Option Nat) (F : ByteArray) (fd : Option (Option Int)) (w : World) (hT : ∀ k : Nat, i.op = k → 1 ≤ k → k ≤ 11 → w.cell? ⟨0, k * 2 + 1, none⟩ = some (.string F)) (h0 : 0 < w.heap.size) (hA : ArA w i.ar i.ac i.gs) (hs : i.nm.size ≤ maxLen) (hm : w.heap[m]? = some (.map oes 14)) (hp : PmA w (.map po) i.nm fd) : Calls Tryz.prog 91 #[.agg #[.map (some m), .map po], fnhV f, inV i] w fun e w' => e = .returned (.bool (insB f i F fd)) ∧ G w w' := by
  have fin : ∀ {r : Bool}, (Calls Tryz.prog 91 #[.agg #[.map (some m), .map po], fnhV f, inV i] w fun e w' => e = .returned (.bool r) ∧ G w w') → insB f i F fd = r → Calls Tryz.prog 91 #[.agg #[.map (some m), .map po], fnhV f, inV i] w fun e w' => e = .returned (.bool (insB f i F fd)) ∧ G w w' := fun h e => by rw [e]; exact h
  by_cases hr : i.op < 1 ∨ 11 < i.op
  · refine fin (ins_op f i m po w hr) ?_
    have : (decide (1 ≤ i.op) && decide (i.op ≤ 11)) = false := by rw [Bool.eq_false_iff]; intro h; simp at h; omega
    unfold insB
    rw [this]
    rfl
  obtain ⟨k, hop⟩ : ∃ k : Nat, i.op = k := ⟨i.op.toNat, by omega⟩
  have k1 : 1 ≤ k := by omega
  have k2 : k ≤ 11 := by omega
  have hF := hT k hop k1 k2
  have hR : (decide (1 ≤ i.op) && decide (i.op ≤ 11)) = true := by simp; omega
  have hM : ∀ W, G w W → Calls Tryz.prog 128 #[.agg #[.map (some m), .map po], inV i] W fun e w1 => e = .returned (.bool (nanB i.op i.nm.data.toList i.gs.length fd)) ∧ G W w1 := fun W hW => nameAndArgs67 m (.map po) i fd W hs (by rw [hW.below.block m (Array.getElem?_eq_some_iff.1 hm).1]; exact hm) (hp.g hW.below)
  cases hg : (i.gs.all fun y => belB y true f.rg) with
  | false =>
    refine fin (ins_arg f i k m po F w hop k1 k2 hF h0 hA hg) ?_
    unfold insB
    rw [hR, hg]
    rfl
  | true =>
    have hG : ∀ y ∈ i.gs, belB y true f.rg = true := by simpa using hg
    have hU : insB f i F fd = ((((k : Int) == 7 && i.d == -1) || belB i.d (hsB F 68) f.rg) && ((((k : Int) == 10 && i.a == -1) || belB i.a (hsB F 65) f.rg) && (belB i.b (hsB F 66) f.rg && (belB i.to (hsB F 84) f.bl && (belB i.el (hsB F 69) f.bl && (numB f.fr k i.n && nanB i.op i.nm.data.toList i.gs.length fd)))))) := by
      unfold insB
      rw [hR, hg]
      rw [hop]
      rfl
    have nx : ((k : Int) == 7) = true → ((k : Int) == 10) = false := fun h => by simp at h ⊢; omega
    cases e7 : ((k : Int) == 7) with
    | true =>
      cases ed : (i.d == -1) with
      | true =>
        have e10 := nx e7
        cases x2 : belB i.a (hsB F 65) f.rg with
        | false => exact fin (insp_5 f i k m po F w hop k1 k2 hF h0 hA hG e7 ed e10 x2) (by rw [hU]; simp [e7, e10, x2])
        | true =>
          cases x3 : belB i.b (hsB F 66) f.rg with
          | false => exact fin (insp_0 f i k m po F w hop k1 k2 hF h0 hA hG e7 ed e10 x2 x3) (by rw [hU]; simp [e7, e10, ed, x2, x3])
          | true =>
            cases x4 : belB i.to (hsB F 84) f.bl with
            | false => exact fin (insp_1 f i k m po F w hop k1 k2 hF h0 hA hG e7 ed e10 x2 x3 x4) (by rw [hU]; simp [e7, e10, ed, x2, x3, x4])
            | true =>
              cases x5 : belB i.el (hsB F 69) f.bl with
              | false => exact fin (insp_2 f i k m po F w hop k1 k2 hF h0 hA hG e7 ed e10 x2 x3 x4 x5) (by rw [hU]; simp [e7, e10, ed, x2, x3, x4, x5])
              | true =>
                cases x6 : numB f.fr k i.n with
                | false => exact fin (insp_3 f i k m po F w hop k1 k2 hF h0 hA hG e7 ed e10 x2 x3 x4 x5 x6) (by rw [hU]; simp [e7, e10, ed, x2, x3, x4, x5, x6])
                | true =>
                  exact fin (insp_4 f i k m po F w (nanB i.op i.nm.data.toList i.gs.length fd) hop k1 k2 hF h0 hA hG e7 ed e10 x2 x3 x4 x5 x6 hM) (by rw [hU]; simp [e7, e10, ed, x2, x3, x4, x5, x6])
      | false =>
        cases x1 : belB i.d (hsB F 68) f.rg with
        | false => exact fin (insp_29 f i k m po F w hop k1 k2 hF h0 hA hG e7 ed x1) (by rw [hU]; simp [e7, ed, x1])
        | true =>
          have e10 := nx e7
          cases x2 : belB i.a (hsB F 65) f.rg with
          | false => exact fin (insp_11 f i k m po F w hop k1 k2 hF h0 hA hG e7 ed x1 e10 x2) (by rw [hU]; simp [e7, e10, x2])
          | true =>
            cases x3 : belB i.b (hsB F 66) f.rg with
            | false => exact fin (insp_6 f i k m po F w hop k1 k2 hF h0 hA hG e7 ed x1 e10 x2 x3) (by rw [hU]; simp [e7, e10, ed, x1, x2, x3])
            | true =>
              cases x4 : belB i.to (hsB F 84) f.bl with
              | false => exact fin (insp_7 f i k m po F w hop k1 k2 hF h0 hA hG e7 ed x1 e10 x2 x3 x4) (by rw [hU]; simp [e7, e10, ed, x1, x2, x3, x4])
              | true =>
                cases x5 : belB i.el (hsB F 69) f.bl with
                | false => exact fin (insp_8 f i k m po F w hop k1 k2 hF h0 hA hG e7 ed x1 e10 x2 x3 x4 x5) (by rw [hU]; simp [e7, e10, ed, x1, x2, x3, x4, x5])
                | true =>
                  cases x6 : numB f.fr k i.n with
                  | false => exact fin (insp_9 f i k m po F w hop k1 k2 hF h0 hA hG e7 ed x1 e10 x2 x3 x4 x5 x6) (by rw [hU]; simp [e7, e10, ed, x1, x2, x3, x4, x5, x6])
                  | true =>
                    exact fin (insp_10 f i k m po F w (nanB i.op i.nm.data.toList i.gs.length fd) hop k1 k2 hF h0 hA hG e7 ed x1 e10 x2 x3 x4 x5 x6 hM) (by rw [hU]; simp [e7, e10, ed, x1, x2, x3, x4, x5, x6])
    | false =>
      cases x1 : belB i.d (hsB F 68) f.rg with
      | false => exact fin (insp_30 f i k m po F w hop k1 k2 hF h0 hA hG e7 x1) (by rw [hU]; simp [e7, x1])
      | true =>
        cases e10 : ((k : Int) == 10) with
        | true =>
          cases ea : (i.a == -1) with
          | true =>
            cases x3 : belB i.b (hsB F 66) f.rg with
            | false => exact fin (insp_12 f i k m po F w hop k1 k2 hF h0 hA hG e7 x1 e10 ea x3) (by rw [hU]; simp [e7, e10, x1, ea, x3])
            | true =>
              cases x4 : belB i.to (hsB F 84) f.bl with
              | false => exact fin (insp_13 f i k m po F w hop k1 k2 hF h0 hA hG e7 x1 e10 ea x3 x4) (by rw [hU]; simp [e7, e10, x1, ea, x3, x4])
              | true =>
                cases x5 : belB i.el (hsB F 69) f.bl with
                | false => exact fin (insp_14 f i k m po F w hop k1 k2 hF h0 hA hG e7 x1 e10 ea x3 x4 x5) (by rw [hU]; simp [e7, e10, x1, ea, x3, x4, x5])
                | true =>
                  cases x6 : numB f.fr k i.n with
                  | false => exact fin (insp_15 f i k m po F w hop k1 k2 hF h0 hA hG e7 x1 e10 ea x3 x4 x5 x6) (by rw [hU]; simp [e7, e10, x1, ea, x3, x4, x5, x6])
                  | true =>
                    exact fin (insp_16 f i k m po F w (nanB i.op i.nm.data.toList i.gs.length fd) hop k1 k2 hF h0 hA hG e7 x1 e10 ea x3 x4 x5 x6 hM) (by rw [hU]; simp [e7, e10, x1, ea, x3, x4, x5, x6])
          | false =>
            cases x2 : belB i.a (hsB F 65) f.rg with
            | false => exact fin (insp_27 f i k m po F w hop k1 k2 hF h0 hA hG e7 x1 e10 ea x2) (by rw [hU]; simp [e7, e10, ea, x2])
            | true =>
              cases x3 : belB i.b (hsB F 66) f.rg with
              | false => exact fin (insp_17 f i k m po F w hop k1 k2 hF h0 hA hG e7 x1 e10 ea x2 x3) (by rw [hU]; simp [e7, e10, x1, ea, x2, x3])
              | true =>
                cases x4 : belB i.to (hsB F 84) f.bl with
                | false => exact fin (insp_18 f i k m po F w hop k1 k2 hF h0 hA hG e7 x1 e10 ea x2 x3 x4) (by rw [hU]; simp [e7, e10, x1, ea, x2, x3, x4])
                | true =>
                  cases x5 : belB i.el (hsB F 69) f.bl with
                  | false => exact fin (insp_19 f i k m po F w hop k1 k2 hF h0 hA hG e7 x1 e10 ea x2 x3 x4 x5) (by rw [hU]; simp [e7, e10, x1, ea, x2, x3, x4, x5])
                  | true =>
                    cases x6 : numB f.fr k i.n with
                    | false => exact fin (insp_20 f i k m po F w hop k1 k2 hF h0 hA hG e7 x1 e10 ea x2 x3 x4 x5 x6) (by rw [hU]; simp [e7, e10, x1, ea, x2, x3, x4, x5, x6])
                    | true =>
                      exact fin (insp_21 f i k m po F w (nanB i.op i.nm.data.toList i.gs.length fd) hop k1 k2 hF h0 hA hG e7 x1 e10 ea x2 x3 x4 x5 x6 hM) (by rw [hU]; simp [e7, e10, x1, ea, x2, x3, x4, x5, x6])
        | false =>
          cases x2 : belB i.a (hsB F 65) f.rg with
          | false => exact fin (insp_28 f i k m po F w hop k1 k2 hF h0 hA hG e7 x1 e10 x2) (by rw [hU]; simp [e7, e10, x2])
          | true =>
            cases x3 : belB i.b (hsB F 66) f.rg with
            | false => exact fin (insp_22 f i k m po F w hop k1 k2 hF h0 hA hG e7 x1 e10 x2 x3) (by rw [hU]; simp [e7, e10, x1, x2, x3])
            | true =>
              cases x4 : belB i.to (hsB F 84) f.bl with
              | false => exact fin (insp_23 f i k m po F w hop k1 k2 hF h0 hA hG e7 x1 e10 x2 x3 x4) (by rw [hU]; simp [e7, e10, x1, x2, x3, x4])
              | true =>
                cases x5 : belB i.el (hsB F 69) f.bl with
                | false => exact fin (insp_24 f i k m po F w hop k1 k2 hF h0 hA hG e7 x1 e10 x2 x3 x4 x5) (by rw [hU]; simp [e7, e10, x1, x2, x3, x4, x5])
                | true =>
                  cases x6 : numB f.fr k i.n with
                  | false => exact fin (insp_25 f i k m po F w hop k1 k2 hF h0 hA hG e7 x1 e10 x2 x3 x4 x5 x6) (by rw [hU]; simp [e7, e10, x1, x2, x3, x4, x5, x6])
                  | true =>
                    exact fin (insp_26 f i k m po F w (nanB i.op i.nm.data.toList i.gs.length fd) hop k1 k2 hF h0 hA hG e7 x1 e10 x2 x3 x4 x5 x6 hM) (by rw [hU]; simp [e7, e10, x1, x2, x3, x4, x5, x6])
end Go.Proofs.YtdppoblbenbafaaGreatDoor
