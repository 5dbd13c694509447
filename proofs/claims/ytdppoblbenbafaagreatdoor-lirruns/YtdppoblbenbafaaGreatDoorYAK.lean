/- Any instruction, looked at. Any block, looked at. Any block, looked at: the walk. -/
import Derived.Test.YtdppoblbenbafaaGreatDoorH5
import Derived.Test.YtdppoblbenbafaaGreatDoorH6
import Derived.Test.YtdppoblbenbafaaGreatDoorH7
import Derived.Test.YtdppoblbenbafaaGreatDoorH8
import Derived.Test.YtdppoblbenbafaaGreatDoorHA
import Derived.Test.YtdppoblbenbafaaGreatDoorYAB
namespace Go.Proofs.YtdppoblbenbafaaGreatDoor
section
open Go.RowKit Go.Shelf
set_option maxRecDepth 100000
set_option maxHeartbeats 4000000
/-- Is an instruction right? F: which fields its form has. -/
def insB (f : Fnh) (i : Ins) (F : ByteArray) (fd : Option (Option Int)) : Bool :=
  (decide (1 ≤ i.op) && decide (i.op ≤ 11)) && ((i.gs.all fun y => belB y true f.rg) && (((i.op == 7 && i.d == -1) || belB i.d (hsB F 68) f.rg) && (((i.op == 10 && i.a == -1) || belB i.a (hsB F 65) f.rg) && (belB i.b (hsB F 66) f.rg && (belB i.to (hsB F 84) f.bl && (belB i.el (hsB F 69) f.bl && (numB f.fr i.op i.n && nanB i.op i.nm.data.toList i.gs.length fd)))))))
theorem ins_op (f : Fnh) (i : Ins) (m : Nat) (po : Option Nat) (w : World) (h : i.op < 1 ∨ 11 < i.op) : Calls Tryz.prog 91 #[.agg #[.map (some m), .map po], fnhV f, inV i] w fun e w' => e = .returned (.bool false) ∧ G w w' := by
  unfold fnhV inV
  generalize i.gs.length = al
  by_cases h1 : i.op < 1
  · go_enter Tryz.func91, Tryz.ntmps91
    go_wp2
    go_ret
    exact ⟨rfl, (((G.refl _).alloc _).alloc _).alloc _⟩
  · have h2 : 11 < i.op := by omega
    clear h
    go_enter Tryz.func91, Tryz.ntmps91
    go_wp2
    go_ret
    exact ⟨rfl, (((G.refl _).alloc _).alloc _).alloc _⟩
theorem ins_arg (f : Fnh) (i : Ins) (k m : Nat) (po : Option Nat) (F : ByteArray) (w : World) (hop : i.op = k) (k1 : 1 ≤ k) (k2 : k ≤ 11) (hF : w.cell? ⟨0, k * 2 + 1, none⟩ = some (.string F)) (h0 : 0 < w.heap.size) (hA : ArA w i.ar i.ac i.gs) (hG : (i.gs.all fun y => belB y true f.rg) = false) : Calls Tryz.prog 91 #[.agg #[.map (some m), .map po], fnhV f, inV i] w fun e w' => e = .returned (.bool false) ∧ G w w' := by
  have HA : Hid (ArA w i.ar i.ac i.gs) := hA
  have HG : Hid ((i.gs.all fun y => belB y true f.rg) = false) := hG
  have hac := hA.1
  have hac2 := hA.2.1
  unfold fnhV inV at *
  rw [hop]
  obtain ⟨al, hal⟩ : ∃ al, al = i.gs.length := ⟨_, rfl⟩
  have HL : Hid (al = i.gs.length) := hal
  rw [← hal] at hac ⊢
  clear hal hA hG hop
  go_enter Tryz.func91, Tryz.ntmps91
  go_wp2
  have HW := insBelow w f i k m po F al
  have HGW : Hid (G w ((((w.alloc (.cells #[.map (some m), .map po] 60)).alloc (.cells #[.string f.nm, .int .i64 f.pa, .int .i64 f.rg, .int .i64 f.fr, .slice f.ba f.bl f.bc] 27)).alloc (.cells #[.int .i64 k, .int .i64 i.d, .int .i64 i.a, .int .i64 i.b, .int .i64 i.n, .string i.nm, .slice i.ar al i.ac, .int .i64 i.to, .int .i64 i.el] 54)).alloc (.cells #[.string F] 9))) := (((G.refl _).alloc _).alloc _).alloc _ |>.alloc _
  have f2 := insF2 w f i k m po F al
  go_loop [28] (fun v => ∃ j : Nat, j ≤ al ∧ v = .int .i64 j ∧ (i.gs.take j).all (fun y => belB y true f.rg) = true) (fun v => al - (intOf v).toNat)
  case atStart => exact ⟨0, Nat.zero_le _, rfl, rfl⟩
  case round =>
    obtain ⟨j, hj, rfl, htk⟩ := hrel
    have HT : Hid ((i.gs.take j).all (fun y => belB y true f.rg) = true) := htk
    clear htk
    by_cases hlt : j < al
    · obtain ⟨g, oo, hao, hcc⟩ := (HA.out.below HW.out).2.2 (by have := HL.out; omega)
      obtain ⟨yv, hy⟩ : ∃ yv, i.gs[j]? = some yv := ⟨_, List.getElem?_eq_getElem (by have := HL.out; omega)⟩
      have hcell := hcc j yv hy
      have HY : Hid (i.gs.take (j + 1) = i.gs.take j ++ [yv]) := by show _ = _; rw [List.take_add_one, hy]; rfl
      clear hcc hy
      cases hbv : belB yv true f.rg with
      | true =>
        have hB : ∀ W : World, Calls Tryz.prog 126 #[.int .i64 yv, .bool true, .int .i64 f.rg] W fun e w' => e = .returned (.bool true) ∧ w' = W := fun W => by
          have t := below65 yv true f.rg W
          rw [hbv] at t
          exact t
        have HT2 : Hid ((i.gs.take (j + 1)).all (fun y => belB y true f.rg) = true) := by show _ = _; rw [HY.out, List.all_append, HT.out]; simp [hbv]
        clear hbv
        rw [hao] at *
        go_wp2_with (first | (go_at_call 126; refine (hB _).mono ?_; rintro e w' ⟨rfl, rfl⟩))
        go_round
        case rel => exact ⟨j + 1, by omega, by go_num, HT2.out⟩
        case measure => simp [intOf]; omega
      | false =>
        have hB : ∀ W : World, Calls Tryz.prog 126 #[.int .i64 yv, .bool true, .int .i64 f.rg] W fun e w' => e = .returned (.bool false) ∧ w' = W := fun W => by
          have t := below65 yv true f.rg W
          rw [hbv] at t
          exact t
        clear hbv
        rw [hao] at *
        go_wp2_with (first | (go_at_call 126; refine (hB _).mono ?_; rintro e w' ⟨rfl, rfl⟩))
        go_ret
        exact ⟨rfl, ((((G.refl _).alloc _).alloc _).alloc _).alloc _⟩
    · exfalso
      have t := HT.out
      rw [List.take_of_length_le (by have := HL.out; omega), HG.out] at t
      cases t
/-- What is told where each look tells so. -/
theorem instruction59 (f : Fnh) (i : Ins) (m : Nat) (po : Option Nat) (F : ByteArray) (fd : Option (Option Int)) (w : World) (hT : ∀ k : Nat, i.op = k → 1 ≤ k → k ≤ 11 → w.cell? ⟨0, k * 2 + 1, none⟩ = some (.string F)) (h0 : 0 < w.heap.size) (hA : ArA w i.ar i.ac i.gs) (hs : i.nm.size ≤ maxLen) (hm : w.heap[m]? = some (.map oes 14)) (hp : PmA w (.map po) i.nm fd) : Calls Tryz.prog 91 #[.agg #[.map (some m), .map po], fnhV f, inV i] w fun e w' => e = .returned (.bool (insB f i F fd)) ∧ G w w' := by
  have fin : ∀ {r : Bool}, (Calls Tryz.prog 91 #[.agg #[.map (some m), .map po], fnhV f, inV i] w fun e w' => e = .returned (.bool r) ∧ G w w') → insB f i F fd = r → Calls Tryz.prog 91 #[.agg #[.map (some m), .map po], fnhV f, inV i] w fun e w' => e = .returned (.bool (insB f i F fd)) ∧ G w w' := fun h e => by rw [e]; exact h
  by_cases hr : i.op < 1 ∨ 11 < i.op
  · refine fin (ins_op f i m po w hr) ?_
    have : (decide (1 ≤ i.op) && decide (i.op ≤ 11)) = false := by rw [Bool.eq_false_iff]; intro h; simp at h; omega
    unfold insB
    rw [this]
    rfl
  obtain ⟨k, hop⟩ : ∃ k : Nat, i.op = k := ⟨i.op.toNat, by omega⟩
  have k1 : 1 ≤ k := by omega
  have k2 : k ≤ 11 := by omega
  have hF := hT k hop k1 k2
  have hR : (decide (1 ≤ i.op) && decide (i.op ≤ 11)) = true := by simp; omega
  have hM : ∀ W, G w W → Calls Tryz.prog 128 #[.agg #[.map (some m), .map po], inV i] W fun e w1 => e = .returned (.bool (nanB i.op i.nm.data.toList i.gs.length fd)) ∧ G W w1 := fun W hW => nameAndArgs67 m (.map po) i fd W hs (by rw [hW.below.block m (Array.getElem?_eq_some_iff.1 hm).1]; exact hm) (hp.g hW.below)
  cases hg : (i.gs.all fun y => belB y true f.rg) with
  | false =>
    refine fin (ins_arg f i k m po F w hop k1 k2 hF h0 hA hg) ?_
    unfold insB
    rw [hR, hg]
    rfl
  | true =>
    have hG : ∀ y ∈ i.gs, belB y true f.rg = true := by simpa using hg
    have hU : insB f i F fd = ((((k : Int) == 7 && i.d == -1) || belB i.d (hsB F 68) f.rg) && ((((k : Int) == 10 && i.a == -1) || belB i.a (hsB F 65) f.rg) && (belB i.b (hsB F 66) f.rg && (belB i.to (hsB F 84) f.bl && (belB i.el (hsB F 69) f.bl && (numB f.fr k i.n && nanB i.op i.nm.data.toList i.gs.length fd)))))) := by
      unfold insB
      rw [hR, hg]
      rw [hop]
      rfl
    have nx : ((k : Int) == 7) = true → ((k : Int) == 10) = false := fun h => by simp at h ⊢; omega
    cases e7 : ((k : Int) == 7) with
    | true =>
      cases ed : (i.d == -1) with
      | true =>
        have e10 := nx e7
        cases x2 : belB i.a (hsB F 65) f.rg with
        | false => exact fin (insp_5 f i k m po F w hop k1 k2 hF h0 hA hG e7 ed e10 x2) (by rw [hU]; simp [e7, e10, x2])
        | true =>
          cases x3 : belB i.b (hsB F 66) f.rg with
          | false => exact fin (insp_0 f i k m po F w hop k1 k2 hF h0 hA hG e7 ed e10 x2 x3) (by rw [hU]; simp [e7, e10, ed, x2, x3])
          | true =>
            cases x4 : belB i.to (hsB F 84) f.bl with
            | false => exact fin (insp_1 f i k m po F w hop k1 k2 hF h0 hA hG e7 ed e10 x2 x3 x4) (by rw [hU]; simp [e7, e10, ed, x2, x3, x4])
            | true =>
              cases x5 : belB i.el (hsB F 69) f.bl with
              | false => exact fin (insp_2 f i k m po F w hop k1 k2 hF h0 hA hG e7 ed e10 x2 x3 x4 x5) (by rw [hU]; simp [e7, e10, ed, x2, x3, x4, x5])
              | true =>
                cases x6 : numB f.fr k i.n with
                | false => exact fin (insp_3 f i k m po F w hop k1 k2 hF h0 hA hG e7 ed e10 x2 x3 x4 x5 x6) (by rw [hU]; simp [e7, e10, ed, x2, x3, x4, x5, x6])
                | true =>
                  exact fin (insp_4 f i k m po F w (nanB i.op i.nm.data.toList i.gs.length fd) hop k1 k2 hF h0 hA hG e7 ed e10 x2 x3 x4 x5 x6 hM) (by rw [hU]; simp [e7, e10, ed, x2, x3, x4, x5, x6])
      | false =>
        cases x1 : belB i.d (hsB F 68) f.rg with
        | false => exact fin (insp_29 f i k m po F w hop k1 k2 hF h0 hA hG e7 ed x1) (by rw [hU]; simp [e7, ed, x1])
        | true =>
          have e10 := nx e7
          cases x2 : belB i.a (hsB F 65) f.rg with
          | false => exact fin (insp_11 f i k m po F w hop k1 k2 hF h0 hA hG e7 ed x1 e10 x2) (by rw [hU]; simp [e7, e10, x2])
          | true =>
            cases x3 : belB i.b (hsB F 66) f.rg with
            | false => exact fin (insp_6 f i k m po F w hop k1 k2 hF h0 hA hG e7 ed x1 e10 x2 x3) (by rw [hU]; simp [e7, e10, ed, x1, x2, x3])
            | true =>
              cases x4 : belB i.to (hsB F 84) f.bl with
              | false => exact fin (insp_7 f i k m po F w hop k1 k2 hF h0 hA hG e7 ed x1 e10 x2 x3 x4) (by rw [hU]; simp [e7, e10, ed, x1, x2, x3, x4])
              | true =>
                cases x5 : belB i.el (hsB F 69) f.bl with
                | false => exact fin (insp_8 f i k m po F w hop k1 k2 hF h0 hA hG e7 ed x1 e10 x2 x3 x4 x5) (by rw [hU]; simp [e7, e10, ed, x1, x2, x3, x4, x5])
                | true =>
                  cases x6 : numB f.fr k i.n with
                  | false => exact fin (insp_9 f i k m po F w hop k1 k2 hF h0 hA hG e7 ed x1 e10 x2 x3 x4 x5 x6) (by rw [hU]; simp [e7, e10, ed, x1, x2, x3, x4, x5, x6])
                  | true =>
                    exact fin (insp_10 f i k m po F w (nanB i.op i.nm.data.toList i.gs.length fd) hop k1 k2 hF h0 hA hG e7 ed x1 e10 x2 x3 x4 x5 x6 hM) (by rw [hU]; simp [e7, e10, ed, x1, x2, x3, x4, x5, x6])
    | false =>
      cases x1 : belB i.d (hsB F 68) f.rg with
      | false => exact fin (insp_30 f i k m po F w hop k1 k2 hF h0 hA hG e7 x1) (by rw [hU]; simp [e7, x1])
      | true =>
        cases e10 : ((k : Int) == 10) with
        | true =>
          cases ea : (i.a == -1) with
          | true =>
            cases x3 : belB i.b (hsB F 66) f.rg with
            | false => exact fin (insp_12 f i k m po F w hop k1 k2 hF h0 hA hG e7 x1 e10 ea x3) (by rw [hU]; simp [e7, e10, x1, ea, x3])
            | true =>
              cases x4 : belB i.to (hsB F 84) f.bl with
              | false => exact fin (insp_13 f i k m po F w hop k1 k2 hF h0 hA hG e7 x1 e10 ea x3 x4) (by rw [hU]; simp [e7, e10, x1, ea, x3, x4])
              | true =>
                cases x5 : belB i.el (hsB F 69) f.bl with
                | false => exact fin (insp_14 f i k m po F w hop k1 k2 hF h0 hA hG e7 x1 e10 ea x3 x4 x5) (by rw [hU]; simp [e7, e10, x1, ea, x3, x4, x5])
                | true =>
                  cases x6 : numB f.fr k i.n with
                  | false => exact fin (insp_15 f i k m po F w hop k1 k2 hF h0 hA hG e7 x1 e10 ea x3 x4 x5 x6) (by rw [hU]; simp [e7, e10, x1, ea, x3, x4, x5, x6])
                  | true =>
                    exact fin (insp_16 f i k m po F w (nanB i.op i.nm.data.toList i.gs.length fd) hop k1 k2 hF h0 hA hG e7 x1 e10 ea x3 x4 x5 x6 hM) (by rw [hU]; simp [e7, e10, x1, ea, x3, x4, x5, x6])
          | false =>
            cases x2 : belB i.a (hsB F 65) f.rg with
            | false => exact fin (insp_27 f i k m po F w hop k1 k2 hF h0 hA hG e7 x1 e10 ea x2) (by rw [hU]; simp [e7, e10, ea, x2])
            | true =>
              cases x3 : belB i.b (hsB F 66) f.rg with
              | false => exact fin (insp_17 f i k m po F w hop k1 k2 hF h0 hA hG e7 x1 e10 ea x2 x3) (by rw [hU]; simp [e7, e10, x1, ea, x2, x3])
              | true =>
                cases x4 : belB i.to (hsB F 84) f.bl with
                | false => exact fin (insp_18 f i k m po F w hop k1 k2 hF h0 hA hG e7 x1 e10 ea x2 x3 x4) (by rw [hU]; simp [e7, e10, x1, ea, x2, x3, x4])
                | true =>
                  cases x5 : belB i.el (hsB F 69) f.bl with
                  | false => exact fin (insp_19 f i k m po F w hop k1 k2 hF h0 hA hG e7 x1 e10 ea x2 x3 x4 x5) (by rw [hU]; simp [e7, e10, x1, ea, x2, x3, x4, x5])
                  | true =>
                    cases x6 : numB f.fr k i.n with
                    | false => exact fin (insp_20 f i k m po F w hop k1 k2 hF h0 hA hG e7 x1 e10 ea x2 x3 x4 x5 x6) (by rw [hU]; simp [e7, e10, x1, ea, x2, x3, x4, x5, x6])
                    | true =>
                      exact fin (insp_21 f i k m po F w (nanB i.op i.nm.data.toList i.gs.length fd) hop k1 k2 hF h0 hA hG e7 x1 e10 ea x2 x3 x4 x5 x6 hM) (by rw [hU]; simp [e7, e10, x1, ea, x2, x3, x4, x5, x6])
        | false =>
          cases x2 : belB i.a (hsB F 65) f.rg with
          | false => exact fin (insp_28 f i k m po F w hop k1 k2 hF h0 hA hG e7 x1 e10 x2) (by rw [hU]; simp [e7, e10, x2])
          | true =>
            cases x3 : belB i.b (hsB F 66) f.rg with
            | false => exact fin (insp_22 f i k m po F w hop k1 k2 hF h0 hA hG e7 x1 e10 x2 x3) (by rw [hU]; simp [e7, e10, x1, x2, x3])
            | true =>
              cases x4 : belB i.to (hsB F 84) f.bl with
              | false => exact fin (insp_23 f i k m po F w hop k1 k2 hF h0 hA hG e7 x1 e10 x2 x3 x4) (by rw [hU]; simp [e7, e10, x1, x2, x3, x4])
              | true =>
                cases x5 : belB i.el (hsB F 69) f.bl with
                | false => exact fin (insp_24 f i k m po F w hop k1 k2 hF h0 hA hG e7 x1 e10 x2 x3 x4 x5) (by rw [hU]; simp [e7, e10, x1, x2, x3, x4, x5])
                | true =>
                  cases x6 : numB f.fr k i.n with
                  | false => exact fin (insp_25 f i k m po F w hop k1 k2 hF h0 hA hG e7 x1 e10 x2 x3 x4 x5 x6) (by rw [hU]; simp [e7, e10, x1, x2, x3, x4, x5, x6])
                  | true =>
                    exact fin (insp_26 f i k m po F w (nanB i.op i.nm.data.toList i.gs.length fd) hop k1 k2 hF h0 hA hG e7 x1 e10 x2 x3 x4 x5 x6 hM) (by rw [hU]; simp [e7, e10, x1, x2, x3, x4, x5, x6])
end
section
open Go.RowKit Go.Shelf
/-- Which fields a form has. -/
def frS (k : Int) : ByteArray := if k = 1 then ⟨#[68, 78]⟩ else if k = 2 then ⟨#[68, 65]⟩ else if k = 3 then ⟨#[68, 83, 65, 66]⟩ else if k = 4 then ⟨#[68, 65, 78]⟩ else if k = 5 then ⟨#[65, 78, 66]⟩ else if k = 6 then ⟨#[68, 78]⟩ else if k = 7 then ⟨#[68, 83, 82]⟩ else if k = 8 then ⟨#[84]⟩ else if k = 9 then ⟨#[65, 84, 69]⟩ else if k = 10 then ⟨#[65]⟩ else ⟨#[78]⟩
structure Tfa (w : World) : Prop where
  c : ∀ k : Nat, 1 ≤ k → k ≤ 11 → w.cell? ⟨0, k * 2 + 1, none⟩ = some (.string (frS k))
  pos : 0 < w.heap.size
theorem Tfa.below {w w1 : World} (h : Tfa w) (hb : Below w.heap.size w w1) : Tfa w1 :=
  ⟨fun k h1 h2 => by rw [hb.cell (p := ⟨0, k * 2 + 1, none⟩) h.pos]; exact h.c k h1 h2, Nat.lt_of_lt_of_le h.pos hb.size⟩
/-- An instruction's cells. -/
def inC (i : Ins) : List Value := [.int .i64 i.op, .int .i64 i.d, .int .i64 i.a, .int .i64 i.b, .int .i64 i.n, .string i.nm, .slice i.ar i.gs.length i.ac, .int .i64 i.to, .int .i64 i.el]
/-- Instructions, as they lie. -/
def InsA (W : World) (xo : Option Addr) (xc : Nat) (l : List Ins) : Prop := l.length ≤ xc ∧ xc ≤ 9223372036854775807 ∧ (∀ i ∈ l, ArA W i.ar i.ac i.gs ∧ i.nm.size ≤ maxLen) ∧ (0 < l.length → ∃ g o, xo = some ⟨g, o, none⟩ ∧ ∀ (j : Nat) (i : Ins), l[j]? = some i → ∀ (t : Nat) (v : Value), (inC i)[t]? = some v → W.cell? ⟨g, o + j * 9 + t, none⟩ = some v)
theorem InsA.below {W W' : World} {xo : Option Addr} {xc : Nat} {l : List Ins} (h : InsA W xo xc l) (hb : Below W.heap.size W W') : InsA W' xo xc l := by
  refine ⟨h.1, h.2.1, fun i hi => ⟨(h.2.2.1 i hi).1.below hb, (h.2.2.1 i hi).2⟩, fun hl => ?_⟩
  obtain ⟨g, o, e, hc⟩ := h.2.2.2 hl
  exact ⟨g, o, e, fun j i hj t v ht => by rw [hb.cell (p := ⟨g, o + j * 9 + t, none⟩) (World.block_lt_of_cell? _ _ (hc j i hj t v ht))]; exact hc j i hj t v ht⟩
/-- Is the j-th of n instructions right? -/
def atB (f : Fnh) (fd : ByteArray → Option (Option Int)) (n j : Nat) (i : Ins) : Bool := (endB i.op == decide (j + 1 = n)) && insB f i (frS i.op) (fd i.nm)
def upB (f : Fnh) (fd : ByteArray → Option (Option Int)) (n : Nat) : List Ins → Nat → Bool
  | [], _ => true
  | i :: r, j => atB f fd n j i && upB f fd n r (j + 1)
/-- Is a block right? -/
def blkB (f : Fnh) (fd : ByteArray → Option (Option Int)) (l : List Ins) : Bool := witB l.length 1 4096 && upB f fd l.length l 0
theorem upB_at (f : Fnh) (fd : ByteArray → Option (Option Int)) (n : Nat) {l : List Ins} {j : Nat} {i : Ins} (h : l[j]? = some i) (s : Nat) : upB f fd n (l.drop j) (s + j) = (atB f fd n (s + j) i && upB f fd n (l.drop (j + 1)) (s + (j + 1))) := by
  obtain ⟨hj, e⟩ := List.getElem?_eq_some_iff.1 h
  rw [List.drop_eq_getElem_cons hj, e]
  rfl
end
section
open Go.RowKit Go.Shelf
set_option maxRecDepth 20000
set_option maxHeartbeats 4000000
theorem block48g (f : Fnh) (m : Nat) (po : Option Nat) (fd : ByteArray → Option (Option Int)) (l : List Ins) (xo : Option Addr) (xc : Nat) (w : World) (hT : Tfa w) (hI : InsA w xo xc l) (hm : w.heap[m]? = some (.map oes 14)) (hp : ∀ i ∈ l, PmA w (.map po) i.nm (fd i.nm)) : Calls Tryz.prog 61 #[.agg #[.map (some m), .map po], fnhV f, .agg #[.slice xo l.length xc]] w fun e w' => e = .returned (.bool (blkB f fd l)) ∧ G w w' := by
  have HT : Hid (Tfa w) := hT
  have HI : Hid (InsA w xo xc l) := hI
  have HM : Hid (w.heap[m]? = some (.map oes 14)) := hm
  have HP : Hid (∀ i ∈ l, PmA w (.map po) i.nm (fd i.nm)) := hp
  have hxc := hI.1
  have hxc2 := hI.2.1
  have HV : Hid (blkB f fd l = (witB l.length 1 4096 && upB f fd l.length l 0)) := rfl
  obtain ⟨n, hn⟩ : ∃ n, n = l.length := ⟨_, rfl⟩
  have HN : Hid (n = l.length) := hn
  rw [← hn] at hxc HV ⊢
  clear hT hI hm hp hn
  have hW := within47 (n : Int) 1 4096
  generalize blkB f fd l = R at *
  unfold fnhV
  cases hw : witB (n : Int) 1 4096 with
  | false =>
    rw [hw] at hW
    have HE : Hid (false = R) := by show _ = _; rw [HV.out, hw]; rfl
    clear hw
    go_enter Tryz.func61, Tryz.ntmps61
    go_wp2_with (first | (go_at_call 60; refine (hW _).mono ?_; rintro e w' ⟨rfl, rfl⟩))
    go_ret
    exact ⟨ret_bool HE.out, (((G.refl _).alloc _).alloc _).alloc _⟩
  | true =>
    rw [hw] at hW
    have HE : Hid (R = upB f fd n l 0) := by show _ = _; rw [HV.out, hw]; rfl
    have hn1 : 1 ≤ n ∧ n ≤ 4096 := by unfold witB at hw; simp at hw; omega
    obtain ⟨hn1, hn2⟩ := hn1
    clear hw HV
    have HW : Hid (∃ W, W = ((w.alloc (.cells #[.map (some m), .map po] 60)).alloc (.cells #[.string f.nm, .int .i64 f.pa, .int .i64 f.rg, .int .i64 f.fr, .slice f.ba f.bl f.bc] 27)).alloc (.cells #[.slice xo n xc] 49) ∧ G w W ∧ w.heap.size + 1 + 1 < W.heap.size ∧ W.cell? ⟨w.heap.size, 0, none⟩ = some (.map (some m)) ∧ W.cell? ⟨w.heap.size, 1, none⟩ = some (.map po) ∧ W.cell? ⟨w.heap.size + 1, 0, none⟩ = some (.string f.nm) ∧ W.cell? ⟨w.heap.size + 1, 1, none⟩ = some (.int .i64 f.pa) ∧ W.cell? ⟨w.heap.size + 1, 2, none⟩ = some (.int .i64 f.rg) ∧ W.cell? ⟨w.heap.size + 1, 3, none⟩ = some (.int .i64 f.fr) ∧ W.cell? ⟨w.heap.size + 1, 4, none⟩ = some (.slice f.ba f.bl f.bc) ∧ W.cell? ⟨w.heap.size + 1 + 1, 0, none⟩ = some (.slice xo n xc)) := ⟨_, rfl, (((G.refl _).alloc _).alloc _).alloc _, by simp, by go_simp, by go_simp, by go_simp, by go_simp, by go_simp, by go_simp, by go_simp, by go_simp⟩
    go_enter Tryz.func61, Tryz.ntmps61
    go_wp2_with (first | (go_at_call 60; refine (hW _).mono ?_; rintro e w' ⟨rfl, rfl⟩))
    obtain ⟨W, hWe, hG, hWl, c0, c1, c2, c3, c4, c5, c6, c7⟩ := HW.out
    rw [← hWe]
    have HG : Hid (G w W) := hG
    clear hWe hG HW hW
    go_loopw [19] (fun v wx => ∃ j : Nat, j ≤ n ∧ v = .int .i64 j ∧ G W wx ∧ R = upB f fd n (l.drop j) (0 + j)) (fun v _ => n - (intOf v).toNat)
    case atStart => exact ⟨0, Nat.zero_le _, rfl, G.refl _, HE.out⟩
    case round =>
      obtain ⟨j, hj, rfl, hGx, hRu⟩ := hrel
      have HX : Hid (G W wr) := hGx
      have HRu : Hid (R = upB f fd n (l.drop j) (0 + j)) := hRu
      have HB := hGx.below
      have HBw : Hid (Below w.heap.size w wr) := (HG.out.trans hGx).below
      obtain ⟨kc, kf⟩ := bcell HB
      replace c0 := (kc _ _ (by omega)).trans c0
      replace c1 := (kc _ _ (by omega)).trans c1
      replace c2 := (kc _ _ (by omega)).trans c2
      replace c3 := (kc _ _ (by omega)).trans c3
      replace c4 := (kc _ _ (by omega)).trans c4
      replace c5 := (kc _ _ (by omega)).trans c5
      replace c6 := (kc _ _ (by omega)).trans c6
      replace c7 := (kc _ _ (by omega)).trans c7
      have hwl : w.heap.size + 1 + 1 < wr.heap.size := Nat.lt_of_lt_of_le hWl HB.size
      clear kc kf HB hGx hWl hRu HE
      have f0 := acell (by omega) c0
      have f1 := acell (by omega) c1
      have f2 := acell (by omega) c2
      have f3 := acell (by omega) c3
      have f4 := acell (by omega) c4
      have f5 := acell (by omega) c5
      have f6 := acell (by omega) c6
      by_cases hlt : j < n
      · obtain ⟨i, hi⟩ : ∃ i, l[j]? = some i := ⟨_, List.getElem?_eq_getElem (by have := HN.out; omega)⟩
        have hIw := HI.out.below HBw.out
        obtain ⟨g, oo, hxo, hcc⟩ := hIw.2.2.2 (by have := HN.out; omega)
        have d0 := hcc j i hi 0 _ rfl
        have d1 := hcc j i hi 1 _ rfl
        have d2 := hcc j i hi 2 _ rfl
        have d3 := hcc j i hi 3 _ rfl
        have d4 := hcc j i hi 4 _ rfl
        have d5 := hcc j i hi 5 _ rfl
        have d6 := hcc j i hi 6 _ rfl
        have d7 := hcc j i hi 7 _ rfl
        have d8 := hcc j i hi 8 _ rfl
        rw [Nat.add_zero] at d0
        have hmem : i ∈ l := List.mem_of_getElem? hi
        have HU : Hid (upB f fd n (l.drop j) (0 + j) = (atB f fd n (0 + j) i && upB f fd n (l.drop (j + 1)) (0 + (j + 1)))) := upB_at f fd n hi 0
        have hE := fun W => isEnd58 i.op W
        have hC : Hid (∀ W', G wr W' → Calls Tryz.prog 91 #[.agg #[.map (some m), .map po], .agg #[.string f.nm, .int .i64 f.pa, .int .i64 f.rg, .int .i64 f.fr, .slice f.ba f.bl f.bc], .agg #[.int .i64 i.op, .int .i64 i.d, .int .i64 i.a, .int .i64 i.b, .int .i64 i.n, .string i.nm, .slice i.ar i.gs.length i.ac, .int .i64 i.to, .int .i64 i.el]] W' fun e w' => e = .returned (.bool (insB f i (frS i.op) (fd i.nm))) ∧ G W' w') := fun W' hW' => by
          have hb := HBw.out.trans (hW'.below.mono HBw.out.size)
          exact instruction59 f i m po (frS i.op) (fd i.nm) W' (fun k h1 h2 h3 => by rw [h1]; exact (HT.out.below hb).c k h2 h3) (HT.out.below hb).pos ((HI.out.below hb).2.2.1 i hmem).1 ((HI.out.below hb).2.2.1 i hmem).2 (by rw [hb.block m (Array.getElem?_eq_some_iff.1 HM.out).1]; exact HM.out) ((HP.out i hmem).g hb)
        have HAt : Hid (atB f fd n (0 + j) i = ((endB i.op == decide (0 + j + 1 = n)) && insB f i (frS i.op) (fd i.nm))) := rfl
        generalize i.gs.length = al at *
        clear hIw hcc hi hmem
        subst hxo
        generalize insB f i (frS i.op) (fd i.nm) = IB at *
        generalize atB f fd n (0 + j) i = AB at *
        obtain ⟨UB, hUB⟩ : ∃ UB, UB = upB f fd n (l.drop (j + 1)) (0 + (j + 1)) := ⟨_, rfl⟩
        have HUB : Hid (UB = upB f fd n (l.drop (j + 1)) (0 + (j + 1))) := hUB
        rw [← hUB] at HU
        clear hUB
        generalize hEB : endB i.op = EB at *
        clear hEB
        have HXo : Hid (R = (((EB == decide (0 + j + 1 = n)) && IB) && UB)) := by show _ = _; rw [HRu.out, HU.out, HAt.out]
        by_cases hjn : j + 1 = n
        · have hdj : (decide (0 + j + 1 = n)) = true := by simp; omega
          cases EB with
          | false =>
            have HE : Hid (false = R) := by show _ = _; rw [HXo.out, hdj]; rfl
            clear hdj
            go_wp2_with (first | (go_at_call 90; refine (hE _).mono ?_; rintro e w' ⟨rfl, rfl⟩))
            go_ret
            exact ⟨ret_bool HE.out, (HG.out.trans HX.out).alloc _⟩
          | true =>
            cases IB with
            | false =>
              have HE : Hid (false = R) := by show _ = _; rw [HXo.out, hdj]; rfl
              clear hdj
              go_wp2_with (first | (go_at_call 90; refine (hE _).mono ?_; rintro e w' ⟨rfl, rfl⟩) | (go_at_call 91; refine (hC.out _ ((G.refl _).alloc _)).mono ?_; rintro e w' ⟨rfl, hg⟩))
              go_ret
              exact ⟨ret_bool HE.out, ((HG.out.trans HX.out).alloc _).trans hg⟩
            | true =>
              have HE : Hid (R = UB) := by show _ = _; rw [HXo.out, hdj]; rfl
              clear hdj
              go_wp2_with (first | (go_at_call 90; refine (hE _).mono ?_; rintro e w' ⟨rfl, rfl⟩) | (go_at_call 91; refine (hC.out _ ((G.refl _).alloc _)).mono ?_; rintro e w' ⟨rfl, hg⟩))
              go_round
              case rel => exact ⟨j + 1, by omega, by go_num, (HX.out.alloc _).trans hg, HE.out.trans HUB.out⟩
              case measure => simp [intOf]; omega
        · have hdj : (decide (0 + j + 1 = n)) = false := by simp; omega
          cases EB with
          | true =>
            have HE : Hid (false = R) := by show _ = _; rw [HXo.out, hdj]; rfl
            clear hdj
            go_wp2_with (first | (go_at_call 90; refine (hE _).mono ?_; rintro e w' ⟨rfl, rfl⟩))
            go_ret
            exact ⟨ret_bool HE.out, (HG.out.trans HX.out).alloc _⟩
          | false =>
            cases IB with
            | false =>
              have HE : Hid (false = R) := by show _ = _; rw [HXo.out, hdj]; rfl
              clear hdj
              go_wp2_with (first | (go_at_call 90; refine (hE _).mono ?_; rintro e w' ⟨rfl, rfl⟩) | (go_at_call 91; refine (hC.out _ ((G.refl _).alloc _)).mono ?_; rintro e w' ⟨rfl, hg⟩))
              go_ret
              exact ⟨ret_bool HE.out, ((HG.out.trans HX.out).alloc _).trans hg⟩
            | true =>
              have HE : Hid (R = UB) := by show _ = _; rw [HXo.out, hdj]; rfl
              clear hdj
              go_wp2_with (first | (go_at_call 90; refine (hE _).mono ?_; rintro e w' ⟨rfl, rfl⟩) | (go_at_call 91; refine (hC.out _ ((G.refl _).alloc _)).mono ?_; rintro e w' ⟨rfl, hg⟩))
              go_round
              case rel => exact ⟨j + 1, by omega, by go_num, (HX.out.alloc _).trans hg, HE.out.trans HUB.out⟩
              case measure => simp [intOf]; omega
      · obtain rfl : n = j := by omega
        have HE : Hid (true = R) := by show _ = _; rw [HRu.out, List.drop_eq_nil_of_le (by have := HN.out; omega)]; rfl
        go_wp2
        go_ret
        exact ⟨ret_bool HE.out, HG.out.trans HX.out⟩
end
end Go.Proofs.YtdppoblbenbafaaGreatDoor
