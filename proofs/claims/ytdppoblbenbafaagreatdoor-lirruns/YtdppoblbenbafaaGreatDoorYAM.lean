/- What a right program has: an instruction's numbers. What the operations make of two numbers: the program's. The first part that has ended. -/
import Derived.Test.YtdppoblbenbafaaGreatDoorYAL
import Derived.Test.YtdppoblbenbafaaGreatDoorYAB
import Derived.Test.YtdppoblbenbafaaGreatDoorYAD
namespace Go.Proofs.YtdppoblbenbafaaGreatDoor
section
open Go.RowKit Go.Shelf
structure InsF (f : Fnh) (i : Ins) (fd : Option (Option Int)) : Prop where
  op : 1 ≤ i.op ∧ i.op ≤ 11
  gs : ∀ y ∈ i.gs, 0 ≤ y ∧ y < f.rg
  dd : (i.op = 1 ∨ i.op = 2 ∨ i.op = 3 ∨ i.op = 4 ∨ i.op = 6) → 0 ≤ i.d ∧ i.d < f.rg
  dc : i.op = 7 → i.d = -1 ∨ (0 ≤ i.d ∧ i.d < f.rg)
  aa : (i.op = 2 ∨ i.op = 3 ∨ i.op = 4 ∨ i.op = 5 ∨ i.op = 9) → 0 ≤ i.a ∧ i.a < f.rg
  ar : i.op = 10 → i.a = -1 ∨ (0 ≤ i.a ∧ i.a < f.rg)
  bb : (i.op = 3 ∨ i.op = 5) → 0 ≤ i.b ∧ i.b < f.rg
  to : (i.op = 8 ∨ i.op = 9) → 0 ≤ i.to ∧ i.to < f.bl
  el : i.op = 9 → 0 ≤ i.el ∧ i.el < f.bl
  nf : i.op = 6 → 0 ≤ i.n ∧ i.n < f.fr
  nt : i.op = 11 → 0 ≤ i.n ∧ i.n ≤ 255
  nm : i.op = 3 → opB i.nm.data.toList = true
  ca : i.op = 7 → calB i.nm.data.toList i.gs.length fd = true
theorem hs_d : hsB (frS 1) 68 = true ∧ hsB (frS 2) 68 = true ∧ hsB (frS 3) 68 = true ∧ hsB (frS 4) 68 = true ∧ hsB (frS 6) 68 = true ∧ hsB (frS 7) 68 = true := by decide
theorem hs_a : hsB (frS 2) 65 = true ∧ hsB (frS 3) 65 = true ∧ hsB (frS 4) 65 = true ∧ hsB (frS 5) 65 = true ∧ hsB (frS 9) 65 = true ∧ hsB (frS 10) 65 = true := by decide
theorem hs_b : hsB (frS 3) 66 = true ∧ hsB (frS 5) 66 = true ∧ hsB (frS 8) 84 = true ∧ hsB (frS 9) 84 = true ∧ hsB (frS 9) 69 = true := by decide
theorem bel_true {n e : Int} (h : belB n true e = true) : 0 ≤ n ∧ n < e := by
  unfold belB at h
  simpa using h
theorem ins_facts {f : Fnh} {i : Ins} {fd : Option (Option Int)} (h : insB f i (frS i.op) fd = true) : InsF f i fd := by
  unfold insB at h
  simp only [Bool.and_eq_true, Bool.or_eq_true, decide_eq_true_eq, beq_iff_eq] at h
  obtain ⟨⟨o1, o2⟩, g, d, a, b, t, e, n, m⟩ := h
  have G : ∀ y ∈ i.gs, 0 ≤ y ∧ y < f.rg := fun y hy => bel_true (List.all_eq_true.1 g y hy)
  refine ⟨⟨o1, o2⟩, G, ?_, ?_, ?_, ?_, ?_, ?_, ?_, ?_, ?_, ?_, ?_⟩
  · intro ho
    rcases d with ⟨d, _⟩ | d
    · omega
    · rcases ho with ho | ho | ho | ho | ho <;> rw [ho] at d <;> exact bel_true (by simpa [hs_d] using d)
  · intro ho
    rcases d with ⟨_, d⟩ | d
    · exact .inl d
    · rw [ho] at d; exact .inr (bel_true (by simpa [hs_d] using d))
  · intro ho
    rcases a with ⟨a, _⟩ | a
    · omega
    · rcases ho with ho | ho | ho | ho | ho <;> rw [ho] at a <;> exact bel_true (by simpa [hs_a] using a)
  · intro ho
    rcases a with ⟨_, a⟩ | a
    · exact .inl a
    · rw [ho] at a; exact .inr (bel_true (by simpa [hs_a] using a))
  · intro ho
    rcases ho with ho | ho <;> rw [ho] at b <;> exact bel_true (by simpa [hs_b] using b)
  · intro ho
    rcases ho with ho | ho <;> rw [ho] at t <;> exact bel_true (by simpa [hs_b] using t)
  · intro ho
    rw [ho] at e; exact bel_true (by simpa [hs_b] using e)
  · intro ho
    unfold numB at n
    simpa [ho] using n
  · intro ho
    unfold numB at n
    simpa [ho] using n
  · intro ho
    unfold nanB at m
    simp [ho] at m
    exact m.1
  · intro ho
    unfold nanB at m
    simpa [ho] using m
structure FnF (f : Fun) : Prop where
  pa : 0 ≤ f.h.pa ∧ f.h.pa ≤ 7
  rg : f.h.pa ≤ f.h.rg ∧ f.h.rg ≤ 4096
  fr : 0 ≤ f.h.fr ∧ f.h.fr ≤ 4096
  bl : 1 ≤ f.h.bl ∧ f.h.bl ≤ 1024
theorem wit_true {n a b : Int} (h : witB n a b = true) : a ≤ n ∧ n ≤ b := by
  unfold witB at h
  simpa using h
theorem prog_fn {p : List Fun} (h : prB p = true) {k : Nat} {f : Fun} (hk : p[k]? = some f) : FnF f ∧ (∀ (b : Nat) (bl : Blk), f.bs[b]? = some bl → blkB f.h (fdF p) bl.l = true) ∧ nmB f.h.nm.data.toList = true := by
  unfold prB fnsB at h
  simp only [Bool.and_eq_true] at h
  obtain ⟨_, _, _, h⟩ := h
  have h := List.all_eq_true.1 h f (List.mem_of_getElem? hk)
  unfold fnB at h
  simp only [Bool.and_eq_true] at h
  obtain ⟨h0, h1, h2, h3, h4, h5⟩ := h
  refine ⟨⟨wit_true h1, wit_true h2, wit_true h3, by have := wit_true h4; omega⟩, fun b bl hb => ?_, h0⟩
  exact List.all_eq_true.1 h5 bl (List.mem_of_getElem? hb)
theorem upB_all {f : Fnh} {fd : ByteArray → Option (Option Int)} {n : Nat} : ∀ (l : List Ins) (s : Nat), upB f fd n l s = true → ∀ (j : Nat) (i : Ins), l[j]? = some i → atB f fd n (s + j) i = true
  | [], _, _, j, i, hi => by cases hi
  | x :: r, s, h, j, i, hi => by
    unfold upB at h
    simp only [Bool.and_eq_true] at h
    cases j with
    | zero => cases hi; exact h.1
    | succ j => have := upB_all r (s + 1) h.2 j i hi; rwa [show s + 1 + j = s + (j + 1) by omega] at this
theorem blk_facts {f : Fnh} {fd : ByteArray → Option (Option Int)} {l : List Ins} (h : blkB f fd l = true) : (1 ≤ l.length ∧ l.length ≤ 4096) ∧ ∀ (j : Nat) (i : Ins), l[j]? = some i → InsF f i (fd i.nm) ∧ (endB i.op = true ↔ j + 1 = l.length) := by
  unfold blkB at h
  simp only [Bool.and_eq_true] at h
  refine ⟨by have := wit_true h.1; omega, fun j i hi => ?_⟩
  have t := upB_all l 0 h.2 j i hi
  rw [Nat.zero_add] at t
  unfold atB at t
  simp only [Bool.and_eq_true, beq_iff_eq] at t
  refine ⟨ins_facts t.2, ?_⟩
  rw [t.1]
  simp
end
section
open Go.RowKit Go.Shelf
set_option maxHeartbeats 1000000
set_option maxRecDepth 20000
theorem wrapU (z : Int) : IntKind.u64.wrap z = z % 18446744073709551616 := by
  simp [IntKind.wrap, IntKind.signed, IntKind.bits]
theorem mask64 (k : Nat) (msk p a : Int) (hp : p = ((2 ^ k : Nat) : Int)) (hm : msk = p - 1) (hk : k ≤ 64) (h0 : 0 ≤ a) (h1 : a < 18446744073709551616) : bits .and .u64 a msk = a % p := by
  have e2 : 0 < 2 ^ k := Nat.two_pow_pos k
  have e3 : 2 ^ k ≤ 2 ^ 64 := Nat.pow_le_pow_right (by omega) hk
  subst hm
  rw [u64_and a (p - 1) h0 (by omega) (by omega) (by omega)]
  have e : (p - 1).toNat = 2 ^ k - 1 := by omega
  rw [e, Nat.and_two_pow_sub_one_eq_mod, Int.natCast_emod, Int.toNat_of_nonneg h0, hp]
theorem lo32 {a : Int} (h0 : 0 ≤ a) (h1 : a < 18446744073709551616) : bits .and .u64 a 4294967295 = a % 4294967296 := mask64 32 _ _ a rfl rfl (by omega) h0 h1
theorem lo6 {a : Int} (h0 : 0 ≤ a) (h1 : a < 18446744073709551616) : bits .and .u64 a 63 = a % 64 := mask64 6 _ _ a rfl rfl (by omega) h0 h1
/-- By how many bits a number shifts; a number without its sign. -/
def shN (b : Int) : Nat := (b % 18446744073709551616 % 64).toNat
def U (a : Int) : Int := a % 18446744073709551616
theorem U_bd (a : Int) : 0 ≤ U a ∧ U a < 18446744073709551616 := by unfold U; omega
theorem wrap_U (a : Int) : IntKind.u64.wrap a = U a := wrapU a
theorem shN_lt (b : Int) : shN b < 64 := by unfold shN; omega
def quoV (a b : Int) : Int := if b = 0 then -1 else wrap64 (a.tdiv b)
def remV (a b : Int) : Int := if b = 0 then a else a.tmod b
def sllV (a b : Int) : Int := wrap64 (a * 2 ^ shN b)
def srlV (a b : Int) : Int := wrap64 (U a / 2 ^ shN b)
def sraV (a b : Int) : Int := a / 2 ^ shN b
def sltV (a b : Int) : Int := if a < b then 1 else 0
def sltuV (a b : Int) : Int := if U a < U b then 1 else 0
def ngV (a b : Int) : Int := if a < 0 then b else 0
def hiV (a b : Int) : Int := wrap64 (wrap64 (wrap64 (U a * U b / 18446744073709551616) - ngV a b) - ngV b a)
theorem add12 (a b : Int) (w : World)  : Calls Tryz.prog 43 #[.int .i64 a, .int .i64 b] w fun e w' => e = .returned (.int .i64 (wrap64 (a + b))) ∧ w' = w := by
  go_enter Tryz.func43, Tryz.ntmps43
  go_wp2
  go_ret
  exact ⟨rfl, rfl⟩
theorem sub13 (a b : Int) (w : World)  : Calls Tryz.prog 44 #[.int .i64 a, .int .i64 b] w fun e w' => e = .returned (.int .i64 (wrap64 (a - b))) ∧ w' = w := by
  go_enter Tryz.func44, Tryz.ntmps44
  go_wp2
  go_ret
  exact ⟨rfl, rfl⟩
theorem mul14 (a b : Int) (w : World)  : Calls Tryz.prog 45 #[.int .i64 a, .int .i64 b] w fun e w' => e = .returned (.int .i64 (wrap64 (a * b))) ∧ w' = w := by
  go_enter Tryz.func45, Tryz.ntmps45
  go_wp2
  go_ret
  exact ⟨rfl, rfl⟩
theorem and18 (a b : Int) (w : World)  : Calls Tryz.prog 49 #[.int .i64 a, .int .i64 b] w fun e w' => e = .returned (.int .i64 (bits .and .i64 a b)) ∧ w' = w := by
  go_enter Tryz.func49, Tryz.ntmps49
  go_wp2
  go_ret
  exact ⟨rfl, rfl⟩
theorem or19 (a b : Int) (w : World)  : Calls Tryz.prog 50 #[.int .i64 a, .int .i64 b] w fun e w' => e = .returned (.int .i64 (bits .or .i64 a b)) ∧ w' = w := by
  go_enter Tryz.func50, Tryz.ntmps50
  go_wp2
  go_ret
  exact ⟨rfl, rfl⟩
theorem xor20 (a b : Int) (w : World)  : Calls Tryz.prog 51 #[.int .i64 a, .int .i64 b] w fun e w' => e = .returned (.int .i64 (bits .xor .i64 a b)) ∧ w' = w := by
  go_enter Tryz.func51, Tryz.ntmps51
  go_wp2
  go_ret
  exact ⟨rfl, rfl⟩
theorem quo16 (a b : Int) (w : World)  : Calls Tryz.prog 47 #[.int .i64 a, .int .i64 b] w fun e w' => e = .returned (.int .i64 (quoV a b)) ∧ w' = w := by
  by_cases h : b = 0
  · subst h
    go_enter Tryz.func47, Tryz.ntmps47
    go_wp2
    go_ret
    exact ⟨rfl, rfl⟩
  · have HR : Hid (quoV a b = wrap64 (a.tdiv b)) := if_neg h
    generalize quoV a b = R at *
    go_enter Tryz.func47, Tryz.ntmps47
    go_wp2
    go_ret
    exact ⟨ret_int HR.out.symm, rfl⟩
theorem rem17 (a b : Int) (w : World)  : Calls Tryz.prog 48 #[.int .i64 a, .int .i64 b] w fun e w' => e = .returned (.int .i64 (remV a b)) ∧ w' = w := by
  by_cases h : b = 0
  · subst h
    go_enter Tryz.func48, Tryz.ntmps48
    go_wp2
    go_ret
    exact ⟨rfl, rfl⟩
  · have HR : Hid (remV a b = a.tmod b) := if_neg h
    generalize remV a b = R at *
    go_enter Tryz.func48, Tryz.ntmps48
    go_wp2
    go_ret
    exact ⟨ret_int HR.out.symm, rfl⟩
theorem shift22 (b : Int) (w : World) : Calls Tryz.prog 53 #[.int .i64 b] w fun e w' => e = .returned (.int .u64 (shN b : Nat)) ∧ w' = w := by
  have HU : Hid ((IntKind.u64.wrap b).tmod 64 = ((shN b : Nat) : Int)) := by
    show _ = _
    rw [wrapU, Int.tmod_eq_emod_of_nonneg (by omega)]
    unfold shN
    omega
  go_enter Tryz.func53, Tryz.ntmps53
  go_wp2
  go_ret
  exact ⟨ret_int HU.out, rfl⟩
theorem sll21 (a b : Int) (w : World)  : Calls Tryz.prog 52 #[.int .i64 a, .int .i64 b] w fun e w' => e = .returned (.int .i64 (sllV a b)) ∧ w' = w := by
  have hl := shN_lt b
  have hS := shift22 b
  have hU := wrap_U a
  have hu := U_bd a
  unfold sllV
  generalize shN b = n at *
  generalize U a = A at *
  go_enter Tryz.func52, Tryz.ntmps52
  go_wp2_with (first | (go_at_call 53; refine (hS _).mono ?_; rintro e w' ⟨rfl, rfl⟩))
  go_ret
  exact ⟨rfl, rfl⟩
theorem srl23 (a b : Int) (w : World)  : Calls Tryz.prog 54 #[.int .i64 a, .int .i64 b] w fun e w' => e = .returned (.int .i64 (srlV a b)) ∧ w' = w := by
  have hl := shN_lt b
  have hS := shift22 b
  have hU := wrap_U a
  have hu := U_bd a
  unfold srlV
  generalize shN b = n at *
  generalize U a = A at *
  go_enter Tryz.func54, Tryz.ntmps54
  go_wp2_with (first | (go_at_call 53; refine (hS _).mono ?_; rintro e w' ⟨rfl, rfl⟩))
  go_ret
  exact ⟨rfl, rfl⟩
theorem sra24 (a b : Int) (w : World)  : Calls Tryz.prog 55 #[.int .i64 a, .int .i64 b] w fun e w' => e = .returned (.int .i64 (sraV a b)) ∧ w' = w := by
  have hl := shN_lt b
  have hS := shift22 b
  have hU := wrap_U a
  have hu := U_bd a
  unfold sraV
  generalize shN b = n at *
  generalize U a = A at *
  go_enter Tryz.func55, Tryz.ntmps55
  go_wp2_with (first | (go_at_call 53; refine (hS _).mono ?_; rintro e w' ⟨rfl, rfl⟩))
  go_ret
  exact ⟨rfl, rfl⟩
theorem truth26 (v : Bool) (w : World) : Calls Tryz.prog 57 #[.bool v] w fun e w' => e = .returned (.int .i64 (if v then 1 else 0)) ∧ w' = w := by
  cases v
  all_goals
    go_enter Tryz.func57, Tryz.ntmps57
    go_wp2
    go_ret
    exact ⟨rfl, rfl⟩
theorem truth9 (v : Bool) (w : World) : Calls Tryz.prog 130 #[.bool v] w fun e w' => e = .returned (.int .i64 (if v then 1 else 0)) ∧ w' = w := by
  cases v
  all_goals
    go_enter Tryz.func130, Tryz.ntmps130
    go_wp2
    go_ret
    exact ⟨rfl, rfl⟩
theorem slt25 (a b : Int) (w : World) : Calls Tryz.prog 56 #[.int .i64 a, .int .i64 b] w fun e w' => e = .returned (.int .i64 (sltV a b)) ∧ w' = w := by
  have hT := truth26
  by_cases h : a < b
  · have HV : Hid ((1 : Int) = sltV a b) := (if_pos h).symm
    go_enter Tryz.func56, Tryz.ntmps56
    go_wp2_with (first | (go_at_call 57; refine (hT _ _).mono ?_; rintro e w' ⟨rfl, rfl⟩))
    go_ret
    exact ⟨ret_int HV.out, rfl⟩
  · have HV : Hid ((0 : Int) = sltV a b) := (if_neg h).symm
    go_enter Tryz.func56, Tryz.ntmps56
    go_wp2_with (first | (go_at_call 57; refine (hT _ _).mono ?_; rintro e w' ⟨rfl, rfl⟩))
    go_ret
    exact ⟨ret_int HV.out, rfl⟩
theorem sltu27 (a b : Int) (w : World) : Calls Tryz.prog 58 #[.int .i64 a, .int .i64 b] w fun e w' => e = .returned (.int .i64 (sltuV a b)) ∧ w' = w := by
  have hT := truth26
  have hA := wrap_U a
  have hB := wrap_U b
  by_cases h : U a < U b
  · have HV : Hid ((1 : Int) = sltuV a b) := (if_pos h).symm
    go_enter Tryz.func58, Tryz.ntmps58
    go_wp2_with (first | (go_at_call 57; refine (hT _ _).mono ?_; rintro e w' ⟨rfl, rfl⟩))
    go_ret
    exact ⟨ret_int HV.out, rfl⟩
  · have HV : Hid ((0 : Int) = sltuV a b) := (if_neg h).symm
    go_enter Tryz.func58, Tryz.ntmps58
    go_wp2_with (first | (go_at_call 57; refine (hT _ _).mono ?_; rintro e w' ⟨rfl, rfl⟩))
    go_ret
    exact ⟨ret_int HV.out, rfl⟩
theorem negative31 (a b : Int) (w : World) : Calls Tryz.prog 87 #[.int .i64 a, .int .i64 b] w fun e w' => e = .returned (.int .i64 (ngV a b)) ∧ w' = w := by
  unfold ngV
  by_cases h : a < 0
  · rw [if_pos h]
    go_enter Tryz.func87, Tryz.ntmps87
    go_wp2
    go_ret
    exact ⟨rfl, rfl⟩
  · rw [if_neg h]
    go_enter Tryz.func87, Tryz.ntmps87
    go_wp2
    go_ret
    exact ⟨rfl, rfl⟩
theorem high15 (a b : Int) (w : World) : Calls Tryz.prog 46 #[.int .i64 a, .int .i64 b] w fun e w' => e = .returned (.int .i64 (hiV a b)) ∧ w' = w := by
  have hM : ∀ w, Calls Tryz.prog 86 #[.int .u64 (U a), .int .u64 (U b)] w fun e w' => e = .returned (.tuple #[.int .u64 (U a * U b / 18446744073709551616), .int .u64 (U a * U b % 18446744073709551616)]) ∧ w' = w := fun w => by
    have t := Tryz.bits_Mul64 (U a).toNat (U b).toNat (by have := U_bd a; omega) (by have := U_bd b; omega) w
    rw [Int.toNat_of_nonneg (U_bd a).1, Int.toNat_of_nonneg (U_bd b).1, Int.natCast_ediv, Int.natCast_emod, Int.natCast_mul, Int.toNat_of_nonneg (U_bd a).1, Int.toNat_of_nonneg (U_bd b).1] at t
    exact t
  have hA := wrap_U a
  have hB := wrap_U b
  have hN := negative31 a b
  have hN' := negative31 b a
  unfold hiV
  generalize U a = A at *
  generalize U b = B at *
  generalize A * B / 18446744073709551616 = H at *
  generalize ngV a b = n1 at *
  generalize ngV b a = n2 at *
  go_enter Tryz.func46, Tryz.ntmps46
  go_wp2_with (first | (go_at_call 86; refine (hM _).mono ?_; rintro e w' ⟨rfl, rfl⟩) | (go_at_call 87; (first | (with_reducible refine (hN _).mono ?_) | (with_reducible refine (hN' _).mono ?_)); rintro e w' ⟨rfl, rfl⟩))
  go_ret
  exact ⟨rfl, rfl⟩
end
section
open Go.RowKit Go.Shelf
set_option maxHeartbeats 2000000
/-- A part. -/
structure Pt where
  kd : Int
  at_ : Int
  wa : Option Addr
  wn : Nat
  wc : Nat
def ptC (p : Pt) : List Value := [.int .i64 p.kd, .int .i64 p.at_, .slice p.wa p.wn p.wc]
/-- Parts, as they lie from a place on. -/
def PtA (W : World) (P : Nat) (l : List Pt) : Prop := ∀ (k : Nat) (p : Pt), l[k]? = some p → W.cell? ⟨P, k * 3, none⟩ = some (.int .i64 p.kd) ∧ W.cell? ⟨P, k * 3 + 1, none⟩ = some (.int .i64 p.at_) ∧ W.cell? ⟨P, k * 3 + 2, none⟩ = some (.slice p.wa p.wn p.wc)
theorem PtA.below {W W' : World} {P : Nat} {l : List Pt} (h : PtA W P l) (hb : Below W.heap.size W W') : PtA W' P l := fun k p hk => by
  obtain ⟨a, b, c⟩ := h k p hk
  have hl := World.block_lt_of_cell? _ _ a
  exact ⟨by rw [hb.cell (p := ⟨P, k * 3, none⟩) hl]; exact a, by rw [hb.cell (p := ⟨P, k * 3 + 1, none⟩) hl]; exact b, by rw [hb.cell (p := ⟨P, k * 3 + 2, none⟩) hl]; exact c⟩
theorem ended75g (p : Pt) (w : World) : Calls Tryz.prog 170 #[.agg #[.int .i64 p.kd, .int .i64 p.at_, .slice p.wa p.wn p.wc]] w fun e w' => e = .returned (.bool (decide (p.kd = 0))) ∧ G w w' := by
  go_enter Tryz.func170, Tryz.ntmps170
  go_wp2
  go_ret
  exact ⟨ret_bool (by rw [Bool.eq_iff_iff]; simp), (G.refl _).alloc _⟩
/-- The place of the first that has ended; -1: none has. -/
def fiE : List Pt → Nat → Int
  | [], _ => -1
  | p :: l, k => if p.kd = 0 then (k : Int) else fiE l (k + 1)
theorem fiE_at {l : List Pt} {k : Nat} {p : Pt} (h : l[k]? = some p) (s : Nat) : fiE (l.drop k) (s + k) = if p.kd = 0 then ((s + k : Nat) : Int) else fiE (l.drop (k + 1)) (s + (k + 1)) := by
  obtain ⟨hk, e⟩ := List.getElem?_eq_some_iff.1 h
  rw [List.drop_eq_getElem_cons hk, e]
  rfl
theorem index79g (P pa : Nat) (l : List Pt) (w : World) (hA : PtA w P l) (hn : l.length ≤ 1000000) : Calls Tryz.prog 181 #[.slice (some ⟨P, 0, none⟩) l.length pa, .func (.func 170) #[] #[]] w fun e w' => e = .returned (.int .i64 (fiE l 0)) ∧ G w w' := by
  have HA : Hid (PtA w P l) := hA
  obtain ⟨n, hnn⟩ : ∃ n, n = l.length := ⟨_, rfl⟩
  have HN : Hid (n = l.length) := hnn
  rw [← hnn] at hn ⊢
  clear hA hnn
  have HE0 : Hid (fiE l 0 = fiE (l.drop 0) 0) := rfl
  generalize fiE l 0 = R at *
  go_enter Tryz.func181, Tryz.ntmps181
  go_wp2
  go_loopw [8] (fun i wx => ∃ j : Nat, j ≤ n ∧ i = .int .i64 j ∧ G w wx ∧ R = fiE (l.drop j) (0 + j)) (fun i _ => n - (intOf i).toNat)
  case atStart => exact ⟨0, Nat.zero_le _, rfl, G.refl _, HE0.out⟩
  case round =>
    obtain ⟨j, hj, rfl, hG, hRu⟩ := hrel
    have HG : Hid (G w wr) := hG
    have HRu : Hid (R = fiE (l.drop j) (0 + j)) := hRu
    clear hG hRu HE0
    by_cases hlt : j < n
    · obtain ⟨p, hp⟩ : ∃ p, l[j]? = some p := ⟨_, List.getElem?_eq_getElem (by have := HN.out; omega)⟩
      have HU := fiE_at hp 0
      obtain ⟨c0, c1, c2⟩ := (HA.out.below HG.out.below) j p hp
      have hlt' : (j : Int) < n := by omega
      have HC := ended75g p wr
      clear hp
      by_cases hk : p.kd = 0
      · have HE : Hid ((j : Int) = R) := by show _ = _; rw [HRu.out, HU, if_pos hk]; simp
        have hd : decide (p.kd = 0) = true := by simpa using hk
        rw [hd] at HC
        clear HU hk hd
        go_wp2_with (first | (go_at_call 170; refine HC.mono ?_; rintro e w1 ⟨rfl, hg⟩))
        go_ret
        exact ⟨ret_int HE.out, HG.out.trans hg⟩
      · have HE : Hid (R = fiE (l.drop (j + 1)) (0 + (j + 1))) := by show _ = _; rw [HRu.out, HU, if_neg hk]
        have hd : decide (p.kd = 0) = false := by simpa using hk
        rw [hd] at HC
        clear HU hk hd
        go_wp2_with (first | (go_at_call 170; refine HC.mono ?_; rintro e w1 ⟨rfl, hg⟩))
        go_round
        case rel => exact ⟨j + 1, by omega, by go_num, HG.out.trans hg, HE.out⟩
        case measure => simp [intOf]; omega
    · obtain rfl : n = j := by omega
      have HE : Hid (-1 = R) := by show _ = _; rw [HRu.out, List.drop_eq_nil_of_le (by have := HN.out; omega)]; rfl
      go_wp2
      go_ret
      exact ⟨ret_int HE.out, HG.out⟩
end
end Go.Proofs.YtdppoblbenbafaaGreatDoor
