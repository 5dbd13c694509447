/- What a right program has: an instruction's numbers. What the operations make of two numbers: the program's. Blocks of cells, as they are. A run's little functions. A part of memory is found, and ends. A number is printed. -/
import Derived.Test.YtdppoblbenbafaaDoorXAG
import Derived.Test.YtdppoblbenbafaaDoorXAA
import Derived.Test.YtdppoblbenbafaaDoorXAD
import Derived.Deep.AppendLies
import Derived.Deep.RegionLawGrows
namespace Go.Proofs.YtdppoblbenbafaaDoor
section
open Go.RowKit Go.Shelf
structure InsF (f : Fnh) (i : Ins) (fd : Option (Option Int)) : Prop where
  op : 1 ≤ i.op ∧ i.op ≤ 11
  gs : ∀ y ∈ i.gs, 0 ≤ y ∧ y < f.rg
  dd : (i.op = 1 ∨ i.op = 2 ∨ i.op = 3 ∨ i.op = 4 ∨ i.op = 6) → 0 ≤ i.d ∧ i.d < f.rg
  dc : i.op = 7 → i.d = -1 ∨ (0 ≤ i.d ∧ i.d < f.rg)
  aa : (i.op = 2 ∨ i.op = 3 ∨ i.op = 4 ∨ i.op = 5 ∨ i.op = 9) → 0 ≤ i.a ∧ i.a < f.rg
  ar : i.op = 10 → i.a = -1 ∨ (0 ≤ i.a ∧ i.a < f.rg)
  bb : (i.op = 3 ∨ i.op = 5) → 0 ≤ i.b ∧ i.b < f.rg
  to : (i.op = 8 ∨ i.op = 9) → 0 ≤ i.to ∧ i.to < f.bl
  el : i.op = 9 → 0 ≤ i.el ∧ i.el < f.bl
  nf : i.op = 6 → 0 ≤ i.n ∧ i.n < f.fr
  nt : i.op = 11 → 0 ≤ i.n ∧ i.n ≤ 255
  nm : i.op = 3 → opB i.nm.data.toList = true
  ca : i.op = 7 → calB i.nm.data.toList i.gs.length fd = true
theorem hs_d : hsB (frS 1) 68 = true ∧ hsB (frS 2) 68 = true ∧ hsB (frS 3) 68 = true ∧ hsB (frS 4) 68 = true ∧ hsB (frS 6) 68 = true ∧ hsB (frS 7) 68 = true := by decide
theorem hs_a : hsB (frS 2) 65 = true ∧ hsB (frS 3) 65 = true ∧ hsB (frS 4) 65 = true ∧ hsB (frS 5) 65 = true ∧ hsB (frS 9) 65 = true ∧ hsB (frS 10) 65 = true := by decide
theorem hs_b : hsB (frS 3) 66 = true ∧ hsB (frS 5) 66 = true ∧ hsB (frS 8) 84 = true ∧ hsB (frS 9) 84 = true ∧ hsB (frS 9) 69 = true := by decide
theorem bel_true {n e : Int} (h : belB n true e = true) : 0 ≤ n ∧ n < e := by
  unfold belB at h
  simpa using h
theorem ins_facts {f : Fnh} {i : Ins} {fd : Option (Option Int)} (h : insB f i (frS i.op) fd = true) : InsF f i fd := by
  unfold insB at h
  simp only [Bool.and_eq_true, Bool.or_eq_true, decide_eq_true_eq, beq_iff_eq] at h
  obtain ⟨⟨o1, o2⟩, g, d, a, b, t, e, n, m⟩ := h
  have G : ∀ y ∈ i.gs, 0 ≤ y ∧ y < f.rg := fun y hy => bel_true (List.all_eq_true.1 g y hy)
  refine ⟨⟨o1, o2⟩, G, ?_, ?_, ?_, ?_, ?_, ?_, ?_, ?_, ?_, ?_, ?_⟩
  · intro ho
    rcases d with ⟨d, _⟩ | d
    · omega
    · rcases ho with ho | ho | ho | ho | ho <;> rw [ho] at d <;> exact bel_true (by simpa [hs_d] using d)
  · intro ho
    rcases d with ⟨_, d⟩ | d
    · exact .inl d
    · rw [ho] at d; exact .inr (bel_true (by simpa [hs_d] using d))
  · intro ho
    rcases a with ⟨a, _⟩ | a
    · omega
    · rcases ho with ho | ho | ho | ho | ho <;> rw [ho] at a <;> exact bel_true (by simpa [hs_a] using a)
  · intro ho
    rcases a with ⟨_, a⟩ | a
    · exact .inl a
    · rw [ho] at a; exact .inr (bel_true (by simpa [hs_a] using a))
  · intro ho
    rcases ho with ho | ho <;> rw [ho] at b <;> exact bel_true (by simpa [hs_b] using b)
  · intro ho
    rcases ho with ho | ho <;> rw [ho] at t <;> exact bel_true (by simpa [hs_b] using t)
  · intro ho
    rw [ho] at e; exact bel_true (by simpa [hs_b] using e)
  · intro ho
    unfold numB at n
    simpa [ho] using n
  · intro ho
    unfold numB at n
    simpa [ho] using n
  · intro ho
    unfold nanB at m
    simp [ho] at m
    exact m.1
  · intro ho
    unfold nanB at m
    simpa [ho] using m
structure FnF (f : Fun) : Prop where
  pa : 0 ≤ f.h.pa ∧ f.h.pa ≤ 7
  rg : f.h.pa ≤ f.h.rg ∧ f.h.rg ≤ 4096
  fr : 0 ≤ f.h.fr ∧ f.h.fr ≤ 4096
  bl : 1 ≤ f.h.bl ∧ f.h.bl ≤ 1024
theorem wit_true {n a b : Int} (h : witB n a b = true) : a ≤ n ∧ n ≤ b := by
  unfold witB at h
  simpa using h
theorem prog_fn {p : List Fun} (h : prB p = true) {k : Nat} {f : Fun} (hk : p[k]? = some f) : FnF f ∧ (∀ (b : Nat) (bl : Blk), f.bs[b]? = some bl → blkB f.h (fdF p) bl.l = true) ∧ nmB f.h.nm.data.toList = true := by
  unfold prB fnsB at h
  simp only [Bool.and_eq_true] at h
  obtain ⟨_, _, _, h⟩ := h
  have h := List.all_eq_true.1 h f (List.mem_of_getElem? hk)
  unfold fnB at h
  simp only [Bool.and_eq_true] at h
  obtain ⟨h0, h1, h2, h3, h4, h5⟩ := h
  refine ⟨⟨wit_true h1, wit_true h2, wit_true h3, by have := wit_true h4; omega⟩, fun b bl hb => ?_, h0⟩
  exact List.all_eq_true.1 h5 bl (List.mem_of_getElem? hb)
theorem upB_all {f : Fnh} {fd : ByteArray → Option (Option Int)} {n : Nat} : ∀ (l : List Ins) (s : Nat), upB f fd n l s = true → ∀ (j : Nat) (i : Ins), l[j]? = some i → atB f fd n (s + j) i = true
  | [], _, _, j, i, hi => by cases hi
  | x :: r, s, h, j, i, hi => by
    unfold upB at h
    simp only [Bool.and_eq_true] at h
    cases j with
    | zero => cases hi; exact h.1
    | succ j => have := upB_all r (s + 1) h.2 j i hi; rwa [show s + 1 + j = s + (j + 1) by omega] at this
theorem blk_facts {f : Fnh} {fd : ByteArray → Option (Option Int)} {l : List Ins} (h : blkB f fd l = true) : (1 ≤ l.length ∧ l.length ≤ 4096) ∧ ∀ (j : Nat) (i : Ins), l[j]? = some i → InsF f i (fd i.nm) ∧ (endB i.op = true ↔ j + 1 = l.length) := by
  unfold blkB at h
  simp only [Bool.and_eq_true] at h
  refine ⟨by have := wit_true h.1; omega, fun j i hi => ?_⟩
  have t := upB_all l 0 h.2 j i hi
  rw [Nat.zero_add] at t
  unfold atB at t
  simp only [Bool.and_eq_true, beq_iff_eq] at t
  refine ⟨ins_facts t.2, ?_⟩
  rw [t.1]
  simp
end
section
open Go.RowKit Go.Shelf
theorem wrapU (z : Int) : IntKind.u64.wrap z = z % 18446744073709551616 := by
  simp [IntKind.wrap, IntKind.signed, IntKind.bits]
theorem mask64 (k : Nat) (msk p a : Int) (hp : p = ((2 ^ k : Nat) : Int)) (hm : msk = p - 1) (hk : k ≤ 64) (h0 : 0 ≤ a) (h1 : a < 18446744073709551616) : bits .and .u64 a msk = a % p := by
  have e2 : 0 < 2 ^ k := Nat.two_pow_pos k
  have e3 : 2 ^ k ≤ 2 ^ 64 := Nat.pow_le_pow_right (by omega) hk
  subst hm
  rw [u64_and a (p - 1) h0 (by omega) (by omega) (by omega)]
  have e : (p - 1).toNat = 2 ^ k - 1 := by omega
  rw [e, Nat.and_two_pow_sub_one_eq_mod, Int.natCast_emod, Int.toNat_of_nonneg h0, hp]
theorem lo32 {a : Int} (h0 : 0 ≤ a) (h1 : a < 18446744073709551616) : bits .and .u64 a 4294967295 = a % 4294967296 := mask64 32 _ _ a rfl rfl (by omega) h0 h1
theorem lo6 {a : Int} (h0 : 0 ≤ a) (h1 : a < 18446744073709551616) : bits .and .u64 a 63 = a % 64 := mask64 6 _ _ a rfl rfl (by omega) h0 h1
/-- By how many bits a number shifts; a number without its sign. -/
def shN (b : Int) : Nat := (b % 18446744073709551616 % 64).toNat
def U (a : Int) : Int := a % 18446744073709551616
theorem U_bd (a : Int) : 0 ≤ U a ∧ U a < 18446744073709551616 := by unfold U; omega
theorem wrap_U (a : Int) : IntKind.u64.wrap a = U a := wrapU a
theorem shN_lt (b : Int) : shN b < 64 := by unfold shN; omega
def quoV (a b : Int) : Int := if b = 0 then -1 else wrap64 (a.tdiv b)
def remV (a b : Int) : Int := if b = 0 then a else a.tmod b
def sllV (a b : Int) : Int := wrap64 (a * 2 ^ shN b)
def srlV (a b : Int) : Int := wrap64 (U a / 2 ^ shN b)
def sraV (a b : Int) : Int := a / 2 ^ shN b
def sltV (a b : Int) : Int := if a < b then 1 else 0
def sltuV (a b : Int) : Int := if U a < U b then 1 else 0
def ngV (a b : Int) : Int := if a < 0 then b else 0
def hiV (a b : Int) : Int := wrap64 (wrap64 (wrap64 (U a * U b / 18446744073709551616) - ngV a b) - ngV b a)
set_option maxHeartbeats 1000000
theorem add12 (a b : Int) (w : World)  : Calls Tryd.prog 24 #[.int .i64 a, .int .i64 b] w fun e w' => e = .returned (.int .i64 (wrap64 (a + b))) ∧ w' = w := by
  go_enter Tryd.func24, Tryd.ntmps24
  go_wp2
  go_ret
  exact ⟨rfl, rfl⟩
theorem sub13 (a b : Int) (w : World)  : Calls Tryd.prog 25 #[.int .i64 a, .int .i64 b] w fun e w' => e = .returned (.int .i64 (wrap64 (a - b))) ∧ w' = w := by
  go_enter Tryd.func25, Tryd.ntmps25
  go_wp2
  go_ret
  exact ⟨rfl, rfl⟩
theorem mul14 (a b : Int) (w : World)  : Calls Tryd.prog 26 #[.int .i64 a, .int .i64 b] w fun e w' => e = .returned (.int .i64 (wrap64 (a * b))) ∧ w' = w := by
  go_enter Tryd.func26, Tryd.ntmps26
  go_wp2
  go_ret
  exact ⟨rfl, rfl⟩
theorem and18 (a b : Int) (w : World)  : Calls Tryd.prog 30 #[.int .i64 a, .int .i64 b] w fun e w' => e = .returned (.int .i64 (bits .and .i64 a b)) ∧ w' = w := by
  go_enter Tryd.func30, Tryd.ntmps30
  go_wp2
  go_ret
  exact ⟨rfl, rfl⟩
theorem or19 (a b : Int) (w : World)  : Calls Tryd.prog 31 #[.int .i64 a, .int .i64 b] w fun e w' => e = .returned (.int .i64 (bits .or .i64 a b)) ∧ w' = w := by
  go_enter Tryd.func31, Tryd.ntmps31
  go_wp2
  go_ret
  exact ⟨rfl, rfl⟩
theorem xor20 (a b : Int) (w : World)  : Calls Tryd.prog 32 #[.int .i64 a, .int .i64 b] w fun e w' => e = .returned (.int .i64 (bits .xor .i64 a b)) ∧ w' = w := by
  go_enter Tryd.func32, Tryd.ntmps32
  go_wp2
  go_ret
  exact ⟨rfl, rfl⟩
theorem quo16 (a b : Int) (w : World)  : Calls Tryd.prog 28 #[.int .i64 a, .int .i64 b] w fun e w' => e = .returned (.int .i64 (quoV a b)) ∧ w' = w := by
  by_cases h : b = 0
  · subst h
    go_enter Tryd.func28, Tryd.ntmps28
    go_wp2
    go_ret
    exact ⟨rfl, rfl⟩
  · have HR : Hid (quoV a b = wrap64 (a.tdiv b)) := if_neg h
    generalize quoV a b = R at *
    go_enter Tryd.func28, Tryd.ntmps28
    go_wp2
    go_ret
    exact ⟨ret_int HR.out.symm, rfl⟩
theorem rem17 (a b : Int) (w : World)  : Calls Tryd.prog 29 #[.int .i64 a, .int .i64 b] w fun e w' => e = .returned (.int .i64 (remV a b)) ∧ w' = w := by
  by_cases h : b = 0
  · subst h
    go_enter Tryd.func29, Tryd.ntmps29
    go_wp2
    go_ret
    exact ⟨rfl, rfl⟩
  · have HR : Hid (remV a b = a.tmod b) := if_neg h
    generalize remV a b = R at *
    go_enter Tryd.func29, Tryd.ntmps29
    go_wp2
    go_ret
    exact ⟨ret_int HR.out.symm, rfl⟩
theorem shift22 (b : Int) (w : World) : Calls Tryd.prog 34 #[.int .i64 b] w fun e w' => e = .returned (.int .u64 (shN b : Nat)) ∧ w' = w := by
  have HU : Hid ((IntKind.u64.wrap b).tmod 64 = ((shN b : Nat) : Int)) := by
    show _ = _
    rw [wrapU, Int.tmod_eq_emod_of_nonneg (by omega)]
    unfold shN
    omega
  go_enter Tryd.func34, Tryd.ntmps34
  go_wp2
  go_ret
  exact ⟨ret_int HU.out, rfl⟩
theorem sll21 (a b : Int) (w : World)  : Calls Tryd.prog 33 #[.int .i64 a, .int .i64 b] w fun e w' => e = .returned (.int .i64 (sllV a b)) ∧ w' = w := by
  have hl := shN_lt b
  have hS := shift22 b
  have hU := wrap_U a
  have hu := U_bd a
  unfold sllV
  generalize shN b = n at *
  generalize U a = A at *
  go_enter Tryd.func33, Tryd.ntmps33
  go_wp2_with (first | (go_at_call 34; refine (hS _).mono ?_; rintro e w' ⟨rfl, rfl⟩))
  go_ret
  exact ⟨rfl, rfl⟩
theorem srl23 (a b : Int) (w : World)  : Calls Tryd.prog 35 #[.int .i64 a, .int .i64 b] w fun e w' => e = .returned (.int .i64 (srlV a b)) ∧ w' = w := by
  have hl := shN_lt b
  have hS := shift22 b
  have hU := wrap_U a
  have hu := U_bd a
  unfold srlV
  generalize shN b = n at *
  generalize U a = A at *
  go_enter Tryd.func35, Tryd.ntmps35
  go_wp2_with (first | (go_at_call 34; refine (hS _).mono ?_; rintro e w' ⟨rfl, rfl⟩))
  go_ret
  exact ⟨rfl, rfl⟩
theorem sra24 (a b : Int) (w : World)  : Calls Tryd.prog 36 #[.int .i64 a, .int .i64 b] w fun e w' => e = .returned (.int .i64 (sraV a b)) ∧ w' = w := by
  have hl := shN_lt b
  have hS := shift22 b
  have hU := wrap_U a
  have hu := U_bd a
  unfold sraV
  generalize shN b = n at *
  generalize U a = A at *
  go_enter Tryd.func36, Tryd.ntmps36
  go_wp2_with (first | (go_at_call 34; refine (hS _).mono ?_; rintro e w' ⟨rfl, rfl⟩))
  go_ret
  exact ⟨rfl, rfl⟩
theorem truth26 (v : Bool) (w : World) : Calls Tryd.prog 38 #[.bool v] w fun e w' => e = .returned (.int .i64 (if v then 1 else 0)) ∧ w' = w := by
  cases v
  all_goals
    go_enter Tryd.func38, Tryd.ntmps38
    go_wp2
    go_ret
    exact ⟨rfl, rfl⟩
theorem slt25 (a b : Int) (w : World) : Calls Tryd.prog 37 #[.int .i64 a, .int .i64 b] w fun e w' => e = .returned (.int .i64 (sltV a b)) ∧ w' = w := by
  have hT := truth26
  by_cases h : a < b
  · have HV : Hid ((1 : Int) = sltV a b) := (if_pos h).symm
    go_enter Tryd.func37, Tryd.ntmps37
    go_wp2_with (first | (go_at_call 38; refine (hT _ _).mono ?_; rintro e w' ⟨rfl, rfl⟩))
    go_ret
    exact ⟨ret_int HV.out, rfl⟩
  · have HV : Hid ((0 : Int) = sltV a b) := (if_neg h).symm
    go_enter Tryd.func37, Tryd.ntmps37
    go_wp2_with (first | (go_at_call 38; refine (hT _ _).mono ?_; rintro e w' ⟨rfl, rfl⟩))
    go_ret
    exact ⟨ret_int HV.out, rfl⟩
theorem sltu27 (a b : Int) (w : World) : Calls Tryd.prog 39 #[.int .i64 a, .int .i64 b] w fun e w' => e = .returned (.int .i64 (sltuV a b)) ∧ w' = w := by
  have hT := truth26
  have hA := wrap_U a
  have hB := wrap_U b
  by_cases h : U a < U b
  · have HV : Hid ((1 : Int) = sltuV a b) := (if_pos h).symm
    go_enter Tryd.func39, Tryd.ntmps39
    go_wp2_with (first | (go_at_call 38; refine (hT _ _).mono ?_; rintro e w' ⟨rfl, rfl⟩))
    go_ret
    exact ⟨ret_int HV.out, rfl⟩
  · have HV : Hid ((0 : Int) = sltuV a b) := (if_neg h).symm
    go_enter Tryd.func39, Tryd.ntmps39
    go_wp2_with (first | (go_at_call 38; refine (hT _ _).mono ?_; rintro e w' ⟨rfl, rfl⟩))
    go_ret
    exact ⟨ret_int HV.out, rfl⟩
theorem negative31 (a b : Int) (w : World) : Calls Tryd.prog 51 #[.int .i64 a, .int .i64 b] w fun e w' => e = .returned (.int .i64 (ngV a b)) ∧ w' = w := by
  unfold ngV
  by_cases h : a < 0
  · rw [if_pos h]
    go_enter Tryd.func51, Tryd.ntmps51
    go_wp2
    go_ret
    exact ⟨rfl, rfl⟩
  · rw [if_neg h]
    go_enter Tryd.func51, Tryd.ntmps51
    go_wp2
    go_ret
    exact ⟨rfl, rfl⟩
set_option maxRecDepth 20000 in
theorem high15 (a b : Int) (w : World) : Calls Tryd.prog 27 #[.int .i64 a, .int .i64 b] w fun e w' => e = .returned (.int .i64 (hiV a b)) ∧ w' = w := by
  have hM : ∀ w, Calls Tryd.prog 50 #[.int .u64 (U a), .int .u64 (U b)] w fun e w' => e = .returned (.tuple #[.int .u64 (U a * U b / 18446744073709551616), .int .u64 (U a * U b % 18446744073709551616)]) ∧ w' = w := fun w => by
    have t := Tryd.bits_Mul64 (U a).toNat (U b).toNat (by have := U_bd a; omega) (by have := U_bd b; omega) w
    rw [Int.toNat_of_nonneg (U_bd a).1, Int.toNat_of_nonneg (U_bd b).1, Int.natCast_ediv, Int.natCast_emod, Int.natCast_mul, Int.toNat_of_nonneg (U_bd a).1, Int.toNat_of_nonneg (U_bd b).1] at t
    exact t
  have hA := wrap_U a
  have hB := wrap_U b
  have hN := negative31 a b
  have hN' := negative31 b a
  unfold hiV
  generalize U a = A at *
  generalize U b = B at *
  generalize A * B / 18446744073709551616 = H at *
  generalize ngV a b = n1 at *
  generalize ngV b a = n2 at *
  go_enter Tryd.func27, Tryd.ntmps27
  go_wp2_with (first | (go_at_call 50; refine (hM _).mono ?_; rintro e w' ⟨rfl, rfl⟩) | (go_at_call 51; (first | (with_reducible refine (hN _).mono ?_) | (with_reducible refine (hN' _).mono ?_)); rintro e w' ⟨rfl, rfl⟩))
  go_ret
  exact ⟨rfl, rfl⟩
end
section
open Go.RowKit Go.Shelf
theorem cells_set {W : World} {m : Nat} {cs : Array Value} {t : TypeId} (o : Nat) (v : Value) (h : W.heap[m]? = some (Obj.cells cs t (0, 0))) : (W.setCell ⟨m, o, none⟩ v).heap[m]? = some (Obj.cells (cs.setIfInBounds o v) t (0, 0)) := by
  obtain ⟨hlt, hk⟩ := Array.getElem?_eq_some_iff.1 h
  show (W.heap.modify m _)[m]? = _
  rw [Array.getElem?_eq_getElem (by rw [Array.size_modify]; exact hlt), Array.getElem_modify_self, hk]
  rfl
theorem grown_set (W : World) (g o : Nat) (v : Value) : W.grownBy (W.setCell ⟨g, o, none⟩ v) (some g) :=
  ⟨rfl, rfl, rfl, by simp, fun k _ hne => Below.heap_setCell _ _ _ _ (fun e => hne (by rw [e]))⟩
/-- Block b begins with these cells. -/
def Cl (W : World) (b : Nat) (f : List Value) : Prop := ∃ (cs : Array Value) (t : TypeId), W.heap[b]? = some (Obj.cells cs t (0, 0)) ∧ ∀ (j : Nat) (v : Value), f[j]? = some v → cs[j]? = some v
theorem Cl.lt {W : World} {b : Nat} {f : List Value} (h : Cl W b f) : b < W.heap.size := by
  obtain ⟨cs, t, h, _⟩ := h
  exact (Array.getElem?_eq_some_iff.1 h).1
theorem Cl.cell {W : World} {b : Nat} {f : List Value} (h : Cl W b f) {j : Nat} {v : Value} (hj : f[j]? = some v) : W.cell? ⟨b, j, none⟩ = some v := by
  obtain ⟨cs, t, h, hc⟩ := h
  simp only [World.cell?, h]
  simpa using hc j v hj
theorem Cl.fz {W : World} {b : Nat} {f : List Value} (h : Cl W b f) (j : Nat) : W.frozen? ⟨b, j, none⟩ = false := by
  obtain ⟨cs, t, h, hc⟩ := h
  simp only [World.frozen?, h]
  simp
theorem Cl.keep {W W' : World} {b : Nat} {f : List Value} (h : Cl W b f) (e : W'.heap[b]? = W.heap[b]?) : Cl W' b f := by
  obtain ⟨cs, t, h, hc⟩ := h
  exact ⟨cs, t, e.trans h, hc⟩
theorem Cl.below {W W' : World} {b : Nat} {f : List Value} (h : Cl W b f) (hb : Below W.heap.size W W') : Cl W' b f := h.keep (hb.block b h.lt)
theorem Cl.alloc {W : World} {b : Nat} {f : List Value} (h : Cl W b f) (o : Obj) : Cl (W.alloc o) b f := h.below ((Below.refl _ _).alloc (Nat.le_refl _) o)
theorem Cl.drew {W : World} {b : Nat} {f : List Value} (h : Cl W b f) : Cl W.drew b f := h.below (Below.refl _ _).drew
theorem Cl.grown {W W' : World} {b : Nat} {f : List Value} {r : Option Nat} (h : Cl W b f) (g : W.grownBy W' r) (hr : some b ≠ r) : Cl W' b f := h.keep (g.block b h.lt hr)
theorem Cl.other {W : World} {b g o : Nat} {f : List Value} {v : Value} (h : Cl W b f) (hn : b ≠ g) : Cl (W.setCell ⟨g, o, none⟩ v) b f := h.grown (grown_set W g o v) (fun e => hn (by cases e; rfl))
theorem Cl.set {W : World} {b o : Nat} {f : List Value} (h : Cl W b f) (ho : o < f.length) (v : Value) : Cl (W.setCell ⟨b, o, none⟩ v) b (f.set o v) := by
  obtain ⟨cs, t, h, hc⟩ := h
  have hs : o < cs.size := by
    have := hc o (f[o]) (List.getElem?_eq_getElem ho)
    exact (Array.getElem?_eq_some_iff.1 this).1
  refine ⟨_, t, cells_set o v h, fun j u hj => ?_⟩
  rw [Array.getElem?_setIfInBounds]
  by_cases e : o = j
  · subst e
    rw [List.getElem?_set_self ho] at hj
    simp [hs]
    simpa using hj
  · rw [List.getElem?_set_ne e] at hj
    simp only [e, if_false]
    exact hc j u hj
theorem Cl.new (W : World) (f : List Value) (t : TypeId) : Cl (W.alloc (.cells f.toArray t)) W.heap.size f := by
  refine ⟨f.toArray, t, ?_, fun j v h => by simpa using h⟩
  exact (Go.MapKept.heap_alloc W _).1
theorem Cl.own {W : World} {base : Nat} {e : TypeId} {size : Nat} {g n cap : Nat} {xs : List Value} (h : W.ownsRow base e size (.slice (some ⟨g, 0, none⟩) n cap) n xs) : Cl W g xs ∧ base ≤ g := by
  have h' := h
  obtain ⟨h1, ⟨h2, h0⟩ | ⟨g', cap', cur, e1, e2, e3, e4, e5, r⟩⟩ := h
  · cases h2
  · cases e1
    refine ⟨⟨cur, e, e3, fun j v hj => ?_⟩, e2⟩
    have t := h'.cellAt j (by have := (List.getElem?_eq_some_iff.1 hj).1; omega)
    rw [hj] at t
    simp only [World.cell?, e3] at t
    simpa using t
end
section
open Go.RowKit Go.Shelf
set_option maxHeartbeats 1000000 in
theorem innermost40 (R C ca : Nat) (w : World) (h3 : w.cell? ⟨R, 3, none⟩ = some (.slice (some ⟨C, 0, none⟩) 1 ca)) : Calls Tryd.prog 41 #[.pointer (some ⟨R, 0, none⟩)] w fun e w' => e = .returned (.pointer (some ⟨C, 0, none⟩)) ∧ ∃ n, w' = w.drewN n := by
  go_enter Tryd.func41, Tryd.ntmps41
  go_wp2
  go_quiet (fail)
  go_wp2
  go_ret
  exact ⟨rfl, _, rfl⟩
theorem dcell {w : World} {b o : Nat} {v : Value} (h : w.cell? ⟨b, o, none⟩ = some v) : ∀ n, (w.drewN n).cell? ⟨b, o, none⟩ = some v := fun _ => h
set_option maxHeartbeats 1000000 in
theorem instruction34 (R C ca y x : Nat) (k : Nat) (w : World) (hk : k < 3) (h3 : w.cell? ⟨R, 3, none⟩ = some (.slice (some ⟨C, 0, none⟩) 1 ca)) (c0 : w.cell? ⟨C, 0, none⟩ = some (.slice (some ⟨y, 0, none⟩) 1 1)) (c4 : w.cell? ⟨C, 4, none⟩ = some (.int .i64 0)) (c5 : w.cell? ⟨C, 5, none⟩ = some (.int .i64 k)) (y0 : w.cell? ⟨y, 0, none⟩ = some (.slice (some ⟨x, 0, none⟩) 3 3)) : Calls Tryd.prog 19 #[.pointer (some ⟨R, 0, none⟩)] w fun e w' => e = .returned (.pointer (some ⟨x, 9 * k, none⟩)) ∧ ∃ n, w' = w.drewN n := by
  have hI : Hid (Calls Tryd.prog 41 #[.pointer (some ⟨R, 0, none⟩)] w fun e w' => e = .returned (.pointer (some ⟨C, 0, none⟩)) ∧ ∃ n, w' = w.drewN n) := innermost40 R C ca w h3
  have c0' := dcell c0
  have c4' := dcell c4
  have c5' := dcell c5
  have y0' := dcell y0
  clear c0 c4 c5 y0 h3
  rcases (by omega : k = 0 ∨ k = 1 ∨ k = 2) with rfl | rfl | rfl
  all_goals
    go_enter Tryd.func19, Tryd.ntmps19
    go_wp2_with (first | (go_at_call 41; refine hI.out.mono ?_; rintro e w1 ⟨rfl, n1, rfl⟩))
    go_quiet (fail)
    go_wp2
    go_ret
    exact ⟨rfl, _, World.drewN_drewN _ _ _⟩
set_option maxHeartbeats 1000000 in
theorem deep_1 (R x o : Nat) (w : World) (h : w.cell? ⟨x, o, none⟩ = some (.int .i64 1)) : Calls Tryd.prog 20 #[.pointer (some ⟨R, 0, none⟩), .pointer (some ⟨x, o, none⟩)] w fun e w' => e = .returned (.bool false) ∧ w' = w := by
  go_enter Tryd.func20, Tryd.ntmps20
  go_wp2
  go_ret
  exact ⟨rfl, rfl⟩
set_option maxHeartbeats 1000000 in
theorem deep_10 (R x o : Nat) (w : World) (h : w.cell? ⟨x, o, none⟩ = some (.int .i64 10)) : Calls Tryd.prog 20 #[.pointer (some ⟨R, 0, none⟩), .pointer (some ⟨x, o, none⟩)] w fun e w' => e = .returned (.bool false) ∧ w' = w := by
  go_enter Tryd.func20, Tryd.ntmps20
  go_wp2
  go_ret
  exact ⟨rfl, rfl⟩
set_option maxHeartbeats 1000000 in
theorem deep_call (R C ca x o : Nat) (w : World) (h3 : w.cell? ⟨R, 3, none⟩ = some (.slice (some ⟨C, 0, none⟩) 1 ca)) (h : w.cell? ⟨x, o, none⟩ = some (.int .i64 7)) : Calls Tryd.prog 20 #[.pointer (some ⟨R, 0, none⟩), .pointer (some ⟨x, o, none⟩)] w fun e w' => e = .returned (.bool false) ∧ w' = w := by
  go_enter Tryd.func20, Tryd.ntmps20
  go_wp2
  go_ret
  exact ⟨rfl, rfl⟩
set_option maxHeartbeats 1000000 in
theorem end36 (R : Nat) (a b : Int) (f : List Value) (w : World) (h : Cl w R f) (hf : f.length = 13) : Calls Tryd.prog 21 #[.pointer (some ⟨R, 0, none⟩), .int .i64 a, .int .i64 b] w fun e w' => e = .returned (.tuple #[]) ∧ w' = (w.setCell ⟨R, 9, none⟩ (.int .i64 a)).setCell ⟨R, 10, none⟩ (.int .i64 b) := by
  have c9 := h.cell (j := 9) (List.getElem?_eq_getElem (by omega))
  have c10 := h.cell (j := 10) (List.getElem?_eq_getElem (by omega))
  have z9 := h.fz 9
  have z10 := h.fz 10
  generalize f[9] = v9 at *
  generalize f[10] = v10 at *
  clear h
  go_enter Tryd.func21, Tryd.ntmps21
  go_wp2
  go_returns
  exact ⟨rfl, rfl⟩
set_option maxHeartbeats 1000000 in
theorem value_none (C : Nat) (w : World) : Calls Tryd.prog 46 #[.pointer (some ⟨C, 0, none⟩), .int .i64 (-1)] w fun e w' => e = .returned (.int .i64 0) ∧ w' = w := by
  go_enter Tryd.func46, Tryd.ntmps46
  go_wp2
  go_ret
  exact ⟨rfl, rfl⟩
set_option maxHeartbeats 1000000 in
theorem answer_none (R : Nat) (v : Int) (w : World) : Calls Tryd.prog 53 #[.pointer (some ⟨R, 0, none⟩), .int .i64 (-1), .int .i64 v] w fun e w' => e = .returned (.tuple #[]) ∧ w' = w := by
  go_enter Tryd.func53, Tryd.ntmps53
  go_wp2
  go_returns
  exact ⟨rfl, rfl⟩
end
section
open Go.RowKit Go.Shelf
set_option maxHeartbeats 1000000 in
theorem later69 (R P pa b1 b2 : Nat) (w : World) (h1 : w.cell? ⟨b1, 0, none⟩ = some (.pointer (some ⟨R, 4, none⟩))) (h2 : w.cell? ⟨b2, 0, none⟩ = some (.int .i64 65536)) (h4 : w.cell? ⟨R, 4, none⟩ = some (.slice (some ⟨P, 0, none⟩) 1 pa)) (p1 : w.cell? ⟨P, 1, none⟩ = some (.int .i64 65536)) : Calls Tryd.prog 72 #[.int .i64 0, .pointer (some ⟨b1, 0, none⟩), .pointer (some ⟨b2, 0, none⟩)] w fun e w' => e = .returned (.bool false) ∧ ∃ n, w' = w.drewN n := by
  go_enter Tryd.func72, Tryd.ntmps72
  go_wp2
  go_quiet (fail)
  go_wp2
  go_ret
  exact ⟨rfl, _, rfl⟩
set_option maxHeartbeats 2000000 in
theorem search68 (R P pa b1 b2 : Nat) (w : World) (h1 : w.cell? ⟨b1, 0, none⟩ = some (.pointer (some ⟨R, 4, none⟩))) (h2 : w.cell? ⟨b2, 0, none⟩ = some (.int .i64 65536)) (h4 : w.cell? ⟨R, 4, none⟩ = some (.slice (some ⟨P, 0, none⟩) 1 pa)) (p1 : w.cell? ⟨P, 1, none⟩ = some (.int .i64 65536)) : Calls Tryd.prog 71 #[.int .i64 1, .func (.func 72) #[] #[.pointer (some ⟨b1, 0, none⟩), .pointer (some ⟨b2, 0, none⟩)]] w fun e w' => e = .returned (.int .i64 1) ∧ ∃ n, w' = w.drewN n := by
  have hL : Hid (Calls Tryd.prog 72 #[.int .i64 0, .pointer (some ⟨b1, 0, none⟩), .pointer (some ⟨b2, 0, none⟩)] w fun e w' => e = .returned (.bool false) ∧ ∃ n, w' = w.drewN n) := later69 R P pa b1 b2 w h1 h2 h4 p1
  clear h1 h2 h4 p1
  go_enter Tryd.func71, Tryd.ntmps71
  go_wp2
  refine wp_loop_rounds 2 ?_
  rw [rounds_succ]
  go_wp2_with (first | (go_at_call 72; refine hL.out.mono ?_; rintro e w1 ⟨rfl, n1, rfl⟩))
  rw [rounds_succ]
  go_wp2
  go_ret
  exact ⟨rfl, _, rfl⟩
set_option maxHeartbeats 2000000 in
theorem find60 (R P pa : Nat) (w : World) (h4 : w.cell? ⟨R, 4, none⟩ = some (.slice (some ⟨P, 0, none⟩) 1 pa)) (p1 : w.cell? ⟨P, 1, none⟩ = some (.int .i64 65536)) (hR : R < w.heap.size) (hP : P < w.heap.size) : Calls Tryd.prog 63 #[.pointer (some ⟨R, 4, none⟩), .int .i64 65536] w fun e w' => e = .returned (.int .i64 0) ∧ Below w.heap.size w w' := by
  have q4 := acell (by simp; omega) (acell hR h4 (.cells #[.pointer (some ⟨R, 4, none⟩)] 94)) (.cells #[.int .i64 65536] 2)
  have q1 := acell (by simp; omega) (acell hP p1 (.cells #[.pointer (some ⟨R, 4, none⟩)] 94)) (.cells #[.int .i64 65536] 2)
  have hS := search68 R P pa w.heap.size (w.heap.size + 1) _ (by go_simp) (by go_simp) q4 q1
  go_enter Tryd.func63, Tryd.ntmps63
  go_wp2_with (first | (go_at_call 71; refine hS.mono ?_; rintro e w1 ⟨rfl, n1, rfl⟩))
  go_ret
  exact ⟨rfl, below_drewN (((Below.refl _ _).alloc (Nat.le_refl _) _).alloc (by simp) _) n1⟩
end
section
open Go.RowKit Go.Shelf
theorem info5 : (Tryd.prog.info? 5).map (fun i => (i.zero, i.size, i.bytes)) = some (some (.int .u8 0), 1, 1) := by kernel_rfl
theorem info5' : ∃ i, Tryd.prog.info? 5 = some i ∧ i.zero = some (.int .u8 0) ∧ i.size = 1 ∧ i.bytes = 1 := by
  have h := info5
  cases hi : Tryd.prog.info? 5 with
  | none => rw [hi] at h; cases h
  | some i => rw [hi] at h; simp at h; exact ⟨i, rfl, h⟩
set_option maxHeartbeats 1000000 in
theorem app70 (w : World) : Calls Tryd.prog 73 #[.slice none 0 0, .int .i64 7, .int .i64 10] w fun e w' => ∃ v', e = .returned v' ∧ w'.ownsRow w.heap.size 5 1 v' 1 [.int .u8 55] ∧ Below w.heap.size w w' := by
  have hC := Tryd.internal_strconv_AppendUint_10_small w.heap.size 0 7 (by omega) (.slice none 0 0) [] w (World.ownsRow_nil _ _ _ _) (Nat.le_refl _) (by omega)
  have hC' : Hid (Calls Tryd.prog 78 #[.slice none 0 0, .int .u64 7, .int .i64 10] w fun e w' => ∃ v', e = .returned v' ∧ w'.ownsRow w.heap.size 5 1 v' 1 [.int .u8 55] ∧ Below w.heap.size w w') := hC.mono fun e w' ⟨v', h1, h2, h3, _⟩ => ⟨v', h1, by simpa [Lib.decDigits, Lib.byteCells] using h2, h3⟩
  clear hC
  go_enter Tryd.func73, Tryd.ntmps73
  go_wp2_with (first | (go_at_call 78; refine hC'.out.mono ?_; rintro e w1 ⟨v', rfl, ho, hb⟩))
  go_ret
  exact ⟨_, rfl, ho, hb⟩
set_option maxHeartbeats 1000000 in
theorem app61 (w : World) : Calls Tryd.prog 64 #[.slice none 0 0, .int .i64 7, .int .i64 10] w fun e w' => ∃ v', e = .returned v' ∧ w'.ownsRow w.heap.size 5 1 v' 1 [.int .u8 55] ∧ Below w.heap.size w w' := by
  have hC' : Hid (Calls Tryd.prog 73 #[.slice none 0 0, .int .i64 7, .int .i64 10] w fun e w' => ∃ v', e = .returned v' ∧ w'.ownsRow w.heap.size 5 1 v' 1 [.int .u8 55] ∧ Below w.heap.size w w') := app70 w
  go_enter Tryd.func64, Tryd.ntmps64
  go_wp2_with (first | (go_at_call 73; refine hC'.out.mono ?_; rintro e w1 ⟨v', rfl, ho, hb⟩))
  go_ret
  exact ⟨_, rfl, ho, hb⟩
theorem new_one (W : World) (v : Value) (t : TypeId) : (W.alloc (.cells #[v] t)).cell? ((⟨W.heap.size, 0, none⟩ : Addr).add 0) = some v := by
  have h := (Cl.new W [v] t).cell (j := 0) rfl
  exact h
theorem below_grown {B : Nat} {w W W' : World} {r : Option Nat} (hB : B ≤ w.heap.size) (h : Below B w W) (g : W.grownBy W' r) (hr : ∀ k, r = some k → B ≤ k) : Below B w W' :=
  ⟨g.os.trans h.os, g.tape.trans h.tape, g.output.trans h.output, Nat.le_trans h.size g.size, fun i hi => by
    by_cases hs : i < W.heap.size
    · rw [g.block i hs (fun e => by have := hr i e.symm; omega)]
      exact h.block i hi
    · exact absurd (Nat.lt_of_lt_of_le hi (Nat.le_trans hB h.size)) hs⟩
theorem own_base {w : World} {base : Nat} {e : TypeId} {size : Nat} {v : Value} {n : Nat} {xs : List Value} (h : w.ownsRow base e size v n xs) {g : Nat} (hg : v.ownBlock = some g) : base ≤ g := by
  obtain ⟨h1, h2⟩ := h
  rcases h2 with h | ⟨g', cap, cur, e1, e2, e3, r⟩
  · rw [h.1] at hg
    cases hg
  · rw [e1] at hg
    cases hg
    exact e2
set_option maxRecDepth 20000 in
set_option maxHeartbeats 2000000 in
theorem print51 (R : Nat) (w : World) (h11 : w.cell? ⟨R, 11, none⟩ = some (.slice none 0 0)) (hR : R < w.heap.size) (z11 : w.frozen? ⟨R, 11, none⟩ = false) : Calls Tryd.prog 54 #[.pointer (some ⟨R, 0, none⟩), .int .i64 7] w fun e w' => e = .returned (.int .i64 0) ∧ ∃ g cap w1, Below w.heap.size w w1 ∧ w' = w1.setCell ⟨R, 11, none⟩ (.slice (some ⟨g, 0, none⟩) 2 cap) ∧ Cl w1 g [.int .u8 55, .int .u8 10] ∧ w.heap.size ≤ g := by
  have hC : Hid (Calls Tryd.prog 64 #[.slice none 0 0, .int .i64 7, .int .i64 10] w fun e w' => ∃ v', e = .returned v' ∧ w'.ownsRow w.heap.size 5 1 v' 1 [.int .u8 55] ∧ Below w.heap.size w w') := app61 w
  obtain ⟨i5, AN⟩ := info5'
  have AN : Hid (Tryd.prog.info? 5 = some i5 ∧ i5.zero = some (.int .u8 0) ∧ i5.size = 1 ∧ i5.bytes = 1) := AN
  go_enter Tryd.func54, Tryd.ntmps54
  go_wp2_with fail
  refine hC.out.mono ?_
  rintro e w1 ⟨v', rfl, ho, hb⟩
  have HO : Hid (w1.ownsRow w.heap.size 5 1 v' 1 [.int .u8 55]) := ho
  have HB : Hid (Below w.heap.size w w1) := hb
  have hz : R < w1.heap.size := Nat.lt_of_lt_of_le hR hb.size
  have k11 := ((bcell hb).1 R 11 hR).trans h11
  have f11 := ((bcell hb).2 R 11 hR).trans z11
  clear ho hb
  go_wp2_with (at_builtin; refine wpList_append_own _ rfl _ _ 23 rfl w.heap.size 5 i5 (.int .u8 0) 1 1 Tryd.underlying23 AN.out.1 AN.out.2.1 AN.out.2.2.1 AN.out.2.2.2 rfl (by decide) _ _ _ rfl (HO.out.alloc _) ⟨w1.heap.size, 0, none⟩ 1 1 [.int .u8 10] rfl (by rfl) (by intro j q hj; cases j with | zero => cases hj; exact new_one _ _ _ | succ j => cases hj) (by intro q hq; simp at hq; subst hq; rfl) (by unfold maxLen; omega) (by omega) (by have := HB.out.size; simp; omega) ?_)
  rintro v2 w2 ho2 hg2 _
  obtain ⟨g, cap, rfl⟩ : ∃ g cap, v2 = .slice (some ⟨g, 0, none⟩) 2 cap := by
    obtain ⟨_, ⟨_, h0⟩ | ⟨g, cap, cur, e, _⟩⟩ := ho2
    · cases h0
    · exact ⟨g, cap, e⟩
  obtain ⟨hcl, hge⟩ := Cl.own ho2
  have HC : Hid (Cl w2 g [.int .u8 55, .int .u8 10]) := hcl
  have HB2 : Hid (Below w.heap.size w w2) := below_grown (Nat.le_refl _) (HB.out.alloc HB.out.size _) hg2 (fun g hg => own_base HO.out hg)
  have hz2 : R < w2.heap.size := Nat.lt_of_lt_of_le hR HB2.out.size
  have j11 := ((bcell HB2.out).1 R 11 hR).trans h11
  have y11 := ((bcell HB2.out).2 R 11 hR).trans z11
  clear ho2 hg2 hcl k11 f11
  go_wp2
  go_ret
  exact ⟨rfl, g, cap, w2, HB2.out, rfl, HC.out, hge⟩
end
end Go.Proofs.YtdppoblbenbafaaDoor
