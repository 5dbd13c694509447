/- What an operation of the table does. A run as it lies beside a run, plainly: what both are. A run as it lies: what registers' steps leave. -/
import Derived.Test.YtdppoblbenbafaaGreatDoorYAO
import Derived.Test.YtdppoblbenbafaaGreatDoorYAP
import Derived.Test.YtdppoblbenbafaaGreatDoorYAM
namespace Go.Proofs.YtdppoblbenbafaaGreatDoor
section
open Go.RowKit Go.Shelf
theorem i64_bits (op : BinOp) (x y : Int) : I64 (bits op .i64 x y) := by
  have h := IntKind.wrap_i64
  unfold bits I64
  split <;> (simp only [h]; omega)
theorem i64_quo (a b : Int) : I64 (quoV a b) := by
  unfold quoV
  split
  · exact i64_small _ (by omega) (by omega)
  · exact i64_wrap _
theorem i64_rem {a b : Int} (ha : I64 a) : I64 (remV a b) := by
  unfold remV
  split
  · exact ha
  · unfold I64 at *
    have h1 := Int.natAbs_tmod a b
    have h2 := Nat.mod_le a.natAbs b.natAbs
    by_cases h : 0 ≤ a
    · have := Int.tmod_nonneg b h
      omega
    · have := Int.tmod_nonneg b (show 0 ≤ -a by omega)
      rw [Int.neg_tmod] at this
      omega
theorem i64_sra {a b : Int} (ha : I64 a) : I64 (sraV a b) := by
  unfold sraV I64 at *
  have hp : (0 : Int) < 2 ^ shN b := Int.pow_pos (by omega)
  refine ⟨Int.le_ediv_of_mul_le hp ?_, ?_⟩
  · have : (1 : Int) ≤ 2 ^ shN b := hp
    have := Int.mul_le_mul_of_nonneg_left this (show (0 : Int) ≤ 9223372036854775808 by omega)
    omega
  · by_cases h : 0 ≤ a
    · have := Int.ediv_le_self (2 ^ shN b) h; omega
    · have := Int.ediv_neg_of_neg_of_pos (show a < 0 by omega) hp; omega
theorem i64_lt (c : Prop) [Decidable c] : I64 (if c then 1 else 0) := by
  split <;> exact i64_small _ (by omega) (by omega)
/-- What the table has of a name. -/
structure BinT (nm : ByteArray) (a b : Int) (fk : Nat) : Prop where
  hf : ∃ k, Instr.findNow .string (.string nm) oes.toList 0 = some (some (k, .agg #[.func (.func fk) #[] #[]]))
  cf : ∀ W, (callFunc fk #[.int .i64 a, .int .i64 b]).run Tryz.prog W = .ok (.enter fk #[.int .i64 a, .int .i64 b]) W
  cl : ∀ W, Calls Tryz.prog fk #[.int .i64 a, .int .i64 b] W fun e w' => e = .returned (.int .i64 (binV nm.data.toList a b)) ∧ w' = W
  rg : I64 (binV nm.data.toList a b)
theorem nm_of {nm : ByteArray} {l : List UInt8} (h : nm.data.toList = l) : nm = ⟨l.toArray⟩ := by
  cases nm with
  | mk d => simp at h; subst h; simp
theorem bt_0 (a b : Int) : BinT ⟨#[97, 100, 100]⟩ a b 43 := by
  have e : binV (⟨#[97, 100, 100]⟩ : ByteArray).data.toList a b = wrap64 (a + b) := by simp [binV]
  exact ⟨⟨0, by kernel_rfl⟩, fun W => by kernel_rfl, fun W => by rw [e]; exact add12 a b W, by rw [e]; exact i64_wrap _⟩
theorem bt_1 (a b : Int) : BinT ⟨#[115, 117, 98]⟩ a b 44 := by
  have e : binV (⟨#[115, 117, 98]⟩ : ByteArray).data.toList a b = wrap64 (a - b) := by simp [binV]
  exact ⟨⟨1, by kernel_rfl⟩, fun W => by kernel_rfl, fun W => by rw [e]; exact sub13 a b W, by rw [e]; exact i64_wrap _⟩
theorem bt_2 (a b : Int) : BinT ⟨#[109, 117, 108]⟩ a b 45 := by
  have e : binV (⟨#[109, 117, 108]⟩ : ByteArray).data.toList a b = wrap64 (a * b) := by simp [binV]
  exact ⟨⟨2, by kernel_rfl⟩, fun W => by kernel_rfl, fun W => by rw [e]; exact mul14 a b W, by rw [e]; exact i64_wrap _⟩
theorem bt_3 (a b : Int) : BinT ⟨#[109, 117, 108, 104]⟩ a b 46 := by
  have e : binV (⟨#[109, 117, 108, 104]⟩ : ByteArray).data.toList a b = hiV a b := by simp [binV]
  exact ⟨⟨3, by kernel_rfl⟩, fun W => by kernel_rfl, fun W => by rw [e]; exact high15 a b W, by rw [e]; exact i64_wrap _⟩
theorem bt_4 (a b : Int) : BinT ⟨#[100, 105, 118]⟩ a b 47 := by
  have e : binV (⟨#[100, 105, 118]⟩ : ByteArray).data.toList a b = quoV a b := by simp [binV]
  exact ⟨⟨4, by kernel_rfl⟩, fun W => by kernel_rfl, fun W => by rw [e]; exact quo16 a b W, by rw [e]; exact i64_quo _ _⟩
theorem bt_5 (a b : Int) (ha : I64 a) : BinT ⟨#[114, 101, 109]⟩ a b 48 := by
  have e : binV (⟨#[114, 101, 109]⟩ : ByteArray).data.toList a b = remV a b := by simp [binV]
  exact ⟨⟨5, by kernel_rfl⟩, fun W => by kernel_rfl, fun W => by rw [e]; exact rem17 a b W, by rw [e]; exact i64_rem ha⟩
theorem bt_6 (a b : Int) : BinT ⟨#[97, 110, 100]⟩ a b 49 := by
  have e : binV (⟨#[97, 110, 100]⟩ : ByteArray).data.toList a b = bits .and .i64 a b := by simp [binV]
  exact ⟨⟨6, by kernel_rfl⟩, fun W => by kernel_rfl, fun W => by rw [e]; exact and18 a b W, by rw [e]; exact i64_bits _ _ _⟩
theorem bt_7 (a b : Int) : BinT ⟨#[111, 114]⟩ a b 50 := by
  have e : binV (⟨#[111, 114]⟩ : ByteArray).data.toList a b = bits .or .i64 a b := by simp [binV]
  exact ⟨⟨7, by kernel_rfl⟩, fun W => by kernel_rfl, fun W => by rw [e]; exact or19 a b W, by rw [e]; exact i64_bits _ _ _⟩
theorem bt_8 (a b : Int) : BinT ⟨#[120, 111, 114]⟩ a b 51 := by
  have e : binV (⟨#[120, 111, 114]⟩ : ByteArray).data.toList a b = bits .xor .i64 a b := by simp [binV]
  exact ⟨⟨8, by kernel_rfl⟩, fun W => by kernel_rfl, fun W => by rw [e]; exact xor20 a b W, by rw [e]; exact i64_bits _ _ _⟩
theorem bt_9 (a b : Int) : BinT ⟨#[115, 108, 108]⟩ a b 52 := by
  have e : binV (⟨#[115, 108, 108]⟩ : ByteArray).data.toList a b = sllV a b := by simp [binV]
  exact ⟨⟨9, by kernel_rfl⟩, fun W => by kernel_rfl, fun W => by rw [e]; exact sll21 a b W, by rw [e]; exact i64_wrap _⟩
theorem bt_10 (a b : Int) : BinT ⟨#[115, 114, 108]⟩ a b 54 := by
  have e : binV (⟨#[115, 114, 108]⟩ : ByteArray).data.toList a b = srlV a b := by simp [binV]
  exact ⟨⟨10, by kernel_rfl⟩, fun W => by kernel_rfl, fun W => by rw [e]; exact srl23 a b W, by rw [e]; exact i64_wrap _⟩
theorem bt_11 (a b : Int) (ha : I64 a) : BinT ⟨#[115, 114, 97]⟩ a b 55 := by
  have e : binV (⟨#[115, 114, 97]⟩ : ByteArray).data.toList a b = sraV a b := by simp [binV]
  exact ⟨⟨11, by kernel_rfl⟩, fun W => by kernel_rfl, fun W => by rw [e]; exact sra24 a b W, by rw [e]; exact i64_sra ha⟩
theorem bt_12 (a b : Int) : BinT ⟨#[115, 108, 116]⟩ a b 56 := by
  have e : binV (⟨#[115, 108, 116]⟩ : ByteArray).data.toList a b = sltV a b := by simp [binV]
  exact ⟨⟨12, by kernel_rfl⟩, fun W => by kernel_rfl, fun W => by rw [e]; exact slt25 a b W, by rw [e]; exact i64_lt _⟩
theorem bt_13 (a b : Int) : BinT ⟨#[115, 108, 116, 117]⟩ a b 58 := by
  have e : binV (⟨#[115, 108, 116, 117]⟩ : ByteArray).data.toList a b = sltuV a b := by simp [binV]
  exact ⟨⟨13, by kernel_rfl⟩, fun W => by kernel_rfl, fun W => by rw [e]; exact sltu27 a b W, by rw [e]; exact i64_lt _⟩
theorem bin_op (nm : ByteArray) (h : opB nm.data.toList = true) (a b : Int) (ha : I64 a) : ∃ fk, BinT nm a b fk := by
  unfold opB at h
  have h := List.contains_iff_mem.1 h
  simp only [List.mem_cons, List.not_mem_nil, or_false] at h
  rcases h with h | h | h | h | h | h | h | h | h | h | h | h | h | h
  · obtain rfl := nm_of h; exact ⟨_, bt_0 a b⟩
  · obtain rfl := nm_of h; exact ⟨_, bt_1 a b⟩
  · obtain rfl := nm_of h; exact ⟨_, bt_2 a b⟩
  · obtain rfl := nm_of h; exact ⟨_, bt_3 a b⟩
  · obtain rfl := nm_of h; exact ⟨_, bt_4 a b⟩
  · obtain rfl := nm_of h; exact ⟨_, bt_5 a b ha⟩
  · obtain rfl := nm_of h; exact ⟨_, bt_6 a b⟩
  · obtain rfl := nm_of h; exact ⟨_, bt_7 a b⟩
  · obtain rfl := nm_of h; exact ⟨_, bt_8 a b⟩
  · obtain rfl := nm_of h; exact ⟨_, bt_9 a b⟩
  · obtain rfl := nm_of h; exact ⟨_, bt_10 a b⟩
  · obtain rfl := nm_of h; exact ⟨_, bt_11 a b ha⟩
  · obtain rfl := nm_of h; exact ⟨_, bt_12 a b⟩
  · obtain rfl := nm_of h; exact ⟨_, bt_13 a b⟩
end
section
open Go.RowKit Go.Shelf
theorem own_bk {W : World} {B : Nat} {e : TypeId} {size n C ca : Nat} {v : Value} {xs : List Value} (h : W.ownsRow B e size v n xs) (hv : v = .slice (some ⟨C, 0, none⟩) n ca) : B ≤ C ∧ ∃ cs : List Value, Bk W C e cs ∧ n ≤ ca ∧ ca ≤ maxLen ∧ cs.length = ca * size ∧ cs.take (n * size) = xs := by
  obtain ⟨_, ⟨h2, _⟩ | ⟨g, cap, cur, e1, e2, e3, e4, e5, e6, e7⟩⟩ := h
  · rw [hv] at h2; cases h2
  · rw [hv] at e1
    cases e1
    exact ⟨e2, cur.toList, by unfold Bk; simpa using e3, e4, e5, by simpa using e6, e7⟩
theorem own_of {W : World} {B : Nat} {e : TypeId} {size n C ca : Nat} {cs xs : List Value} (hB : B ≤ C) (hb : Bk W C e cs) (h1 : n ≤ ca) (h2 : ca ≤ maxLen) (h3 : cs.length = ca * size) (h4 : cs.take (n * size) = xs) : W.ownsRow B e size (.slice (some ⟨C, 0, none⟩) n ca) n xs := by
  refine ⟨?_, .inr ⟨C, ca, cs.toArray, rfl, hB, hb, h1, h2, by simpa using h3, by simpa using h4⟩⟩
  rw [← h4, List.length_take, h3]
  exact Nat.min_eq_left (Nat.mul_le_mul_right _ h1)
theorem own_put {W : World} {B : Nat} {e : TypeId} {size n C ca i : Nat} {v u : Value} {xs : List Value} (h : W.ownsRow B e size v n xs) (hv : v = .slice (some ⟨C, 0, none⟩) n ca) : (W.setCell ⟨C, i, none⟩ u).ownsRow B e size v n (xs.set i u) := by
  obtain ⟨hB, cs, hb, h1, h2, h3, h4⟩ := own_bk h hv
  subst hv
  refine own_of hB (hb.set i u) h1 h2 (by simpa using h3) ?_
  rw [← h4, List.take_set]
theorem own_cell {W : World} {B : Nat} {e : TypeId} {size n C ca i : Nat} {v u : Value} {xs : List Value} (h : W.ownsRow B e size v n xs) (hv : v = .slice (some ⟨C, 0, none⟩) n ca) (hi : xs[i]? = some u) : W.cell? ⟨C, i, none⟩ = some u := by
  obtain ⟨hB, cs, hb, h1, h2, h3, h4⟩ := own_bk h hv
  refine hb.cell ?_
  rw [← h4, List.getElem?_take] at hi
  split at hi
  · exact hi
  · cases hi
theorem own_fz {W : World} {B : Nat} {e : TypeId} {size n C ca : Nat} {v : Value} {xs : List Value} (h : W.ownsRow B e size v n xs) (hv : v = .slice (some ⟨C, 0, none⟩) n ca) (i : Nat) : W.frozen? ⟨C, i, none⟩ = false := by
  obtain ⟨hB, cs, hb, _⟩ := own_bk h hv
  exact hb.fz i
/-- The blocks of a function, as a value. -/
def bvOf (p : List Fun) (k : Nat) : Value := ((p[k]?).map fun f => Value.slice f.h.ba f.h.bl f.h.bc).getD (.slice none 0 0)
def calV (p : List Fun) (x : Nat × Cal) : List Value := [bvOf p x.2.k, .slice (some ⟨x.1, 0, none⟩) x.2.rg.length x.2.rg.length, .int .i64 x.2.fr, .int .i64 ((frOf p x.2.k : Nat) : Int), .int .i64 ((x.2.b : Nat) : Int), .int .i64 ((x.2.j : Nat) : Int), .int .i64 x.2.an]
/-- The row of calls: the innermost one last. -/
def rowV (p : List Fun) : List (Nat × Cal) → List Value
  | [] => []
  | x :: l => rowV p l ++ calV p x
theorem rowV_len (p : List Fun) : ∀ l, (rowV p l).length = l.length * 7
  | [] => rfl
  | x :: l => by simp [rowV, rowV_len p l, calV]; omega
theorem rowV_at (p : List Fun) (x : Nat × Cal) (l : List (Nat × Cal)) (t : Nat) : (rowV p (x :: l))[l.length * 7 + t]? = (calV p x)[t]? := by
  rw [rowV, List.getElem?_append_right (by rw [rowV_len]; omega), rowV_len]
  congr 1
  omega
theorem rowV_low (p : List Fun) (x : Nat × Cal) (l : List (Nat × Cal)) (i : Nat) (h : i < l.length * 7) : (rowV p (x :: l))[i]? = (rowV p l)[i]? := by
  rw [rowV, List.getElem?_append_left (by rw [rowV_len]; exact h)]
theorem rowV_set (p : List Fun) (x : Nat × Cal) (l : List (Nat × Cal)) (t : Nat) (u : Value) : (rowV p (x :: l)).set (l.length * 7 + t) u = rowV p l ++ (calV p x).set t u := by
  rw [rowV, List.set_append_right _ _ (by rw [rowV_len]; omega), rowV_len]
  congr 2
  omega
/-- A part, as it lies. -/
def ptO (x : Nat × Par) : Pt := if x.2.kd = 0 then ⟨0, x.2.ad, none, 0, 0⟩ else ⟨x.2.kd, x.2.ad, some ⟨x.1, 0, none⟩, x.2.ws.length, x.2.ws.length⟩
def kyG (x : Nat × Par) : Int × Int × Nat := kyA x.2
theorem ptO_key (x : Nat × Par) : kyP (ptO x) = kyG x := by
  unfold ptO kyG kyA kyP
  split <;> simp [*]
/-- What is left of the parts, as they lie and plainly. -/
theorem parts_end (gp : List (Nat × Par)) (e kind t c : Int) : enP (gp.map ptO) e kind t c = ((enK kyG (fun t => (0, nilA t)) gp e kind t c).1, (enK kyG (fun t => (0, nilA t)) gp e kind t c).2.1.map ptO, (enK kyG (fun t => (0, nilA t)) gp e kind t c).2.2) := by
  rw [enP_key, enK_map ptO kyG kyP (fun t => (0, nilA t)) _ ptO_key (fun t => by simp [ptO, nilA])]
theorem parts_snd (gp : List (Nat × Par)) (e kind t c : Int) : enK kyA nilA (gp.map (·.2)) e kind t c = ((enK kyG (fun t => (0, nilA t)) gp e kind t c).1, (enK kyG (fun t => (0, nilA t)) gp e kind t c).2.1.map (·.2), (enK kyG (fun t => (0, nilA t)) gp e kind t c).2.2) := enK_map (·.2) kyG kyA (fun t => (0, nilA t)) nilA (fun _ => rfl) (fun _ => rfl) gp e kind t c
/-- The table of functions' numbers. -/
def ixE : Nat → List Fun → List MapEntry
  | _, [] => []
  | n, x :: r => { key := .string x.h.nm, val := .int .i64 (n : Nat), born := n } :: ixE (n + 1) r
/-- What is left of the input. -/
def InV (W0 W : World) (v : Value) (l : List UInt8) : Prop := ∃ a c, v = .slice a l.length c ∧ l.length ≤ c ∧ (0 < l.length → ∃ g o, a = some ⟨g, o, none⟩ ∧ g < W0.heap.size ∧ ∀ (j : Nat) (b : UInt8), l[j]? = some b → W.cell? ⟨g, o + j, none⟩ = some (.int .u8 b.toNat))
theorem InV.below {W0 W W' : World} {v : Value} {l : List UInt8} (h : InV W0 W v l) (hb : Below W0.heap.size W W') : InV W0 W' v l := by
  obtain ⟨a, c, e, h1, h2⟩ := h
  refine ⟨a, c, e, h1, fun hl => ?_⟩
  obtain ⟨g, o, e2, h3, h4⟩ := h2 hl
  exact ⟨g, o, e2, h3, fun j b hj => (World.cell?_of_block (hb.block g h3)).trans (h4 j b hj)⟩
/-- A list of numbers in a block. -/
def RgB (W : World) (q : Nat) (l : List Int) : Prop := Bk W q 2 (l.map (Value.int .i64))
theorem RgB.at {W : World} {q : Nat} {l : List Int} (h : RgB W q l) {k : Nat} {v : Int} (hk : l[k]? = some v) : W.cell? ⟨q, k, none⟩ = some (.int .i64 v) := h.cell (by rw [List.getElem?_map, hk]; rfl)
theorem RgB.set {W : World} {q : Nat} {l : List Int} (h : RgB W q l) (k : Nat) (v : Int) : RgB (W.setCell ⟨q, k, none⟩ (.int .i64 v)) q (l.set k v) := by
  unfold RgB at *
  rw [List.map_set]
  exact Bk.set h k _
/-- A run as it lies. -/
structure RelD (p : List Fun) (pp : Option Addr) (pc : Nat) (W0 : World) (R m1 m2 : Nat) (r : Rs) (C ca P pa : Nat) (gl : List (Nat × Cal)) (gp : List (Nat × Par)) (W : World) (s : St) : Prop where
  bel : Below W0.heap.size W0 W
  rB : W0.heap.size ≤ R
  rb : Rb W R r
  pg : r.pg = .slice pp p.length pc
  fm : r.fm = .map (some m1)
  om : r.om = .map (some m2)
  h1 : ∃ c, W.heap[m1]? = some (.map (ixE 0 p).toArray c)
  h2 : W.heap[m2]? = some (.map oes 14)
  cv : r.cv = .slice (some ⟨C, 0, none⟩) gl.length ca
  co : W.ownsRow W0.heap.size 138 7 r.cv gl.length (rowV p gl)
  pv : r.pv = .slice (some ⟨P, 0, none⟩) gp.length pa
  po : W.ownsRow W0.heap.size 174 3 r.pv gp.length (flP (gp.map ptO))
  rg : ∀ x ∈ gl, W0.heap.size ≤ x.1 ∧ RgB W x.1 x.2.rg
  nd : (gl.map (·.1)).Nodup
  wd : ∀ x ∈ gp, ¬ x.2.kd = 0 → W0.heap.size ≤ x.1 ∧ RgB W x.1 x.2.ws ∧ x.1 ∉ gl.map (·.1)
  wn : ((gp.filter fun x => decide (¬ x.2.kd = 0)).map (·.1)).Nodup
  ls : gl.map (·.2) = s.top :: s.low
  gs : gp.map (·.2) = s.ps
  en : r.en = s.en
  nx : r.nx = s.nx
  hp : r.hp = s.hp
  fin : r.fin = 0
  cd : r.cd = 0
  st : r.st = s.st
  iv : InV W0 W r.iv s.inp
  ov : W.ownsRow W0.heap.size 5 1 r.ov s.out.length (Lib.byteCells s.out)
theorem bk_nmap {W : World} {b m : Nat} {t : TypeId} {cs : List Value} {es : Array MapEntry} {c : Nat} (h : Bk W b t cs) (hm : W.heap[m]? = some (.map es c)) : b ≠ m := by
  intro e
  subst e
  unfold Bk at h
  rw [h] at hm
  cases hm
theorem RelD.hd {p : List Fun} {pp : Option Addr} {pc : Nat} {W0 : World} {R m1 m2 : Nat} {r : Rs} {C ca P pa : Nat} {gl : List (Nat × Cal)} {gp : List (Nat × Par)} {W : World} {s : St} (h : RelD p pp pc W0 R m1 m2 r C ca P pa gl gp W s) : ∃ tq lq, gl = (tq, s.top) :: lq ∧ lq.map (·.2) = s.low := by
  have := h.ls
  cases gl with
  | nil => cases this
  | cons x l =>
    simp only [List.map_cons, List.cons.injEq] at this
    obtain ⟨e1, e2⟩ := this
    exact ⟨x.1, l, by rw [← e1], e2⟩
end
section
open Go.RowKit Go.Shelf
variable {p : List Fun} {pp : Option Addr} {pc : Nat} {W0 : World} {R m1 m2 : Nat} {r : Rs} {C ca P pa : Nat} {gl : List (Nat × Cal)} {gp : List (Nat × Par)} {W : World} {s : St}
theorem RelD.bC (h : RelD p pp pc W0 R m1 m2 r C ca P pa gl gp W s) : W0.heap.size ≤ C ∧ ∃ cs, Bk W C 138 cs := by
  obtain ⟨h1, cs, h2, _⟩ := own_bk h.co h.cv
  exact ⟨h1, cs, h2⟩
theorem RelD.bP (h : RelD p pp pc W0 R m1 m2 r C ca P pa gl gp W s) : W0.heap.size ≤ P ∧ ∃ cs, Bk W P 174 cs := by
  obtain ⟨h1, cs, h2, _⟩ := own_bk h.po h.pv
  exact ⟨h1, cs, h2⟩
theorem RelD.bO (h : RelD p pp pc W0 R m1 m2 r C ca P pa gl gp W s) {g : Nat} (hg : r.ov.ownBlock = some g) : W0.heap.size ≤ g ∧ ∃ cs, Bk W g 5 cs := by
  obtain ⟨h1, cs, h2⟩ := own_block h.ov hg
  exact ⟨h1, cs, h2⟩
/-- What touches the calls' row and registers alone. -/
theorem RelD.regs (h : RelD p pp pc W0 R m1 m2 r C ca P pa gl gp W s) {gl' : List (Nat × Cal)} {W' : World} {s' : St} {q : Nat} (k : Onl (fun b => b = C ∨ b = q) W W') (hq : q ∈ gl.map (·.1)) (hkeys : gl'.map (·.1) = gl.map (·.1)) (hco : W'.ownsRow W0.heap.size 138 7 r.cv gl.length (rowV p gl')) (hrg : ∀ x ∈ gl', RgB W' x.1 x.2.rg) (hls : gl'.map (·.2) = s'.top :: s'.low) (e1 : s'.ps = s.ps) (e2 : s'.en = s.en) (e3 : s'.nx = s.nx) (e4 : s'.hp = s.hp) (e5 : s'.inp = s.inp) (e6 : s'.out = s.out) (e7 : s'.st = s.st) : RelD p pp pc W0 R m1 m2 r C ca P pa gl' gp W' s' := by
  obtain ⟨c0, cs, hC⟩ := h.bC
  obtain ⟨p0, ps, hP⟩ := h.bP
  obtain ⟨x, hx, rfl⟩ := List.mem_map.1 hq
  obtain ⟨q0, hQ⟩ := h.rg x hx
  have hlen : gl'.length = gl.length := by have := congrArg List.length hkeys; simpa using this
  obtain ⟨m1c, hm1⟩ := h.h1
  refine ⟨Onl.below (Nat.le_refl _) h.bel k (fun b hb => by rcases hb with rfl | rfl; exact c0; exact q0), h.rB, h.rb.onl k ?_, h.pg, h.fm, h.om, ⟨m1c, ?_⟩, ?_, by rw [hlen]; exact h.cv, by rw [hlen]; exact hco, h.pv, own_onl h.po k ?_, ?_, by rw [hkeys]; exact h.nd, ?_, h.wn, hls, by rw [e1]; exact h.gs, by rw [e2]; exact h.en, by rw [e3]; exact h.nx, by rw [e4]; exact h.hp, h.fin, h.cd, by rw [e7]; exact h.st, ?_, ?_⟩
  · rintro (e | e)
    · exact h.rb.ne hC (by decide) e
    · exact h.rb.ne hQ (by decide) e
  · rw [k.block m1 (Array.getElem?_eq_some_iff.1 hm1).1 (by rintro (e | e); exact bk_nmap hC hm1 e.symm; exact bk_nmap hQ hm1 e.symm)]; exact hm1
  · rw [k.block m2 (Array.getElem?_eq_some_iff.1 h.h2).1 (by rintro (e | e); exact bk_nmap hC h.h2 e.symm; exact bk_nmap hQ h.h2 e.symm)]; exact h.h2
  · intro g hg
    rw [h.pv] at hg
    cases hg
    rintro (e | e)
    · exact hP.ne hC (by decide) e
    · exact hP.ne hQ (by decide) e
  · intro y hy
    have hm : y.1 ∈ gl.map (·.1) := by rw [← hkeys]; exact List.mem_map.2 ⟨y, hy, rfl⟩
    obtain ⟨z, hz, ez⟩ := List.mem_map.1 hm
    exact ⟨by rw [← ez]; exact (h.rg z hz).1, hrg y hy⟩
  · intro y hy hk
    obtain ⟨t1, t2, t3⟩ := h.wd y hy hk
    refine ⟨t1, t2.onl k ?_, by rw [hkeys]; exact t3⟩
    rintro (e | e)
    · exact t2.ne hC (by decide) e
    · exact t3 (by rw [e]; exact List.mem_map.2 ⟨x, hx, rfl⟩)
  · rw [e5]
    exact h.iv.below (Onl.below h.bel.size (Below.refl _ _) k (fun b hb => by rcases hb with rfl | rfl; exact c0; exact q0))
  · rw [e6]
    refine own_onl h.ov k (fun g hg => ?_)
    obtain ⟨_, os, hO⟩ := h.bO hg
    rintro (e | e)
    · exact hO.ne hC (by decide) e
    · exact hO.ne hQ (by decide) e
theorem onl_drew (W : World) (k : Nat) (S : Nat → Prop) : Onl S W (W.drewN k) := (Onl.of_below (Below.refl _ _)).drewN k
theorem calV_rg (p : List Fun) (q : Nat) (c : Cal) (l : List Int) (h : l.length = c.rg.length) : calV p (q, { c with rg := l }) = calV p (q, c) := by simp [calV, h]
/-- A register is set, and the next instruction is come to. -/
theorem RelD.put {tq : Nat} {lq : List (Nat × Cal)} (h : RelD p pp pc W0 R m1 m2 r C ca P pa ((tq, s.top) :: lq) gp W s) (d : Nat) (v : Int) (k : Nat) : RelD p pp pc W0 R m1 m2 r C ca P pa ((tq, { s.top with j := s.top.j + 1, rg := s.top.rg.set d v }) :: lq) gp (((W.setCell ⟨C, lq.length * 7 + 5, none⟩ (.int .i64 ((s.top.j : Int) + 1))).setCell ⟨tq, d, none⟩ (.int .i64 v)).drewN k) { s with top := { s.top with j := s.top.j + 1, rg := s.top.rg.set d v } } := by
  obtain ⟨c0, cs, hC⟩ := h.bC
  obtain ⟨q0, hQ⟩ := h.rg (tq, s.top) (by simp)
  have nqC : tq ≠ C := hQ.ne hC (by decide)
  have hls := h.ls
  simp only [List.map_cons, List.cons.injEq] at hls
  refine h.regs (q := tq) ((((Onl.of_below (Below.refl _ _)).set (S := fun b => b = C ∨ b = tq) (b := C) (.inl rfl)).set (b := tq) (.inr rfl)).drewN k) (by simp) (by simp) ?_ ?_ (by simp [hls.2]) rfl rfl rfl rfl rfl rfl rfl
  · have t := own_put (i := lq.length * 7 + 5) (u := .int .i64 ((s.top.j : Int) + 1)) h.co h.cv
    rw [rowV_set] at t
    have e : rowV p ((tq, { s.top with j := s.top.j + 1, rg := s.top.rg.set d v }) :: lq) = rowV p lq ++ (calV p (tq, s.top)).set 5 (.int .i64 ((s.top.j : Int) + 1)) := by
      rw [rowV]
      simp [calV]
    rw [e]
    refine own_set t (fun e => ?_)
    have e' := h.cv
    rw [e'] at e
    cases e
    exact nqC rfl
  · intro x hx
    rcases List.mem_cons.1 hx with rfl | hx
    · exact RgB.set (hQ.other nqC) d v
    · have t := (h.rg x (by simp [hx])).2
      have hn := h.nd
      simp only [List.map_cons, List.nodup_cons] at hn
      have n1 : x.1 ≠ tq := fun e => hn.1 (by rw [← e]; exact List.mem_map.2 ⟨x, hx, rfl⟩)
      have n2 : x.1 ≠ C := t.ne hC (by decide)
      exact ((t.other n2).other n1)
/-- Another block is come to. -/
theorem RelD.jmp {tq : Nat} {lq : List (Nat × Cal)} (h : RelD p pp pc W0 R m1 m2 r C ca P pa ((tq, s.top) :: lq) gp W s) (b' j' : Nat) {W' : World} (k : Onl (fun b => b = C) W W') (hco : W'.ownsRow W0.heap.size 138 7 r.cv (lq.length + 1) (rowV p ((tq, { s.top with b := b', j := j' }) :: lq))) : RelD p pp pc W0 R m1 m2 r C ca P pa ((tq, { s.top with b := b', j := j' }) :: lq) gp W' { s with top := { s.top with b := b', j := j' } } := by
  obtain ⟨c0, cs, hC⟩ := h.bC
  have hls := h.ls
  simp only [List.map_cons, List.cons.injEq] at hls
  refine h.regs (q := tq) (k.mono fun b e => .inl e) (by simp) (by simp) hco ?_ (by simp [hls.2]) rfl rfl rfl rfl rfl rfl rfl
  intro x hx
  rcases List.mem_cons.1 hx with rfl | hx
  · have t := (h.rg (tq, s.top) (by simp)).2
    exact t.onl k (t.ne hC (by decide))
  · have t := (h.rg x (by simp [hx])).2
    exact t.onl k (t.ne hC (by decide))
theorem RelD.drew (h : RelD p pp pc W0 R m1 m2 r C ca P pa gl gp W s) (k : Nat) : RelD p pp pc W0 R m1 m2 r C ca P pa gl gp (W.drewN k) s := by
  obtain ⟨tq, lq, rfl, h2⟩ := h.hd
  refine h.regs (q := tq) (onl_drew W k _) (by simp) rfl (own_onl h.co (onl_drew W k (fun _ => False)) (fun _ _ h => h)) (fun x hx => (h.rg x hx).2.onl (onl_drew W k (fun _ => False)) (fun h => h)) h.ls rfl rfl rfl rfl rfl rfl rfl
/-- The run's own cells. -/
theorem RelD.run (h : RelD p pp pc W0 R m1 m2 r C ca P pa gl gp W s) {r' : Rs} {W' : World} {s' : St} (k : Onl (fun b => b = R) W W') (hR : Rb W' R r') (a1 : r'.pg = r.pg) (a2 : r'.fm = r.fm) (a3 : r'.om = r.om) (a4 : r'.cv = r.cv) (a5 : r'.pv = r.pv) (a6 : r'.ov = r.ov) (hls : gl.map (·.2) = s'.top :: s'.low) (e1 : s'.ps = s.ps) (e2 : r'.en = s'.en) (e3 : r'.nx = s'.nx) (e4 : r'.hp = s'.hp) (e5 : InV W0 W' r'.iv s'.inp) (e6 : s'.out = s.out) (e7 : r'.st = s'.st) (f1 : r'.fin = 0) (f2 : r'.cd = 0) : RelD p pp pc W0 R m1 m2 r' C ca P pa gl gp W' s' := by
  obtain ⟨c0, cs, hC⟩ := h.bC
  obtain ⟨p0, ps, hP⟩ := h.bP
  obtain ⟨m1c, hm1⟩ := h.h1
  have co' : W'.ownsRow W0.heap.size 138 7 r.cv gl.length (rowV p gl) := own_onl h.co k (fun g hg e => by
    rw [h.cv] at hg
    cases hg
    exact h.rb.ne hC (by decide) e.symm)
  have po' : W'.ownsRow W0.heap.size 174 3 r.pv gp.length (flP (gp.map ptO)) := own_onl h.po k (fun g hg e => by
    rw [h.pv] at hg
    cases hg
    exact h.rb.ne hP (by decide) e.symm)
  refine ⟨Onl.below (Nat.le_refl _) h.bel k (fun b hb => by rw [hb]; exact h.rB), h.rB, hR, by rw [a1]; exact h.pg, by rw [a2]; exact h.fm, by rw [a3]; exact h.om, ⟨m1c, ?_⟩, ?_, by rw [a4]; exact h.cv, by rw [a4]; exact co', by rw [a5]; exact h.pv, by rw [a5]; exact po', ?_, h.nd, ?_, h.wn, hls, by rw [e1]; exact h.gs, e2, e3, e4, f1, f2, e7, e5, ?_⟩
  · rw [k.block m1 (Array.getElem?_eq_some_iff.1 hm1).1 (fun e => bk_nmap h.rb hm1 e.symm)]; exact hm1
  · rw [k.block m2 (Array.getElem?_eq_some_iff.1 h.h2).1 (fun e => bk_nmap h.rb h.h2 e.symm)]; exact h.h2
  · intro x hx
    exact ⟨(h.rg x hx).1, (h.rg x hx).2.onl k (fun e => (h.rg x hx).2.ne h.rb (by decide) e)⟩
  · intro x hx hk
    obtain ⟨t1, t2, t3⟩ := h.wd x hx hk
    exact ⟨t1, t2.onl k (fun e => t2.ne h.rb (by decide) e), t3⟩
  · rw [a6, e6]
    refine own_onl h.ov k (fun g hg e => ?_)
    obtain ⟨_, os, hO⟩ := h.bO hg
    exact hO.ne h.rb (by decide) e
end
end Go.Proofs.YtdppoblbenbafaaGreatDoor
