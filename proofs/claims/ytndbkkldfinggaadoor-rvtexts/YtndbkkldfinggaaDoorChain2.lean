/- Plain arithmetic: the document's ors of fields, form by form, are the same word; nothing of the program. -/
import Derived.Test.YtndbkkldfinggaaDoorChain
namespace Go.Proofs.YtndbkkldfinggaaDoor

theorem or_nought (c : Int) (h0 : 0 ≤ c) (h1 : c < 4294967296) : bits .or .u32 c 0 = c := by
  have := or_disj c 0 h0 h1 (by omega) (by omega) (by omega) (by omega) (by omega) (by omega) (by omega) (by omega) (by omega)
  simpa using this

/-- The sum of opcode, funct3 and registers. -/
def baseI (c f rd r1 r2 : Int) : Int := c + f * 4096 + rd * 128 + r1 * 32768 + r2 * 1048576


theorem chain_R {c f g rd r1 r2 n : Int} (_hc : 0 ≤ c) (_hc' : c < 128) (_f0 : 0 ≤ f) (_f1 : f < 8) (_g0 : 0 ≤ g) (_g1 : g < 128) (_d0 : 0 ≤ rd) (_d1 : rd ≤ 31) (_a0 : 0 ≤ r1) (_a1 : r1 ≤ 31) (_b0 : 0 ≤ r2) (_b1 : r2 ≤ 31) : bits .or .u32 (baseI c f rd r1 r2) (g * 33554432) = c + f * 4096 + g * 33554432 + rd * 128 + r1 * 32768 + r2 * 1048576 + spr 82 (n % 4294967296) := by
  have e : spr 82 (n % 4294967296) = 0 := rfl
  rw [e]
  have e1 : bits .or .u32 (baseI c f rd r1 r2) (g * 33554432) = baseI c f rd r1 r2 + g * 33554432 := by unfold baseI; apply or_disj <;> omega
  rw [e1]; unfold baseI; omega

theorem chain_I {c f rd r1 n : Int} (_hc : 0 ≤ c) (_hc' : c < 128) (_f0 : 0 ≤ f) (_f1 : f < 8) (_d0 : 0 ≤ rd) (_d1 : rd ≤ 31) (_a0 : 0 ≤ r1) (_a1 : r1 ≤ 31) (l : Int) (hl : l = 73 ∨ l = 76) : bits .or .u32 (baseI c f rd r1 0) (n % 4096 * 1048576) = c + f * 4096 + 0 * 33554432 + rd * 128 + r1 * 32768 + 0 * 1048576 + spr l (n % 4294967296) := by
  have e : spr l (n % 4294967296) = n % 4294967296 % 4096 * 1048576 := by rcases hl with rfl | rfl <;> rfl
  have q : n % 4294967296 % 4096 = n % 4096 := by omega
  have b : 0 ≤ n % 4096 ∧ n % 4096 < 4096 := by omega
  rw [e, q]
  clear e q
  generalize n % 4096 = x at *
  have e1 : bits .or .u32 (baseI c f rd r1 0) (x * 1048576) = baseI c f rd r1 0 + x * 1048576 := by unfold baseI; apply or_disj <;> omega
  rw [e1]; unfold baseI; omega

theorem chain_H {c f g rd r1 n : Int} (_hc : 0 ≤ c) (_hc' : c < 128) (_f0 : 0 ≤ f) (_f1 : f < 8) (_g0 : 0 ≤ g) (_g1 : g < 128) (_d0 : 0 ≤ rd) (_d1 : rd ≤ 31) (_a0 : 0 ≤ r1) (_a1 : r1 ≤ 31) (hg : g % 2 = 0) (n0 : 0 ≤ n) (n1 : n ≤ 63) (l : Int) (hl : l = 72 ∨ l = 87) : bits .or .u32 (bits .or .u32 (baseI c f rd r1 0) (g * 33554432)) (n * 1048576) = c + f * 4096 + g * 33554432 + rd * 128 + r1 * 32768 + 0 * 1048576 + spr l (n % 4294967296) := by
  have e : spr l (n % 4294967296) = n % 4294967296 % 4096 * 1048576 := by rcases hl with rfl | rfl <;> rfl
  have q : n % 4294967296 % 4096 = n := by omega
  rw [e, q]
  clear e q
  have e1 : bits .or .u32 (baseI c f rd r1 0) (g * 33554432) = baseI c f rd r1 0 + g * 33554432 := by unfold baseI; apply or_disj <;> omega
  have e2 : bits .or .u32 (baseI c f rd r1 0 + g * 33554432) (n * 1048576) = baseI c f rd r1 0 + g * 33554432 + n * 1048576 := by unfold baseI; apply or_disj <;> omega
  rw [e1, e2]; unfold baseI; omega

theorem chain_S {c f r1 r2 n : Int} (_hc : 0 ≤ c) (_hc' : c < 128) (_f0 : 0 ≤ f) (_f1 : f < 8) (_a0 : 0 ≤ r1) (_a1 : r1 ≤ 31) (_b0 : 0 ≤ r2) (_b1 : r2 ≤ 31) : bits .or .u32 (bits .or .u32 (baseI c f 0 r1 r2) (n % 32 * 128)) (n / 32 % 128 * 33554432) = c + f * 4096 + 0 * 33554432 + 0 * 128 + r1 * 32768 + r2 * 1048576 + spr 83 (n % 4294967296) := by
  have e : spr 83 (n % 4294967296) = n % 4294967296 % 32 * 128 + n % 4294967296 / 32 % 128 * 33554432 := rfl
  have q1 : n % 4294967296 % 32 = n % 32 := by omega
  have q2 : n % 4294967296 / 32 % 128 = n / 32 % 128 := by omega
  have b1 : 0 ≤ n % 32 ∧ n % 32 < 32 := by omega
  have b2 : 0 ≤ n / 32 % 128 ∧ n / 32 % 128 < 128 := by omega
  rw [e, q1, q2]
  clear e q1 q2
  generalize n % 32 = x at *
  generalize n / 32 % 128 = y at *
  have e1 : bits .or .u32 (baseI c f 0 r1 r2) (x * 128) = baseI c f 0 r1 r2 + x * 128 := by unfold baseI; apply or_disj <;> omega
  have e2 : bits .or .u32 (baseI c f 0 r1 r2 + x * 128) (y * 33554432) = baseI c f 0 r1 r2 + x * 128 + y * 33554432 := by unfold baseI; apply or_disj <;> omega
  rw [e1, e2]; unfold baseI; omega

theorem chain_B {c f r1 r2 n : Int} (_hc : 0 ≤ c) (_hc' : c < 128) (_f0 : 0 ≤ f) (_f1 : f < 8) (_a0 : 0 ≤ r1) (_a1 : r1 ≤ 31) (_b0 : 0 ≤ r2) (_b1 : r2 ≤ 31) : bits .or .u32 (bits .or .u32 (bits .or .u32 (bits .or .u32 (baseI c f 0 r1 r2) (n / 2048 % 2 * 128)) (n / 2 % 16 * 256)) (n / 32 % 64 * 33554432)) (n / 4096 % 2 * 2147483648) = c + f * 4096 + 0 * 33554432 + 0 * 128 + r1 * 32768 + r2 * 1048576 + spr 66 (n % 4294967296) := by
  have e : spr 66 (n % 4294967296) = (n % 4294967296 / 2 % 16 * 2 + n % 4294967296 / 2048 % 2) * 128 + (n % 4294967296 / 32 % 64 + n % 4294967296 / 4096 % 2 * 64) * 33554432 := rfl
  have q1 : n % 4294967296 / 2 % 16 = n / 2 % 16 := by omega
  have q2 : n % 4294967296 / 2048 % 2 = n / 2048 % 2 := by omega
  have q3 : n % 4294967296 / 32 % 64 = n / 32 % 64 := by omega
  have q4 : n % 4294967296 / 4096 % 2 = n / 4096 % 2 := by omega
  have c1 : 0 ≤ n / 2 % 16 ∧ n / 2 % 16 < 16 := by omega
  have c2 : 0 ≤ n / 2048 % 2 ∧ n / 2048 % 2 < 2 := by omega
  have c3 : 0 ≤ n / 32 % 64 ∧ n / 32 % 64 < 64 := by omega
  have c4 : 0 ≤ n / 4096 % 2 ∧ n / 4096 % 2 < 2 := by omega
  rw [e, q1, q2, q3, q4]
  clear e q1 q2 q3 q4
  generalize n / 2 % 16 = x at *
  generalize n / 2048 % 2 = y at *
  generalize n / 32 % 64 = z at *
  generalize n / 4096 % 2 = t at *
  have e1 : bits .or .u32 (baseI c f 0 r1 r2) (y * 128) = baseI c f 0 r1 r2 + y * 128 := by unfold baseI; apply or_disj <;> omega
  have e2 : bits .or .u32 (baseI c f 0 r1 r2 + y * 128) (x * 256) = baseI c f 0 r1 r2 + y * 128 + x * 256 := by unfold baseI; apply or_disj8 <;> omega
  have e3 : bits .or .u32 (baseI c f 0 r1 r2 + y * 128 + x * 256) (z * 33554432) = baseI c f 0 r1 r2 + y * 128 + x * 256 + z * 33554432 := by unfold baseI; apply or_disj <;> omega
  have e4 : bits .or .u32 (baseI c f 0 r1 r2 + y * 128 + x * 256 + z * 33554432) (t * 2147483648) = baseI c f 0 r1 r2 + y * 128 + x * 256 + z * 33554432 + t * 2147483648 :=
    or_lh 31 2147483648 _ _ rfl (by unfold baseI; omega) (by unfold baseI; omega) (by omega) (by omega) (by omega) (by unfold baseI; omega)
  rw [e1, e2, e3, e4]; unfold baseI; omega

theorem chain_U {c rd n : Int} (_hc : 0 ≤ c) (_hc' : c < 128) (_d0 : 0 ≤ rd) (_d1 : rd ≤ 31) : bits .or .u32 (baseI c 0 rd 0 0) (n % 1048576 * 4096) = c + 0 * 4096 + 0 * 33554432 + rd * 128 + 0 * 32768 + 0 * 1048576 + spr 85 (n % 4294967296) := by
  have e : spr 85 (n % 4294967296) = n % 4294967296 % 1048576 * 4096 := rfl
  have q : n % 4294967296 % 1048576 = n % 1048576 := by omega
  have b : 0 ≤ n % 1048576 ∧ n % 1048576 < 1048576 := by omega
  rw [e, q]
  clear e q
  generalize n % 1048576 = x at *
  have e1 : bits .or .u32 (baseI c 0 rd 0 0) (x * 4096) = baseI c 0 rd 0 0 + x * 4096 := or_lh 12 4096 _ _ rfl (by unfold baseI; omega) (by unfold baseI; omega) (by omega) (by omega) (by omega) (by unfold baseI; omega)
  rw [e1]; unfold baseI; omega

theorem chain_J {c rd n : Int} (_hc : 0 ≤ c) (_hc' : c < 128) (_d0 : 0 ≤ rd) (_d1 : rd ≤ 31) : bits .or .u32 (bits .or .u32 (bits .or .u32 (bits .or .u32 (baseI c 0 rd 0 0) (n / 4096 % 256 * 4096)) (n / 2048 % 2 * 1048576)) (n / 2 % 1024 * 2097152)) (n / 1048576 % 2 * 2147483648) = c + 0 * 4096 + 0 * 33554432 + rd * 128 + 0 * 32768 + 0 * 1048576 + spr 74 (n % 4294967296) := by
  have e : spr 74 (n % 4294967296) = n % 4294967296 / 4096 % 256 * 4096 + n % 4294967296 / 2048 % 2 * 1048576 + n % 4294967296 / 2 % 1024 * 2097152 + n % 4294967296 / 1048576 % 2 * 2147483648 := rfl
  have q1 : n % 4294967296 / 4096 % 256 = n / 4096 % 256 := by omega
  have q2 : n % 4294967296 / 2048 % 2 = n / 2048 % 2 := by omega
  have q3 : n % 4294967296 / 2 % 1024 = n / 2 % 1024 := by omega
  have q4 : n % 4294967296 / 1048576 % 2 = n / 1048576 % 2 := by omega
  have c1 : 0 ≤ n / 4096 % 256 ∧ n / 4096 % 256 < 256 := by omega
  have c2 : 0 ≤ n / 2048 % 2 ∧ n / 2048 % 2 < 2 := by omega
  have c3 : 0 ≤ n / 2 % 1024 ∧ n / 2 % 1024 < 1024 := by omega
  have c4 : 0 ≤ n / 1048576 % 2 ∧ n / 1048576 % 2 < 2 := by omega
  rw [e, q1, q2, q3, q4]
  clear e q1 q2 q3 q4
  generalize n / 4096 % 256 = x at *
  generalize n / 2048 % 2 = y at *
  generalize n / 2 % 1024 = z at *
  generalize n / 1048576 % 2 = t at *
  have e1 : bits .or .u32 (baseI c 0 rd 0 0) (x * 4096) = baseI c 0 rd 0 0 + x * 4096 := or_lh 12 4096 _ _ rfl (by unfold baseI; omega) (by unfold baseI; omega) (by omega) (by omega) (by omega) (by unfold baseI; omega)
  have e2 : bits .or .u32 (baseI c 0 rd 0 0 + x * 4096) (y * 1048576) = baseI c 0 rd 0 0 + x * 4096 + y * 1048576 := or_lh 20 1048576 _ _ rfl (by unfold baseI; omega) (by unfold baseI; omega) (by omega) (by omega) (by omega) (by unfold baseI; omega)
  have e3 : bits .or .u32 (baseI c 0 rd 0 0 + x * 4096 + y * 1048576) (z * 2097152) = baseI c 0 rd 0 0 + x * 4096 + y * 1048576 + z * 2097152 := or_lh 21 2097152 _ _ rfl (by unfold baseI; omega) (by unfold baseI; omega) (by omega) (by omega) (by omega) (by unfold baseI; omega)
  have e4 : bits .or .u32 (baseI c 0 rd 0 0 + x * 4096 + y * 1048576 + z * 2097152) (t * 2147483648) = baseI c 0 rd 0 0 + x * 4096 + y * 1048576 + z * 2097152 + t * 2147483648 := or_lh 31 2147483648 _ _ rfl (by unfold baseI; omega) (by unfold baseI; omega) (by omega) (by omega) (by omega) (by unfold baseI; omega)
  rw [e1, e2, e3, e4]; unfold baseI; omega
end Go.Proofs.YtndbkkldfinggaaDoor
