/- Walks of the little machine: its page. Walks of the little machine: sums, whether it is over, its beginning's state. Walks of the little machine: what an instruction does. -/
import Derived.Test.YtnmpbihpoefeoaaDoorMM
import Derived.Deep.MidRow
namespace Go.Proofs.YtnmpbihpoefeoaaDoor
section
open Go.RowKit Go.Shelf
def zB : Array Value := madeCells #[.int .u8 0] 4096
theorem make4096 (W : World) : (Instr.makeSlice 35 (.int .i64 4096) (.int .i64 4096)).run Tryd.prog W = .ok (.slice (some ⟨W.heap.size, 0, none⟩) 4096 4096) (W.alloc (.cells zB 5)) := by kernel_rfl
theorem zB_at {j : Nat} (h : j < 4096) : zB[j]? = some (.int .u8 0) := by
  have t : zB.toList = List.replicate 4096 (.int .u8 0) := toList_madeCells_one _ _
  rw [← Array.getElem?_toList, t, List.getElem?_replicate, if_pos h]
/-- The code's bytes. -/
def CB (t : Nat) : Int := [19, 5, 112, 0, 147, 8, 208, 5, 115, 0, 0, 0].getD t 0
def BA (n t : Nat) : Int := if t < n then CB t else 0
structure Pb (w W : World) (n : Nat) : Prop where
  below : Below w.heap.size w W
  cell : ∀ t, t < 4096 → W.cell? ⟨w.heap.size, t, none⟩ = some (.int .u8 (BA n t))
  frozen : ∀ t, t < 4096 → W.frozen? ⟨w.heap.size, t, none⟩ = false
theorem Pb.start (w : World) : Pb w (w.alloc (.cells zB 5)) 0 :=
  ⟨(Below.refl _ _).alloc (Nat.le_refl _) _, fun t ht => by simpa [BA] using zB_at ht, fun t ht => by simp⟩
theorem Pb.put {w W : World} {n : Nat} (h : Pb w W n) (hn : n < 4096) {v : Int} (hv : v = CB n) : Pb w (W.setCell ⟨w.heap.size, n, none⟩ (.int .u8 v)) (n + 1) := by
  refine ⟨h.below.setCell (Nat.le_refl _) _, fun t ht => ?_, fun t ht => by rw [World.frozen?_setCell]; exact h.frozen t ht⟩
  by_cases e : t = n
  · subst e
    rw [World.cell?_setCell_same _ _ _ (h.cell t ht), hv]
    simp [BA]
  · rw [World.cell?_setCell_other _ _ _ _ (by intro h; injection h with h1 h2; omega), h.cell t ht]
    have : (t < n + 1) ↔ t < n := by omega
    simp [BA, this]
def wd (i : Nat) : Int := [7341331, 97519763, 115].getD i 0
theorem cb_at (i k : Nat) (hi : i < 3) (hk : k < 4) : wd i / 2 ^ (8 * k) % 256 = CB (4 * i + k) := by
  have a : i = 0 ∨ i = 1 ∨ i = 2 := by omega
  have b : k = 0 ∨ k = 1 ∨ k = 2 ∨ k = 3 := by omega
  rcases a with rfl | rfl | rfl <;> rcases b with rfl | rfl | rfl | rfl <;> rfl
set_option maxHeartbeats 1000000 in
set_option maxRecDepth 20000 in
theorem page25 (lb : Nat) (w : World) (hl : lb < w.heap.size) (hc : ∀ i, i < 3 → w.cell? ⟨lb, i, none⟩ = some (.int .u32 (wd i))) :
    Calls Tryd.prog 25 #[.slice (some ⟨lb, 0, none⟩) 3 3] w fun e w' => Below w.heap.size w w' ∧ ∃ W, Pb w W 12 ∧ e = .returned (.slice (some ⟨W.heap.size, 0, none⟩) 1 1) ∧ w' = W.alloc (.cells #[.int .u64 4096, .int .i64 5, .slice (some ⟨w.heap.size, 0, none⟩) 4096 4096] 51) := by
  have hmk := make4096
  have HC : Hid (∀ i, i < 3 → w.cell? ⟨lb, i, none⟩ = some (.int .u32 (wd i))) := hc
  clear hc
  go_enter Tryd.func25, Tryd.ntmps25
  go_wp2_with fail
  go_loopw [10] (fun x wr => ∃ i : Nat, i ≤ 3 ∧ x = .int .i64 i ∧ Pb w wr (4 * i)) (fun x _ => 3 - (intOf x).toNat)
  case atStart => exact ⟨0, by omega, rfl, Pb.start w⟩
  case round =>
    obtain ⟨i, hi, rfl, hP⟩ := hrel
    have HP : Hid (Pb w wr (4 * i)) := hP
    clear hP
    by_cases h3 : i < 3
    · have hci : wr.cell? ⟨lb, i, none⟩ = some (.int .u32 (wd i)) := (HP.out.below.cell (p := ⟨lb, i, none⟩) hl).trans (HC.out i h3)
      go_wp2
      go_loopw [6] (fun x w2 => ∃ k : Nat, k ≤ 4 ∧ x = .int .i64 k ∧ Pb w w2 (4 * i + k)) (fun x _ => 4 - (intOf x).toNat)
      case atStart => exact ⟨0, by omega, rfl, HP.out⟩
      case round =>
        obtain ⟨k, hk, rfl, hP2⟩ := hrel
        have hs : w.heap.size < wr.heap.size := lt_of_cell (hP2.cell 0 (by omega))
        have hcell := hP2.cell (4 * i + k) (by omega)
        have hfroz := hP2.frozen (4 * i + k) (by omega)
        have HP2 : Hid (Pb w wr (4 * i + k)) := hP2
        clear hP2
        by_cases h4 : k < 4
        · go_wp2
          go_roundw
          case rel => exact ⟨k + 1, by omega, by go_num, HP2.out.put (by omega) (cb_at i k h3 h4)⟩
          case measure => simp [intOf]; omega
        · go_wp2
          go_roundw
          case rel => exact ⟨i + 1, by omega, by go_num, by rw [show 4 * (i + 1) = 4 * i + k by omega]; exact HP2.out⟩
          case measure => simp [intOf]; omega
    · go_wp2
      go_ret
      have e3 : 4 * i = 12 := by omega
      exact ⟨HP.out.below.alloc HP.out.below.size _, wr, e3 ▸ HP.out, rfl, rfl⟩
end
section
open Go.RowKit Go.Shelf
set_option maxHeartbeats 1000000 in
theorem sum20_add (op a b : Int) (ho : op = 22 ∨ op = 35) (a0 : 0 ≤ a) (b0 : 0 ≤ b) (h : a + b < 18446744073709551616) (w : World) : Calls Tryd.prog 20 #[.int .i64 op, .int .u64 a, .int .u64 b] w fun e w' => e = .returned (.tuple #[.int .u64 (a + b), .bool false]) ∧ w' = w := by
  rcases ho with rfl | rfl
  · go_enter Tryd.func20, Tryd.ntmps20
    go_wp2
    go_ret2
    exact ⟨rfl, rfl⟩
  · go_enter Tryd.func20, Tryd.ntmps20
    go_wp2
    go_ret2
    exact ⟨rfl, rfl⟩
set_option maxHeartbeats 1000000 in
theorem alu7_add (op a b : Int) (ho : op = 22 ∨ op = 35) (a0 : 0 ≤ a) (b0 : 0 ≤ b) (h : a + b < 18446744073709551616) (w : World) : Calls Tryd.prog 7 #[.int .i64 op, .int .u64 a, .int .u64 b] w fun e w' => e = .returned (.tuple #[.int .u64 (a + b), .int .i64 0]) ∧ w' = w := by
  have hs := sum20_add op a b ho a0 b0 h
  have h1 : 22 ≤ op ∧ op ≤ 62 := by omega
  clear ho h
  go_enter Tryd.func7, Tryd.ntmps7
  go_wp2_with ((go_at_call 20; refine (hs _).mono ?_; rintro e w' ⟨rfl, rfl⟩))
  go_ret2
  exact ⟨rfl, rfl⟩
set_option maxHeartbeats 1000000 in
theorem second64_n (op b n : Int) (ho : op < 35) (w : World) : Calls Tryd.prog 64 #[.int .i64 op, .int .u64 b, .int .u64 n] w fun e w' => e = .returned (.int .u64 n) ∧ w' = w := by
  go_enter Tryd.func64, Tryd.ntmps64
  go_wp2
  go_ret
  exact ⟨rfl, rfl⟩
/-- The cells of the little machine. -/
def mcs (pc x10 x17 st : Int) (h : Bool) (code : Int) (mem : Nat) : List Value :=
  [.int .u64 pc, .int .u64 0, .int .u64 0, .int .u64 0, .int .u64 0, .int .u64 0, .int .u64 0, .int .u64 0, .int .u64 0, .int .u64 0, .int .u64 0, .int .u64 x10, .int .u64 0, .int .u64 0, .int .u64 0, .int .u64 0, .int .u64 0, .int .u64 0, .int .u64 x17, .int .u64 0, .int .u64 0, .int .u64 0, .int .u64 0, .int .u64 0, .int .u64 0, .int .u64 0, .int .u64 0, .int .u64 0, .int .u64 0, .int .u64 0, .int .u64 0, .int .u64 0, .int .u64 0, .int .i64 st, .bool h, .int .i64 code, .int .i64 0, .slice none 0 0, .int .i64 0, .pointer (some ⟨mem, 0, none⟩), .slice none 0 0]
/-- The machine lies in a block. -/
structure Mac (W : World) (m : Nat) (pc x10 x17 st : Int) (h : Bool) (code : Int) (mem : Nat) : Prop where
  blk : W.heap[m]? = some (.cells (mcs pc x10 x17 st h code mem).toArray 72)
theorem Mac.at_ {W : World} {m : Nat} {pc x10 x17 st : Int} {h : Bool} {code : Int} {mem : Nat} (H : Mac W m pc x10 x17 st h code mem) (o : Nat) : W.cell? ⟨m, o, none⟩ = (mcs pc x10 x17 st h code mem)[o]? := by
  simp [World.cell?, H.blk]
theorem Mac.fz {W : World} {m : Nat} {pc x10 x17 st : Int} {h : Bool} {code : Int} {mem : Nat} (H : Mac W m pc x10 x17 st h code mem) (o : Nat) : W.frozen? ⟨m, o, none⟩ = false := by
  simp only [World.frozen?, H.blk]
  simp
theorem Mac.below {W W' : World} {m : Nat} {pc x10 x17 st : Int} {h : Bool} {code : Int} {mem : Nat} (H : Mac W m pc x10 x17 st h code mem) (hb : Below W.heap.size W W') : Mac W' m pc x10 x17 st h code mem := ⟨(hb.block m (lt_of_some H.blk)).trans H.blk⟩
set_option maxHeartbeats 1000000 in
theorem over30 {W : World} {m : Nat} {pc x10 x17 st : Int} {h : Bool} {code : Int} {mem : Nat} (H : Mac W m pc x10 x17 st h code mem) : Calls Tryd.prog 30 #[.pointer (some ⟨m, 0, none⟩)] W fun e w' => e = .returned (.bool h) ∧ w' = W := by
  have h34 : W.cell? ⟨m, 34, none⟩ = some (.bool h) := H.at_ 34
  have h36 : W.cell? ⟨m, 36, none⟩ = some (.int .i64 0) := H.at_ 36
  have hs := lt_of_some H.blk
  clear H
  cases h
  · go_enter Tryd.func30, Tryd.ntmps30
    go_wp2
    go_ret
    exact ⟨rfl, rfl⟩
  · go_enter Tryd.func30, Tryd.ntmps30
    go_wp2
    go_ret
    exact ⟨rfl, rfl⟩
end
section
open Go.RowKit Go.Shelf
theorem mac_set {W : World} {m : Nat} {L : List Value} (h : W.heap[m]? = some (.cells L.toArray 72)) (o : Nat) (v : Value) : (W.setCell ⟨m, o, none⟩ v).heap[m]? = some (.cells (L.set o v).toArray 72) := by
  rw [cells_set o v h]
  simp
set_option maxHeartbeats 1000000 in
theorem call63 {W : World} {m : Nat} {mem : Nat} (H : Mac W m 4104 7 93 2 false 0 mem) : Calls Tryd.prog 63 #[.pointer (some ⟨m, 0, none⟩)] W fun e w' => e = .returned (.int .i64 0) ∧ Below m W w' ∧ Mac w' m 4104 7 93 2 true 7 mem ∧ ∀ b o, b ≠ m → w'.cell? ⟨b, o, none⟩ = W.cell? ⟨b, o, none⟩ := by
  have h11 : W.cell? ⟨m, 11, none⟩ = some (.int .u64 7) := H.at_ 11
  have h18 : W.cell? ⟨m, 18, none⟩ = some (.int .u64 93) := H.at_ 18
  have h34 : W.cell? ⟨m, 34, none⟩ = some (.bool false) := H.at_ 34
  have h35 : W.cell? ⟨m, 35, none⟩ = some (.int .i64 0) := H.at_ 35
  have f34 : W.frozen? ⟨m, 34, none⟩ = false := H.fz 34
  have f35 : W.frozen? ⟨m, 35, none⟩ = false := H.fz 35
  have hs := lt_of_some H.blk
  have HM : Hid (Mac W m 4104 7 93 2 false 0 mem) := H
  clear H
  go_enter Tryd.func63, Tryd.ntmps63
  go_wp2
  go_ret
  exact ⟨rfl, ((Below.refl m W).setCell (Nat.le_refl _) _).setCell (Nat.le_refl _) _, ⟨mac_set (mac_set HM.out.blk 34 _) 35 _⟩, fun b o hb => by rw [World.cell?_setCell_other _ _ _ _ (by intro h; injection h with h1 h2; omega), World.cell?_setCell_other _ _ _ _ (by intro h; injection h with h1 h2; omega)]⟩
/-- The world in which an instruction is done: it lies in a block of its own. -/
structure Dq (W wq : World) (a b c d e : Int) : Prop where
  below : Below W.heap.size W wq
  c0 : wq.cell? ⟨W.heap.size, 0, none⟩ = some (.int .i64 a)
  c1 : wq.cell? ⟨W.heap.size, 1, none⟩ = some (.int .i64 b)
  c2 : wq.cell? ⟨W.heap.size, 2, none⟩ = some (.int .i64 c)
  c3 : wq.cell? ⟨W.heap.size, 3, none⟩ = some (.int .i64 d)
  c4 : wq.cell? ⟨W.heap.size, 4, none⟩ = some (.int .i64 e)
theorem Dq.new (W : World) (a b c d e : Int) (n : Nat) : Dq W ((W.alloc (.cells #[.int .i64 a, .int .i64 b, .int .i64 c, .int .i64 d, .int .i64 e] 91)).drewN n) a b c d e :=
  ⟨below_drewN ((Below.refl _ W).alloc (Nat.le_refl _) _) n, by simp, by simp, by simp, by simp, by simp⟩
theorem Dq.drewN {W wq : World} {a b c d e : Int} (h : Dq W wq a b c d e) (n : Nat) : Dq W (wq.drewN n) a b c d e := ⟨below_drewN h.below n, h.c0, h.c1, h.c2, h.c3, h.c4⟩
set_option maxHeartbeats 1000000 in
set_option maxRecDepth 20000 in
theorem do47_a {W : World} {m : Nat} {mem : Nat} (H : Mac W m 4096 0 0 0 false 0 mem) : Calls Tryd.prog 47 #[.pointer (some ⟨m, 0, none⟩), .agg #[.int .i64 22, .int .i64 10, .int .i64 0, .int .i64 0, .int .i64 7]] W fun e w' => e = .returned (.int .i64 0) ∧ Below m W w' ∧ Mac w' m 4100 7 0 1 false 0 mem := by
  have hs := lt_of_some H.blk
  have h0 : W.cell? ⟨m, 0, none⟩ = some (.int .u64 4096) := H.at_ 0
  have h1 : W.cell? ⟨m, 1, none⟩ = some (.int .u64 0) := H.at_ 1
  have HM : Hid (Mac W m 4096 0 0 0 false 0 mem) := H
  clear H
  have hA64 := second64_n 22 0 7 (by decide)
  have hA7 := alu7_add 22 0 7 (by decide) (by decide) (by decide) (by decide)
  go_enter Tryd.func47, Tryd.ntmps47
  go_wp2
  go_quiet (fail)
  have hD := Dq.new W 22 10 0 0 7 nq
  generalize (W.alloc (.cells #[.int .i64 22, .int .i64 10, .int .i64 0, .int .i64 0, .int .i64 7] 91)).drewN nq = wq at *
  have HD : Hid (Dq W wq 22 10 0 0 7) := hD
  have MQ : Hid (Mac wq m 4096 0 0 0 false 0 mem) := HM.out.below hD.below
  have k0 : wq.cell? ⟨m, 0, none⟩ = some (.int .u64 4096) := MQ.out.at_ 0
  have k1 : wq.cell? ⟨m, 1, none⟩ = some (.int .u64 0) := MQ.out.at_ 1
  have d0 := hD.c0
  have d1 := hD.c1
  have hz := hD.below.size
  clear hD h0 h1
  go_wp2
  go_quiet (first | (go_at_call 64; exact Calls.quiet_of_same (hA64 _)) | (go_at_call 7; exact Calls.quiet_of_same (hA7 _)))
  have HD2 : Hid (Dq W (wq.drewN nq) 22 10 0 0 7) := HD.out.drewN nq
  generalize wq.drewN nq = wz at *
  have MZ : Hid (Mac wz m 4096 0 0 0 false 0 mem) := HM.out.below HD2.out.below
  have k0 : wz.cell? ⟨m, 0, none⟩ = some (.int .u64 4096) := MZ.out.at_ 0
  have k1 : wz.cell? ⟨m, 1, none⟩ = some (.int .u64 0) := MZ.out.at_ 1
  have kr : wz.cell? ⟨m, 11, none⟩ = some (.int .u64 0) := MZ.out.at_ 11
  have k33 : wz.cell? ⟨m, 33, none⟩ = some (.int .i64 0) := MZ.out.at_ 33
  have f0 : wz.frozen? ⟨m, 0, none⟩ = false := MZ.out.fz 0
  have f1 : wz.frozen? ⟨m, 1, none⟩ = false := MZ.out.fz 1
  have fr : wz.frozen? ⟨m, 11, none⟩ = false := MZ.out.fz 11
  have f33 : wz.frozen? ⟨m, 33, none⟩ = false := MZ.out.fz 33
  have d0 := HD2.out.c0
  have d1 := HD2.out.c1
  have hz := HD2.out.below.size
  go_wp2
  go_region
  all_goals go_wp2
  go_ret
  exact ⟨rfl, (((((HD2.out.below.mono (Nat.le_of_lt hs)).setCell (Nat.le_refl _) _).setCell (Nat.le_refl _) _).setCell (Nat.le_refl _) _).setCell (Nat.le_refl _) _).drew, ⟨mac_set (mac_set (mac_set (mac_set MZ.out.blk 11 _) 1 _) 0 _) 33 _⟩⟩
set_option maxHeartbeats 1000000 in
set_option maxRecDepth 20000 in
theorem do47_b {W : World} {m : Nat} {mem : Nat} (H : Mac W m 4100 7 0 1 false 0 mem) : Calls Tryd.prog 47 #[.pointer (some ⟨m, 0, none⟩), .agg #[.int .i64 22, .int .i64 17, .int .i64 0, .int .i64 0, .int .i64 93]] W fun e w' => e = .returned (.int .i64 0) ∧ Below m W w' ∧ Mac w' m 4104 7 93 2 false 0 mem := by
  have hs := lt_of_some H.blk
  have h0 : W.cell? ⟨m, 0, none⟩ = some (.int .u64 4100) := H.at_ 0
  have h1 : W.cell? ⟨m, 1, none⟩ = some (.int .u64 0) := H.at_ 1
  have HM : Hid (Mac W m 4100 7 0 1 false 0 mem) := H
  clear H
  have hA64 := second64_n 22 0 93 (by decide)
  have hA7 := alu7_add 22 0 93 (by decide) (by decide) (by decide) (by decide)
  go_enter Tryd.func47, Tryd.ntmps47
  go_wp2
  go_quiet (fail)
  have hD := Dq.new W 22 17 0 0 93 nq
  generalize (W.alloc (.cells #[.int .i64 22, .int .i64 17, .int .i64 0, .int .i64 0, .int .i64 93] 91)).drewN nq = wq at *
  have HD : Hid (Dq W wq 22 17 0 0 93) := hD
  have MQ : Hid (Mac wq m 4100 7 0 1 false 0 mem) := HM.out.below hD.below
  have k0 : wq.cell? ⟨m, 0, none⟩ = some (.int .u64 4100) := MQ.out.at_ 0
  have k1 : wq.cell? ⟨m, 1, none⟩ = some (.int .u64 0) := MQ.out.at_ 1
  have d0 := hD.c0
  have d1 := hD.c1
  have hz := hD.below.size
  clear hD h0 h1
  go_wp2
  go_quiet (first | (go_at_call 64; exact Calls.quiet_of_same (hA64 _)) | (go_at_call 7; exact Calls.quiet_of_same (hA7 _)))
  have HD2 : Hid (Dq W (wq.drewN nq) 22 17 0 0 93) := HD.out.drewN nq
  generalize wq.drewN nq = wz at *
  have MZ : Hid (Mac wz m 4100 7 0 1 false 0 mem) := HM.out.below HD2.out.below
  have k0 : wz.cell? ⟨m, 0, none⟩ = some (.int .u64 4100) := MZ.out.at_ 0
  have k1 : wz.cell? ⟨m, 1, none⟩ = some (.int .u64 0) := MZ.out.at_ 1
  have kr : wz.cell? ⟨m, 18, none⟩ = some (.int .u64 0) := MZ.out.at_ 18
  have k33 : wz.cell? ⟨m, 33, none⟩ = some (.int .i64 1) := MZ.out.at_ 33
  have f0 : wz.frozen? ⟨m, 0, none⟩ = false := MZ.out.fz 0
  have f1 : wz.frozen? ⟨m, 1, none⟩ = false := MZ.out.fz 1
  have fr : wz.frozen? ⟨m, 18, none⟩ = false := MZ.out.fz 18
  have f33 : wz.frozen? ⟨m, 33, none⟩ = false := MZ.out.fz 33
  have d0 := HD2.out.c0
  have d1 := HD2.out.c1
  have hz := HD2.out.below.size
  go_wp2
  go_region
  all_goals go_wp2
  go_ret
  exact ⟨rfl, (((((HD2.out.below.mono (Nat.le_of_lt hs)).setCell (Nat.le_refl _) _).setCell (Nat.le_refl _) _).setCell (Nat.le_refl _) _).setCell (Nat.le_refl _) _).drew, ⟨mac_set (mac_set (mac_set (mac_set MZ.out.blk 18 _) 1 _) 0 _) 33 _⟩⟩
set_option maxHeartbeats 1000000 in
set_option maxRecDepth 20000 in
theorem do47_e {W : World} {m : Nat} {mem : Nat} (H : Mac W m 4104 7 93 2 false 0 mem) : Calls Tryd.prog 47 #[.pointer (some ⟨m, 0, none⟩), .agg #[.int .i64 64, .int .i64 0, .int .i64 0, .int .i64 0, .int .i64 0]] W fun e w' => e = .returned (.int .i64 0) ∧ Below m W w' ∧ Mac w' m 4108 7 93 3 true 7 mem := by
  have hs := lt_of_some H.blk
  have h0 : W.cell? ⟨m, 0, none⟩ = some (.int .u64 4104) := H.at_ 0
  have h1 : W.cell? ⟨m, 1, none⟩ = some (.int .u64 0) := H.at_ 1
  have HM : Hid (Mac W m 4104 7 93 2 false 0 mem) := H
  clear H
  go_enter Tryd.func47, Tryd.ntmps47
  go_wp2
  go_quiet (fail)
  have hD := Dq.new W 64 0 0 0 0 nq
  generalize (W.alloc (.cells #[.int .i64 64, .int .i64 0, .int .i64 0, .int .i64 0, .int .i64 0] 91)).drewN nq = wq at *
  have HD : Hid (Dq W wq 64 0 0 0 0) := hD
  have MQ : Hid (Mac wq m 4104 7 93 2 false 0 mem) := HM.out.below hD.below
  have k0 : wq.cell? ⟨m, 0, none⟩ = some (.int .u64 4104) := MQ.out.at_ 0
  have d0 := hD.c0
  have hz := hD.below.size
  clear hD h0 h1
  go_wp2_with fail
  refine (call63 MQ.out).mono ?_
  rintro e wz ⟨rfl, hb, hm, ho⟩
  have HB : Hid (Below m W wz) := (HD.out.below.mono (Nat.le_of_lt hs)).trans hb
  have MZ : Hid (Mac wz m 4104 7 93 2 true 7 mem) := hm
  have k0 : wz.cell? ⟨m, 0, none⟩ = some (.int .u64 4104) := MZ.out.at_ 0
  have k1 : wz.cell? ⟨m, 1, none⟩ = some (.int .u64 0) := MZ.out.at_ 1
  have k33 : wz.cell? ⟨m, 33, none⟩ = some (.int .i64 2) := MZ.out.at_ 33
  have f0 : wz.frozen? ⟨m, 0, none⟩ = false := MZ.out.fz 0
  have f1 : wz.frozen? ⟨m, 1, none⟩ = false := MZ.out.fz 1
  have f33 : wz.frozen? ⟨m, 33, none⟩ = false := MZ.out.fz 33
  have d1 : wz.cell? ⟨W.heap.size, 1, none⟩ = some (.int .i64 0) := (ho _ _ (by omega)).trans HD.out.c1
  have hz : m < wz.heap.size := lt_of_some hm.blk
  clear hb hm ho
  go_wp2
  go_region
  all_goals go_wp2
  go_ret
  exact ⟨rfl, ((((HB.out.setCell (Nat.le_refl _) _).setCell (Nat.le_refl _) _).setCell (Nat.le_refl _) _).setCell (Nat.le_refl _) _).drew, ⟨mac_set (mac_set (mac_set (mac_set MZ.out.blk 1 _) 1 _) 0 _) 33 _⟩⟩
end
end Go.Proofs.YtnmpbihpoefeoaaDoor
