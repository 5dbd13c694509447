/- Walks of the little machine: what an instruction does. -/
import Derived.Test.YtnmpbihpoefeoaaDoorC2
namespace Go.Proofs.YtnmpbihpoefeoaaDoor
open Go.RowKit Go.Shelf
theorem mac_set {W : World} {m : Nat} {L : List Value} (h : W.heap[m]? = some (.cells L.toArray 72)) (o : Nat) (v : Value) : (W.setCell ⟨m, o, none⟩ v).heap[m]? = some (.cells (L.set o v).toArray 72) := by
  rw [cells_set o v h]
  simp
set_option maxHeartbeats 1000000 in
theorem call63 {W : World} {m : Nat} {mem : Nat} (H : Mac W m 4104 7 93 2 false 0 mem) : Calls Tryd.prog 63 #[.pointer (some ⟨m, 0, none⟩)] W fun e w' => e = .returned (.int .i64 0) ∧ Below m W w' ∧ Mac w' m 4104 7 93 2 true 7 mem ∧ ∀ b o, b ≠ m → w'.cell? ⟨b, o, none⟩ = W.cell? ⟨b, o, none⟩ := by
  have h11 : W.cell? ⟨m, 11, none⟩ = some (.int .u64 7) := H.at_ 11
  have h18 : W.cell? ⟨m, 18, none⟩ = some (.int .u64 93) := H.at_ 18
  have h34 : W.cell? ⟨m, 34, none⟩ = some (.bool false) := H.at_ 34
  have h35 : W.cell? ⟨m, 35, none⟩ = some (.int .i64 0) := H.at_ 35
  have f34 : W.frozen? ⟨m, 34, none⟩ = false := H.fz 34
  have f35 : W.frozen? ⟨m, 35, none⟩ = false := H.fz 35
  have hs := lt_of_some H.blk
  have HM : Hid (Mac W m 4104 7 93 2 false 0 mem) := H
  clear H
  go_enter Tryd.func63, Tryd.ntmps63
  go_wp2
  go_ret
  exact ⟨rfl, ((Below.refl m W).setCell (Nat.le_refl _) _).setCell (Nat.le_refl _) _, ⟨mac_set (mac_set HM.out.blk 34 _) 35 _⟩, fun b o hb => by rw [World.cell?_setCell_other _ _ _ _ (by intro h; injection h with h1 h2; omega), World.cell?_setCell_other _ _ _ _ (by intro h; injection h with h1 h2; omega)]⟩
/-- The world in which an instruction is done: it lies in a block of its own. -/
structure Dq (W wq : World) (a b c d e : Int) : Prop where
  below : Below W.heap.size W wq
  c0 : wq.cell? ⟨W.heap.size, 0, none⟩ = some (.int .i64 a)
  c1 : wq.cell? ⟨W.heap.size, 1, none⟩ = some (.int .i64 b)
  c2 : wq.cell? ⟨W.heap.size, 2, none⟩ = some (.int .i64 c)
  c3 : wq.cell? ⟨W.heap.size, 3, none⟩ = some (.int .i64 d)
  c4 : wq.cell? ⟨W.heap.size, 4, none⟩ = some (.int .i64 e)
theorem Dq.new (W : World) (a b c d e : Int) (n : Nat) : Dq W ((W.alloc (.cells #[.int .i64 a, .int .i64 b, .int .i64 c, .int .i64 d, .int .i64 e] 91)).drewN n) a b c d e :=
  ⟨below_drewN ((Below.refl _ W).alloc (Nat.le_refl _) _) n, by simp, by simp, by simp, by simp, by simp⟩
theorem Dq.drewN {W wq : World} {a b c d e : Int} (h : Dq W wq a b c d e) (n : Nat) : Dq W (wq.drewN n) a b c d e := ⟨below_drewN h.below n, h.c0, h.c1, h.c2, h.c3, h.c4⟩
set_option maxHeartbeats 1000000 in
set_option maxRecDepth 20000 in
theorem do47_a {W : World} {m : Nat} {mem : Nat} (H : Mac W m 4096 0 0 0 false 0 mem) : Calls Tryd.prog 47 #[.pointer (some ⟨m, 0, none⟩), .agg #[.int .i64 22, .int .i64 10, .int .i64 0, .int .i64 0, .int .i64 7]] W fun e w' => e = .returned (.int .i64 0) ∧ Below m W w' ∧ Mac w' m 4100 7 0 1 false 0 mem := by
  have hs := lt_of_some H.blk
  have h0 : W.cell? ⟨m, 0, none⟩ = some (.int .u64 4096) := H.at_ 0
  have h1 : W.cell? ⟨m, 1, none⟩ = some (.int .u64 0) := H.at_ 1
  have HM : Hid (Mac W m 4096 0 0 0 false 0 mem) := H
  clear H
  have hA64 := second64_n 22 0 7 (by decide)
  have hA7 := alu7_add 22 0 7 (by decide) (by decide) (by decide) (by decide)
  go_enter Tryd.func47, Tryd.ntmps47
  go_wp2
  go_quiet (fail)
  have hD := Dq.new W 22 10 0 0 7 nq
  generalize (W.alloc (.cells #[.int .i64 22, .int .i64 10, .int .i64 0, .int .i64 0, .int .i64 7] 91)).drewN nq = wq at *
  have HD : Hid (Dq W wq 22 10 0 0 7) := hD
  have MQ : Hid (Mac wq m 4096 0 0 0 false 0 mem) := HM.out.below hD.below
  have k0 : wq.cell? ⟨m, 0, none⟩ = some (.int .u64 4096) := MQ.out.at_ 0
  have k1 : wq.cell? ⟨m, 1, none⟩ = some (.int .u64 0) := MQ.out.at_ 1
  have d0 := hD.c0
  have d1 := hD.c1
  have hz := hD.below.size
  clear hD h0 h1
  go_wp2
  go_quiet (first | (go_at_call 64; exact Calls.quiet_of_same (hA64 _)) | (go_at_call 7; exact Calls.quiet_of_same (hA7 _)))
  have HD2 : Hid (Dq W (wq.drewN nq) 22 10 0 0 7) := HD.out.drewN nq
  generalize wq.drewN nq = wz at *
  have MZ : Hid (Mac wz m 4096 0 0 0 false 0 mem) := HM.out.below HD2.out.below
  have k0 : wz.cell? ⟨m, 0, none⟩ = some (.int .u64 4096) := MZ.out.at_ 0
  have k1 : wz.cell? ⟨m, 1, none⟩ = some (.int .u64 0) := MZ.out.at_ 1
  have kr : wz.cell? ⟨m, 11, none⟩ = some (.int .u64 0) := MZ.out.at_ 11
  have k33 : wz.cell? ⟨m, 33, none⟩ = some (.int .i64 0) := MZ.out.at_ 33
  have f0 : wz.frozen? ⟨m, 0, none⟩ = false := MZ.out.fz 0
  have f1 : wz.frozen? ⟨m, 1, none⟩ = false := MZ.out.fz 1
  have fr : wz.frozen? ⟨m, 11, none⟩ = false := MZ.out.fz 11
  have f33 : wz.frozen? ⟨m, 33, none⟩ = false := MZ.out.fz 33
  have d0 := HD2.out.c0
  have d1 := HD2.out.c1
  have hz := HD2.out.below.size
  go_wp2
  go_region
  all_goals go_wp2
  go_ret
  exact ⟨rfl, (((((HD2.out.below.mono (Nat.le_of_lt hs)).setCell (Nat.le_refl _) _).setCell (Nat.le_refl _) _).setCell (Nat.le_refl _) _).setCell (Nat.le_refl _) _).drew, ⟨mac_set (mac_set (mac_set (mac_set MZ.out.blk 11 _) 1 _) 0 _) 33 _⟩⟩
set_option maxHeartbeats 1000000 in
set_option maxRecDepth 20000 in
theorem do47_b {W : World} {m : Nat} {mem : Nat} (H : Mac W m 4100 7 0 1 false 0 mem) : Calls Tryd.prog 47 #[.pointer (some ⟨m, 0, none⟩), .agg #[.int .i64 22, .int .i64 17, .int .i64 0, .int .i64 0, .int .i64 93]] W fun e w' => e = .returned (.int .i64 0) ∧ Below m W w' ∧ Mac w' m 4104 7 93 2 false 0 mem := by
  have hs := lt_of_some H.blk
  have h0 : W.cell? ⟨m, 0, none⟩ = some (.int .u64 4100) := H.at_ 0
  have h1 : W.cell? ⟨m, 1, none⟩ = some (.int .u64 0) := H.at_ 1
  have HM : Hid (Mac W m 4100 7 0 1 false 0 mem) := H
  clear H
  have hA64 := second64_n 22 0 93 (by decide)
  have hA7 := alu7_add 22 0 93 (by decide) (by decide) (by decide) (by decide)
  go_enter Tryd.func47, Tryd.ntmps47
  go_wp2
  go_quiet (fail)
  have hD := Dq.new W 22 17 0 0 93 nq
  generalize (W.alloc (.cells #[.int .i64 22, .int .i64 17, .int .i64 0, .int .i64 0, .int .i64 93] 91)).drewN nq = wq at *
  have HD : Hid (Dq W wq 22 17 0 0 93) := hD
  have MQ : Hid (Mac wq m 4100 7 0 1 false 0 mem) := HM.out.below hD.below
  have k0 : wq.cell? ⟨m, 0, none⟩ = some (.int .u64 4100) := MQ.out.at_ 0
  have k1 : wq.cell? ⟨m, 1, none⟩ = some (.int .u64 0) := MQ.out.at_ 1
  have d0 := hD.c0
  have d1 := hD.c1
  have hz := hD.below.size
  clear hD h0 h1
  go_wp2
  go_quiet (first | (go_at_call 64; exact Calls.quiet_of_same (hA64 _)) | (go_at_call 7; exact Calls.quiet_of_same (hA7 _)))
  have HD2 : Hid (Dq W (wq.drewN nq) 22 17 0 0 93) := HD.out.drewN nq
  generalize wq.drewN nq = wz at *
  have MZ : Hid (Mac wz m 4100 7 0 1 false 0 mem) := HM.out.below HD2.out.below
  have k0 : wz.cell? ⟨m, 0, none⟩ = some (.int .u64 4100) := MZ.out.at_ 0
  have k1 : wz.cell? ⟨m, 1, none⟩ = some (.int .u64 0) := MZ.out.at_ 1
  have kr : wz.cell? ⟨m, 18, none⟩ = some (.int .u64 0) := MZ.out.at_ 18
  have k33 : wz.cell? ⟨m, 33, none⟩ = some (.int .i64 1) := MZ.out.at_ 33
  have f0 : wz.frozen? ⟨m, 0, none⟩ = false := MZ.out.fz 0
  have f1 : wz.frozen? ⟨m, 1, none⟩ = false := MZ.out.fz 1
  have fr : wz.frozen? ⟨m, 18, none⟩ = false := MZ.out.fz 18
  have f33 : wz.frozen? ⟨m, 33, none⟩ = false := MZ.out.fz 33
  have d0 := HD2.out.c0
  have d1 := HD2.out.c1
  have hz := HD2.out.below.size
  go_wp2
  go_region
  all_goals go_wp2
  go_ret
  exact ⟨rfl, (((((HD2.out.below.mono (Nat.le_of_lt hs)).setCell (Nat.le_refl _) _).setCell (Nat.le_refl _) _).setCell (Nat.le_refl _) _).setCell (Nat.le_refl _) _).drew, ⟨mac_set (mac_set (mac_set (mac_set MZ.out.blk 18 _) 1 _) 0 _) 33 _⟩⟩
set_option maxHeartbeats 1000000 in
set_option maxRecDepth 20000 in
theorem do47_e {W : World} {m : Nat} {mem : Nat} (H : Mac W m 4104 7 93 2 false 0 mem) : Calls Tryd.prog 47 #[.pointer (some ⟨m, 0, none⟩), .agg #[.int .i64 64, .int .i64 0, .int .i64 0, .int .i64 0, .int .i64 0]] W fun e w' => e = .returned (.int .i64 0) ∧ Below m W w' ∧ Mac w' m 4108 7 93 3 true 7 mem := by
  have hs := lt_of_some H.blk
  have h0 : W.cell? ⟨m, 0, none⟩ = some (.int .u64 4104) := H.at_ 0
  have h1 : W.cell? ⟨m, 1, none⟩ = some (.int .u64 0) := H.at_ 1
  have HM : Hid (Mac W m 4104 7 93 2 false 0 mem) := H
  clear H
  go_enter Tryd.func47, Tryd.ntmps47
  go_wp2
  go_quiet (fail)
  have hD := Dq.new W 64 0 0 0 0 nq
  generalize (W.alloc (.cells #[.int .i64 64, .int .i64 0, .int .i64 0, .int .i64 0, .int .i64 0] 91)).drewN nq = wq at *
  have HD : Hid (Dq W wq 64 0 0 0 0) := hD
  have MQ : Hid (Mac wq m 4104 7 93 2 false 0 mem) := HM.out.below hD.below
  have k0 : wq.cell? ⟨m, 0, none⟩ = some (.int .u64 4104) := MQ.out.at_ 0
  have d0 := hD.c0
  have hz := hD.below.size
  clear hD h0 h1
  go_wp2_with fail
  refine (call63 MQ.out).mono ?_
  rintro e wz ⟨rfl, hb, hm, ho⟩
  have HB : Hid (Below m W wz) := (HD.out.below.mono (Nat.le_of_lt hs)).trans hb
  have MZ : Hid (Mac wz m 4104 7 93 2 true 7 mem) := hm
  have k0 : wz.cell? ⟨m, 0, none⟩ = some (.int .u64 4104) := MZ.out.at_ 0
  have k1 : wz.cell? ⟨m, 1, none⟩ = some (.int .u64 0) := MZ.out.at_ 1
  have k33 : wz.cell? ⟨m, 33, none⟩ = some (.int .i64 2) := MZ.out.at_ 33
  have f0 : wz.frozen? ⟨m, 0, none⟩ = false := MZ.out.fz 0
  have f1 : wz.frozen? ⟨m, 1, none⟩ = false := MZ.out.fz 1
  have f33 : wz.frozen? ⟨m, 33, none⟩ = false := MZ.out.fz 33
  have d1 : wz.cell? ⟨W.heap.size, 1, none⟩ = some (.int .i64 0) := (ho _ _ (by omega)).trans HD.out.c1
  have hz : m < wz.heap.size := lt_of_some hm.blk
  clear hb hm ho
  go_wp2
  go_region
  all_goals go_wp2
  go_ret
  exact ⟨rfl, ((((HB.out.setCell (Nat.le_refl _) _).setCell (Nat.le_refl _) _).setCell (Nat.le_refl _) _).setCell (Nat.le_refl _) _).drew, ⟨mac_set (mac_set (mac_set (mac_set MZ.out.blk 1 _) 1 _) 0 _) 33 _⟩⟩
end Go.Proofs.YtnmpbihpoefeoaaDoor
