/- What an instruction does to a machine at whatever state. -/
import Derived.Test.YtnmpbihpoefeoaaDoorGA
import Derived.Test.YtnmpbihpoefeoaaDoorVA
namespace Go.Proofs.YtnmpbihpoefeoaaDoor
open Go.RowKit Go.Shelf
theorem wrap_b (z : Int) : 0 ≤ IntKind.u64.wrap z ∧ IntKind.u64.wrap z < 18446744073709551616 := by simp only [IntKind.wrap]; simp [IntKind.signed, IntKind.bits]; omega
theorem alu7_all (op a b : Int) (h1 : 22 ≤ op) (h2 : op ≤ 62) (ha : 0 ≤ a ∧ a < 18446744073709551616) (hb : 0 ≤ b ∧ b < 18446744073709551616) (w : World) : Calls Tryd.prog 7 #[.int .i64 op, .int .u64 a, .int .u64 b] w fun e w' => e = .returned (.tuple #[.int .u64 (Fv op a b), .int .i64 0]) ∧ ∃ m, w' = w.drewN m := alu7_any op a b h1 h2 w (sum20 op a b h1 h2 ha.1 ha.2 hb.1 hb.2 w)
set_option maxHeartbeats 1000000 in
theorem second64 (op b n : Int) (w : World) : Calls Tryd.prog 64 #[.int .i64 op, .int .u64 b, .int .u64 n] w fun e w' => e = .returned (.int .u64 (if op < 35 then n else b)) ∧ w' = w := by
  by_cases h : op < 35
  · rw [if_pos h]
    go_enter Tryd.func64, Tryd.ntmps64
    go_wp2
    go_ret
    exact ⟨rfl, rfl⟩
  · rw [if_neg h]
    go_enter Tryd.func64, Tryd.ntmps64
    go_wp2
    go_ret
    exact ⟨rfl, rfl⟩
set_option maxHeartbeats 2000000 in
set_option maxRecDepth 20000 in
theorem do47_alu {W : World} {m mem : Nat} {s : Sx} {ov iv : Value} (H : Mch W m s ov mem iv) (op im : Int) (rd r1 r2 : Nat) (hop : 22 ≤ op ∧ op ≤ 62) (hd : rd < 32) (h1 : r1 < 32) (h2 : r2 < 32) (hx : ∀ r, 0 ≤ s.x r ∧ s.x r < 18446744073709551616) : Calls Tryd.prog 47 #[.pointer (some ⟨m, 0, none⟩), .agg #[.int .i64 op, .int .i64 rd, .int .i64 r1, .int .i64 r2, .int .i64 im]] W fun e w' => e = .returned (.int .i64 0) ∧ Onl (Im m) W w' ∧ Mch w' m (nxt s rd (Fv op (s.x r1) (if op < 35 then IntKind.u64.wrap im else s.x r2)) (IntKind.u64.wrap (s.pc + 4))) ov mem iv := by
  have HA : Hid (∀ w, Calls Tryd.prog 7 #[.int .i64 op, .int .u64 (s.x r1), .int .u64 (if op < 35 then IntKind.u64.wrap im else s.x r2)] w fun e w' => e = .returned (.tuple #[.int .u64 (Fv op (s.x r1) (if op < 35 then IntKind.u64.wrap im else s.x r2)), .int .i64 0]) ∧ ∃ m, w' = w.drewN m) := fun w => alu7_all op _ _ hop.1 hop.2 (hx r1) (by split; exact wrap_b _; exact hx r2) w
  have HB : Hid (∀ w, Calls Tryd.prog 64 #[.int .i64 op, .int .u64 (s.x r2), .int .u64 (IntKind.u64.wrap im)] w fun e w' => e = .returned (.int .u64 (if op < 35 then IntKind.u64.wrap im else s.x r2)) ∧ w' = w) := fun w => second64 op _ _ w
  obtain ⟨v, hv⟩ : ∃ v, Fv op (s.x r1) (if op < 35 then IntKind.u64.wrap im else s.x r2) = v := ⟨_, rfl⟩
  obtain ⟨b2, hb2⟩ : ∃ b2, (if op < 35 then IntKind.u64.wrap im else s.x r2) = b2 := ⟨_, rfl⟩
  rw [hv]
  rw [hv, hb2] at HA
  rw [hb2] at HB
  clear hv hb2 hx
  have n2 : (op == 2) = false := by simp; omega
  have n1 : (op == 1) = false := by simp; omega
  have n3 : (op == 3) = false := by simp; omega
  have n4 : (op == 4) = false := by simp; omega
  have n5 : (op == 5) = false := by simp; omega
  have n6 : (op == 6) = false := by simp; omega
  have n7 : (op == 7) = false := by simp; omega
  have n8 : (op == 8) = false := by simp; omega
  have n9 : (op == 9) = false := by simp; omega
  have n10 : (op == 10) = false := by simp; omega
  have n11 : (op == 11) = false := by simp; omega
  have n12 : (op == 12) = false := by simp; omega
  have n13 : (op == 13) = false := by simp; omega
  have n14 : (op == 14) = false := by simp; omega
  have n15 : (op == 15) = false := by simp; omega
  have n16 : (op == 16) = false := by simp; omega
  have n17 : (op == 17) = false := by simp; omega
  have n18 : (op == 18) = false := by simp; omega
  have n19 : (op == 19) = false := by simp; omega
  have n20 : (op == 20) = false := by simp; omega
  have n21 : (op == 21) = false := by simp; omega
  have n63 : (op == 63) = false := by simp; omega
  have n64 : (op == 64) = false := by simp; omega
  have n65 : (op == 65) = false := by simp; omega
  have hs := H.lt
  have h0 := H.pc
  have k1 := H.reg r1 h1
  have k2 := H.reg r2 h2
  have g1 : (r1 : Int) < 32 := by omega
  have g2 : (r2 : Int) < 32 := by omega
  have g3 : (rd : Int) < 32 := by omega
  have HM : Hid (Mch W m s ov mem iv) := H
  clear H hop
  go_enter Tryd.func47, Tryd.ntmps47
  go_wp2
  go_quiet (fail)
  have hD := Dq.new W op rd r1 r2 im nq
  generalize (W.alloc (.cells #[.int .i64 op, .int .i64 rd, .int .i64 r1, .int .i64 r2, .int .i64 im] 91)).drewN nq = wq at *
  have HD : Hid (Dq W wq op rd r1 r2 im) := hD
  have MQ : Hid (Mch wq m s ov mem iv) := HM.out.below hD.below
  have k0 := MQ.out.pc
  have d0 := hD.c0
  have d1 := hD.c1
  have hz := hD.below.size
  clear hD h0 k1 k2
  go_upto_block 0 with fail
  apply cut_r (R := Rd _ wq)
  · apply blk_ex
    apply seq_to (W := wq)
    · apply blk_catch
      iterate 10 (apply seq_exit; apply blk_pass (by decide))
      go_wp2_with fail
      exact At.mk
    go_wp2_with fail
    go_quiet (first | (go_at_call 64; exact Calls.quiet_of_same (HB.out _)) | (go_at_call 7; exact Calls.quiet_of (HA.out _)))
    go_wp2_with fail
    exact Ex.mk (Rd.mk _)
  rintro _ _ ⟨rfl, n, rfl⟩
  simp only [Exit.then]
  have HD2 : Hid (Dq W (wq.drewN n) op rd r1 r2 im) := HD.out.drewN n
  clear MQ HD k0 d0 d1 hz
  generalize wq.drewN n = wq at *
  have HD := HD2
  have MQ : Hid (Mch wq m s ov mem iv) := HM.out.below HD.out.below
  have k0 := MQ.out.pc
  have d0 := HD.out.c0
  have d1 := HD.out.c1
  have hz := HD.out.below.size
  have kr := MQ.out.reg rd hd
  have fr := MQ.out.fz (1 + rd)
  go_wp2
  go_region
  have MZ : Hid (Mch (wq.setCell ⟨m, 1 + rd, none⟩ (.int .u64 v)).drew m { s with x := upd s.x rd v } ov mem iv) := (MQ.out.setReg rd hd v).below (Below.refl _ _).drew
  have HO : Hid (Onl (Im m) W (wq.setCell ⟨m, 1 + rd, none⟩ (.int .u64 v)).drew) := ((Onl.of_below HD.out.below).set Im.self).drew
  generalize (wq.setCell ⟨m, 1 + rd, none⟩ (.int .u64 v)).drew = wz at *
  have p0 := MZ.out.pc
  have p1 : wz.cell? ⟨m, 1, none⟩ = some (.int .u64 (upd s.x rd v 0)) := MZ.out.reg 0 (by omega)
  have pst := MZ.out.st
  have f0 := MZ.out.fz 0
  have f1 := MZ.out.fz 1
  have f33 := MZ.out.fz 33
  clear kr fr k0 d0 d1
  go_wp2
  go_ret
  exact ⟨rfl, ((HO.out.set Im.self).set Im.self).set Im.self, ((MZ.out.setReg 0 (by omega) 0).setPc _).setSt _⟩
end Go.Proofs.YtnmpbihpoefeoaaDoor
