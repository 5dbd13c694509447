/- What an instruction does to a machine at whatever state. -/
import Derived.Test.YtnmpbihpoefeoaaDoorGA
import Derived.Test.YtnmpbihpoefeoaaDoorV7
namespace Go.Proofs.YtnmpbihpoefeoaaDoor
open Go.RowKit Go.Shelf
set_option maxHeartbeats 2000000 in
set_option maxRecDepth 20000 in
theorem do47_b5t {W : World} {m mem : Nat} {s : Sx} {ov iv : Value} (H : Mch W m s ov mem iv) (op im : Int) (rd r1 r2 : Nat) (hop : op = 5) (hd : rd < 32) (h1 : r1 < 32) (h2 : r2 < 32) (htk : Tk op (s.x r1) (s.x r2) = true) : Calls Tryd.prog 47 #[.pointer (some ⟨m, 0, none⟩), .agg #[.int .i64 op, .int .i64 rd, .int .i64 r1, .int .i64 r2, .int .i64 im]] W fun e w' => e = .returned (.int .i64 0) ∧ Onl (Im m) W w' ∧ Mch w' m (nxt s rd (0) (IntKind.u64.wrap (s.pc + IntKind.u64.wrap im))) ov mem iv := by
  have HA : Hid (∀ w, Calls Tryd.prog 9 #[.int .i64 op, .int .u64 (s.x r1), .int .u64 (s.x r2)] w fun e w' => e = .returned (.tuple #[.bool true, .int .i64 (Te op)]) ∧ ∃ m, w' = w.drewN m) := fun w => by have t := taken9 op (s.x r1) (s.x r2) w; rw [htk] at t; exact t
  clear htk
  have n2 : (op == 2) = false := by subst hop; rfl
  have n1 : (op == 1) = false := by subst hop; rfl
  have n3 : (op == 3) = false := by subst hop; rfl
  have n4 : (op == 4) = false := by subst hop; rfl
  have y5 : (op == 5) = true := by subst hop; rfl
  have hs := H.lt
  have h0 := H.pc
  have k1 := H.reg r1 h1
  have k2 := H.reg r2 h2
  have g1 : (r1 : Int) < 32 := by omega
  have g2 : (r2 : Int) < 32 := by omega
  have g3 : (rd : Int) < 32 := by omega
  have HM : Hid (Mch W m s ov mem iv) := H
  clear H hop
  go_enter Tryd.func47, Tryd.ntmps47
  go_wp2
  go_quiet (fail)
  have hD := Dq.new W op rd r1 r2 im nq
  generalize (W.alloc (.cells #[.int .i64 op, .int .i64 rd, .int .i64 r1, .int .i64 r2, .int .i64 im] 91)).drewN nq = wq at *
  have HD : Hid (Dq W wq op rd r1 r2 im) := hD
  have MQ : Hid (Mch wq m s ov mem iv) := HM.out.below hD.below
  have k0 := MQ.out.pc
  have d0 := hD.c0
  have d1 := hD.c1
  have hz := hD.below.size
  clear hD h0 k1 k2
  go_upto_block 0 with fail
  apply cut_r (R := Rd _ wq)
  · apply blk_ex
    iterate 6 (apply seq_ex; apply blk_by (by decide))
    apply seq_to (W := wq)
    · apply blk_catch
      iterate 4 (apply seq_exit; apply blk_pass (by decide))
      go_wp2_with fail
      exact At.mk
    go_wp2_with ((go_at_call 9; refine (HA.out _).mono ?_; rintro e w' ⟨rfl, n, rfl⟩; have k0 : (wq.drewN n).cell? ⟨m, 0, none⟩ = some (.int .u64 s.pc) := k0))
    exact Ex.mk (Rd.mk _)
  rintro _ _ ⟨rfl, n, rfl⟩
  simp only [Exit.then]
  have HD2 : Hid (Dq W (wq.drewN n) op rd r1 r2 im) := HD.out.drewN n
  clear MQ HD k0 d0 d1 hz
  generalize wq.drewN n = wq at *
  have HD := HD2
  have MQ : Hid (Mch wq m s ov mem iv) := HM.out.below HD.out.below
  have k0 := MQ.out.pc
  have d0 := HD.out.c0
  have d1 := HD.out.c1
  have hz := HD.out.below.size
  have kr := MQ.out.reg rd hd
  have fr := MQ.out.fz (1 + rd)
  go_wp2
  go_region
  have MZ : Hid (Mch (wq.setCell ⟨m, 1 + rd, none⟩ (.int .u64 0)).drew m { s with x := upd s.x rd 0 } ov mem iv) := (MQ.out.setReg rd hd 0).below (Below.refl _ _).drew
  have HO : Hid (Onl (Im m) W (wq.setCell ⟨m, 1 + rd, none⟩ (.int .u64 0)).drew) := ((Onl.of_below HD.out.below).set Im.self).drew
  generalize (wq.setCell ⟨m, 1 + rd, none⟩ (.int .u64 0)).drew = wz at *
  have p0 := MZ.out.pc
  have p1 : wz.cell? ⟨m, 1, none⟩ = some (.int .u64 (upd s.x rd 0 0)) := MZ.out.reg 0 (by omega)
  have pst := MZ.out.st
  have f0 := MZ.out.fz 0
  have f1 := MZ.out.fz 1
  have f33 := MZ.out.fz 33
  clear kr fr k0 d0 d1
  go_wp2
  go_ret
  exact ⟨rfl, ((HO.out.set Im.self).set Im.self).set Im.self, ((MZ.out.setReg 0 (by omega) 0).setPc _).setSt _⟩
set_option maxHeartbeats 2000000 in
set_option maxRecDepth 20000 in
theorem do47_b5f {W : World} {m mem : Nat} {s : Sx} {ov iv : Value} (H : Mch W m s ov mem iv) (op im : Int) (rd r1 r2 : Nat) (hop : op = 5) (hd : rd < 32) (h1 : r1 < 32) (h2 : r2 < 32) (htk : Tk op (s.x r1) (s.x r2) = false) : Calls Tryd.prog 47 #[.pointer (some ⟨m, 0, none⟩), .agg #[.int .i64 op, .int .i64 rd, .int .i64 r1, .int .i64 r2, .int .i64 im]] W fun e w' => e = .returned (.int .i64 0) ∧ Onl (Im m) W w' ∧ Mch w' m (nxt s rd (0) (IntKind.u64.wrap (s.pc + 4))) ov mem iv := by
  have HA : Hid (∀ w, Calls Tryd.prog 9 #[.int .i64 op, .int .u64 (s.x r1), .int .u64 (s.x r2)] w fun e w' => e = .returned (.tuple #[.bool false, .int .i64 (Te op)]) ∧ ∃ m, w' = w.drewN m) := fun w => by have t := taken9 op (s.x r1) (s.x r2) w; rw [htk] at t; exact t
  clear htk
  have n2 : (op == 2) = false := by subst hop; rfl
  have n1 : (op == 1) = false := by subst hop; rfl
  have n3 : (op == 3) = false := by subst hop; rfl
  have n4 : (op == 4) = false := by subst hop; rfl
  have y5 : (op == 5) = true := by subst hop; rfl
  have hs := H.lt
  have h0 := H.pc
  have k1 := H.reg r1 h1
  have k2 := H.reg r2 h2
  have g1 : (r1 : Int) < 32 := by omega
  have g2 : (r2 : Int) < 32 := by omega
  have g3 : (rd : Int) < 32 := by omega
  have HM : Hid (Mch W m s ov mem iv) := H
  clear H hop
  go_enter Tryd.func47, Tryd.ntmps47
  go_wp2
  go_quiet (fail)
  have hD := Dq.new W op rd r1 r2 im nq
  generalize (W.alloc (.cells #[.int .i64 op, .int .i64 rd, .int .i64 r1, .int .i64 r2, .int .i64 im] 91)).drewN nq = wq at *
  have HD : Hid (Dq W wq op rd r1 r2 im) := hD
  have MQ : Hid (Mch wq m s ov mem iv) := HM.out.below hD.below
  have k0 := MQ.out.pc
  have d0 := hD.c0
  have d1 := hD.c1
  have hz := hD.below.size
  clear hD h0 k1 k2
  go_upto_block 0 with fail
  apply cut_r (R := Rd _ wq)
  · apply blk_ex
    iterate 6 (apply seq_ex; apply blk_by (by decide))
    apply seq_to (W := wq)
    · apply blk_catch
      iterate 4 (apply seq_exit; apply blk_pass (by decide))
      go_wp2_with fail
      exact At.mk
    go_wp2_with ((go_at_call 9; refine (HA.out _).mono ?_; rintro e w' ⟨rfl, n, rfl⟩; have k0 : (wq.drewN n).cell? ⟨m, 0, none⟩ = some (.int .u64 s.pc) := k0))
    exact Ex.mk (Rd.mk _)
  rintro _ _ ⟨rfl, n, rfl⟩
  simp only [Exit.then]
  have HD2 : Hid (Dq W (wq.drewN n) op rd r1 r2 im) := HD.out.drewN n
  clear MQ HD k0 d0 d1 hz
  generalize wq.drewN n = wq at *
  have HD := HD2
  have MQ : Hid (Mch wq m s ov mem iv) := HM.out.below HD.out.below
  have k0 := MQ.out.pc
  have d0 := HD.out.c0
  have d1 := HD.out.c1
  have hz := HD.out.below.size
  have kr := MQ.out.reg rd hd
  have fr := MQ.out.fz (1 + rd)
  go_wp2
  go_region
  have MZ : Hid (Mch (wq.setCell ⟨m, 1 + rd, none⟩ (.int .u64 0)).drew m { s with x := upd s.x rd 0 } ov mem iv) := (MQ.out.setReg rd hd 0).below (Below.refl _ _).drew
  have HO : Hid (Onl (Im m) W (wq.setCell ⟨m, 1 + rd, none⟩ (.int .u64 0)).drew) := ((Onl.of_below HD.out.below).set Im.self).drew
  generalize (wq.setCell ⟨m, 1 + rd, none⟩ (.int .u64 0)).drew = wz at *
  have p0 := MZ.out.pc
  have p1 : wz.cell? ⟨m, 1, none⟩ = some (.int .u64 (upd s.x rd 0 0)) := MZ.out.reg 0 (by omega)
  have pst := MZ.out.st
  have f0 := MZ.out.fz 0
  have f1 := MZ.out.fz 1
  have f33 := MZ.out.fz 33
  clear kr fr k0 d0 d1
  go_wp2
  go_ret
  exact ⟨rfl, ((HO.out.set Im.self).set Im.self).set Im.self, ((MZ.out.setReg 0 (by omega) 0).setPc _).setSt _⟩
set_option maxHeartbeats 2000000 in
set_option maxRecDepth 20000 in
theorem do47_b6t {W : World} {m mem : Nat} {s : Sx} {ov iv : Value} (H : Mch W m s ov mem iv) (op im : Int) (rd r1 r2 : Nat) (hop : op = 6) (hd : rd < 32) (h1 : r1 < 32) (h2 : r2 < 32) (htk : Tk op (s.x r1) (s.x r2) = true) : Calls Tryd.prog 47 #[.pointer (some ⟨m, 0, none⟩), .agg #[.int .i64 op, .int .i64 rd, .int .i64 r1, .int .i64 r2, .int .i64 im]] W fun e w' => e = .returned (.int .i64 0) ∧ Onl (Im m) W w' ∧ Mch w' m (nxt s rd (0) (IntKind.u64.wrap (s.pc + IntKind.u64.wrap im))) ov mem iv := by
  have HA : Hid (∀ w, Calls Tryd.prog 9 #[.int .i64 op, .int .u64 (s.x r1), .int .u64 (s.x r2)] w fun e w' => e = .returned (.tuple #[.bool true, .int .i64 (Te op)]) ∧ ∃ m, w' = w.drewN m) := fun w => by have t := taken9 op (s.x r1) (s.x r2) w; rw [htk] at t; exact t
  clear htk
  have n2 : (op == 2) = false := by subst hop; rfl
  have n1 : (op == 1) = false := by subst hop; rfl
  have n3 : (op == 3) = false := by subst hop; rfl
  have n4 : (op == 4) = false := by subst hop; rfl
  have n5 : (op == 5) = false := by subst hop; rfl
  have y6 : (op == 6) = true := by subst hop; rfl
  have hs := H.lt
  have h0 := H.pc
  have k1 := H.reg r1 h1
  have k2 := H.reg r2 h2
  have g1 : (r1 : Int) < 32 := by omega
  have g2 : (r2 : Int) < 32 := by omega
  have g3 : (rd : Int) < 32 := by omega
  have HM : Hid (Mch W m s ov mem iv) := H
  clear H hop
  go_enter Tryd.func47, Tryd.ntmps47
  go_wp2
  go_quiet (fail)
  have hD := Dq.new W op rd r1 r2 im nq
  generalize (W.alloc (.cells #[.int .i64 op, .int .i64 rd, .int .i64 r1, .int .i64 r2, .int .i64 im] 91)).drewN nq = wq at *
  have HD : Hid (Dq W wq op rd r1 r2 im) := hD
  have MQ : Hid (Mch wq m s ov mem iv) := HM.out.below hD.below
  have k0 := MQ.out.pc
  have d0 := hD.c0
  have d1 := hD.c1
  have hz := hD.below.size
  clear hD h0 k1 k2
  go_upto_block 0 with fail
  apply cut_r (R := Rd _ wq)
  · apply blk_ex
    iterate 6 (apply seq_ex; apply blk_by (by decide))
    apply seq_to (W := wq)
    · apply blk_catch
      iterate 4 (apply seq_exit; apply blk_pass (by decide))
      go_wp2_with fail
      exact At.mk
    go_wp2_with ((go_at_call 9; refine (HA.out _).mono ?_; rintro e w' ⟨rfl, n, rfl⟩; have k0 : (wq.drewN n).cell? ⟨m, 0, none⟩ = some (.int .u64 s.pc) := k0))
    exact Ex.mk (Rd.mk _)
  rintro _ _ ⟨rfl, n, rfl⟩
  simp only [Exit.then]
  have HD2 : Hid (Dq W (wq.drewN n) op rd r1 r2 im) := HD.out.drewN n
  clear MQ HD k0 d0 d1 hz
  generalize wq.drewN n = wq at *
  have HD := HD2
  have MQ : Hid (Mch wq m s ov mem iv) := HM.out.below HD.out.below
  have k0 := MQ.out.pc
  have d0 := HD.out.c0
  have d1 := HD.out.c1
  have hz := HD.out.below.size
  have kr := MQ.out.reg rd hd
  have fr := MQ.out.fz (1 + rd)
  go_wp2
  go_region
  have MZ : Hid (Mch (wq.setCell ⟨m, 1 + rd, none⟩ (.int .u64 0)).drew m { s with x := upd s.x rd 0 } ov mem iv) := (MQ.out.setReg rd hd 0).below (Below.refl _ _).drew
  have HO : Hid (Onl (Im m) W (wq.setCell ⟨m, 1 + rd, none⟩ (.int .u64 0)).drew) := ((Onl.of_below HD.out.below).set Im.self).drew
  generalize (wq.setCell ⟨m, 1 + rd, none⟩ (.int .u64 0)).drew = wz at *
  have p0 := MZ.out.pc
  have p1 : wz.cell? ⟨m, 1, none⟩ = some (.int .u64 (upd s.x rd 0 0)) := MZ.out.reg 0 (by omega)
  have pst := MZ.out.st
  have f0 := MZ.out.fz 0
  have f1 := MZ.out.fz 1
  have f33 := MZ.out.fz 33
  clear kr fr k0 d0 d1
  go_wp2
  go_ret
  exact ⟨rfl, ((HO.out.set Im.self).set Im.self).set Im.self, ((MZ.out.setReg 0 (by omega) 0).setPc _).setSt _⟩
set_option maxHeartbeats 2000000 in
set_option maxRecDepth 20000 in
theorem do47_b6f {W : World} {m mem : Nat} {s : Sx} {ov iv : Value} (H : Mch W m s ov mem iv) (op im : Int) (rd r1 r2 : Nat) (hop : op = 6) (hd : rd < 32) (h1 : r1 < 32) (h2 : r2 < 32) (htk : Tk op (s.x r1) (s.x r2) = false) : Calls Tryd.prog 47 #[.pointer (some ⟨m, 0, none⟩), .agg #[.int .i64 op, .int .i64 rd, .int .i64 r1, .int .i64 r2, .int .i64 im]] W fun e w' => e = .returned (.int .i64 0) ∧ Onl (Im m) W w' ∧ Mch w' m (nxt s rd (0) (IntKind.u64.wrap (s.pc + 4))) ov mem iv := by
  have HA : Hid (∀ w, Calls Tryd.prog 9 #[.int .i64 op, .int .u64 (s.x r1), .int .u64 (s.x r2)] w fun e w' => e = .returned (.tuple #[.bool false, .int .i64 (Te op)]) ∧ ∃ m, w' = w.drewN m) := fun w => by have t := taken9 op (s.x r1) (s.x r2) w; rw [htk] at t; exact t
  clear htk
  have n2 : (op == 2) = false := by subst hop; rfl
  have n1 : (op == 1) = false := by subst hop; rfl
  have n3 : (op == 3) = false := by subst hop; rfl
  have n4 : (op == 4) = false := by subst hop; rfl
  have n5 : (op == 5) = false := by subst hop; rfl
  have y6 : (op == 6) = true := by subst hop; rfl
  have hs := H.lt
  have h0 := H.pc
  have k1 := H.reg r1 h1
  have k2 := H.reg r2 h2
  have g1 : (r1 : Int) < 32 := by omega
  have g2 : (r2 : Int) < 32 := by omega
  have g3 : (rd : Int) < 32 := by omega
  have HM : Hid (Mch W m s ov mem iv) := H
  clear H hop
  go_enter Tryd.func47, Tryd.ntmps47
  go_wp2
  go_quiet (fail)
  have hD := Dq.new W op rd r1 r2 im nq
  generalize (W.alloc (.cells #[.int .i64 op, .int .i64 rd, .int .i64 r1, .int .i64 r2, .int .i64 im] 91)).drewN nq = wq at *
  have HD : Hid (Dq W wq op rd r1 r2 im) := hD
  have MQ : Hid (Mch wq m s ov mem iv) := HM.out.below hD.below
  have k0 := MQ.out.pc
  have d0 := hD.c0
  have d1 := hD.c1
  have hz := hD.below.size
  clear hD h0 k1 k2
  go_upto_block 0 with fail
  apply cut_r (R := Rd _ wq)
  · apply blk_ex
    iterate 6 (apply seq_ex; apply blk_by (by decide))
    apply seq_to (W := wq)
    · apply blk_catch
      iterate 4 (apply seq_exit; apply blk_pass (by decide))
      go_wp2_with fail
      exact At.mk
    go_wp2_with ((go_at_call 9; refine (HA.out _).mono ?_; rintro e w' ⟨rfl, n, rfl⟩; have k0 : (wq.drewN n).cell? ⟨m, 0, none⟩ = some (.int .u64 s.pc) := k0))
    exact Ex.mk (Rd.mk _)
  rintro _ _ ⟨rfl, n, rfl⟩
  simp only [Exit.then]
  have HD2 : Hid (Dq W (wq.drewN n) op rd r1 r2 im) := HD.out.drewN n
  clear MQ HD k0 d0 d1 hz
  generalize wq.drewN n = wq at *
  have HD := HD2
  have MQ : Hid (Mch wq m s ov mem iv) := HM.out.below HD.out.below
  have k0 := MQ.out.pc
  have d0 := HD.out.c0
  have d1 := HD.out.c1
  have hz := HD.out.below.size
  have kr := MQ.out.reg rd hd
  have fr := MQ.out.fz (1 + rd)
  go_wp2
  go_region
  have MZ : Hid (Mch (wq.setCell ⟨m, 1 + rd, none⟩ (.int .u64 0)).drew m { s with x := upd s.x rd 0 } ov mem iv) := (MQ.out.setReg rd hd 0).below (Below.refl _ _).drew
  have HO : Hid (Onl (Im m) W (wq.setCell ⟨m, 1 + rd, none⟩ (.int .u64 0)).drew) := ((Onl.of_below HD.out.below).set Im.self).drew
  generalize (wq.setCell ⟨m, 1 + rd, none⟩ (.int .u64 0)).drew = wz at *
  have p0 := MZ.out.pc
  have p1 : wz.cell? ⟨m, 1, none⟩ = some (.int .u64 (upd s.x rd 0 0)) := MZ.out.reg 0 (by omega)
  have pst := MZ.out.st
  have f0 := MZ.out.fz 0
  have f1 := MZ.out.fz 1
  have f33 := MZ.out.fz 33
  clear kr fr k0 d0 d1
  go_wp2
  go_ret
  exact ⟨rfl, ((HO.out.set Im.self).set Im.self).set Im.self, ((MZ.out.setReg 0 (by omega) 0).setPc _).setSt _⟩
set_option maxHeartbeats 2000000 in
set_option maxRecDepth 20000 in
theorem do47_b7t {W : World} {m mem : Nat} {s : Sx} {ov iv : Value} (H : Mch W m s ov mem iv) (op im : Int) (rd r1 r2 : Nat) (hop : op = 7) (hd : rd < 32) (h1 : r1 < 32) (h2 : r2 < 32) (htk : Tk op (s.x r1) (s.x r2) = true) : Calls Tryd.prog 47 #[.pointer (some ⟨m, 0, none⟩), .agg #[.int .i64 op, .int .i64 rd, .int .i64 r1, .int .i64 r2, .int .i64 im]] W fun e w' => e = .returned (.int .i64 0) ∧ Onl (Im m) W w' ∧ Mch w' m (nxt s rd (0) (IntKind.u64.wrap (s.pc + IntKind.u64.wrap im))) ov mem iv := by
  have HA : Hid (∀ w, Calls Tryd.prog 9 #[.int .i64 op, .int .u64 (s.x r1), .int .u64 (s.x r2)] w fun e w' => e = .returned (.tuple #[.bool true, .int .i64 (Te op)]) ∧ ∃ m, w' = w.drewN m) := fun w => by have t := taken9 op (s.x r1) (s.x r2) w; rw [htk] at t; exact t
  clear htk
  have n2 : (op == 2) = false := by subst hop; rfl
  have n1 : (op == 1) = false := by subst hop; rfl
  have n3 : (op == 3) = false := by subst hop; rfl
  have n4 : (op == 4) = false := by subst hop; rfl
  have n5 : (op == 5) = false := by subst hop; rfl
  have n6 : (op == 6) = false := by subst hop; rfl
  have y7 : (op == 7) = true := by subst hop; rfl
  have hs := H.lt
  have h0 := H.pc
  have k1 := H.reg r1 h1
  have k2 := H.reg r2 h2
  have g1 : (r1 : Int) < 32 := by omega
  have g2 : (r2 : Int) < 32 := by omega
  have g3 : (rd : Int) < 32 := by omega
  have HM : Hid (Mch W m s ov mem iv) := H
  clear H hop
  go_enter Tryd.func47, Tryd.ntmps47
  go_wp2
  go_quiet (fail)
  have hD := Dq.new W op rd r1 r2 im nq
  generalize (W.alloc (.cells #[.int .i64 op, .int .i64 rd, .int .i64 r1, .int .i64 r2, .int .i64 im] 91)).drewN nq = wq at *
  have HD : Hid (Dq W wq op rd r1 r2 im) := hD
  have MQ : Hid (Mch wq m s ov mem iv) := HM.out.below hD.below
  have k0 := MQ.out.pc
  have d0 := hD.c0
  have d1 := hD.c1
  have hz := hD.below.size
  clear hD h0 k1 k2
  go_upto_block 0 with fail
  apply cut_r (R := Rd _ wq)
  · apply blk_ex
    iterate 6 (apply seq_ex; apply blk_by (by decide))
    apply seq_to (W := wq)
    · apply blk_catch
      iterate 4 (apply seq_exit; apply blk_pass (by decide))
      go_wp2_with fail
      exact At.mk
    go_wp2_with ((go_at_call 9; refine (HA.out _).mono ?_; rintro e w' ⟨rfl, n, rfl⟩; have k0 : (wq.drewN n).cell? ⟨m, 0, none⟩ = some (.int .u64 s.pc) := k0))
    exact Ex.mk (Rd.mk _)
  rintro _ _ ⟨rfl, n, rfl⟩
  simp only [Exit.then]
  have HD2 : Hid (Dq W (wq.drewN n) op rd r1 r2 im) := HD.out.drewN n
  clear MQ HD k0 d0 d1 hz
  generalize wq.drewN n = wq at *
  have HD := HD2
  have MQ : Hid (Mch wq m s ov mem iv) := HM.out.below HD.out.below
  have k0 := MQ.out.pc
  have d0 := HD.out.c0
  have d1 := HD.out.c1
  have hz := HD.out.below.size
  have kr := MQ.out.reg rd hd
  have fr := MQ.out.fz (1 + rd)
  go_wp2
  go_region
  have MZ : Hid (Mch (wq.setCell ⟨m, 1 + rd, none⟩ (.int .u64 0)).drew m { s with x := upd s.x rd 0 } ov mem iv) := (MQ.out.setReg rd hd 0).below (Below.refl _ _).drew
  have HO : Hid (Onl (Im m) W (wq.setCell ⟨m, 1 + rd, none⟩ (.int .u64 0)).drew) := ((Onl.of_below HD.out.below).set Im.self).drew
  generalize (wq.setCell ⟨m, 1 + rd, none⟩ (.int .u64 0)).drew = wz at *
  have p0 := MZ.out.pc
  have p1 : wz.cell? ⟨m, 1, none⟩ = some (.int .u64 (upd s.x rd 0 0)) := MZ.out.reg 0 (by omega)
  have pst := MZ.out.st
  have f0 := MZ.out.fz 0
  have f1 := MZ.out.fz 1
  have f33 := MZ.out.fz 33
  clear kr fr k0 d0 d1
  go_wp2
  go_ret
  exact ⟨rfl, ((HO.out.set Im.self).set Im.self).set Im.self, ((MZ.out.setReg 0 (by omega) 0).setPc _).setSt _⟩
set_option maxHeartbeats 2000000 in
set_option maxRecDepth 20000 in
theorem do47_b7f {W : World} {m mem : Nat} {s : Sx} {ov iv : Value} (H : Mch W m s ov mem iv) (op im : Int) (rd r1 r2 : Nat) (hop : op = 7) (hd : rd < 32) (h1 : r1 < 32) (h2 : r2 < 32) (htk : Tk op (s.x r1) (s.x r2) = false) : Calls Tryd.prog 47 #[.pointer (some ⟨m, 0, none⟩), .agg #[.int .i64 op, .int .i64 rd, .int .i64 r1, .int .i64 r2, .int .i64 im]] W fun e w' => e = .returned (.int .i64 0) ∧ Onl (Im m) W w' ∧ Mch w' m (nxt s rd (0) (IntKind.u64.wrap (s.pc + 4))) ov mem iv := by
  have HA : Hid (∀ w, Calls Tryd.prog 9 #[.int .i64 op, .int .u64 (s.x r1), .int .u64 (s.x r2)] w fun e w' => e = .returned (.tuple #[.bool false, .int .i64 (Te op)]) ∧ ∃ m, w' = w.drewN m) := fun w => by have t := taken9 op (s.x r1) (s.x r2) w; rw [htk] at t; exact t
  clear htk
  have n2 : (op == 2) = false := by subst hop; rfl
  have n1 : (op == 1) = false := by subst hop; rfl
  have n3 : (op == 3) = false := by subst hop; rfl
  have n4 : (op == 4) = false := by subst hop; rfl
  have n5 : (op == 5) = false := by subst hop; rfl
  have n6 : (op == 6) = false := by subst hop; rfl
  have y7 : (op == 7) = true := by subst hop; rfl
  have hs := H.lt
  have h0 := H.pc
  have k1 := H.reg r1 h1
  have k2 := H.reg r2 h2
  have g1 : (r1 : Int) < 32 := by omega
  have g2 : (r2 : Int) < 32 := by omega
  have g3 : (rd : Int) < 32 := by omega
  have HM : Hid (Mch W m s ov mem iv) := H
  clear H hop
  go_enter Tryd.func47, Tryd.ntmps47
  go_wp2
  go_quiet (fail)
  have hD := Dq.new W op rd r1 r2 im nq
  generalize (W.alloc (.cells #[.int .i64 op, .int .i64 rd, .int .i64 r1, .int .i64 r2, .int .i64 im] 91)).drewN nq = wq at *
  have HD : Hid (Dq W wq op rd r1 r2 im) := hD
  have MQ : Hid (Mch wq m s ov mem iv) := HM.out.below hD.below
  have k0 := MQ.out.pc
  have d0 := hD.c0
  have d1 := hD.c1
  have hz := hD.below.size
  clear hD h0 k1 k2
  go_upto_block 0 with fail
  apply cut_r (R := Rd _ wq)
  · apply blk_ex
    iterate 6 (apply seq_ex; apply blk_by (by decide))
    apply seq_to (W := wq)
    · apply blk_catch
      iterate 4 (apply seq_exit; apply blk_pass (by decide))
      go_wp2_with fail
      exact At.mk
    go_wp2_with ((go_at_call 9; refine (HA.out _).mono ?_; rintro e w' ⟨rfl, n, rfl⟩; have k0 : (wq.drewN n).cell? ⟨m, 0, none⟩ = some (.int .u64 s.pc) := k0))
    exact Ex.mk (Rd.mk _)
  rintro _ _ ⟨rfl, n, rfl⟩
  simp only [Exit.then]
  have HD2 : Hid (Dq W (wq.drewN n) op rd r1 r2 im) := HD.out.drewN n
  clear MQ HD k0 d0 d1 hz
  generalize wq.drewN n = wq at *
  have HD := HD2
  have MQ : Hid (Mch wq m s ov mem iv) := HM.out.below HD.out.below
  have k0 := MQ.out.pc
  have d0 := HD.out.c0
  have d1 := HD.out.c1
  have hz := HD.out.below.size
  have kr := MQ.out.reg rd hd
  have fr := MQ.out.fz (1 + rd)
  go_wp2
  go_region
  have MZ : Hid (Mch (wq.setCell ⟨m, 1 + rd, none⟩ (.int .u64 0)).drew m { s with x := upd s.x rd 0 } ov mem iv) := (MQ.out.setReg rd hd 0).below (Below.refl _ _).drew
  have HO : Hid (Onl (Im m) W (wq.setCell ⟨m, 1 + rd, none⟩ (.int .u64 0)).drew) := ((Onl.of_below HD.out.below).set Im.self).drew
  generalize (wq.setCell ⟨m, 1 + rd, none⟩ (.int .u64 0)).drew = wz at *
  have p0 := MZ.out.pc
  have p1 : wz.cell? ⟨m, 1, none⟩ = some (.int .u64 (upd s.x rd 0 0)) := MZ.out.reg 0 (by omega)
  have pst := MZ.out.st
  have f0 := MZ.out.fz 0
  have f1 := MZ.out.fz 1
  have f33 := MZ.out.fz 33
  clear kr fr k0 d0 d1
  go_wp2
  go_ret
  exact ⟨rfl, ((HO.out.set Im.self).set Im.self).set Im.self, ((MZ.out.setReg 0 (by omega) 0).setPc _).setSt _⟩
set_option maxHeartbeats 2000000 in
set_option maxRecDepth 20000 in
theorem do47_b8t {W : World} {m mem : Nat} {s : Sx} {ov iv : Value} (H : Mch W m s ov mem iv) (op im : Int) (rd r1 r2 : Nat) (hop : op = 8) (hd : rd < 32) (h1 : r1 < 32) (h2 : r2 < 32) (htk : Tk op (s.x r1) (s.x r2) = true) : Calls Tryd.prog 47 #[.pointer (some ⟨m, 0, none⟩), .agg #[.int .i64 op, .int .i64 rd, .int .i64 r1, .int .i64 r2, .int .i64 im]] W fun e w' => e = .returned (.int .i64 0) ∧ Onl (Im m) W w' ∧ Mch w' m (nxt s rd (0) (IntKind.u64.wrap (s.pc + IntKind.u64.wrap im))) ov mem iv := by
  have HA : Hid (∀ w, Calls Tryd.prog 9 #[.int .i64 op, .int .u64 (s.x r1), .int .u64 (s.x r2)] w fun e w' => e = .returned (.tuple #[.bool true, .int .i64 (Te op)]) ∧ ∃ m, w' = w.drewN m) := fun w => by have t := taken9 op (s.x r1) (s.x r2) w; rw [htk] at t; exact t
  clear htk
  have n2 : (op == 2) = false := by subst hop; rfl
  have n1 : (op == 1) = false := by subst hop; rfl
  have n3 : (op == 3) = false := by subst hop; rfl
  have n4 : (op == 4) = false := by subst hop; rfl
  have n5 : (op == 5) = false := by subst hop; rfl
  have n6 : (op == 6) = false := by subst hop; rfl
  have n7 : (op == 7) = false := by subst hop; rfl
  have y8 : (op == 8) = true := by subst hop; rfl
  have hs := H.lt
  have h0 := H.pc
  have k1 := H.reg r1 h1
  have k2 := H.reg r2 h2
  have g1 : (r1 : Int) < 32 := by omega
  have g2 : (r2 : Int) < 32 := by omega
  have g3 : (rd : Int) < 32 := by omega
  have HM : Hid (Mch W m s ov mem iv) := H
  clear H hop
  go_enter Tryd.func47, Tryd.ntmps47
  go_wp2
  go_quiet (fail)
  have hD := Dq.new W op rd r1 r2 im nq
  generalize (W.alloc (.cells #[.int .i64 op, .int .i64 rd, .int .i64 r1, .int .i64 r2, .int .i64 im] 91)).drewN nq = wq at *
  have HD : Hid (Dq W wq op rd r1 r2 im) := hD
  have MQ : Hid (Mch wq m s ov mem iv) := HM.out.below hD.below
  have k0 := MQ.out.pc
  have d0 := hD.c0
  have d1 := hD.c1
  have hz := hD.below.size
  clear hD h0 k1 k2
  go_upto_block 0 with fail
  apply cut_r (R := Rd _ wq)
  · apply blk_ex
    iterate 6 (apply seq_ex; apply blk_by (by decide))
    apply seq_to (W := wq)
    · apply blk_catch
      iterate 4 (apply seq_exit; apply blk_pass (by decide))
      go_wp2_with fail
      exact At.mk
    go_wp2_with ((go_at_call 9; refine (HA.out _).mono ?_; rintro e w' ⟨rfl, n, rfl⟩; have k0 : (wq.drewN n).cell? ⟨m, 0, none⟩ = some (.int .u64 s.pc) := k0))
    exact Ex.mk (Rd.mk _)
  rintro _ _ ⟨rfl, n, rfl⟩
  simp only [Exit.then]
  have HD2 : Hid (Dq W (wq.drewN n) op rd r1 r2 im) := HD.out.drewN n
  clear MQ HD k0 d0 d1 hz
  generalize wq.drewN n = wq at *
  have HD := HD2
  have MQ : Hid (Mch wq m s ov mem iv) := HM.out.below HD.out.below
  have k0 := MQ.out.pc
  have d0 := HD.out.c0
  have d1 := HD.out.c1
  have hz := HD.out.below.size
  have kr := MQ.out.reg rd hd
  have fr := MQ.out.fz (1 + rd)
  go_wp2
  go_region
  have MZ : Hid (Mch (wq.setCell ⟨m, 1 + rd, none⟩ (.int .u64 0)).drew m { s with x := upd s.x rd 0 } ov mem iv) := (MQ.out.setReg rd hd 0).below (Below.refl _ _).drew
  have HO : Hid (Onl (Im m) W (wq.setCell ⟨m, 1 + rd, none⟩ (.int .u64 0)).drew) := ((Onl.of_below HD.out.below).set Im.self).drew
  generalize (wq.setCell ⟨m, 1 + rd, none⟩ (.int .u64 0)).drew = wz at *
  have p0 := MZ.out.pc
  have p1 : wz.cell? ⟨m, 1, none⟩ = some (.int .u64 (upd s.x rd 0 0)) := MZ.out.reg 0 (by omega)
  have pst := MZ.out.st
  have f0 := MZ.out.fz 0
  have f1 := MZ.out.fz 1
  have f33 := MZ.out.fz 33
  clear kr fr k0 d0 d1
  go_wp2
  go_ret
  exact ⟨rfl, ((HO.out.set Im.self).set Im.self).set Im.self, ((MZ.out.setReg 0 (by omega) 0).setPc _).setSt _⟩
set_option maxHeartbeats 2000000 in
set_option maxRecDepth 20000 in
theorem do47_b8f {W : World} {m mem : Nat} {s : Sx} {ov iv : Value} (H : Mch W m s ov mem iv) (op im : Int) (rd r1 r2 : Nat) (hop : op = 8) (hd : rd < 32) (h1 : r1 < 32) (h2 : r2 < 32) (htk : Tk op (s.x r1) (s.x r2) = false) : Calls Tryd.prog 47 #[.pointer (some ⟨m, 0, none⟩), .agg #[.int .i64 op, .int .i64 rd, .int .i64 r1, .int .i64 r2, .int .i64 im]] W fun e w' => e = .returned (.int .i64 0) ∧ Onl (Im m) W w' ∧ Mch w' m (nxt s rd (0) (IntKind.u64.wrap (s.pc + 4))) ov mem iv := by
  have HA : Hid (∀ w, Calls Tryd.prog 9 #[.int .i64 op, .int .u64 (s.x r1), .int .u64 (s.x r2)] w fun e w' => e = .returned (.tuple #[.bool false, .int .i64 (Te op)]) ∧ ∃ m, w' = w.drewN m) := fun w => by have t := taken9 op (s.x r1) (s.x r2) w; rw [htk] at t; exact t
  clear htk
  have n2 : (op == 2) = false := by subst hop; rfl
  have n1 : (op == 1) = false := by subst hop; rfl
  have n3 : (op == 3) = false := by subst hop; rfl
  have n4 : (op == 4) = false := by subst hop; rfl
  have n5 : (op == 5) = false := by subst hop; rfl
  have n6 : (op == 6) = false := by subst hop; rfl
  have n7 : (op == 7) = false := by subst hop; rfl
  have y8 : (op == 8) = true := by subst hop; rfl
  have hs := H.lt
  have h0 := H.pc
  have k1 := H.reg r1 h1
  have k2 := H.reg r2 h2
  have g1 : (r1 : Int) < 32 := by omega
  have g2 : (r2 : Int) < 32 := by omega
  have g3 : (rd : Int) < 32 := by omega
  have HM : Hid (Mch W m s ov mem iv) := H
  clear H hop
  go_enter Tryd.func47, Tryd.ntmps47
  go_wp2
  go_quiet (fail)
  have hD := Dq.new W op rd r1 r2 im nq
  generalize (W.alloc (.cells #[.int .i64 op, .int .i64 rd, .int .i64 r1, .int .i64 r2, .int .i64 im] 91)).drewN nq = wq at *
  have HD : Hid (Dq W wq op rd r1 r2 im) := hD
  have MQ : Hid (Mch wq m s ov mem iv) := HM.out.below hD.below
  have k0 := MQ.out.pc
  have d0 := hD.c0
  have d1 := hD.c1
  have hz := hD.below.size
  clear hD h0 k1 k2
  go_upto_block 0 with fail
  apply cut_r (R := Rd _ wq)
  · apply blk_ex
    iterate 6 (apply seq_ex; apply blk_by (by decide))
    apply seq_to (W := wq)
    · apply blk_catch
      iterate 4 (apply seq_exit; apply blk_pass (by decide))
      go_wp2_with fail
      exact At.mk
    go_wp2_with ((go_at_call 9; refine (HA.out _).mono ?_; rintro e w' ⟨rfl, n, rfl⟩; have k0 : (wq.drewN n).cell? ⟨m, 0, none⟩ = some (.int .u64 s.pc) := k0))
    exact Ex.mk (Rd.mk _)
  rintro _ _ ⟨rfl, n, rfl⟩
  simp only [Exit.then]
  have HD2 : Hid (Dq W (wq.drewN n) op rd r1 r2 im) := HD.out.drewN n
  clear MQ HD k0 d0 d1 hz
  generalize wq.drewN n = wq at *
  have HD := HD2
  have MQ : Hid (Mch wq m s ov mem iv) := HM.out.below HD.out.below
  have k0 := MQ.out.pc
  have d0 := HD.out.c0
  have d1 := HD.out.c1
  have hz := HD.out.below.size
  have kr := MQ.out.reg rd hd
  have fr := MQ.out.fz (1 + rd)
  go_wp2
  go_region
  have MZ : Hid (Mch (wq.setCell ⟨m, 1 + rd, none⟩ (.int .u64 0)).drew m { s with x := upd s.x rd 0 } ov mem iv) := (MQ.out.setReg rd hd 0).below (Below.refl _ _).drew
  have HO : Hid (Onl (Im m) W (wq.setCell ⟨m, 1 + rd, none⟩ (.int .u64 0)).drew) := ((Onl.of_below HD.out.below).set Im.self).drew
  generalize (wq.setCell ⟨m, 1 + rd, none⟩ (.int .u64 0)).drew = wz at *
  have p0 := MZ.out.pc
  have p1 : wz.cell? ⟨m, 1, none⟩ = some (.int .u64 (upd s.x rd 0 0)) := MZ.out.reg 0 (by omega)
  have pst := MZ.out.st
  have f0 := MZ.out.fz 0
  have f1 := MZ.out.fz 1
  have f33 := MZ.out.fz 33
  clear kr fr k0 d0 d1
  go_wp2
  go_ret
  exact ⟨rfl, ((HO.out.set Im.self).set Im.self).set Im.self, ((MZ.out.setReg 0 (by omega) 0).setPc _).setSt _⟩
set_option maxHeartbeats 2000000 in
set_option maxRecDepth 20000 in
theorem do47_b9t {W : World} {m mem : Nat} {s : Sx} {ov iv : Value} (H : Mch W m s ov mem iv) (op im : Int) (rd r1 r2 : Nat) (hop : op = 9) (hd : rd < 32) (h1 : r1 < 32) (h2 : r2 < 32) (htk : Tk op (s.x r1) (s.x r2) = true) : Calls Tryd.prog 47 #[.pointer (some ⟨m, 0, none⟩), .agg #[.int .i64 op, .int .i64 rd, .int .i64 r1, .int .i64 r2, .int .i64 im]] W fun e w' => e = .returned (.int .i64 0) ∧ Onl (Im m) W w' ∧ Mch w' m (nxt s rd (0) (IntKind.u64.wrap (s.pc + IntKind.u64.wrap im))) ov mem iv := by
  have HA : Hid (∀ w, Calls Tryd.prog 9 #[.int .i64 op, .int .u64 (s.x r1), .int .u64 (s.x r2)] w fun e w' => e = .returned (.tuple #[.bool true, .int .i64 (Te op)]) ∧ ∃ m, w' = w.drewN m) := fun w => by have t := taken9 op (s.x r1) (s.x r2) w; rw [htk] at t; exact t
  clear htk
  have n2 : (op == 2) = false := by subst hop; rfl
  have n1 : (op == 1) = false := by subst hop; rfl
  have n3 : (op == 3) = false := by subst hop; rfl
  have n4 : (op == 4) = false := by subst hop; rfl
  have n5 : (op == 5) = false := by subst hop; rfl
  have n6 : (op == 6) = false := by subst hop; rfl
  have n7 : (op == 7) = false := by subst hop; rfl
  have n8 : (op == 8) = false := by subst hop; rfl
  have y9 : (op == 9) = true := by subst hop; rfl
  have hs := H.lt
  have h0 := H.pc
  have k1 := H.reg r1 h1
  have k2 := H.reg r2 h2
  have g1 : (r1 : Int) < 32 := by omega
  have g2 : (r2 : Int) < 32 := by omega
  have g3 : (rd : Int) < 32 := by omega
  have HM : Hid (Mch W m s ov mem iv) := H
  clear H hop
  go_enter Tryd.func47, Tryd.ntmps47
  go_wp2
  go_quiet (fail)
  have hD := Dq.new W op rd r1 r2 im nq
  generalize (W.alloc (.cells #[.int .i64 op, .int .i64 rd, .int .i64 r1, .int .i64 r2, .int .i64 im] 91)).drewN nq = wq at *
  have HD : Hid (Dq W wq op rd r1 r2 im) := hD
  have MQ : Hid (Mch wq m s ov mem iv) := HM.out.below hD.below
  have k0 := MQ.out.pc
  have d0 := hD.c0
  have d1 := hD.c1
  have hz := hD.below.size
  clear hD h0 k1 k2
  go_upto_block 0 with fail
  apply cut_r (R := Rd _ wq)
  · apply blk_ex
    iterate 6 (apply seq_ex; apply blk_by (by decide))
    apply seq_to (W := wq)
    · apply blk_catch
      iterate 4 (apply seq_exit; apply blk_pass (by decide))
      go_wp2_with fail
      exact At.mk
    go_wp2_with ((go_at_call 9; refine (HA.out _).mono ?_; rintro e w' ⟨rfl, n, rfl⟩; have k0 : (wq.drewN n).cell? ⟨m, 0, none⟩ = some (.int .u64 s.pc) := k0))
    exact Ex.mk (Rd.mk _)
  rintro _ _ ⟨rfl, n, rfl⟩
  simp only [Exit.then]
  have HD2 : Hid (Dq W (wq.drewN n) op rd r1 r2 im) := HD.out.drewN n
  clear MQ HD k0 d0 d1 hz
  generalize wq.drewN n = wq at *
  have HD := HD2
  have MQ : Hid (Mch wq m s ov mem iv) := HM.out.below HD.out.below
  have k0 := MQ.out.pc
  have d0 := HD.out.c0
  have d1 := HD.out.c1
  have hz := HD.out.below.size
  have kr := MQ.out.reg rd hd
  have fr := MQ.out.fz (1 + rd)
  go_wp2
  go_region
  have MZ : Hid (Mch (wq.setCell ⟨m, 1 + rd, none⟩ (.int .u64 0)).drew m { s with x := upd s.x rd 0 } ov mem iv) := (MQ.out.setReg rd hd 0).below (Below.refl _ _).drew
  have HO : Hid (Onl (Im m) W (wq.setCell ⟨m, 1 + rd, none⟩ (.int .u64 0)).drew) := ((Onl.of_below HD.out.below).set Im.self).drew
  generalize (wq.setCell ⟨m, 1 + rd, none⟩ (.int .u64 0)).drew = wz at *
  have p0 := MZ.out.pc
  have p1 : wz.cell? ⟨m, 1, none⟩ = some (.int .u64 (upd s.x rd 0 0)) := MZ.out.reg 0 (by omega)
  have pst := MZ.out.st
  have f0 := MZ.out.fz 0
  have f1 := MZ.out.fz 1
  have f33 := MZ.out.fz 33
  clear kr fr k0 d0 d1
  go_wp2
  go_ret
  exact ⟨rfl, ((HO.out.set Im.self).set Im.self).set Im.self, ((MZ.out.setReg 0 (by omega) 0).setPc _).setSt _⟩
set_option maxHeartbeats 2000000 in
set_option maxRecDepth 20000 in
theorem do47_b9f {W : World} {m mem : Nat} {s : Sx} {ov iv : Value} (H : Mch W m s ov mem iv) (op im : Int) (rd r1 r2 : Nat) (hop : op = 9) (hd : rd < 32) (h1 : r1 < 32) (h2 : r2 < 32) (htk : Tk op (s.x r1) (s.x r2) = false) : Calls Tryd.prog 47 #[.pointer (some ⟨m, 0, none⟩), .agg #[.int .i64 op, .int .i64 rd, .int .i64 r1, .int .i64 r2, .int .i64 im]] W fun e w' => e = .returned (.int .i64 0) ∧ Onl (Im m) W w' ∧ Mch w' m (nxt s rd (0) (IntKind.u64.wrap (s.pc + 4))) ov mem iv := by
  have HA : Hid (∀ w, Calls Tryd.prog 9 #[.int .i64 op, .int .u64 (s.x r1), .int .u64 (s.x r2)] w fun e w' => e = .returned (.tuple #[.bool false, .int .i64 (Te op)]) ∧ ∃ m, w' = w.drewN m) := fun w => by have t := taken9 op (s.x r1) (s.x r2) w; rw [htk] at t; exact t
  clear htk
  have n2 : (op == 2) = false := by subst hop; rfl
  have n1 : (op == 1) = false := by subst hop; rfl
  have n3 : (op == 3) = false := by subst hop; rfl
  have n4 : (op == 4) = false := by subst hop; rfl
  have n5 : (op == 5) = false := by subst hop; rfl
  have n6 : (op == 6) = false := by subst hop; rfl
  have n7 : (op == 7) = false := by subst hop; rfl
  have n8 : (op == 8) = false := by subst hop; rfl
  have y9 : (op == 9) = true := by subst hop; rfl
  have hs := H.lt
  have h0 := H.pc
  have k1 := H.reg r1 h1
  have k2 := H.reg r2 h2
  have g1 : (r1 : Int) < 32 := by omega
  have g2 : (r2 : Int) < 32 := by omega
  have g3 : (rd : Int) < 32 := by omega
  have HM : Hid (Mch W m s ov mem iv) := H
  clear H hop
  go_enter Tryd.func47, Tryd.ntmps47
  go_wp2
  go_quiet (fail)
  have hD := Dq.new W op rd r1 r2 im nq
  generalize (W.alloc (.cells #[.int .i64 op, .int .i64 rd, .int .i64 r1, .int .i64 r2, .int .i64 im] 91)).drewN nq = wq at *
  have HD : Hid (Dq W wq op rd r1 r2 im) := hD
  have MQ : Hid (Mch wq m s ov mem iv) := HM.out.below hD.below
  have k0 := MQ.out.pc
  have d0 := hD.c0
  have d1 := hD.c1
  have hz := hD.below.size
  clear hD h0 k1 k2
  go_upto_block 0 with fail
  apply cut_r (R := Rd _ wq)
  · apply blk_ex
    iterate 6 (apply seq_ex; apply blk_by (by decide))
    apply seq_to (W := wq)
    · apply blk_catch
      iterate 4 (apply seq_exit; apply blk_pass (by decide))
      go_wp2_with fail
      exact At.mk
    go_wp2_with ((go_at_call 9; refine (HA.out _).mono ?_; rintro e w' ⟨rfl, n, rfl⟩; have k0 : (wq.drewN n).cell? ⟨m, 0, none⟩ = some (.int .u64 s.pc) := k0))
    exact Ex.mk (Rd.mk _)
  rintro _ _ ⟨rfl, n, rfl⟩
  simp only [Exit.then]
  have HD2 : Hid (Dq W (wq.drewN n) op rd r1 r2 im) := HD.out.drewN n
  clear MQ HD k0 d0 d1 hz
  generalize wq.drewN n = wq at *
  have HD := HD2
  have MQ : Hid (Mch wq m s ov mem iv) := HM.out.below HD.out.below
  have k0 := MQ.out.pc
  have d0 := HD.out.c0
  have d1 := HD.out.c1
  have hz := HD.out.below.size
  have kr := MQ.out.reg rd hd
  have fr := MQ.out.fz (1 + rd)
  go_wp2
  go_region
  have MZ : Hid (Mch (wq.setCell ⟨m, 1 + rd, none⟩ (.int .u64 0)).drew m { s with x := upd s.x rd 0 } ov mem iv) := (MQ.out.setReg rd hd 0).below (Below.refl _ _).drew
  have HO : Hid (Onl (Im m) W (wq.setCell ⟨m, 1 + rd, none⟩ (.int .u64 0)).drew) := ((Onl.of_below HD.out.below).set Im.self).drew
  generalize (wq.setCell ⟨m, 1 + rd, none⟩ (.int .u64 0)).drew = wz at *
  have p0 := MZ.out.pc
  have p1 : wz.cell? ⟨m, 1, none⟩ = some (.int .u64 (upd s.x rd 0 0)) := MZ.out.reg 0 (by omega)
  have pst := MZ.out.st
  have f0 := MZ.out.fz 0
  have f1 := MZ.out.fz 1
  have f33 := MZ.out.fz 33
  clear kr fr k0 d0 d1
  go_wp2
  go_ret
  exact ⟨rfl, ((HO.out.set Im.self).set Im.self).set Im.self, ((MZ.out.setReg 0 (by omega) 0).setPc _).setSt _⟩
set_option maxHeartbeats 2000000 in
set_option maxRecDepth 20000 in
theorem do47_b10t {W : World} {m mem : Nat} {s : Sx} {ov iv : Value} (H : Mch W m s ov mem iv) (op im : Int) (rd r1 r2 : Nat) (hop : op = 10) (hd : rd < 32) (h1 : r1 < 32) (h2 : r2 < 32) (htk : Tk op (s.x r1) (s.x r2) = true) : Calls Tryd.prog 47 #[.pointer (some ⟨m, 0, none⟩), .agg #[.int .i64 op, .int .i64 rd, .int .i64 r1, .int .i64 r2, .int .i64 im]] W fun e w' => e = .returned (.int .i64 0) ∧ Onl (Im m) W w' ∧ Mch w' m (nxt s rd (0) (IntKind.u64.wrap (s.pc + IntKind.u64.wrap im))) ov mem iv := by
  have HA : Hid (∀ w, Calls Tryd.prog 9 #[.int .i64 op, .int .u64 (s.x r1), .int .u64 (s.x r2)] w fun e w' => e = .returned (.tuple #[.bool true, .int .i64 (Te op)]) ∧ ∃ m, w' = w.drewN m) := fun w => by have t := taken9 op (s.x r1) (s.x r2) w; rw [htk] at t; exact t
  clear htk
  have n2 : (op == 2) = false := by subst hop; rfl
  have n1 : (op == 1) = false := by subst hop; rfl
  have n3 : (op == 3) = false := by subst hop; rfl
  have n4 : (op == 4) = false := by subst hop; rfl
  have n5 : (op == 5) = false := by subst hop; rfl
  have n6 : (op == 6) = false := by subst hop; rfl
  have n7 : (op == 7) = false := by subst hop; rfl
  have n8 : (op == 8) = false := by subst hop; rfl
  have n9 : (op == 9) = false := by subst hop; rfl
  have y10 : (op == 10) = true := by subst hop; rfl
  have hs := H.lt
  have h0 := H.pc
  have k1 := H.reg r1 h1
  have k2 := H.reg r2 h2
  have g1 : (r1 : Int) < 32 := by omega
  have g2 : (r2 : Int) < 32 := by omega
  have g3 : (rd : Int) < 32 := by omega
  have HM : Hid (Mch W m s ov mem iv) := H
  clear H hop
  go_enter Tryd.func47, Tryd.ntmps47
  go_wp2
  go_quiet (fail)
  have hD := Dq.new W op rd r1 r2 im nq
  generalize (W.alloc (.cells #[.int .i64 op, .int .i64 rd, .int .i64 r1, .int .i64 r2, .int .i64 im] 91)).drewN nq = wq at *
  have HD : Hid (Dq W wq op rd r1 r2 im) := hD
  have MQ : Hid (Mch wq m s ov mem iv) := HM.out.below hD.below
  have k0 := MQ.out.pc
  have d0 := hD.c0
  have d1 := hD.c1
  have hz := hD.below.size
  clear hD h0 k1 k2
  go_upto_block 0 with fail
  apply cut_r (R := Rd _ wq)
  · apply blk_ex
    iterate 6 (apply seq_ex; apply blk_by (by decide))
    apply seq_to (W := wq)
    · apply blk_catch
      iterate 4 (apply seq_exit; apply blk_pass (by decide))
      go_wp2_with fail
      exact At.mk
    go_wp2_with ((go_at_call 9; refine (HA.out _).mono ?_; rintro e w' ⟨rfl, n, rfl⟩; have k0 : (wq.drewN n).cell? ⟨m, 0, none⟩ = some (.int .u64 s.pc) := k0))
    exact Ex.mk (Rd.mk _)
  rintro _ _ ⟨rfl, n, rfl⟩
  simp only [Exit.then]
  have HD2 : Hid (Dq W (wq.drewN n) op rd r1 r2 im) := HD.out.drewN n
  clear MQ HD k0 d0 d1 hz
  generalize wq.drewN n = wq at *
  have HD := HD2
  have MQ : Hid (Mch wq m s ov mem iv) := HM.out.below HD.out.below
  have k0 := MQ.out.pc
  have d0 := HD.out.c0
  have d1 := HD.out.c1
  have hz := HD.out.below.size
  have kr := MQ.out.reg rd hd
  have fr := MQ.out.fz (1 + rd)
  go_wp2
  go_region
  have MZ : Hid (Mch (wq.setCell ⟨m, 1 + rd, none⟩ (.int .u64 0)).drew m { s with x := upd s.x rd 0 } ov mem iv) := (MQ.out.setReg rd hd 0).below (Below.refl _ _).drew
  have HO : Hid (Onl (Im m) W (wq.setCell ⟨m, 1 + rd, none⟩ (.int .u64 0)).drew) := ((Onl.of_below HD.out.below).set Im.self).drew
  generalize (wq.setCell ⟨m, 1 + rd, none⟩ (.int .u64 0)).drew = wz at *
  have p0 := MZ.out.pc
  have p1 : wz.cell? ⟨m, 1, none⟩ = some (.int .u64 (upd s.x rd 0 0)) := MZ.out.reg 0 (by omega)
  have pst := MZ.out.st
  have f0 := MZ.out.fz 0
  have f1 := MZ.out.fz 1
  have f33 := MZ.out.fz 33
  clear kr fr k0 d0 d1
  go_wp2
  go_ret
  exact ⟨rfl, ((HO.out.set Im.self).set Im.self).set Im.self, ((MZ.out.setReg 0 (by omega) 0).setPc _).setSt _⟩
set_option maxHeartbeats 2000000 in
set_option maxRecDepth 20000 in
theorem do47_b10f {W : World} {m mem : Nat} {s : Sx} {ov iv : Value} (H : Mch W m s ov mem iv) (op im : Int) (rd r1 r2 : Nat) (hop : op = 10) (hd : rd < 32) (h1 : r1 < 32) (h2 : r2 < 32) (htk : Tk op (s.x r1) (s.x r2) = false) : Calls Tryd.prog 47 #[.pointer (some ⟨m, 0, none⟩), .agg #[.int .i64 op, .int .i64 rd, .int .i64 r1, .int .i64 r2, .int .i64 im]] W fun e w' => e = .returned (.int .i64 0) ∧ Onl (Im m) W w' ∧ Mch w' m (nxt s rd (0) (IntKind.u64.wrap (s.pc + 4))) ov mem iv := by
  have HA : Hid (∀ w, Calls Tryd.prog 9 #[.int .i64 op, .int .u64 (s.x r1), .int .u64 (s.x r2)] w fun e w' => e = .returned (.tuple #[.bool false, .int .i64 (Te op)]) ∧ ∃ m, w' = w.drewN m) := fun w => by have t := taken9 op (s.x r1) (s.x r2) w; rw [htk] at t; exact t
  clear htk
  have n2 : (op == 2) = false := by subst hop; rfl
  have n1 : (op == 1) = false := by subst hop; rfl
  have n3 : (op == 3) = false := by subst hop; rfl
  have n4 : (op == 4) = false := by subst hop; rfl
  have n5 : (op == 5) = false := by subst hop; rfl
  have n6 : (op == 6) = false := by subst hop; rfl
  have n7 : (op == 7) = false := by subst hop; rfl
  have n8 : (op == 8) = false := by subst hop; rfl
  have n9 : (op == 9) = false := by subst hop; rfl
  have y10 : (op == 10) = true := by subst hop; rfl
  have hs := H.lt
  have h0 := H.pc
  have k1 := H.reg r1 h1
  have k2 := H.reg r2 h2
  have g1 : (r1 : Int) < 32 := by omega
  have g2 : (r2 : Int) < 32 := by omega
  have g3 : (rd : Int) < 32 := by omega
  have HM : Hid (Mch W m s ov mem iv) := H
  clear H hop
  go_enter Tryd.func47, Tryd.ntmps47
  go_wp2
  go_quiet (fail)
  have hD := Dq.new W op rd r1 r2 im nq
  generalize (W.alloc (.cells #[.int .i64 op, .int .i64 rd, .int .i64 r1, .int .i64 r2, .int .i64 im] 91)).drewN nq = wq at *
  have HD : Hid (Dq W wq op rd r1 r2 im) := hD
  have MQ : Hid (Mch wq m s ov mem iv) := HM.out.below hD.below
  have k0 := MQ.out.pc
  have d0 := hD.c0
  have d1 := hD.c1
  have hz := hD.below.size
  clear hD h0 k1 k2
  go_upto_block 0 with fail
  apply cut_r (R := Rd _ wq)
  · apply blk_ex
    iterate 6 (apply seq_ex; apply blk_by (by decide))
    apply seq_to (W := wq)
    · apply blk_catch
      iterate 4 (apply seq_exit; apply blk_pass (by decide))
      go_wp2_with fail
      exact At.mk
    go_wp2_with ((go_at_call 9; refine (HA.out _).mono ?_; rintro e w' ⟨rfl, n, rfl⟩; have k0 : (wq.drewN n).cell? ⟨m, 0, none⟩ = some (.int .u64 s.pc) := k0))
    exact Ex.mk (Rd.mk _)
  rintro _ _ ⟨rfl, n, rfl⟩
  simp only [Exit.then]
  have HD2 : Hid (Dq W (wq.drewN n) op rd r1 r2 im) := HD.out.drewN n
  clear MQ HD k0 d0 d1 hz
  generalize wq.drewN n = wq at *
  have HD := HD2
  have MQ : Hid (Mch wq m s ov mem iv) := HM.out.below HD.out.below
  have k0 := MQ.out.pc
  have d0 := HD.out.c0
  have d1 := HD.out.c1
  have hz := HD.out.below.size
  have kr := MQ.out.reg rd hd
  have fr := MQ.out.fz (1 + rd)
  go_wp2
  go_region
  have MZ : Hid (Mch (wq.setCell ⟨m, 1 + rd, none⟩ (.int .u64 0)).drew m { s with x := upd s.x rd 0 } ov mem iv) := (MQ.out.setReg rd hd 0).below (Below.refl _ _).drew
  have HO : Hid (Onl (Im m) W (wq.setCell ⟨m, 1 + rd, none⟩ (.int .u64 0)).drew) := ((Onl.of_below HD.out.below).set Im.self).drew
  generalize (wq.setCell ⟨m, 1 + rd, none⟩ (.int .u64 0)).drew = wz at *
  have p0 := MZ.out.pc
  have p1 : wz.cell? ⟨m, 1, none⟩ = some (.int .u64 (upd s.x rd 0 0)) := MZ.out.reg 0 (by omega)
  have pst := MZ.out.st
  have f0 := MZ.out.fz 0
  have f1 := MZ.out.fz 1
  have f33 := MZ.out.fz 33
  clear kr fr k0 d0 d1
  go_wp2
  go_ret
  exact ⟨rfl, ((HO.out.set Im.self).set Im.self).set Im.self, ((MZ.out.setReg 0 (by omega) 0).setPc _).setSt _⟩
end Go.Proofs.YtnmpbihpoefeoaaDoor
