/- What an instruction does to a machine at whatever state. -/
import Derived.Test.YtnmpbihpoefeoaaDoorGA
namespace Go.Proofs.YtnmpbihpoefeoaaDoor
open Go.RowKit Go.Shelf
set_option maxHeartbeats 2000000 in
set_option maxRecDepth 20000 in
theorem do47_l11 {W : World} {m mem : Nat} {s s' : Sx} {ov ov' iv : Value} {S : Nat → Prop} {J J' : World → Prop} (H : Mch W m s ov mem iv) (op im : Int) (rd r1 r2 : Nat) (v : Int) (hop : op = 11) (hd : rd < 32) (h1 : r1 < 32) (h2 : r2 < 32)
    (hS : ∀ k, S k → k < W.heap.size) (hJ : J W) (sJ : ∀ w w', Below w.heap.size w w' → J w → J w') (sK : ∀ w w', Onl (Im m) w w' → J' w → J' w')
    (hc : ∀ w, Mch w m s ov mem iv → J w → Calls Tryd.prog 61 #[.pointer (some ⟨m, 0, none⟩), .int .i64 op, .int .u64 (IntKind.u64.wrap (s.x r1 + IntKind.u64.wrap im))] w fun e w' => e = .returned (.tuple #[.int .u64 v, .int .i64 0]) ∧ Onl (Or1 m S) w w' ∧ Mch w' m s' ov' mem iv ∧ J' w') :
    Calls Tryd.prog 47 #[.pointer (some ⟨m, 0, none⟩), .agg #[.int .i64 op, .int .i64 rd, .int .i64 r1, .int .i64 r2, .int .i64 im]] W fun e w' => e = .returned (.int .i64 0) ∧ Onl (Or1 m S) W w' ∧ Mch w' m (nxt s' rd v (IntKind.u64.wrap (s.pc + 4))) ov' mem iv ∧ J' w' := by
  have SK : Hid (∀ w w', Onl (Im m) w w' → J' w → J' w') := sK
  have HC : Hid (∀ w, Mch w m s ov mem iv → J w → Calls Tryd.prog 61 #[.pointer (some ⟨m, 0, none⟩), .int .i64 op, .int .u64 (IntKind.u64.wrap (s.x r1 + IntKind.u64.wrap im))] w fun e w' => e = .returned (.tuple #[.int .u64 v, .int .i64 0]) ∧ Onl (Or1 m S) w w' ∧ Mch w' m s' ov' mem iv ∧ J' w') := hc
  have HJ : Hid (J W) := hJ
  have SJ : Hid (∀ w w', Below w.heap.size w w' → J w → J w') := sJ
  clear hc hJ sJ sK
  have n2 : (op == 2) = false := by subst hop; rfl
  have n1 : (op == 1) = false := by subst hop; rfl
  have n3 : (op == 3) = false := by subst hop; rfl
  have n4 : (op == 4) = false := by subst hop; rfl
  have n5 : (op == 5) = false := by subst hop; rfl
  have n6 : (op == 6) = false := by subst hop; rfl
  have n7 : (op == 7) = false := by subst hop; rfl
  have n8 : (op == 8) = false := by subst hop; rfl
  have n9 : (op == 9) = false := by subst hop; rfl
  have n10 : (op == 10) = false := by subst hop; rfl
  have y11 : (op == 11) = true := by subst hop; rfl
  have hs := H.lt
  have h0 := H.pc
  have k1 := H.reg r1 h1
  have k2 := H.reg r2 h2
  have g1 : (r1 : Int) < 32 := by omega
  have g2 : (r2 : Int) < 32 := by omega
  have g3 : (rd : Int) < 32 := by omega
  have HM : Hid (Mch W m s ov mem iv) := H
  clear H hop
  go_enter Tryd.func47, Tryd.ntmps47
  go_wp2
  go_quiet (fail)
  have hD := Dq.new W op rd r1 r2 im nq
  generalize (W.alloc (.cells #[.int .i64 op, .int .i64 rd, .int .i64 r1, .int .i64 r2, .int .i64 im] 91)).drewN nq = wq at *
  have HD : Hid (Dq W wq op rd r1 r2 im) := hD
  have MQ : Hid (Mch wq m s ov mem iv) := HM.out.below hD.below
  have k0 := MQ.out.pc
  have d0 := hD.c0
  have d1 := hD.c1
  have hz := hD.below.size
  clear hD h0 k1 k2
  go_upto_block 0 with fail
  have HJQ : Hid (J wq) := SJ.out _ _ HD.out.below HJ.out
  apply cut_r (R := Rt _ (fun v => Onl (Or1 m S) wq v ∧ Mch v m s' ov' mem iv ∧ J' v))
  · apply blk_ex
    iterate 5 (apply seq_ex; apply blk_by (by decide))
    apply seq_to (W := wq)
    · apply blk_catch
      iterate 5 (apply seq_exit; apply blk_pass (by decide))
      go_wp2_with fail
      exact At.mk
    go_wp2_with ((go_at_call 61; refine (HC.out _ MQ.out HJQ.out).mono ?_; rintro e w' ⟨rfl, hx1, hx2, hx3⟩; have HX : Hid (Onl (Or1 m S) wq w' ∧ Mch w' m s' ov' mem iv ∧ J' w') := ⟨hx1, hx2, hx3⟩; clear hx1 hx2 hx3))
    exact Ex.mk (Rt.mk HX.out)
  rintro _ wv ⟨rfl, hx1, hx2, hx3⟩
  simp only [Exit.then]
  have HO : Hid (Onl (Or1 m S) W wv) := (Onl.of_below HD.out.below).trans hx1
  have MV : Hid (Mch wv m s' ov' mem iv) := hx2
  have HK : Hid (J' wv) := hx3
  have d1 : wv.cell? ⟨W.heap.size, 1, none⟩ = some (.int .i64 rd) := by
    have t := hx1.block W.heap.size (lt_of_cell d1) (fun h => h.elim (fun e => by omega) (fun h => Nat.lt_irrefl _ (hS _ h)))
    have d := d1
    simp only [World.cell?, t] at d ⊢
    exact d
  have kr := MV.out.reg rd hd
  have fr := MV.out.fz (1 + rd)
  have hz2 := hx1.size
  clear hx1 hx2 hx3 d0 k0
  go_wp2
  go_region
  have HV : Hid (Onl (Im m) wv (wv.setCell ⟨m, 1 + rd, none⟩ (.int .u64 v)).drew) := ((Onl.of_below (Below.refl _ _)).set Im.self).drew
  have MZ : Hid (Mch (wv.setCell ⟨m, 1 + rd, none⟩ (.int .u64 v)).drew m { s' with x := upd s'.x rd v } ov' mem iv) := (MV.out.setReg rd hd v).below (Below.refl _ _).drew
  generalize (wv.setCell ⟨m, 1 + rd, none⟩ (.int .u64 v)).drew = wz at *
  have p0 := MZ.out.pc
  have p1 : wz.cell? ⟨m, 1, none⟩ = some (.int .u64 (upd s'.x rd v 0)) := MZ.out.reg 0 (by omega)
  have pst := MZ.out.st
  have f0 := MZ.out.fz 0
  have f1 := MZ.out.fz 1
  have f33 := MZ.out.fz 33
  clear kr fr d1
  go_wp2
  go_ret
  have hq := ((HV.out.set (o := 1) (v := .int .u64 0) Im.self).set (o := 0) (v := .int .u64 (IntKind.u64.wrap (s.pc + 4))) Im.self).set (o := 33) (v := .int .i64 (wrap64 (s'.st + 1))) Im.self
  exact ⟨rfl, HO.out.trans (hq.mono fun i hi => .inl hi), ((MZ.out.setReg 0 (by omega) 0).setPc _).setSt _, SK.out _ _ hq HK.out⟩
set_option maxHeartbeats 2000000 in
set_option maxRecDepth 20000 in
theorem do47_l11f {W : World} {m mem : Nat} {s s' : Sx} {ov ov' iv : Value} {S : Nat → Prop} {J J' : World → Prop} (H : Mch W m s ov mem iv) (op im : Int) (rd r1 r2 : Nat) (v : Int) (f : Int) (hf : ¬ f = 0) (hop : op = 11) (hd : rd < 32) (h1 : r1 < 32) (h2 : r2 < 32)
    (_hS : ∀ k, S k → k < W.heap.size) (hJ : J W) (sJ : ∀ w w', Below w.heap.size w w' → J w → J w') 
    (hc : ∀ w, Mch w m s ov mem iv → J w → Calls Tryd.prog 61 #[.pointer (some ⟨m, 0, none⟩), .int .i64 op, .int .u64 (IntKind.u64.wrap (s.x r1 + IntKind.u64.wrap im))] w fun e w' => e = .returned (.tuple #[.int .u64 v, .int .i64 f]) ∧ Onl (Or1 m S) w w' ∧ Mch w' m s' ov' mem iv ∧ J' w') :
    Calls Tryd.prog 47 #[.pointer (some ⟨m, 0, none⟩), .agg #[.int .i64 op, .int .i64 rd, .int .i64 r1, .int .i64 r2, .int .i64 im]] W fun e w' => e = .returned (.int .i64 f) ∧ Onl (Or1 m S) W w' ∧ Mch w' m s' ov' mem iv ∧ J' w' := by
  have hf0 : (f == 0) = false := by simpa using hf
  have hf1 : (f != 0) = true := by simpa using hf
  have HC : Hid (∀ w, Mch w m s ov mem iv → J w → Calls Tryd.prog 61 #[.pointer (some ⟨m, 0, none⟩), .int .i64 op, .int .u64 (IntKind.u64.wrap (s.x r1 + IntKind.u64.wrap im))] w fun e w' => e = .returned (.tuple #[.int .u64 v, .int .i64 f]) ∧ Onl (Or1 m S) w w' ∧ Mch w' m s' ov' mem iv ∧ J' w') := hc
  have HJ : Hid (J W) := hJ
  have SJ : Hid (∀ w w', Below w.heap.size w w' → J w → J w') := sJ
  clear hc hJ sJ hf
  have n2 : (op == 2) = false := by subst hop; rfl
  have n1 : (op == 1) = false := by subst hop; rfl
  have n3 : (op == 3) = false := by subst hop; rfl
  have n4 : (op == 4) = false := by subst hop; rfl
  have n5 : (op == 5) = false := by subst hop; rfl
  have n6 : (op == 6) = false := by subst hop; rfl
  have n7 : (op == 7) = false := by subst hop; rfl
  have n8 : (op == 8) = false := by subst hop; rfl
  have n9 : (op == 9) = false := by subst hop; rfl
  have n10 : (op == 10) = false := by subst hop; rfl
  have y11 : (op == 11) = true := by subst hop; rfl
  have hs := H.lt
  have h0 := H.pc
  have k1 := H.reg r1 h1
  have k2 := H.reg r2 h2
  have g1 : (r1 : Int) < 32 := by omega
  have g2 : (r2 : Int) < 32 := by omega
  have g3 : (rd : Int) < 32 := by omega
  have HM : Hid (Mch W m s ov mem iv) := H
  clear H hop
  go_enter Tryd.func47, Tryd.ntmps47
  go_wp2
  go_quiet (fail)
  have hD := Dq.new W op rd r1 r2 im nq
  generalize (W.alloc (.cells #[.int .i64 op, .int .i64 rd, .int .i64 r1, .int .i64 r2, .int .i64 im] 91)).drewN nq = wq at *
  have HD : Hid (Dq W wq op rd r1 r2 im) := hD
  have MQ : Hid (Mch wq m s ov mem iv) := HM.out.below hD.below
  have k0 := MQ.out.pc
  have d0 := hD.c0
  have d1 := hD.c1
  have hz := hD.below.size
  clear hD h0 k1 k2
  go_upto_block 0 with fail
  have HJQ : Hid (J wq) := SJ.out _ _ HD.out.below HJ.out
  apply cut_r (R := Rt _ (fun v => Onl (Or1 m S) wq v ∧ Mch v m s' ov' mem iv ∧ J' v))
  · apply blk_ex
    iterate 5 (apply seq_ex; apply blk_by (by decide))
    apply seq_to (W := wq)
    · apply blk_catch
      iterate 5 (apply seq_exit; apply blk_pass (by decide))
      go_wp2_with fail
      exact At.mk
    go_wp2_with ((go_at_call 61; refine (HC.out _ MQ.out HJQ.out).mono ?_; rintro e w' ⟨rfl, hx1, hx2, hx3⟩; have HX : Hid (Onl (Or1 m S) wq w' ∧ Mch w' m s' ov' mem iv ∧ J' w') := ⟨hx1, hx2, hx3⟩; clear hx1 hx2 hx3))
    exact Ex.mk (Rt.mk HX.out)
  rintro _ wv ⟨rfl, hx1, hx2, hx3⟩
  simp only [Exit.then]
  have HO : Hid (Onl (Or1 m S) W wv) := (Onl.of_below HD.out.below).trans hx1
  have MV : Hid (Mch wv m s' ov' mem iv) := hx2
  have HK : Hid (J' wv) := hx3
  clear hx1 hx2 hx3
  go_wp2
  go_ret
  exact ⟨rfl, HO.out, MV.out, HK.out⟩
set_option maxHeartbeats 2000000 in
set_option maxRecDepth 20000 in
theorem do47_l12 {W : World} {m mem : Nat} {s s' : Sx} {ov ov' iv : Value} {S : Nat → Prop} {J J' : World → Prop} (H : Mch W m s ov mem iv) (op im : Int) (rd r1 r2 : Nat) (v : Int) (hop : op = 12) (hd : rd < 32) (h1 : r1 < 32) (h2 : r2 < 32)
    (hS : ∀ k, S k → k < W.heap.size) (hJ : J W) (sJ : ∀ w w', Below w.heap.size w w' → J w → J w') (sK : ∀ w w', Onl (Im m) w w' → J' w → J' w')
    (hc : ∀ w, Mch w m s ov mem iv → J w → Calls Tryd.prog 61 #[.pointer (some ⟨m, 0, none⟩), .int .i64 op, .int .u64 (IntKind.u64.wrap (s.x r1 + IntKind.u64.wrap im))] w fun e w' => e = .returned (.tuple #[.int .u64 v, .int .i64 0]) ∧ Onl (Or1 m S) w w' ∧ Mch w' m s' ov' mem iv ∧ J' w') :
    Calls Tryd.prog 47 #[.pointer (some ⟨m, 0, none⟩), .agg #[.int .i64 op, .int .i64 rd, .int .i64 r1, .int .i64 r2, .int .i64 im]] W fun e w' => e = .returned (.int .i64 0) ∧ Onl (Or1 m S) W w' ∧ Mch w' m (nxt s' rd v (IntKind.u64.wrap (s.pc + 4))) ov' mem iv ∧ J' w' := by
  have SK : Hid (∀ w w', Onl (Im m) w w' → J' w → J' w') := sK
  have HC : Hid (∀ w, Mch w m s ov mem iv → J w → Calls Tryd.prog 61 #[.pointer (some ⟨m, 0, none⟩), .int .i64 op, .int .u64 (IntKind.u64.wrap (s.x r1 + IntKind.u64.wrap im))] w fun e w' => e = .returned (.tuple #[.int .u64 v, .int .i64 0]) ∧ Onl (Or1 m S) w w' ∧ Mch w' m s' ov' mem iv ∧ J' w') := hc
  have HJ : Hid (J W) := hJ
  have SJ : Hid (∀ w w', Below w.heap.size w w' → J w → J w') := sJ
  clear hc hJ sJ sK
  have n2 : (op == 2) = false := by subst hop; rfl
  have n1 : (op == 1) = false := by subst hop; rfl
  have n3 : (op == 3) = false := by subst hop; rfl
  have n4 : (op == 4) = false := by subst hop; rfl
  have n5 : (op == 5) = false := by subst hop; rfl
  have n6 : (op == 6) = false := by subst hop; rfl
  have n7 : (op == 7) = false := by subst hop; rfl
  have n8 : (op == 8) = false := by subst hop; rfl
  have n9 : (op == 9) = false := by subst hop; rfl
  have n10 : (op == 10) = false := by subst hop; rfl
  have n11 : (op == 11) = false := by subst hop; rfl
  have y12 : (op == 12) = true := by subst hop; rfl
  have hs := H.lt
  have h0 := H.pc
  have k1 := H.reg r1 h1
  have k2 := H.reg r2 h2
  have g1 : (r1 : Int) < 32 := by omega
  have g2 : (r2 : Int) < 32 := by omega
  have g3 : (rd : Int) < 32 := by omega
  have HM : Hid (Mch W m s ov mem iv) := H
  clear H hop
  go_enter Tryd.func47, Tryd.ntmps47
  go_wp2
  go_quiet (fail)
  have hD := Dq.new W op rd r1 r2 im nq
  generalize (W.alloc (.cells #[.int .i64 op, .int .i64 rd, .int .i64 r1, .int .i64 r2, .int .i64 im] 91)).drewN nq = wq at *
  have HD : Hid (Dq W wq op rd r1 r2 im) := hD
  have MQ : Hid (Mch wq m s ov mem iv) := HM.out.below hD.below
  have k0 := MQ.out.pc
  have d0 := hD.c0
  have d1 := hD.c1
  have hz := hD.below.size
  clear hD h0 k1 k2
  go_upto_block 0 with fail
  have HJQ : Hid (J wq) := SJ.out _ _ HD.out.below HJ.out
  apply cut_r (R := Rt _ (fun v => Onl (Or1 m S) wq v ∧ Mch v m s' ov' mem iv ∧ J' v))
  · apply blk_ex
    iterate 5 (apply seq_ex; apply blk_by (by decide))
    apply seq_to (W := wq)
    · apply blk_catch
      iterate 5 (apply seq_exit; apply blk_pass (by decide))
      go_wp2_with fail
      exact At.mk
    go_wp2_with ((go_at_call 61; refine (HC.out _ MQ.out HJQ.out).mono ?_; rintro e w' ⟨rfl, hx1, hx2, hx3⟩; have HX : Hid (Onl (Or1 m S) wq w' ∧ Mch w' m s' ov' mem iv ∧ J' w') := ⟨hx1, hx2, hx3⟩; clear hx1 hx2 hx3))
    exact Ex.mk (Rt.mk HX.out)
  rintro _ wv ⟨rfl, hx1, hx2, hx3⟩
  simp only [Exit.then]
  have HO : Hid (Onl (Or1 m S) W wv) := (Onl.of_below HD.out.below).trans hx1
  have MV : Hid (Mch wv m s' ov' mem iv) := hx2
  have HK : Hid (J' wv) := hx3
  have d1 : wv.cell? ⟨W.heap.size, 1, none⟩ = some (.int .i64 rd) := by
    have t := hx1.block W.heap.size (lt_of_cell d1) (fun h => h.elim (fun e => by omega) (fun h => Nat.lt_irrefl _ (hS _ h)))
    have d := d1
    simp only [World.cell?, t] at d ⊢
    exact d
  have kr := MV.out.reg rd hd
  have fr := MV.out.fz (1 + rd)
  have hz2 := hx1.size
  clear hx1 hx2 hx3 d0 k0
  go_wp2
  go_region
  have HV : Hid (Onl (Im m) wv (wv.setCell ⟨m, 1 + rd, none⟩ (.int .u64 v)).drew) := ((Onl.of_below (Below.refl _ _)).set Im.self).drew
  have MZ : Hid (Mch (wv.setCell ⟨m, 1 + rd, none⟩ (.int .u64 v)).drew m { s' with x := upd s'.x rd v } ov' mem iv) := (MV.out.setReg rd hd v).below (Below.refl _ _).drew
  generalize (wv.setCell ⟨m, 1 + rd, none⟩ (.int .u64 v)).drew = wz at *
  have p0 := MZ.out.pc
  have p1 : wz.cell? ⟨m, 1, none⟩ = some (.int .u64 (upd s'.x rd v 0)) := MZ.out.reg 0 (by omega)
  have pst := MZ.out.st
  have f0 := MZ.out.fz 0
  have f1 := MZ.out.fz 1
  have f33 := MZ.out.fz 33
  clear kr fr d1
  go_wp2
  go_ret
  have hq := ((HV.out.set (o := 1) (v := .int .u64 0) Im.self).set (o := 0) (v := .int .u64 (IntKind.u64.wrap (s.pc + 4))) Im.self).set (o := 33) (v := .int .i64 (wrap64 (s'.st + 1))) Im.self
  exact ⟨rfl, HO.out.trans (hq.mono fun i hi => .inl hi), ((MZ.out.setReg 0 (by omega) 0).setPc _).setSt _, SK.out _ _ hq HK.out⟩
set_option maxHeartbeats 2000000 in
set_option maxRecDepth 20000 in
theorem do47_l12f {W : World} {m mem : Nat} {s s' : Sx} {ov ov' iv : Value} {S : Nat → Prop} {J J' : World → Prop} (H : Mch W m s ov mem iv) (op im : Int) (rd r1 r2 : Nat) (v : Int) (f : Int) (hf : ¬ f = 0) (hop : op = 12) (hd : rd < 32) (h1 : r1 < 32) (h2 : r2 < 32)
    (_hS : ∀ k, S k → k < W.heap.size) (hJ : J W) (sJ : ∀ w w', Below w.heap.size w w' → J w → J w') 
    (hc : ∀ w, Mch w m s ov mem iv → J w → Calls Tryd.prog 61 #[.pointer (some ⟨m, 0, none⟩), .int .i64 op, .int .u64 (IntKind.u64.wrap (s.x r1 + IntKind.u64.wrap im))] w fun e w' => e = .returned (.tuple #[.int .u64 v, .int .i64 f]) ∧ Onl (Or1 m S) w w' ∧ Mch w' m s' ov' mem iv ∧ J' w') :
    Calls Tryd.prog 47 #[.pointer (some ⟨m, 0, none⟩), .agg #[.int .i64 op, .int .i64 rd, .int .i64 r1, .int .i64 r2, .int .i64 im]] W fun e w' => e = .returned (.int .i64 f) ∧ Onl (Or1 m S) W w' ∧ Mch w' m s' ov' mem iv ∧ J' w' := by
  have hf0 : (f == 0) = false := by simpa using hf
  have hf1 : (f != 0) = true := by simpa using hf
  have HC : Hid (∀ w, Mch w m s ov mem iv → J w → Calls Tryd.prog 61 #[.pointer (some ⟨m, 0, none⟩), .int .i64 op, .int .u64 (IntKind.u64.wrap (s.x r1 + IntKind.u64.wrap im))] w fun e w' => e = .returned (.tuple #[.int .u64 v, .int .i64 f]) ∧ Onl (Or1 m S) w w' ∧ Mch w' m s' ov' mem iv ∧ J' w') := hc
  have HJ : Hid (J W) := hJ
  have SJ : Hid (∀ w w', Below w.heap.size w w' → J w → J w') := sJ
  clear hc hJ sJ hf
  have n2 : (op == 2) = false := by subst hop; rfl
  have n1 : (op == 1) = false := by subst hop; rfl
  have n3 : (op == 3) = false := by subst hop; rfl
  have n4 : (op == 4) = false := by subst hop; rfl
  have n5 : (op == 5) = false := by subst hop; rfl
  have n6 : (op == 6) = false := by subst hop; rfl
  have n7 : (op == 7) = false := by subst hop; rfl
  have n8 : (op == 8) = false := by subst hop; rfl
  have n9 : (op == 9) = false := by subst hop; rfl
  have n10 : (op == 10) = false := by subst hop; rfl
  have n11 : (op == 11) = false := by subst hop; rfl
  have y12 : (op == 12) = true := by subst hop; rfl
  have hs := H.lt
  have h0 := H.pc
  have k1 := H.reg r1 h1
  have k2 := H.reg r2 h2
  have g1 : (r1 : Int) < 32 := by omega
  have g2 : (r2 : Int) < 32 := by omega
  have g3 : (rd : Int) < 32 := by omega
  have HM : Hid (Mch W m s ov mem iv) := H
  clear H hop
  go_enter Tryd.func47, Tryd.ntmps47
  go_wp2
  go_quiet (fail)
  have hD := Dq.new W op rd r1 r2 im nq
  generalize (W.alloc (.cells #[.int .i64 op, .int .i64 rd, .int .i64 r1, .int .i64 r2, .int .i64 im] 91)).drewN nq = wq at *
  have HD : Hid (Dq W wq op rd r1 r2 im) := hD
  have MQ : Hid (Mch wq m s ov mem iv) := HM.out.below hD.below
  have k0 := MQ.out.pc
  have d0 := hD.c0
  have d1 := hD.c1
  have hz := hD.below.size
  clear hD h0 k1 k2
  go_upto_block 0 with fail
  have HJQ : Hid (J wq) := SJ.out _ _ HD.out.below HJ.out
  apply cut_r (R := Rt _ (fun v => Onl (Or1 m S) wq v ∧ Mch v m s' ov' mem iv ∧ J' v))
  · apply blk_ex
    iterate 5 (apply seq_ex; apply blk_by (by decide))
    apply seq_to (W := wq)
    · apply blk_catch
      iterate 5 (apply seq_exit; apply blk_pass (by decide))
      go_wp2_with fail
      exact At.mk
    go_wp2_with ((go_at_call 61; refine (HC.out _ MQ.out HJQ.out).mono ?_; rintro e w' ⟨rfl, hx1, hx2, hx3⟩; have HX : Hid (Onl (Or1 m S) wq w' ∧ Mch w' m s' ov' mem iv ∧ J' w') := ⟨hx1, hx2, hx3⟩; clear hx1 hx2 hx3))
    exact Ex.mk (Rt.mk HX.out)
  rintro _ wv ⟨rfl, hx1, hx2, hx3⟩
  simp only [Exit.then]
  have HO : Hid (Onl (Or1 m S) W wv) := (Onl.of_below HD.out.below).trans hx1
  have MV : Hid (Mch wv m s' ov' mem iv) := hx2
  have HK : Hid (J' wv) := hx3
  clear hx1 hx2 hx3
  go_wp2
  go_ret
  exact ⟨rfl, HO.out, MV.out, HK.out⟩
set_option maxHeartbeats 2000000 in
set_option maxRecDepth 20000 in
theorem do47_l13 {W : World} {m mem : Nat} {s s' : Sx} {ov ov' iv : Value} {S : Nat → Prop} {J J' : World → Prop} (H : Mch W m s ov mem iv) (op im : Int) (rd r1 r2 : Nat) (v : Int) (hop : op = 13) (hd : rd < 32) (h1 : r1 < 32) (h2 : r2 < 32)
    (hS : ∀ k, S k → k < W.heap.size) (hJ : J W) (sJ : ∀ w w', Below w.heap.size w w' → J w → J w') (sK : ∀ w w', Onl (Im m) w w' → J' w → J' w')
    (hc : ∀ w, Mch w m s ov mem iv → J w → Calls Tryd.prog 61 #[.pointer (some ⟨m, 0, none⟩), .int .i64 op, .int .u64 (IntKind.u64.wrap (s.x r1 + IntKind.u64.wrap im))] w fun e w' => e = .returned (.tuple #[.int .u64 v, .int .i64 0]) ∧ Onl (Or1 m S) w w' ∧ Mch w' m s' ov' mem iv ∧ J' w') :
    Calls Tryd.prog 47 #[.pointer (some ⟨m, 0, none⟩), .agg #[.int .i64 op, .int .i64 rd, .int .i64 r1, .int .i64 r2, .int .i64 im]] W fun e w' => e = .returned (.int .i64 0) ∧ Onl (Or1 m S) W w' ∧ Mch w' m (nxt s' rd v (IntKind.u64.wrap (s.pc + 4))) ov' mem iv ∧ J' w' := by
  have SK : Hid (∀ w w', Onl (Im m) w w' → J' w → J' w') := sK
  have HC : Hid (∀ w, Mch w m s ov mem iv → J w → Calls Tryd.prog 61 #[.pointer (some ⟨m, 0, none⟩), .int .i64 op, .int .u64 (IntKind.u64.wrap (s.x r1 + IntKind.u64.wrap im))] w fun e w' => e = .returned (.tuple #[.int .u64 v, .int .i64 0]) ∧ Onl (Or1 m S) w w' ∧ Mch w' m s' ov' mem iv ∧ J' w') := hc
  have HJ : Hid (J W) := hJ
  have SJ : Hid (∀ w w', Below w.heap.size w w' → J w → J w') := sJ
  clear hc hJ sJ sK
  have n2 : (op == 2) = false := by subst hop; rfl
  have n1 : (op == 1) = false := by subst hop; rfl
  have n3 : (op == 3) = false := by subst hop; rfl
  have n4 : (op == 4) = false := by subst hop; rfl
  have n5 : (op == 5) = false := by subst hop; rfl
  have n6 : (op == 6) = false := by subst hop; rfl
  have n7 : (op == 7) = false := by subst hop; rfl
  have n8 : (op == 8) = false := by subst hop; rfl
  have n9 : (op == 9) = false := by subst hop; rfl
  have n10 : (op == 10) = false := by subst hop; rfl
  have n11 : (op == 11) = false := by subst hop; rfl
  have n12 : (op == 12) = false := by subst hop; rfl
  have y13 : (op == 13) = true := by subst hop; rfl
  have hs := H.lt
  have h0 := H.pc
  have k1 := H.reg r1 h1
  have k2 := H.reg r2 h2
  have g1 : (r1 : Int) < 32 := by omega
  have g2 : (r2 : Int) < 32 := by omega
  have g3 : (rd : Int) < 32 := by omega
  have HM : Hid (Mch W m s ov mem iv) := H
  clear H hop
  go_enter Tryd.func47, Tryd.ntmps47
  go_wp2
  go_quiet (fail)
  have hD := Dq.new W op rd r1 r2 im nq
  generalize (W.alloc (.cells #[.int .i64 op, .int .i64 rd, .int .i64 r1, .int .i64 r2, .int .i64 im] 91)).drewN nq = wq at *
  have HD : Hid (Dq W wq op rd r1 r2 im) := hD
  have MQ : Hid (Mch wq m s ov mem iv) := HM.out.below hD.below
  have k0 := MQ.out.pc
  have d0 := hD.c0
  have d1 := hD.c1
  have hz := hD.below.size
  clear hD h0 k1 k2
  go_upto_block 0 with fail
  have HJQ : Hid (J wq) := SJ.out _ _ HD.out.below HJ.out
  apply cut_r (R := Rt _ (fun v => Onl (Or1 m S) wq v ∧ Mch v m s' ov' mem iv ∧ J' v))
  · apply blk_ex
    iterate 5 (apply seq_ex; apply blk_by (by decide))
    apply seq_to (W := wq)
    · apply blk_catch
      iterate 5 (apply seq_exit; apply blk_pass (by decide))
      go_wp2_with fail
      exact At.mk
    go_wp2_with ((go_at_call 61; refine (HC.out _ MQ.out HJQ.out).mono ?_; rintro e w' ⟨rfl, hx1, hx2, hx3⟩; have HX : Hid (Onl (Or1 m S) wq w' ∧ Mch w' m s' ov' mem iv ∧ J' w') := ⟨hx1, hx2, hx3⟩; clear hx1 hx2 hx3))
    exact Ex.mk (Rt.mk HX.out)
  rintro _ wv ⟨rfl, hx1, hx2, hx3⟩
  simp only [Exit.then]
  have HO : Hid (Onl (Or1 m S) W wv) := (Onl.of_below HD.out.below).trans hx1
  have MV : Hid (Mch wv m s' ov' mem iv) := hx2
  have HK : Hid (J' wv) := hx3
  have d1 : wv.cell? ⟨W.heap.size, 1, none⟩ = some (.int .i64 rd) := by
    have t := hx1.block W.heap.size (lt_of_cell d1) (fun h => h.elim (fun e => by omega) (fun h => Nat.lt_irrefl _ (hS _ h)))
    have d := d1
    simp only [World.cell?, t] at d ⊢
    exact d
  have kr := MV.out.reg rd hd
  have fr := MV.out.fz (1 + rd)
  have hz2 := hx1.size
  clear hx1 hx2 hx3 d0 k0
  go_wp2
  go_region
  have HV : Hid (Onl (Im m) wv (wv.setCell ⟨m, 1 + rd, none⟩ (.int .u64 v)).drew) := ((Onl.of_below (Below.refl _ _)).set Im.self).drew
  have MZ : Hid (Mch (wv.setCell ⟨m, 1 + rd, none⟩ (.int .u64 v)).drew m { s' with x := upd s'.x rd v } ov' mem iv) := (MV.out.setReg rd hd v).below (Below.refl _ _).drew
  generalize (wv.setCell ⟨m, 1 + rd, none⟩ (.int .u64 v)).drew = wz at *
  have p0 := MZ.out.pc
  have p1 : wz.cell? ⟨m, 1, none⟩ = some (.int .u64 (upd s'.x rd v 0)) := MZ.out.reg 0 (by omega)
  have pst := MZ.out.st
  have f0 := MZ.out.fz 0
  have f1 := MZ.out.fz 1
  have f33 := MZ.out.fz 33
  clear kr fr d1
  go_wp2
  go_ret
  have hq := ((HV.out.set (o := 1) (v := .int .u64 0) Im.self).set (o := 0) (v := .int .u64 (IntKind.u64.wrap (s.pc + 4))) Im.self).set (o := 33) (v := .int .i64 (wrap64 (s'.st + 1))) Im.self
  exact ⟨rfl, HO.out.trans (hq.mono fun i hi => .inl hi), ((MZ.out.setReg 0 (by omega) 0).setPc _).setSt _, SK.out _ _ hq HK.out⟩
set_option maxHeartbeats 2000000 in
set_option maxRecDepth 20000 in
theorem do47_l13f {W : World} {m mem : Nat} {s s' : Sx} {ov ov' iv : Value} {S : Nat → Prop} {J J' : World → Prop} (H : Mch W m s ov mem iv) (op im : Int) (rd r1 r2 : Nat) (v : Int) (f : Int) (hf : ¬ f = 0) (hop : op = 13) (hd : rd < 32) (h1 : r1 < 32) (h2 : r2 < 32)
    (_hS : ∀ k, S k → k < W.heap.size) (hJ : J W) (sJ : ∀ w w', Below w.heap.size w w' → J w → J w') 
    (hc : ∀ w, Mch w m s ov mem iv → J w → Calls Tryd.prog 61 #[.pointer (some ⟨m, 0, none⟩), .int .i64 op, .int .u64 (IntKind.u64.wrap (s.x r1 + IntKind.u64.wrap im))] w fun e w' => e = .returned (.tuple #[.int .u64 v, .int .i64 f]) ∧ Onl (Or1 m S) w w' ∧ Mch w' m s' ov' mem iv ∧ J' w') :
    Calls Tryd.prog 47 #[.pointer (some ⟨m, 0, none⟩), .agg #[.int .i64 op, .int .i64 rd, .int .i64 r1, .int .i64 r2, .int .i64 im]] W fun e w' => e = .returned (.int .i64 f) ∧ Onl (Or1 m S) W w' ∧ Mch w' m s' ov' mem iv ∧ J' w' := by
  have hf0 : (f == 0) = false := by simpa using hf
  have hf1 : (f != 0) = true := by simpa using hf
  have HC : Hid (∀ w, Mch w m s ov mem iv → J w → Calls Tryd.prog 61 #[.pointer (some ⟨m, 0, none⟩), .int .i64 op, .int .u64 (IntKind.u64.wrap (s.x r1 + IntKind.u64.wrap im))] w fun e w' => e = .returned (.tuple #[.int .u64 v, .int .i64 f]) ∧ Onl (Or1 m S) w w' ∧ Mch w' m s' ov' mem iv ∧ J' w') := hc
  have HJ : Hid (J W) := hJ
  have SJ : Hid (∀ w w', Below w.heap.size w w' → J w → J w') := sJ
  clear hc hJ sJ hf
  have n2 : (op == 2) = false := by subst hop; rfl
  have n1 : (op == 1) = false := by subst hop; rfl
  have n3 : (op == 3) = false := by subst hop; rfl
  have n4 : (op == 4) = false := by subst hop; rfl
  have n5 : (op == 5) = false := by subst hop; rfl
  have n6 : (op == 6) = false := by subst hop; rfl
  have n7 : (op == 7) = false := by subst hop; rfl
  have n8 : (op == 8) = false := by subst hop; rfl
  have n9 : (op == 9) = false := by subst hop; rfl
  have n10 : (op == 10) = false := by subst hop; rfl
  have n11 : (op == 11) = false := by subst hop; rfl
  have n12 : (op == 12) = false := by subst hop; rfl
  have y13 : (op == 13) = true := by subst hop; rfl
  have hs := H.lt
  have h0 := H.pc
  have k1 := H.reg r1 h1
  have k2 := H.reg r2 h2
  have g1 : (r1 : Int) < 32 := by omega
  have g2 : (r2 : Int) < 32 := by omega
  have g3 : (rd : Int) < 32 := by omega
  have HM : Hid (Mch W m s ov mem iv) := H
  clear H hop
  go_enter Tryd.func47, Tryd.ntmps47
  go_wp2
  go_quiet (fail)
  have hD := Dq.new W op rd r1 r2 im nq
  generalize (W.alloc (.cells #[.int .i64 op, .int .i64 rd, .int .i64 r1, .int .i64 r2, .int .i64 im] 91)).drewN nq = wq at *
  have HD : Hid (Dq W wq op rd r1 r2 im) := hD
  have MQ : Hid (Mch wq m s ov mem iv) := HM.out.below hD.below
  have k0 := MQ.out.pc
  have d0 := hD.c0
  have d1 := hD.c1
  have hz := hD.below.size
  clear hD h0 k1 k2
  go_upto_block 0 with fail
  have HJQ : Hid (J wq) := SJ.out _ _ HD.out.below HJ.out
  apply cut_r (R := Rt _ (fun v => Onl (Or1 m S) wq v ∧ Mch v m s' ov' mem iv ∧ J' v))
  · apply blk_ex
    iterate 5 (apply seq_ex; apply blk_by (by decide))
    apply seq_to (W := wq)
    · apply blk_catch
      iterate 5 (apply seq_exit; apply blk_pass (by decide))
      go_wp2_with fail
      exact At.mk
    go_wp2_with ((go_at_call 61; refine (HC.out _ MQ.out HJQ.out).mono ?_; rintro e w' ⟨rfl, hx1, hx2, hx3⟩; have HX : Hid (Onl (Or1 m S) wq w' ∧ Mch w' m s' ov' mem iv ∧ J' w') := ⟨hx1, hx2, hx3⟩; clear hx1 hx2 hx3))
    exact Ex.mk (Rt.mk HX.out)
  rintro _ wv ⟨rfl, hx1, hx2, hx3⟩
  simp only [Exit.then]
  have HO : Hid (Onl (Or1 m S) W wv) := (Onl.of_below HD.out.below).trans hx1
  have MV : Hid (Mch wv m s' ov' mem iv) := hx2
  have HK : Hid (J' wv) := hx3
  clear hx1 hx2 hx3
  go_wp2
  go_ret
  exact ⟨rfl, HO.out, MV.out, HK.out⟩
set_option maxHeartbeats 2000000 in
set_option maxRecDepth 20000 in
theorem do47_l14 {W : World} {m mem : Nat} {s s' : Sx} {ov ov' iv : Value} {S : Nat → Prop} {J J' : World → Prop} (H : Mch W m s ov mem iv) (op im : Int) (rd r1 r2 : Nat) (v : Int) (hop : op = 14) (hd : rd < 32) (h1 : r1 < 32) (h2 : r2 < 32)
    (hS : ∀ k, S k → k < W.heap.size) (hJ : J W) (sJ : ∀ w w', Below w.heap.size w w' → J w → J w') (sK : ∀ w w', Onl (Im m) w w' → J' w → J' w')
    (hc : ∀ w, Mch w m s ov mem iv → J w → Calls Tryd.prog 61 #[.pointer (some ⟨m, 0, none⟩), .int .i64 op, .int .u64 (IntKind.u64.wrap (s.x r1 + IntKind.u64.wrap im))] w fun e w' => e = .returned (.tuple #[.int .u64 v, .int .i64 0]) ∧ Onl (Or1 m S) w w' ∧ Mch w' m s' ov' mem iv ∧ J' w') :
    Calls Tryd.prog 47 #[.pointer (some ⟨m, 0, none⟩), .agg #[.int .i64 op, .int .i64 rd, .int .i64 r1, .int .i64 r2, .int .i64 im]] W fun e w' => e = .returned (.int .i64 0) ∧ Onl (Or1 m S) W w' ∧ Mch w' m (nxt s' rd v (IntKind.u64.wrap (s.pc + 4))) ov' mem iv ∧ J' w' := by
  have SK : Hid (∀ w w', Onl (Im m) w w' → J' w → J' w') := sK
  have HC : Hid (∀ w, Mch w m s ov mem iv → J w → Calls Tryd.prog 61 #[.pointer (some ⟨m, 0, none⟩), .int .i64 op, .int .u64 (IntKind.u64.wrap (s.x r1 + IntKind.u64.wrap im))] w fun e w' => e = .returned (.tuple #[.int .u64 v, .int .i64 0]) ∧ Onl (Or1 m S) w w' ∧ Mch w' m s' ov' mem iv ∧ J' w') := hc
  have HJ : Hid (J W) := hJ
  have SJ : Hid (∀ w w', Below w.heap.size w w' → J w → J w') := sJ
  clear hc hJ sJ sK
  have n2 : (op == 2) = false := by subst hop; rfl
  have n1 : (op == 1) = false := by subst hop; rfl
  have n3 : (op == 3) = false := by subst hop; rfl
  have n4 : (op == 4) = false := by subst hop; rfl
  have n5 : (op == 5) = false := by subst hop; rfl
  have n6 : (op == 6) = false := by subst hop; rfl
  have n7 : (op == 7) = false := by subst hop; rfl
  have n8 : (op == 8) = false := by subst hop; rfl
  have n9 : (op == 9) = false := by subst hop; rfl
  have n10 : (op == 10) = false := by subst hop; rfl
  have n11 : (op == 11) = false := by subst hop; rfl
  have n12 : (op == 12) = false := by subst hop; rfl
  have n13 : (op == 13) = false := by subst hop; rfl
  have y14 : (op == 14) = true := by subst hop; rfl
  have hs := H.lt
  have h0 := H.pc
  have k1 := H.reg r1 h1
  have k2 := H.reg r2 h2
  have g1 : (r1 : Int) < 32 := by omega
  have g2 : (r2 : Int) < 32 := by omega
  have g3 : (rd : Int) < 32 := by omega
  have HM : Hid (Mch W m s ov mem iv) := H
  clear H hop
  go_enter Tryd.func47, Tryd.ntmps47
  go_wp2
  go_quiet (fail)
  have hD := Dq.new W op rd r1 r2 im nq
  generalize (W.alloc (.cells #[.int .i64 op, .int .i64 rd, .int .i64 r1, .int .i64 r2, .int .i64 im] 91)).drewN nq = wq at *
  have HD : Hid (Dq W wq op rd r1 r2 im) := hD
  have MQ : Hid (Mch wq m s ov mem iv) := HM.out.below hD.below
  have k0 := MQ.out.pc
  have d0 := hD.c0
  have d1 := hD.c1
  have hz := hD.below.size
  clear hD h0 k1 k2
  go_upto_block 0 with fail
  have HJQ : Hid (J wq) := SJ.out _ _ HD.out.below HJ.out
  apply cut_r (R := Rt _ (fun v => Onl (Or1 m S) wq v ∧ Mch v m s' ov' mem iv ∧ J' v))
  · apply blk_ex
    iterate 5 (apply seq_ex; apply blk_by (by decide))
    apply seq_to (W := wq)
    · apply blk_catch
      iterate 5 (apply seq_exit; apply blk_pass (by decide))
      go_wp2_with fail
      exact At.mk
    go_wp2_with ((go_at_call 61; refine (HC.out _ MQ.out HJQ.out).mono ?_; rintro e w' ⟨rfl, hx1, hx2, hx3⟩; have HX : Hid (Onl (Or1 m S) wq w' ∧ Mch w' m s' ov' mem iv ∧ J' w') := ⟨hx1, hx2, hx3⟩; clear hx1 hx2 hx3))
    exact Ex.mk (Rt.mk HX.out)
  rintro _ wv ⟨rfl, hx1, hx2, hx3⟩
  simp only [Exit.then]
  have HO : Hid (Onl (Or1 m S) W wv) := (Onl.of_below HD.out.below).trans hx1
  have MV : Hid (Mch wv m s' ov' mem iv) := hx2
  have HK : Hid (J' wv) := hx3
  have d1 : wv.cell? ⟨W.heap.size, 1, none⟩ = some (.int .i64 rd) := by
    have t := hx1.block W.heap.size (lt_of_cell d1) (fun h => h.elim (fun e => by omega) (fun h => Nat.lt_irrefl _ (hS _ h)))
    have d := d1
    simp only [World.cell?, t] at d ⊢
    exact d
  have kr := MV.out.reg rd hd
  have fr := MV.out.fz (1 + rd)
  have hz2 := hx1.size
  clear hx1 hx2 hx3 d0 k0
  go_wp2
  go_region
  have HV : Hid (Onl (Im m) wv (wv.setCell ⟨m, 1 + rd, none⟩ (.int .u64 v)).drew) := ((Onl.of_below (Below.refl _ _)).set Im.self).drew
  have MZ : Hid (Mch (wv.setCell ⟨m, 1 + rd, none⟩ (.int .u64 v)).drew m { s' with x := upd s'.x rd v } ov' mem iv) := (MV.out.setReg rd hd v).below (Below.refl _ _).drew
  generalize (wv.setCell ⟨m, 1 + rd, none⟩ (.int .u64 v)).drew = wz at *
  have p0 := MZ.out.pc
  have p1 : wz.cell? ⟨m, 1, none⟩ = some (.int .u64 (upd s'.x rd v 0)) := MZ.out.reg 0 (by omega)
  have pst := MZ.out.st
  have f0 := MZ.out.fz 0
  have f1 := MZ.out.fz 1
  have f33 := MZ.out.fz 33
  clear kr fr d1
  go_wp2
  go_ret
  have hq := ((HV.out.set (o := 1) (v := .int .u64 0) Im.self).set (o := 0) (v := .int .u64 (IntKind.u64.wrap (s.pc + 4))) Im.self).set (o := 33) (v := .int .i64 (wrap64 (s'.st + 1))) Im.self
  exact ⟨rfl, HO.out.trans (hq.mono fun i hi => .inl hi), ((MZ.out.setReg 0 (by omega) 0).setPc _).setSt _, SK.out _ _ hq HK.out⟩
set_option maxHeartbeats 2000000 in
set_option maxRecDepth 20000 in
theorem do47_l14f {W : World} {m mem : Nat} {s s' : Sx} {ov ov' iv : Value} {S : Nat → Prop} {J J' : World → Prop} (H : Mch W m s ov mem iv) (op im : Int) (rd r1 r2 : Nat) (v : Int) (f : Int) (hf : ¬ f = 0) (hop : op = 14) (hd : rd < 32) (h1 : r1 < 32) (h2 : r2 < 32)
    (_hS : ∀ k, S k → k < W.heap.size) (hJ : J W) (sJ : ∀ w w', Below w.heap.size w w' → J w → J w') 
    (hc : ∀ w, Mch w m s ov mem iv → J w → Calls Tryd.prog 61 #[.pointer (some ⟨m, 0, none⟩), .int .i64 op, .int .u64 (IntKind.u64.wrap (s.x r1 + IntKind.u64.wrap im))] w fun e w' => e = .returned (.tuple #[.int .u64 v, .int .i64 f]) ∧ Onl (Or1 m S) w w' ∧ Mch w' m s' ov' mem iv ∧ J' w') :
    Calls Tryd.prog 47 #[.pointer (some ⟨m, 0, none⟩), .agg #[.int .i64 op, .int .i64 rd, .int .i64 r1, .int .i64 r2, .int .i64 im]] W fun e w' => e = .returned (.int .i64 f) ∧ Onl (Or1 m S) W w' ∧ Mch w' m s' ov' mem iv ∧ J' w' := by
  have hf0 : (f == 0) = false := by simpa using hf
  have hf1 : (f != 0) = true := by simpa using hf
  have HC : Hid (∀ w, Mch w m s ov mem iv → J w → Calls Tryd.prog 61 #[.pointer (some ⟨m, 0, none⟩), .int .i64 op, .int .u64 (IntKind.u64.wrap (s.x r1 + IntKind.u64.wrap im))] w fun e w' => e = .returned (.tuple #[.int .u64 v, .int .i64 f]) ∧ Onl (Or1 m S) w w' ∧ Mch w' m s' ov' mem iv ∧ J' w') := hc
  have HJ : Hid (J W) := hJ
  have SJ : Hid (∀ w w', Below w.heap.size w w' → J w → J w') := sJ
  clear hc hJ sJ hf
  have n2 : (op == 2) = false := by subst hop; rfl
  have n1 : (op == 1) = false := by subst hop; rfl
  have n3 : (op == 3) = false := by subst hop; rfl
  have n4 : (op == 4) = false := by subst hop; rfl
  have n5 : (op == 5) = false := by subst hop; rfl
  have n6 : (op == 6) = false := by subst hop; rfl
  have n7 : (op == 7) = false := by subst hop; rfl
  have n8 : (op == 8) = false := by subst hop; rfl
  have n9 : (op == 9) = false := by subst hop; rfl
  have n10 : (op == 10) = false := by subst hop; rfl
  have n11 : (op == 11) = false := by subst hop; rfl
  have n12 : (op == 12) = false := by subst hop; rfl
  have n13 : (op == 13) = false := by subst hop; rfl
  have y14 : (op == 14) = true := by subst hop; rfl
  have hs := H.lt
  have h0 := H.pc
  have k1 := H.reg r1 h1
  have k2 := H.reg r2 h2
  have g1 : (r1 : Int) < 32 := by omega
  have g2 : (r2 : Int) < 32 := by omega
  have g3 : (rd : Int) < 32 := by omega
  have HM : Hid (Mch W m s ov mem iv) := H
  clear H hop
  go_enter Tryd.func47, Tryd.ntmps47
  go_wp2
  go_quiet (fail)
  have hD := Dq.new W op rd r1 r2 im nq
  generalize (W.alloc (.cells #[.int .i64 op, .int .i64 rd, .int .i64 r1, .int .i64 r2, .int .i64 im] 91)).drewN nq = wq at *
  have HD : Hid (Dq W wq op rd r1 r2 im) := hD
  have MQ : Hid (Mch wq m s ov mem iv) := HM.out.below hD.below
  have k0 := MQ.out.pc
  have d0 := hD.c0
  have d1 := hD.c1
  have hz := hD.below.size
  clear hD h0 k1 k2
  go_upto_block 0 with fail
  have HJQ : Hid (J wq) := SJ.out _ _ HD.out.below HJ.out
  apply cut_r (R := Rt _ (fun v => Onl (Or1 m S) wq v ∧ Mch v m s' ov' mem iv ∧ J' v))
  · apply blk_ex
    iterate 5 (apply seq_ex; apply blk_by (by decide))
    apply seq_to (W := wq)
    · apply blk_catch
      iterate 5 (apply seq_exit; apply blk_pass (by decide))
      go_wp2_with fail
      exact At.mk
    go_wp2_with ((go_at_call 61; refine (HC.out _ MQ.out HJQ.out).mono ?_; rintro e w' ⟨rfl, hx1, hx2, hx3⟩; have HX : Hid (Onl (Or1 m S) wq w' ∧ Mch w' m s' ov' mem iv ∧ J' w') := ⟨hx1, hx2, hx3⟩; clear hx1 hx2 hx3))
    exact Ex.mk (Rt.mk HX.out)
  rintro _ wv ⟨rfl, hx1, hx2, hx3⟩
  simp only [Exit.then]
  have HO : Hid (Onl (Or1 m S) W wv) := (Onl.of_below HD.out.below).trans hx1
  have MV : Hid (Mch wv m s' ov' mem iv) := hx2
  have HK : Hid (J' wv) := hx3
  clear hx1 hx2 hx3
  go_wp2
  go_ret
  exact ⟨rfl, HO.out, MV.out, HK.out⟩
set_option maxHeartbeats 2000000 in
set_option maxRecDepth 20000 in
theorem do47_l15 {W : World} {m mem : Nat} {s s' : Sx} {ov ov' iv : Value} {S : Nat → Prop} {J J' : World → Prop} (H : Mch W m s ov mem iv) (op im : Int) (rd r1 r2 : Nat) (v : Int) (hop : op = 15) (hd : rd < 32) (h1 : r1 < 32) (h2 : r2 < 32)
    (hS : ∀ k, S k → k < W.heap.size) (hJ : J W) (sJ : ∀ w w', Below w.heap.size w w' → J w → J w') (sK : ∀ w w', Onl (Im m) w w' → J' w → J' w')
    (hc : ∀ w, Mch w m s ov mem iv → J w → Calls Tryd.prog 61 #[.pointer (some ⟨m, 0, none⟩), .int .i64 op, .int .u64 (IntKind.u64.wrap (s.x r1 + IntKind.u64.wrap im))] w fun e w' => e = .returned (.tuple #[.int .u64 v, .int .i64 0]) ∧ Onl (Or1 m S) w w' ∧ Mch w' m s' ov' mem iv ∧ J' w') :
    Calls Tryd.prog 47 #[.pointer (some ⟨m, 0, none⟩), .agg #[.int .i64 op, .int .i64 rd, .int .i64 r1, .int .i64 r2, .int .i64 im]] W fun e w' => e = .returned (.int .i64 0) ∧ Onl (Or1 m S) W w' ∧ Mch w' m (nxt s' rd v (IntKind.u64.wrap (s.pc + 4))) ov' mem iv ∧ J' w' := by
  have SK : Hid (∀ w w', Onl (Im m) w w' → J' w → J' w') := sK
  have HC : Hid (∀ w, Mch w m s ov mem iv → J w → Calls Tryd.prog 61 #[.pointer (some ⟨m, 0, none⟩), .int .i64 op, .int .u64 (IntKind.u64.wrap (s.x r1 + IntKind.u64.wrap im))] w fun e w' => e = .returned (.tuple #[.int .u64 v, .int .i64 0]) ∧ Onl (Or1 m S) w w' ∧ Mch w' m s' ov' mem iv ∧ J' w') := hc
  have HJ : Hid (J W) := hJ
  have SJ : Hid (∀ w w', Below w.heap.size w w' → J w → J w') := sJ
  clear hc hJ sJ sK
  have n2 : (op == 2) = false := by subst hop; rfl
  have n1 : (op == 1) = false := by subst hop; rfl
  have n3 : (op == 3) = false := by subst hop; rfl
  have n4 : (op == 4) = false := by subst hop; rfl
  have n5 : (op == 5) = false := by subst hop; rfl
  have n6 : (op == 6) = false := by subst hop; rfl
  have n7 : (op == 7) = false := by subst hop; rfl
  have n8 : (op == 8) = false := by subst hop; rfl
  have n9 : (op == 9) = false := by subst hop; rfl
  have n10 : (op == 10) = false := by subst hop; rfl
  have n11 : (op == 11) = false := by subst hop; rfl
  have n12 : (op == 12) = false := by subst hop; rfl
  have n13 : (op == 13) = false := by subst hop; rfl
  have n14 : (op == 14) = false := by subst hop; rfl
  have y15 : (op == 15) = true := by subst hop; rfl
  have hs := H.lt
  have h0 := H.pc
  have k1 := H.reg r1 h1
  have k2 := H.reg r2 h2
  have g1 : (r1 : Int) < 32 := by omega
  have g2 : (r2 : Int) < 32 := by omega
  have g3 : (rd : Int) < 32 := by omega
  have HM : Hid (Mch W m s ov mem iv) := H
  clear H hop
  go_enter Tryd.func47, Tryd.ntmps47
  go_wp2
  go_quiet (fail)
  have hD := Dq.new W op rd r1 r2 im nq
  generalize (W.alloc (.cells #[.int .i64 op, .int .i64 rd, .int .i64 r1, .int .i64 r2, .int .i64 im] 91)).drewN nq = wq at *
  have HD : Hid (Dq W wq op rd r1 r2 im) := hD
  have MQ : Hid (Mch wq m s ov mem iv) := HM.out.below hD.below
  have k0 := MQ.out.pc
  have d0 := hD.c0
  have d1 := hD.c1
  have hz := hD.below.size
  clear hD h0 k1 k2
  go_upto_block 0 with fail
  have HJQ : Hid (J wq) := SJ.out _ _ HD.out.below HJ.out
  apply cut_r (R := Rt _ (fun v => Onl (Or1 m S) wq v ∧ Mch v m s' ov' mem iv ∧ J' v))
  · apply blk_ex
    iterate 5 (apply seq_ex; apply blk_by (by decide))
    apply seq_to (W := wq)
    · apply blk_catch
      iterate 5 (apply seq_exit; apply blk_pass (by decide))
      go_wp2_with fail
      exact At.mk
    go_wp2_with ((go_at_call 61; refine (HC.out _ MQ.out HJQ.out).mono ?_; rintro e w' ⟨rfl, hx1, hx2, hx3⟩; have HX : Hid (Onl (Or1 m S) wq w' ∧ Mch w' m s' ov' mem iv ∧ J' w') := ⟨hx1, hx2, hx3⟩; clear hx1 hx2 hx3))
    exact Ex.mk (Rt.mk HX.out)
  rintro _ wv ⟨rfl, hx1, hx2, hx3⟩
  simp only [Exit.then]
  have HO : Hid (Onl (Or1 m S) W wv) := (Onl.of_below HD.out.below).trans hx1
  have MV : Hid (Mch wv m s' ov' mem iv) := hx2
  have HK : Hid (J' wv) := hx3
  have d1 : wv.cell? ⟨W.heap.size, 1, none⟩ = some (.int .i64 rd) := by
    have t := hx1.block W.heap.size (lt_of_cell d1) (fun h => h.elim (fun e => by omega) (fun h => Nat.lt_irrefl _ (hS _ h)))
    have d := d1
    simp only [World.cell?, t] at d ⊢
    exact d
  have kr := MV.out.reg rd hd
  have fr := MV.out.fz (1 + rd)
  have hz2 := hx1.size
  clear hx1 hx2 hx3 d0 k0
  go_wp2
  go_region
  have HV : Hid (Onl (Im m) wv (wv.setCell ⟨m, 1 + rd, none⟩ (.int .u64 v)).drew) := ((Onl.of_below (Below.refl _ _)).set Im.self).drew
  have MZ : Hid (Mch (wv.setCell ⟨m, 1 + rd, none⟩ (.int .u64 v)).drew m { s' with x := upd s'.x rd v } ov' mem iv) := (MV.out.setReg rd hd v).below (Below.refl _ _).drew
  generalize (wv.setCell ⟨m, 1 + rd, none⟩ (.int .u64 v)).drew = wz at *
  have p0 := MZ.out.pc
  have p1 : wz.cell? ⟨m, 1, none⟩ = some (.int .u64 (upd s'.x rd v 0)) := MZ.out.reg 0 (by omega)
  have pst := MZ.out.st
  have f0 := MZ.out.fz 0
  have f1 := MZ.out.fz 1
  have f33 := MZ.out.fz 33
  clear kr fr d1
  go_wp2
  go_ret
  have hq := ((HV.out.set (o := 1) (v := .int .u64 0) Im.self).set (o := 0) (v := .int .u64 (IntKind.u64.wrap (s.pc + 4))) Im.self).set (o := 33) (v := .int .i64 (wrap64 (s'.st + 1))) Im.self
  exact ⟨rfl, HO.out.trans (hq.mono fun i hi => .inl hi), ((MZ.out.setReg 0 (by omega) 0).setPc _).setSt _, SK.out _ _ hq HK.out⟩
set_option maxHeartbeats 2000000 in
set_option maxRecDepth 20000 in
theorem do47_l15f {W : World} {m mem : Nat} {s s' : Sx} {ov ov' iv : Value} {S : Nat → Prop} {J J' : World → Prop} (H : Mch W m s ov mem iv) (op im : Int) (rd r1 r2 : Nat) (v : Int) (f : Int) (hf : ¬ f = 0) (hop : op = 15) (hd : rd < 32) (h1 : r1 < 32) (h2 : r2 < 32)
    (_hS : ∀ k, S k → k < W.heap.size) (hJ : J W) (sJ : ∀ w w', Below w.heap.size w w' → J w → J w') 
    (hc : ∀ w, Mch w m s ov mem iv → J w → Calls Tryd.prog 61 #[.pointer (some ⟨m, 0, none⟩), .int .i64 op, .int .u64 (IntKind.u64.wrap (s.x r1 + IntKind.u64.wrap im))] w fun e w' => e = .returned (.tuple #[.int .u64 v, .int .i64 f]) ∧ Onl (Or1 m S) w w' ∧ Mch w' m s' ov' mem iv ∧ J' w') :
    Calls Tryd.prog 47 #[.pointer (some ⟨m, 0, none⟩), .agg #[.int .i64 op, .int .i64 rd, .int .i64 r1, .int .i64 r2, .int .i64 im]] W fun e w' => e = .returned (.int .i64 f) ∧ Onl (Or1 m S) W w' ∧ Mch w' m s' ov' mem iv ∧ J' w' := by
  have hf0 : (f == 0) = false := by simpa using hf
  have hf1 : (f != 0) = true := by simpa using hf
  have HC : Hid (∀ w, Mch w m s ov mem iv → J w → Calls Tryd.prog 61 #[.pointer (some ⟨m, 0, none⟩), .int .i64 op, .int .u64 (IntKind.u64.wrap (s.x r1 + IntKind.u64.wrap im))] w fun e w' => e = .returned (.tuple #[.int .u64 v, .int .i64 f]) ∧ Onl (Or1 m S) w w' ∧ Mch w' m s' ov' mem iv ∧ J' w') := hc
  have HJ : Hid (J W) := hJ
  have SJ : Hid (∀ w w', Below w.heap.size w w' → J w → J w') := sJ
  clear hc hJ sJ hf
  have n2 : (op == 2) = false := by subst hop; rfl
  have n1 : (op == 1) = false := by subst hop; rfl
  have n3 : (op == 3) = false := by subst hop; rfl
  have n4 : (op == 4) = false := by subst hop; rfl
  have n5 : (op == 5) = false := by subst hop; rfl
  have n6 : (op == 6) = false := by subst hop; rfl
  have n7 : (op == 7) = false := by subst hop; rfl
  have n8 : (op == 8) = false := by subst hop; rfl
  have n9 : (op == 9) = false := by subst hop; rfl
  have n10 : (op == 10) = false := by subst hop; rfl
  have n11 : (op == 11) = false := by subst hop; rfl
  have n12 : (op == 12) = false := by subst hop; rfl
  have n13 : (op == 13) = false := by subst hop; rfl
  have n14 : (op == 14) = false := by subst hop; rfl
  have y15 : (op == 15) = true := by subst hop; rfl
  have hs := H.lt
  have h0 := H.pc
  have k1 := H.reg r1 h1
  have k2 := H.reg r2 h2
  have g1 : (r1 : Int) < 32 := by omega
  have g2 : (r2 : Int) < 32 := by omega
  have g3 : (rd : Int) < 32 := by omega
  have HM : Hid (Mch W m s ov mem iv) := H
  clear H hop
  go_enter Tryd.func47, Tryd.ntmps47
  go_wp2
  go_quiet (fail)
  have hD := Dq.new W op rd r1 r2 im nq
  generalize (W.alloc (.cells #[.int .i64 op, .int .i64 rd, .int .i64 r1, .int .i64 r2, .int .i64 im] 91)).drewN nq = wq at *
  have HD : Hid (Dq W wq op rd r1 r2 im) := hD
  have MQ : Hid (Mch wq m s ov mem iv) := HM.out.below hD.below
  have k0 := MQ.out.pc
  have d0 := hD.c0
  have d1 := hD.c1
  have hz := hD.below.size
  clear hD h0 k1 k2
  go_upto_block 0 with fail
  have HJQ : Hid (J wq) := SJ.out _ _ HD.out.below HJ.out
  apply cut_r (R := Rt _ (fun v => Onl (Or1 m S) wq v ∧ Mch v m s' ov' mem iv ∧ J' v))
  · apply blk_ex
    iterate 5 (apply seq_ex; apply blk_by (by decide))
    apply seq_to (W := wq)
    · apply blk_catch
      iterate 5 (apply seq_exit; apply blk_pass (by decide))
      go_wp2_with fail
      exact At.mk
    go_wp2_with ((go_at_call 61; refine (HC.out _ MQ.out HJQ.out).mono ?_; rintro e w' ⟨rfl, hx1, hx2, hx3⟩; have HX : Hid (Onl (Or1 m S) wq w' ∧ Mch w' m s' ov' mem iv ∧ J' w') := ⟨hx1, hx2, hx3⟩; clear hx1 hx2 hx3))
    exact Ex.mk (Rt.mk HX.out)
  rintro _ wv ⟨rfl, hx1, hx2, hx3⟩
  simp only [Exit.then]
  have HO : Hid (Onl (Or1 m S) W wv) := (Onl.of_below HD.out.below).trans hx1
  have MV : Hid (Mch wv m s' ov' mem iv) := hx2
  have HK : Hid (J' wv) := hx3
  clear hx1 hx2 hx3
  go_wp2
  go_ret
  exact ⟨rfl, HO.out, MV.out, HK.out⟩
set_option maxHeartbeats 2000000 in
set_option maxRecDepth 20000 in
theorem do47_l16 {W : World} {m mem : Nat} {s s' : Sx} {ov ov' iv : Value} {S : Nat → Prop} {J J' : World → Prop} (H : Mch W m s ov mem iv) (op im : Int) (rd r1 r2 : Nat) (v : Int) (hop : op = 16) (hd : rd < 32) (h1 : r1 < 32) (h2 : r2 < 32)
    (hS : ∀ k, S k → k < W.heap.size) (hJ : J W) (sJ : ∀ w w', Below w.heap.size w w' → J w → J w') (sK : ∀ w w', Onl (Im m) w w' → J' w → J' w')
    (hc : ∀ w, Mch w m s ov mem iv → J w → Calls Tryd.prog 61 #[.pointer (some ⟨m, 0, none⟩), .int .i64 op, .int .u64 (IntKind.u64.wrap (s.x r1 + IntKind.u64.wrap im))] w fun e w' => e = .returned (.tuple #[.int .u64 v, .int .i64 0]) ∧ Onl (Or1 m S) w w' ∧ Mch w' m s' ov' mem iv ∧ J' w') :
    Calls Tryd.prog 47 #[.pointer (some ⟨m, 0, none⟩), .agg #[.int .i64 op, .int .i64 rd, .int .i64 r1, .int .i64 r2, .int .i64 im]] W fun e w' => e = .returned (.int .i64 0) ∧ Onl (Or1 m S) W w' ∧ Mch w' m (nxt s' rd v (IntKind.u64.wrap (s.pc + 4))) ov' mem iv ∧ J' w' := by
  have SK : Hid (∀ w w', Onl (Im m) w w' → J' w → J' w') := sK
  have HC : Hid (∀ w, Mch w m s ov mem iv → J w → Calls Tryd.prog 61 #[.pointer (some ⟨m, 0, none⟩), .int .i64 op, .int .u64 (IntKind.u64.wrap (s.x r1 + IntKind.u64.wrap im))] w fun e w' => e = .returned (.tuple #[.int .u64 v, .int .i64 0]) ∧ Onl (Or1 m S) w w' ∧ Mch w' m s' ov' mem iv ∧ J' w') := hc
  have HJ : Hid (J W) := hJ
  have SJ : Hid (∀ w w', Below w.heap.size w w' → J w → J w') := sJ
  clear hc hJ sJ sK
  have n2 : (op == 2) = false := by subst hop; rfl
  have n1 : (op == 1) = false := by subst hop; rfl
  have n3 : (op == 3) = false := by subst hop; rfl
  have n4 : (op == 4) = false := by subst hop; rfl
  have n5 : (op == 5) = false := by subst hop; rfl
  have n6 : (op == 6) = false := by subst hop; rfl
  have n7 : (op == 7) = false := by subst hop; rfl
  have n8 : (op == 8) = false := by subst hop; rfl
  have n9 : (op == 9) = false := by subst hop; rfl
  have n10 : (op == 10) = false := by subst hop; rfl
  have n11 : (op == 11) = false := by subst hop; rfl
  have n12 : (op == 12) = false := by subst hop; rfl
  have n13 : (op == 13) = false := by subst hop; rfl
  have n14 : (op == 14) = false := by subst hop; rfl
  have n15 : (op == 15) = false := by subst hop; rfl
  have y16 : (op == 16) = true := by subst hop; rfl
  have hs := H.lt
  have h0 := H.pc
  have k1 := H.reg r1 h1
  have k2 := H.reg r2 h2
  have g1 : (r1 : Int) < 32 := by omega
  have g2 : (r2 : Int) < 32 := by omega
  have g3 : (rd : Int) < 32 := by omega
  have HM : Hid (Mch W m s ov mem iv) := H
  clear H hop
  go_enter Tryd.func47, Tryd.ntmps47
  go_wp2
  go_quiet (fail)
  have hD := Dq.new W op rd r1 r2 im nq
  generalize (W.alloc (.cells #[.int .i64 op, .int .i64 rd, .int .i64 r1, .int .i64 r2, .int .i64 im] 91)).drewN nq = wq at *
  have HD : Hid (Dq W wq op rd r1 r2 im) := hD
  have MQ : Hid (Mch wq m s ov mem iv) := HM.out.below hD.below
  have k0 := MQ.out.pc
  have d0 := hD.c0
  have d1 := hD.c1
  have hz := hD.below.size
  clear hD h0 k1 k2
  go_upto_block 0 with fail
  have HJQ : Hid (J wq) := SJ.out _ _ HD.out.below HJ.out
  apply cut_r (R := Rt _ (fun v => Onl (Or1 m S) wq v ∧ Mch v m s' ov' mem iv ∧ J' v))
  · apply blk_ex
    iterate 5 (apply seq_ex; apply blk_by (by decide))
    apply seq_to (W := wq)
    · apply blk_catch
      iterate 5 (apply seq_exit; apply blk_pass (by decide))
      go_wp2_with fail
      exact At.mk
    go_wp2_with ((go_at_call 61; refine (HC.out _ MQ.out HJQ.out).mono ?_; rintro e w' ⟨rfl, hx1, hx2, hx3⟩; have HX : Hid (Onl (Or1 m S) wq w' ∧ Mch w' m s' ov' mem iv ∧ J' w') := ⟨hx1, hx2, hx3⟩; clear hx1 hx2 hx3))
    exact Ex.mk (Rt.mk HX.out)
  rintro _ wv ⟨rfl, hx1, hx2, hx3⟩
  simp only [Exit.then]
  have HO : Hid (Onl (Or1 m S) W wv) := (Onl.of_below HD.out.below).trans hx1
  have MV : Hid (Mch wv m s' ov' mem iv) := hx2
  have HK : Hid (J' wv) := hx3
  have d1 : wv.cell? ⟨W.heap.size, 1, none⟩ = some (.int .i64 rd) := by
    have t := hx1.block W.heap.size (lt_of_cell d1) (fun h => h.elim (fun e => by omega) (fun h => Nat.lt_irrefl _ (hS _ h)))
    have d := d1
    simp only [World.cell?, t] at d ⊢
    exact d
  have kr := MV.out.reg rd hd
  have fr := MV.out.fz (1 + rd)
  have hz2 := hx1.size
  clear hx1 hx2 hx3 d0 k0
  go_wp2
  go_region
  have HV : Hid (Onl (Im m) wv (wv.setCell ⟨m, 1 + rd, none⟩ (.int .u64 v)).drew) := ((Onl.of_below (Below.refl _ _)).set Im.self).drew
  have MZ : Hid (Mch (wv.setCell ⟨m, 1 + rd, none⟩ (.int .u64 v)).drew m { s' with x := upd s'.x rd v } ov' mem iv) := (MV.out.setReg rd hd v).below (Below.refl _ _).drew
  generalize (wv.setCell ⟨m, 1 + rd, none⟩ (.int .u64 v)).drew = wz at *
  have p0 := MZ.out.pc
  have p1 : wz.cell? ⟨m, 1, none⟩ = some (.int .u64 (upd s'.x rd v 0)) := MZ.out.reg 0 (by omega)
  have pst := MZ.out.st
  have f0 := MZ.out.fz 0
  have f1 := MZ.out.fz 1
  have f33 := MZ.out.fz 33
  clear kr fr d1
  go_wp2
  go_ret
  have hq := ((HV.out.set (o := 1) (v := .int .u64 0) Im.self).set (o := 0) (v := .int .u64 (IntKind.u64.wrap (s.pc + 4))) Im.self).set (o := 33) (v := .int .i64 (wrap64 (s'.st + 1))) Im.self
  exact ⟨rfl, HO.out.trans (hq.mono fun i hi => .inl hi), ((MZ.out.setReg 0 (by omega) 0).setPc _).setSt _, SK.out _ _ hq HK.out⟩
set_option maxHeartbeats 2000000 in
set_option maxRecDepth 20000 in
theorem do47_l16f {W : World} {m mem : Nat} {s s' : Sx} {ov ov' iv : Value} {S : Nat → Prop} {J J' : World → Prop} (H : Mch W m s ov mem iv) (op im : Int) (rd r1 r2 : Nat) (v : Int) (f : Int) (hf : ¬ f = 0) (hop : op = 16) (hd : rd < 32) (h1 : r1 < 32) (h2 : r2 < 32)
    (_hS : ∀ k, S k → k < W.heap.size) (hJ : J W) (sJ : ∀ w w', Below w.heap.size w w' → J w → J w') 
    (hc : ∀ w, Mch w m s ov mem iv → J w → Calls Tryd.prog 61 #[.pointer (some ⟨m, 0, none⟩), .int .i64 op, .int .u64 (IntKind.u64.wrap (s.x r1 + IntKind.u64.wrap im))] w fun e w' => e = .returned (.tuple #[.int .u64 v, .int .i64 f]) ∧ Onl (Or1 m S) w w' ∧ Mch w' m s' ov' mem iv ∧ J' w') :
    Calls Tryd.prog 47 #[.pointer (some ⟨m, 0, none⟩), .agg #[.int .i64 op, .int .i64 rd, .int .i64 r1, .int .i64 r2, .int .i64 im]] W fun e w' => e = .returned (.int .i64 f) ∧ Onl (Or1 m S) W w' ∧ Mch w' m s' ov' mem iv ∧ J' w' := by
  have hf0 : (f == 0) = false := by simpa using hf
  have hf1 : (f != 0) = true := by simpa using hf
  have HC : Hid (∀ w, Mch w m s ov mem iv → J w → Calls Tryd.prog 61 #[.pointer (some ⟨m, 0, none⟩), .int .i64 op, .int .u64 (IntKind.u64.wrap (s.x r1 + IntKind.u64.wrap im))] w fun e w' => e = .returned (.tuple #[.int .u64 v, .int .i64 f]) ∧ Onl (Or1 m S) w w' ∧ Mch w' m s' ov' mem iv ∧ J' w') := hc
  have HJ : Hid (J W) := hJ
  have SJ : Hid (∀ w w', Below w.heap.size w w' → J w → J w') := sJ
  clear hc hJ sJ hf
  have n2 : (op == 2) = false := by subst hop; rfl
  have n1 : (op == 1) = false := by subst hop; rfl
  have n3 : (op == 3) = false := by subst hop; rfl
  have n4 : (op == 4) = false := by subst hop; rfl
  have n5 : (op == 5) = false := by subst hop; rfl
  have n6 : (op == 6) = false := by subst hop; rfl
  have n7 : (op == 7) = false := by subst hop; rfl
  have n8 : (op == 8) = false := by subst hop; rfl
  have n9 : (op == 9) = false := by subst hop; rfl
  have n10 : (op == 10) = false := by subst hop; rfl
  have n11 : (op == 11) = false := by subst hop; rfl
  have n12 : (op == 12) = false := by subst hop; rfl
  have n13 : (op == 13) = false := by subst hop; rfl
  have n14 : (op == 14) = false := by subst hop; rfl
  have n15 : (op == 15) = false := by subst hop; rfl
  have y16 : (op == 16) = true := by subst hop; rfl
  have hs := H.lt
  have h0 := H.pc
  have k1 := H.reg r1 h1
  have k2 := H.reg r2 h2
  have g1 : (r1 : Int) < 32 := by omega
  have g2 : (r2 : Int) < 32 := by omega
  have g3 : (rd : Int) < 32 := by omega
  have HM : Hid (Mch W m s ov mem iv) := H
  clear H hop
  go_enter Tryd.func47, Tryd.ntmps47
  go_wp2
  go_quiet (fail)
  have hD := Dq.new W op rd r1 r2 im nq
  generalize (W.alloc (.cells #[.int .i64 op, .int .i64 rd, .int .i64 r1, .int .i64 r2, .int .i64 im] 91)).drewN nq = wq at *
  have HD : Hid (Dq W wq op rd r1 r2 im) := hD
  have MQ : Hid (Mch wq m s ov mem iv) := HM.out.below hD.below
  have k0 := MQ.out.pc
  have d0 := hD.c0
  have d1 := hD.c1
  have hz := hD.below.size
  clear hD h0 k1 k2
  go_upto_block 0 with fail
  have HJQ : Hid (J wq) := SJ.out _ _ HD.out.below HJ.out
  apply cut_r (R := Rt _ (fun v => Onl (Or1 m S) wq v ∧ Mch v m s' ov' mem iv ∧ J' v))
  · apply blk_ex
    iterate 5 (apply seq_ex; apply blk_by (by decide))
    apply seq_to (W := wq)
    · apply blk_catch
      iterate 5 (apply seq_exit; apply blk_pass (by decide))
      go_wp2_with fail
      exact At.mk
    go_wp2_with ((go_at_call 61; refine (HC.out _ MQ.out HJQ.out).mono ?_; rintro e w' ⟨rfl, hx1, hx2, hx3⟩; have HX : Hid (Onl (Or1 m S) wq w' ∧ Mch w' m s' ov' mem iv ∧ J' w') := ⟨hx1, hx2, hx3⟩; clear hx1 hx2 hx3))
    exact Ex.mk (Rt.mk HX.out)
  rintro _ wv ⟨rfl, hx1, hx2, hx3⟩
  simp only [Exit.then]
  have HO : Hid (Onl (Or1 m S) W wv) := (Onl.of_below HD.out.below).trans hx1
  have MV : Hid (Mch wv m s' ov' mem iv) := hx2
  have HK : Hid (J' wv) := hx3
  clear hx1 hx2 hx3
  go_wp2
  go_ret
  exact ⟨rfl, HO.out, MV.out, HK.out⟩
set_option maxHeartbeats 2000000 in
set_option maxRecDepth 20000 in
theorem do47_l17 {W : World} {m mem : Nat} {s s' : Sx} {ov ov' iv : Value} {S : Nat → Prop} {J J' : World → Prop} (H : Mch W m s ov mem iv) (op im : Int) (rd r1 r2 : Nat) (v : Int) (hop : op = 17) (hd : rd < 32) (h1 : r1 < 32) (h2 : r2 < 32)
    (hS : ∀ k, S k → k < W.heap.size) (hJ : J W) (sJ : ∀ w w', Below w.heap.size w w' → J w → J w') (sK : ∀ w w', Onl (Im m) w w' → J' w → J' w')
    (hc : ∀ w, Mch w m s ov mem iv → J w → Calls Tryd.prog 61 #[.pointer (some ⟨m, 0, none⟩), .int .i64 op, .int .u64 (IntKind.u64.wrap (s.x r1 + IntKind.u64.wrap im))] w fun e w' => e = .returned (.tuple #[.int .u64 v, .int .i64 0]) ∧ Onl (Or1 m S) w w' ∧ Mch w' m s' ov' mem iv ∧ J' w') :
    Calls Tryd.prog 47 #[.pointer (some ⟨m, 0, none⟩), .agg #[.int .i64 op, .int .i64 rd, .int .i64 r1, .int .i64 r2, .int .i64 im]] W fun e w' => e = .returned (.int .i64 0) ∧ Onl (Or1 m S) W w' ∧ Mch w' m (nxt s' rd v (IntKind.u64.wrap (s.pc + 4))) ov' mem iv ∧ J' w' := by
  have SK : Hid (∀ w w', Onl (Im m) w w' → J' w → J' w') := sK
  have HC : Hid (∀ w, Mch w m s ov mem iv → J w → Calls Tryd.prog 61 #[.pointer (some ⟨m, 0, none⟩), .int .i64 op, .int .u64 (IntKind.u64.wrap (s.x r1 + IntKind.u64.wrap im))] w fun e w' => e = .returned (.tuple #[.int .u64 v, .int .i64 0]) ∧ Onl (Or1 m S) w w' ∧ Mch w' m s' ov' mem iv ∧ J' w') := hc
  have HJ : Hid (J W) := hJ
  have SJ : Hid (∀ w w', Below w.heap.size w w' → J w → J w') := sJ
  clear hc hJ sJ sK
  have n2 : (op == 2) = false := by subst hop; rfl
  have n1 : (op == 1) = false := by subst hop; rfl
  have n3 : (op == 3) = false := by subst hop; rfl
  have n4 : (op == 4) = false := by subst hop; rfl
  have n5 : (op == 5) = false := by subst hop; rfl
  have n6 : (op == 6) = false := by subst hop; rfl
  have n7 : (op == 7) = false := by subst hop; rfl
  have n8 : (op == 8) = false := by subst hop; rfl
  have n9 : (op == 9) = false := by subst hop; rfl
  have n10 : (op == 10) = false := by subst hop; rfl
  have n11 : (op == 11) = false := by subst hop; rfl
  have n12 : (op == 12) = false := by subst hop; rfl
  have n13 : (op == 13) = false := by subst hop; rfl
  have n14 : (op == 14) = false := by subst hop; rfl
  have n15 : (op == 15) = false := by subst hop; rfl
  have n16 : (op == 16) = false := by subst hop; rfl
  have y17 : (op == 17) = true := by subst hop; rfl
  have hs := H.lt
  have h0 := H.pc
  have k1 := H.reg r1 h1
  have k2 := H.reg r2 h2
  have g1 : (r1 : Int) < 32 := by omega
  have g2 : (r2 : Int) < 32 := by omega
  have g3 : (rd : Int) < 32 := by omega
  have HM : Hid (Mch W m s ov mem iv) := H
  clear H hop
  go_enter Tryd.func47, Tryd.ntmps47
  go_wp2
  go_quiet (fail)
  have hD := Dq.new W op rd r1 r2 im nq
  generalize (W.alloc (.cells #[.int .i64 op, .int .i64 rd, .int .i64 r1, .int .i64 r2, .int .i64 im] 91)).drewN nq = wq at *
  have HD : Hid (Dq W wq op rd r1 r2 im) := hD
  have MQ : Hid (Mch wq m s ov mem iv) := HM.out.below hD.below
  have k0 := MQ.out.pc
  have d0 := hD.c0
  have d1 := hD.c1
  have hz := hD.below.size
  clear hD h0 k1 k2
  go_upto_block 0 with fail
  have HJQ : Hid (J wq) := SJ.out _ _ HD.out.below HJ.out
  apply cut_r (R := Rt _ (fun v => Onl (Or1 m S) wq v ∧ Mch v m s' ov' mem iv ∧ J' v))
  · apply blk_ex
    iterate 5 (apply seq_ex; apply blk_by (by decide))
    apply seq_to (W := wq)
    · apply blk_catch
      iterate 5 (apply seq_exit; apply blk_pass (by decide))
      go_wp2_with fail
      exact At.mk
    go_wp2_with ((go_at_call 61; refine (HC.out _ MQ.out HJQ.out).mono ?_; rintro e w' ⟨rfl, hx1, hx2, hx3⟩; have HX : Hid (Onl (Or1 m S) wq w' ∧ Mch w' m s' ov' mem iv ∧ J' w') := ⟨hx1, hx2, hx3⟩; clear hx1 hx2 hx3))
    exact Ex.mk (Rt.mk HX.out)
  rintro _ wv ⟨rfl, hx1, hx2, hx3⟩
  simp only [Exit.then]
  have HO : Hid (Onl (Or1 m S) W wv) := (Onl.of_below HD.out.below).trans hx1
  have MV : Hid (Mch wv m s' ov' mem iv) := hx2
  have HK : Hid (J' wv) := hx3
  have d1 : wv.cell? ⟨W.heap.size, 1, none⟩ = some (.int .i64 rd) := by
    have t := hx1.block W.heap.size (lt_of_cell d1) (fun h => h.elim (fun e => by omega) (fun h => Nat.lt_irrefl _ (hS _ h)))
    have d := d1
    simp only [World.cell?, t] at d ⊢
    exact d
  have kr := MV.out.reg rd hd
  have fr := MV.out.fz (1 + rd)
  have hz2 := hx1.size
  clear hx1 hx2 hx3 d0 k0
  go_wp2
  go_region
  have HV : Hid (Onl (Im m) wv (wv.setCell ⟨m, 1 + rd, none⟩ (.int .u64 v)).drew) := ((Onl.of_below (Below.refl _ _)).set Im.self).drew
  have MZ : Hid (Mch (wv.setCell ⟨m, 1 + rd, none⟩ (.int .u64 v)).drew m { s' with x := upd s'.x rd v } ov' mem iv) := (MV.out.setReg rd hd v).below (Below.refl _ _).drew
  generalize (wv.setCell ⟨m, 1 + rd, none⟩ (.int .u64 v)).drew = wz at *
  have p0 := MZ.out.pc
  have p1 : wz.cell? ⟨m, 1, none⟩ = some (.int .u64 (upd s'.x rd v 0)) := MZ.out.reg 0 (by omega)
  have pst := MZ.out.st
  have f0 := MZ.out.fz 0
  have f1 := MZ.out.fz 1
  have f33 := MZ.out.fz 33
  clear kr fr d1
  go_wp2
  go_ret
  have hq := ((HV.out.set (o := 1) (v := .int .u64 0) Im.self).set (o := 0) (v := .int .u64 (IntKind.u64.wrap (s.pc + 4))) Im.self).set (o := 33) (v := .int .i64 (wrap64 (s'.st + 1))) Im.self
  exact ⟨rfl, HO.out.trans (hq.mono fun i hi => .inl hi), ((MZ.out.setReg 0 (by omega) 0).setPc _).setSt _, SK.out _ _ hq HK.out⟩
set_option maxHeartbeats 2000000 in
set_option maxRecDepth 20000 in
theorem do47_l17f {W : World} {m mem : Nat} {s s' : Sx} {ov ov' iv : Value} {S : Nat → Prop} {J J' : World → Prop} (H : Mch W m s ov mem iv) (op im : Int) (rd r1 r2 : Nat) (v : Int) (f : Int) (hf : ¬ f = 0) (hop : op = 17) (hd : rd < 32) (h1 : r1 < 32) (h2 : r2 < 32)
    (_hS : ∀ k, S k → k < W.heap.size) (hJ : J W) (sJ : ∀ w w', Below w.heap.size w w' → J w → J w') 
    (hc : ∀ w, Mch w m s ov mem iv → J w → Calls Tryd.prog 61 #[.pointer (some ⟨m, 0, none⟩), .int .i64 op, .int .u64 (IntKind.u64.wrap (s.x r1 + IntKind.u64.wrap im))] w fun e w' => e = .returned (.tuple #[.int .u64 v, .int .i64 f]) ∧ Onl (Or1 m S) w w' ∧ Mch w' m s' ov' mem iv ∧ J' w') :
    Calls Tryd.prog 47 #[.pointer (some ⟨m, 0, none⟩), .agg #[.int .i64 op, .int .i64 rd, .int .i64 r1, .int .i64 r2, .int .i64 im]] W fun e w' => e = .returned (.int .i64 f) ∧ Onl (Or1 m S) W w' ∧ Mch w' m s' ov' mem iv ∧ J' w' := by
  have hf0 : (f == 0) = false := by simpa using hf
  have hf1 : (f != 0) = true := by simpa using hf
  have HC : Hid (∀ w, Mch w m s ov mem iv → J w → Calls Tryd.prog 61 #[.pointer (some ⟨m, 0, none⟩), .int .i64 op, .int .u64 (IntKind.u64.wrap (s.x r1 + IntKind.u64.wrap im))] w fun e w' => e = .returned (.tuple #[.int .u64 v, .int .i64 f]) ∧ Onl (Or1 m S) w w' ∧ Mch w' m s' ov' mem iv ∧ J' w') := hc
  have HJ : Hid (J W) := hJ
  have SJ : Hid (∀ w w', Below w.heap.size w w' → J w → J w') := sJ
  clear hc hJ sJ hf
  have n2 : (op == 2) = false := by subst hop; rfl
  have n1 : (op == 1) = false := by subst hop; rfl
  have n3 : (op == 3) = false := by subst hop; rfl
  have n4 : (op == 4) = false := by subst hop; rfl
  have n5 : (op == 5) = false := by subst hop; rfl
  have n6 : (op == 6) = false := by subst hop; rfl
  have n7 : (op == 7) = false := by subst hop; rfl
  have n8 : (op == 8) = false := by subst hop; rfl
  have n9 : (op == 9) = false := by subst hop; rfl
  have n10 : (op == 10) = false := by subst hop; rfl
  have n11 : (op == 11) = false := by subst hop; rfl
  have n12 : (op == 12) = false := by subst hop; rfl
  have n13 : (op == 13) = false := by subst hop; rfl
  have n14 : (op == 14) = false := by subst hop; rfl
  have n15 : (op == 15) = false := by subst hop; rfl
  have n16 : (op == 16) = false := by subst hop; rfl
  have y17 : (op == 17) = true := by subst hop; rfl
  have hs := H.lt
  have h0 := H.pc
  have k1 := H.reg r1 h1
  have k2 := H.reg r2 h2
  have g1 : (r1 : Int) < 32 := by omega
  have g2 : (r2 : Int) < 32 := by omega
  have g3 : (rd : Int) < 32 := by omega
  have HM : Hid (Mch W m s ov mem iv) := H
  clear H hop
  go_enter Tryd.func47, Tryd.ntmps47
  go_wp2
  go_quiet (fail)
  have hD := Dq.new W op rd r1 r2 im nq
  generalize (W.alloc (.cells #[.int .i64 op, .int .i64 rd, .int .i64 r1, .int .i64 r2, .int .i64 im] 91)).drewN nq = wq at *
  have HD : Hid (Dq W wq op rd r1 r2 im) := hD
  have MQ : Hid (Mch wq m s ov mem iv) := HM.out.below hD.below
  have k0 := MQ.out.pc
  have d0 := hD.c0
  have d1 := hD.c1
  have hz := hD.below.size
  clear hD h0 k1 k2
  go_upto_block 0 with fail
  have HJQ : Hid (J wq) := SJ.out _ _ HD.out.below HJ.out
  apply cut_r (R := Rt _ (fun v => Onl (Or1 m S) wq v ∧ Mch v m s' ov' mem iv ∧ J' v))
  · apply blk_ex
    iterate 5 (apply seq_ex; apply blk_by (by decide))
    apply seq_to (W := wq)
    · apply blk_catch
      iterate 5 (apply seq_exit; apply blk_pass (by decide))
      go_wp2_with fail
      exact At.mk
    go_wp2_with ((go_at_call 61; refine (HC.out _ MQ.out HJQ.out).mono ?_; rintro e w' ⟨rfl, hx1, hx2, hx3⟩; have HX : Hid (Onl (Or1 m S) wq w' ∧ Mch w' m s' ov' mem iv ∧ J' w') := ⟨hx1, hx2, hx3⟩; clear hx1 hx2 hx3))
    exact Ex.mk (Rt.mk HX.out)
  rintro _ wv ⟨rfl, hx1, hx2, hx3⟩
  simp only [Exit.then]
  have HO : Hid (Onl (Or1 m S) W wv) := (Onl.of_below HD.out.below).trans hx1
  have MV : Hid (Mch wv m s' ov' mem iv) := hx2
  have HK : Hid (J' wv) := hx3
  clear hx1 hx2 hx3
  go_wp2
  go_ret
  exact ⟨rfl, HO.out, MV.out, HK.out⟩
end Go.Proofs.YtnmpbihpoefeoaaDoor
