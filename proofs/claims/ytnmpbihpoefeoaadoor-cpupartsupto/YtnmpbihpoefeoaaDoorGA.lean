/- A machine at whatever state: what its block holds; small rules on codes that end one way. What an instruction does to a machine at whatever state. -/
import Derived.Test.YtnmpbihpoefeoaaDoorCA
import Derived.Test.YtnmpbihpoefeoaaDoorVB
import Derived.Deep.CutBlock
namespace Go.Proofs.YtnmpbihpoefeoaaDoor
section
open Go.RowKit Go.Shelf
/-- A code ends this way, and then this holds. -/
def Ex (e : Exit) (R : Act → World → Prop) : Exit → Act → World → Prop := fun e' a' w' => e' = e ∧ R a' w'
theorem Ex.mk {e : Exit} {R : Act → World → Prop} {A : Act} {W : World} (h : R A W) : Ex e R e A W := ⟨rfl, h⟩
theorem seq_r {P : Program} {x y : Code} {Q : Exit → Act → World → Prop} {R : Act → World → Prop} {a : Act} {w : World} (h : x.wp P (Ex .normal R) a w) (k : ∀ A W, R A W → y.wp P Q A W) : (Code.seq x y).wp P Q a w :=
  wp_seq (wp_mono h fun _ _ _ q => by obtain ⟨rfl, q⟩ := q; exact k _ _ q)
theorem seq_ex {P : Program} {x y : Code} {n : Nat} {R : Act → World → Prop} {a : Act} {w : World} (h : x.wp P (Ex (.exit n) R) a w) : (Code.seq x y).wp P (Ex (.exit n) R) a w :=
  wp_seq (wp_mono h fun _ _ _ q => by obtain ⟨rfl, q⟩ := q; exact Ex.mk q)
theorem blk_ex {P : Program} {c : Code} {n : Nat} {R : Act → World → Prop} {a : Act} {w : World} (h : c.wp P (Ex (.exit n) R) a w) : (Code.block n c).wp P (Ex .normal R) a w :=
  wp_block (wp_mono h fun _ _ _ q => by obtain ⟨rfl, q⟩ := q; simp only [Exit.inBlock, if_true]; exact Ex.mk q)
theorem blk_by {P : Program} {c : Code} {j n : Nat} {R : Act → World → Prop} {a : Act} {w : World} (hn : n ≠ j) (h : c.wp P (Ex (.exit n) R) a w) : (Code.block j c).wp P (Ex (.exit n) R) a w :=
  wp_block (wp_mono h fun _ _ _ q => by obtain ⟨rfl, q⟩ := q; simp only [Exit.inBlock, hn, if_false]; exact Ex.mk q)
/-- What a machine has, but for its memory and where its output lies. -/
structure Sx where
  pc : Int
  x : Nat → Int
  st : Int
  h : Bool
  code : Int
  ft : Int
  inn : Int
/-- The machine lies in a block. -/
structure Mch (W : World) (m : Nat) (s : Sx) (ov : Value) (mem : Nat) (iv : Value) : Prop where
  blk : ∃ cs, W.heap[m]? = some (Obj.cells cs 72 (0, 0)) ∧ cs.size = 41
  pc : W.cell? ⟨m, 0, none⟩ = some (.int .u64 s.pc)
  reg : ∀ r, r < 32 → W.cell? ⟨m, 1 + r, none⟩ = some (.int .u64 (s.x r))
  st : W.cell? ⟨m, 33, none⟩ = some (.int .i64 s.st)
  h : W.cell? ⟨m, 34, none⟩ = some (.bool s.h)
  code : W.cell? ⟨m, 35, none⟩ = some (.int .i64 s.code)
  ft : W.cell? ⟨m, 36, none⟩ = some (.int .i64 s.ft)
  out : W.cell? ⟨m, 37, none⟩ = some ov
  inn : W.cell? ⟨m, 38, none⟩ = some (.int .i64 s.inn)
  mem : W.cell? ⟨m, 39, none⟩ = some (.pointer (some ⟨mem, 0, none⟩))
  iv : W.cell? ⟨m, 40, none⟩ = some iv
theorem Mch.lt {W : World} {m : Nat} {s : Sx} {ov : Value} {mem : Nat} {iv : Value} (H : Mch W m s ov mem iv) : m < W.heap.size := by obtain ⟨cs, h, _⟩ := H.blk; exact lt_of_some h
theorem Mch.fz {W : World} {m : Nat} {s : Sx} {ov : Value} {mem : Nat} {iv : Value} (H : Mch W m s ov mem iv) (o : Nat) : W.frozen? ⟨m, o, none⟩ = false := by
  obtain ⟨cs, h, _⟩ := H.blk
  simp only [World.frozen?, h]
  simp
/-- Where a block stays the machine in it does. -/
theorem Mch.keep {W W' : World} {m : Nat} {s : Sx} {ov : Value} {mem : Nat} {iv : Value} (H : Mch W m s ov mem iv) (e : W'.heap[m]? = W.heap[m]?) : Mch W' m s ov mem iv := by
  have c : ∀ o, W'.cell? ⟨m, o, none⟩ = W.cell? ⟨m, o, none⟩ := fun o => by simp only [World.cell?, e]
  obtain ⟨cs, h, hs⟩ := H.blk
  exact ⟨⟨cs, e.trans h, hs⟩, (c 0).trans H.pc, fun r hr => (c _).trans (H.reg r hr), (c 33).trans H.st, (c 34).trans H.h, (c 35).trans H.code, (c 36).trans H.ft, (c 37).trans H.out, (c 38).trans H.inn, (c 39).trans H.mem, (c 40).trans H.iv⟩
theorem Mch.below {W W' : World} {m : Nat} {s : Sx} {ov : Value} {mem : Nat} {iv : Value} (H : Mch W m s ov mem iv) (hb : Below W.heap.size W W') : Mch W' m s ov mem iv := H.keep (hb.block m H.lt)
/-- A cell of the machine's block is set. -/
theorem set_same {W : World} {m o : Nat} {v : Value} {cs : Array Value} (h : W.heap[m]? = some (Obj.cells cs 72 (0, 0))) (ho : o < cs.size) : (W.setCell ⟨m, o, none⟩ v).cell? ⟨m, o, none⟩ = some v := by
  simp only [World.cell?, cells_set o v h]
  simp [ho]
theorem set_other {W : World} {m o p : Nat} {v : Value} {cs : Array Value} (h : W.heap[m]? = some (Obj.cells cs 72 (0, 0))) (ho : o ≠ p) : (W.setCell ⟨m, o, none⟩ v).cell? ⟨m, p, none⟩ = W.cell? ⟨m, p, none⟩ := by
  simp only [World.cell?, cells_set o v h, h]
  simp [ho]
theorem Mch.setBlk {W : World} {m : Nat} {s : Sx} {ov : Value} {mem : Nat} {iv : Value} (H : Mch W m s ov mem iv) (o : Nat) (v : Value) : ∃ cs, (W.setCell ⟨m, o, none⟩ v).heap[m]? = some (Obj.cells cs 72 (0, 0)) ∧ cs.size = 41 := by
  obtain ⟨cs, h, hs⟩ := H.blk
  exact ⟨_, cells_set o v h, by simpa using hs⟩
theorem Mch.setPc {W : World} {m : Nat} {s : Sx} {ov : Value} {mem : Nat} {iv : Value} (H : Mch W m s ov mem iv) (v : Int) : Mch (W.setCell ⟨m, 0, none⟩ (.int .u64 v)) m { s with pc := v } ov mem iv := by
  obtain ⟨cs, h, hs⟩ := H.blk
  have c : ∀ o, o ≠ 0 → (W.setCell ⟨m, 0, none⟩ (.int .u64 v)).cell? ⟨m, o, none⟩ = W.cell? ⟨m, o, none⟩ := fun o ho => set_other h (Ne.symm ho)
  exact ⟨H.setBlk _ _, set_same h (by omega), fun r hr => (c _ (by omega)).trans (H.reg r hr), (c 33 (by omega)).trans H.st, (c 34 (by omega)).trans H.h, (c 35 (by omega)).trans H.code, (c 36 (by omega)).trans H.ft, (c 37 (by omega)).trans H.out, (c 38 (by omega)).trans H.inn, (c 39 (by omega)).trans H.mem, (c 40 (by omega)).trans H.iv⟩
def upd (x : Nat → Int) (r : Nat) (v : Int) : Nat → Int := fun k => if k = r then v else x k
theorem Mch.setReg {W : World} {m : Nat} {s : Sx} {ov : Value} {mem : Nat} {iv : Value} (H : Mch W m s ov mem iv) (r : Nat) (hr : r < 32) (v : Int) : Mch (W.setCell ⟨m, 1 + r, none⟩ (.int .u64 v)) m { s with x := upd s.x r v } ov mem iv := by
  obtain ⟨cs, h, hs⟩ := H.blk
  have c : ∀ o, o ≠ 1 + r → (W.setCell ⟨m, 1 + r, none⟩ (.int .u64 v)).cell? ⟨m, o, none⟩ = W.cell? ⟨m, o, none⟩ := fun o ho => set_other h (Ne.symm ho)
  refine ⟨H.setBlk _ _, (c 0 (by omega)).trans H.pc, fun k hk => ?_, (c 33 (by omega)).trans H.st, (c 34 (by omega)).trans H.h, (c 35 (by omega)).trans H.code, (c 36 (by omega)).trans H.ft, (c 37 (by omega)).trans H.out, (c 38 (by omega)).trans H.inn, (c 39 (by omega)).trans H.mem, (c 40 (by omega)).trans H.iv⟩
  by_cases e : k = r
  · subst e; simp only [upd, if_true]; exact set_same h (by omega)
  · simp only [upd, e, if_false]; exact (c _ (by omega)).trans (H.reg k hk)
theorem Mch.setSt {W : World} {m : Nat} {s : Sx} {ov : Value} {mem : Nat} {iv : Value} (H : Mch W m s ov mem iv) (v : Int) : Mch (W.setCell ⟨m, 33, none⟩ (.int .i64 v)) m { s with st := v } ov mem iv := by
  obtain ⟨cs, h, hs⟩ := H.blk
  have c : ∀ o, o ≠ 33 → (W.setCell ⟨m, 33, none⟩ (.int .i64 v)).cell? ⟨m, o, none⟩ = W.cell? ⟨m, o, none⟩ := fun o ho => set_other h (Ne.symm ho)
  exact ⟨H.setBlk _ _, (c 0 (by omega)).trans H.pc, fun r hr => (c _ (by omega)).trans (H.reg r hr), set_same h (by omega), (c 34 (by omega)).trans H.h, (c 35 (by omega)).trans H.code, (c 36 (by omega)).trans H.ft, (c 37 (by omega)).trans H.out, (c 38 (by omega)).trans H.inn, (c 39 (by omega)).trans H.mem, (c 40 (by omega)).trans H.iv⟩
theorem Mch.setH {W : World} {m : Nat} {s : Sx} {ov : Value} {mem : Nat} {iv : Value} (H : Mch W m s ov mem iv) (v : Bool) : Mch (W.setCell ⟨m, 34, none⟩ (.bool v)) m { s with h := v } ov mem iv := by
  obtain ⟨cs, h, hs⟩ := H.blk
  have c : ∀ o, o ≠ 34 → (W.setCell ⟨m, 34, none⟩ (.bool v)).cell? ⟨m, o, none⟩ = W.cell? ⟨m, o, none⟩ := fun o ho => set_other h (Ne.symm ho)
  exact ⟨H.setBlk _ _, (c 0 (by omega)).trans H.pc, fun r hr => (c _ (by omega)).trans (H.reg r hr), (c 33 (by omega)).trans H.st, set_same h (by omega), (c 35 (by omega)).trans H.code, (c 36 (by omega)).trans H.ft, (c 37 (by omega)).trans H.out, (c 38 (by omega)).trans H.inn, (c 39 (by omega)).trans H.mem, (c 40 (by omega)).trans H.iv⟩
theorem Mch.setCode {W : World} {m : Nat} {s : Sx} {ov : Value} {mem : Nat} {iv : Value} (H : Mch W m s ov mem iv) (v : Int) : Mch (W.setCell ⟨m, 35, none⟩ (.int .i64 v)) m { s with code := v } ov mem iv := by
  obtain ⟨cs, h, hs⟩ := H.blk
  have c : ∀ o, o ≠ 35 → (W.setCell ⟨m, 35, none⟩ (.int .i64 v)).cell? ⟨m, o, none⟩ = W.cell? ⟨m, o, none⟩ := fun o ho => set_other h (Ne.symm ho)
  exact ⟨H.setBlk _ _, (c 0 (by omega)).trans H.pc, fun r hr => (c _ (by omega)).trans (H.reg r hr), (c 33 (by omega)).trans H.st, (c 34 (by omega)).trans H.h, set_same h (by omega), (c 36 (by omega)).trans H.ft, (c 37 (by omega)).trans H.out, (c 38 (by omega)).trans H.inn, (c 39 (by omega)).trans H.mem, (c 40 (by omega)).trans H.iv⟩
theorem Mch.setFt {W : World} {m : Nat} {s : Sx} {ov : Value} {mem : Nat} {iv : Value} (H : Mch W m s ov mem iv) (v : Int) : Mch (W.setCell ⟨m, 36, none⟩ (.int .i64 v)) m { s with ft := v } ov mem iv := by
  obtain ⟨cs, h, hs⟩ := H.blk
  have c : ∀ o, o ≠ 36 → (W.setCell ⟨m, 36, none⟩ (.int .i64 v)).cell? ⟨m, o, none⟩ = W.cell? ⟨m, o, none⟩ := fun o ho => set_other h (Ne.symm ho)
  exact ⟨H.setBlk _ _, (c 0 (by omega)).trans H.pc, fun r hr => (c _ (by omega)).trans (H.reg r hr), (c 33 (by omega)).trans H.st, (c 34 (by omega)).trans H.h, (c 35 (by omega)).trans H.code, set_same h (by omega), (c 37 (by omega)).trans H.out, (c 38 (by omega)).trans H.inn, (c 39 (by omega)).trans H.mem, (c 40 (by omega)).trans H.iv⟩
theorem Mch.setOut {W : World} {m : Nat} {s : Sx} {ov : Value} {mem : Nat} {iv : Value} (H : Mch W m s ov mem iv) (v : Value) : Mch (W.setCell ⟨m, 37, none⟩ v) m s v mem iv := by
  obtain ⟨cs, h, hs⟩ := H.blk
  have c : ∀ o, o ≠ 37 → (W.setCell ⟨m, 37, none⟩ v).cell? ⟨m, o, none⟩ = W.cell? ⟨m, o, none⟩ := fun o ho => set_other h (Ne.symm ho)
  exact ⟨H.setBlk _ _, (c 0 (by omega)).trans H.pc, fun r hr => (c _ (by omega)).trans (H.reg r hr), (c 33 (by omega)).trans H.st, (c 34 (by omega)).trans H.h, (c 35 (by omega)).trans H.code, (c 36 (by omega)).trans H.ft, set_same h (by omega), (c 38 (by omega)).trans H.inn, (c 39 (by omega)).trans H.mem, (c 40 (by omega)).trans H.iv⟩
theorem Mch.setInn {W : World} {m : Nat} {s : Sx} {ov : Value} {mem : Nat} {iv : Value} (H : Mch W m s ov mem iv) (v : Int) : Mch (W.setCell ⟨m, 38, none⟩ (.int .i64 v)) m { s with inn := v } ov mem iv := by
  obtain ⟨cs, h, hs⟩ := H.blk
  have c : ∀ o, o ≠ 38 → (W.setCell ⟨m, 38, none⟩ (.int .i64 v)).cell? ⟨m, o, none⟩ = W.cell? ⟨m, o, none⟩ := fun o ho => set_other h (Ne.symm ho)
  exact ⟨H.setBlk _ _, (c 0 (by omega)).trans H.pc, fun r hr => (c _ (by omega)).trans (H.reg r hr), (c 33 (by omega)).trans H.st, (c 34 (by omega)).trans H.h, (c 35 (by omega)).trans H.code, (c 36 (by omega)).trans H.ft, (c 37 (by omega)).trans H.out, set_same h (by omega), (c 39 (by omega)).trans H.mem, (c 40 (by omega)).trans H.iv⟩
/-- All blocks stay but those of S. -/
structure Onl (S : Nat → Prop) (w W : World) : Prop where
  os : W.os = w.os
  tape : W.tape = w.tape
  output : W.output = w.output
  size : w.heap.size ≤ W.heap.size
  block : ∀ k, k < w.heap.size → ¬ S k → W.heap[k]? = w.heap[k]?
theorem Onl.of_below {S : Nat → Prop} {w W : World} (h : Below w.heap.size w W) : Onl S w W := ⟨h.os, h.tape, h.output, h.size, fun k hk _ => h.block k hk⟩
theorem Onl.trans {S : Nat → Prop} {w W W' : World} (h : Onl S w W) (k : Onl S W W') : Onl S w W' := ⟨k.os.trans h.os, k.tape.trans h.tape, k.output.trans h.output, Nat.le_trans h.size k.size, fun i hi hx => (k.block i (Nat.lt_of_lt_of_le hi h.size) hx).trans (h.block i hi hx)⟩
theorem Onl.mono {S T : Nat → Prop} {w W : World} (h : Onl S w W) (k : ∀ i, S i → T i) : Onl T w W := ⟨h.os, h.tape, h.output, h.size, fun i hi hx => h.block i hi (fun s => hx (k i s))⟩
theorem Onl.set {S : Nat → Prop} {w W : World} (h : Onl S w W) {b o : Nat} {v : Value} (hb : S b) : Onl S w (W.setCell ⟨b, o, none⟩ v) :=
  h.trans (by have hg := grown_set W b o v; exact ⟨hg.os, hg.tape, hg.output, hg.size, fun k hk hx => hg.block k hk (fun e => hx (by cases e; exact hb))⟩)
theorem Onl.drew {S : Nat → Prop} {w W : World} (h : Onl S w W) : Onl S w W.drew := h.trans (Onl.of_below (Below.refl _ W).drew)
end
section
open Go.RowKit Go.Shelf
theorem cut_at {P : Program} {c : Code} {Q : Exit → Act → World → Prop} {a A : Act} {w W : World} (h : c.wp P (At .normal A W) a w) (k : Q .normal A W) : c.wp P Q a w :=
  wp_mono h fun _ _ _ q => by obtain ⟨rfl, rfl, rfl⟩ := q; exact k
theorem cut_r {P : Program} {c : Code} {Q : Exit → Act → World → Prop} {R : Act → World → Prop} {a : Act} {w : World} (h : c.wp P (Ex .normal R) a w) (k : ∀ A W, R A W → Q .normal A W) : c.wp P Q a w :=
  wp_mono h fun _ _ _ q => by obtain ⟨rfl, q⟩ := q; exact k _ _ q
def Im (m : Nat) : Nat → Prop := fun k => k = m
theorem Im.self {m : Nat} : Im m m := rfl
/-- A register set, the way on, one step more. -/
def nxt (s : Sx) (rd : Nat) (v pc : Int) : Sx := { s with x := upd (upd s.x rd v) 0 0, pc := pc, st := wrap64 (s.st + 1) }
/-- The act, and the world but for draws. -/
def Rd (A : Act) (w : World) : Act → World → Prop := fun a v => a = A ∧ ∃ n, v = w.drewN n
theorem Rd.mk {A : Act} {w : World} (n : Nat) : Rd A w A (w.drewN n) := ⟨rfl, n, rfl⟩
/-- The act, and of the world this. -/
def Rt (A : Act) (T : World → Prop) : Act → World → Prop := fun a v => a = A ∧ T v
theorem Rt.mk {A : Act} {T : World → Prop} {v : World} (h : T v) : Rt A T A v := ⟨rfl, h⟩
def Or1 (m : Nat) (S : Nat → Prop) : Nat → Prop := fun k => k = m ∨ S k
theorem Or1.self {m : Nat} {S : Nat → Prop} : Or1 m S m := .inl rfl
set_option maxHeartbeats 2000000 in
set_option maxRecDepth 20000 in
theorem do47_lui {W : World} {m mem : Nat} {s : Sx} {ov iv : Value} (H : Mch W m s ov mem iv) (op im : Int) (rd r1 r2 : Nat) (hop : op = 1) (hd : rd < 32) (h1 : r1 < 32) (h2 : r2 < 32) : Calls Tryd.prog 47 #[.pointer (some ⟨m, 0, none⟩), .agg #[.int .i64 op, .int .i64 rd, .int .i64 r1, .int .i64 r2, .int .i64 im]] W fun e w' => e = .returned (.int .i64 0) ∧ Onl (Im m) W w' ∧ Mch w' m (nxt s rd (IntKind.u64.wrap (IntKind.u64.wrap (IntKind.u64.wrap im * 4096))) (IntKind.u64.wrap (s.pc + 4))) ov mem iv := by
  have n2 : (op == 2) = false := by subst hop; rfl
  have y1 : (op == 1) = true := by subst hop; rfl
  have hs := H.lt
  have h0 := H.pc
  have k1 := H.reg r1 h1
  have k2 := H.reg r2 h2
  have g1 : (r1 : Int) < 32 := by omega
  have g2 : (r2 : Int) < 32 := by omega
  have g3 : (rd : Int) < 32 := by omega
  have HM : Hid (Mch W m s ov mem iv) := H
  clear H hop
  go_enter Tryd.func47, Tryd.ntmps47
  go_wp2
  go_quiet (fail)
  have hD := Dq.new W op rd r1 r2 im nq
  generalize (W.alloc (.cells #[.int .i64 op, .int .i64 rd, .int .i64 r1, .int .i64 r2, .int .i64 im] 91)).drewN nq = wq at *
  have HD : Hid (Dq W wq op rd r1 r2 im) := hD
  have MQ : Hid (Mch wq m s ov mem iv) := HM.out.below hD.below
  have k0 := MQ.out.pc
  have d0 := hD.c0
  have d1 := hD.c1
  have hz := hD.below.size
  clear hD h0 k1 k2
  go_upto_block 0 with fail
  apply cut_at (W := wq)
  · apply blk_catch
    iterate 9 (apply seq_exit; apply blk_pass (by decide))
    apply seq_to (W := wq)
    · skip
      apply blk_catch
      iterate 1 (apply seq_exit; apply blk_pass (by decide))
      go_wp2_with fail
      exact At.mk
    go_wp2_with fail
    exact At.mk
  simp only [Exit.then]
  obtain ⟨v, hv⟩ : ∃ v, IntKind.u64.wrap (IntKind.u64.wrap (IntKind.u64.wrap im * 4096)) = v := ⟨_, rfl⟩
  rw [hv]
  have kr := MQ.out.reg rd hd
  have fr := MQ.out.fz (1 + rd)
  go_wp2
  go_region
  have MZ : Hid (Mch (wq.setCell ⟨m, 1 + rd, none⟩ (.int .u64 v)).drew m { s with x := upd s.x rd v } ov mem iv) := (MQ.out.setReg rd hd v).below (Below.refl _ _).drew
  have HO : Hid (Onl (Im m) W (wq.setCell ⟨m, 1 + rd, none⟩ (.int .u64 v)).drew) := ((Onl.of_below HD.out.below).set Im.self).drew
  generalize (wq.setCell ⟨m, 1 + rd, none⟩ (.int .u64 v)).drew = wz at *
  have p0 := MZ.out.pc
  have p1 : wz.cell? ⟨m, 1, none⟩ = some (.int .u64 (upd s.x rd v 0)) := MZ.out.reg 0 (by omega)
  have pst := MZ.out.st
  have f0 := MZ.out.fz 0
  have f1 := MZ.out.fz 1
  have f33 := MZ.out.fz 33
  clear kr fr k0 d0 d1
  go_wp2
  go_ret
  exact ⟨rfl, ((HO.out.set Im.self).set Im.self).set Im.self, ((MZ.out.setReg 0 (by omega) 0).setPc _).setSt _⟩
set_option maxHeartbeats 2000000 in
set_option maxRecDepth 20000 in
theorem do47_auipc {W : World} {m mem : Nat} {s : Sx} {ov iv : Value} (H : Mch W m s ov mem iv) (op im : Int) (rd r1 r2 : Nat) (hop : op = 2) (hd : rd < 32) (h1 : r1 < 32) (h2 : r2 < 32) : Calls Tryd.prog 47 #[.pointer (some ⟨m, 0, none⟩), .agg #[.int .i64 op, .int .i64 rd, .int .i64 r1, .int .i64 r2, .int .i64 im]] W fun e w' => e = .returned (.int .i64 0) ∧ Onl (Im m) W w' ∧ Mch w' m (nxt s rd (IntKind.u64.wrap (s.pc + IntKind.u64.wrap (IntKind.u64.wrap im * 4096))) (IntKind.u64.wrap (s.pc + 4))) ov mem iv := by
  have y2 : (op == 2) = true := by subst hop; rfl
  have hs := H.lt
  have h0 := H.pc
  have k1 := H.reg r1 h1
  have k2 := H.reg r2 h2
  have g1 : (r1 : Int) < 32 := by omega
  have g2 : (r2 : Int) < 32 := by omega
  have g3 : (rd : Int) < 32 := by omega
  have HM : Hid (Mch W m s ov mem iv) := H
  clear H hop
  go_enter Tryd.func47, Tryd.ntmps47
  go_wp2
  go_quiet (fail)
  have hD := Dq.new W op rd r1 r2 im nq
  generalize (W.alloc (.cells #[.int .i64 op, .int .i64 rd, .int .i64 r1, .int .i64 r2, .int .i64 im] 91)).drewN nq = wq at *
  have HD : Hid (Dq W wq op rd r1 r2 im) := hD
  have MQ : Hid (Mch wq m s ov mem iv) := HM.out.below hD.below
  have k0 := MQ.out.pc
  have d0 := hD.c0
  have d1 := hD.c1
  have hz := hD.below.size
  clear hD h0 k1 k2
  go_upto_block 0 with fail
  apply cut_at (W := wq)
  · apply blk_catch
    iterate 9 (apply seq_exit; apply blk_pass (by decide))
    apply seq_to (W := wq)
    · apply blk_norm; apply seq_to (W := wq)
      · skip
        apply blk_catch
        go_wp2_with fail
        exact At.mk
      go_wp2_with fail
      exact At.mk
    go_wp2_with fail
    exact At.mk
  simp only [Exit.then]
  obtain ⟨v, hv⟩ : ∃ v, IntKind.u64.wrap (s.pc + IntKind.u64.wrap (IntKind.u64.wrap im * 4096)) = v := ⟨_, rfl⟩
  rw [hv]
  have kr := MQ.out.reg rd hd
  have fr := MQ.out.fz (1 + rd)
  go_wp2
  go_region
  have MZ : Hid (Mch (wq.setCell ⟨m, 1 + rd, none⟩ (.int .u64 v)).drew m { s with x := upd s.x rd v } ov mem iv) := (MQ.out.setReg rd hd v).below (Below.refl _ _).drew
  have HO : Hid (Onl (Im m) W (wq.setCell ⟨m, 1 + rd, none⟩ (.int .u64 v)).drew) := ((Onl.of_below HD.out.below).set Im.self).drew
  generalize (wq.setCell ⟨m, 1 + rd, none⟩ (.int .u64 v)).drew = wz at *
  have p0 := MZ.out.pc
  have p1 : wz.cell? ⟨m, 1, none⟩ = some (.int .u64 (upd s.x rd v 0)) := MZ.out.reg 0 (by omega)
  have pst := MZ.out.st
  have f0 := MZ.out.fz 0
  have f1 := MZ.out.fz 1
  have f33 := MZ.out.fz 33
  clear kr fr k0 d0 d1
  go_wp2
  go_ret
  exact ⟨rfl, ((HO.out.set Im.self).set Im.self).set Im.self, ((MZ.out.setReg 0 (by omega) 0).setPc _).setSt _⟩
set_option maxHeartbeats 2000000 in
set_option maxRecDepth 20000 in
theorem do47_jalr {W : World} {m mem : Nat} {s : Sx} {ov iv : Value} (H : Mch W m s ov mem iv) (op im : Int) (rd r1 r2 : Nat) (hop : op = 4) (hd : rd < 32) (h1 : r1 < 32) (h2 : r2 < 32) : Calls Tryd.prog 47 #[.pointer (some ⟨m, 0, none⟩), .agg #[.int .i64 op, .int .i64 rd, .int .i64 r1, .int .i64 r2, .int .i64 im]] W fun e w' => e = .returned (.int .i64 0) ∧ Onl (Im m) W w' ∧ Mch w' m (nxt s rd (IntKind.u64.wrap (s.pc + 4)) (bits .andNot .u64 (IntKind.u64.wrap (s.x r1 + IntKind.u64.wrap im)) 1)) ov mem iv := by
  have n2 : (op == 2) = false := by subst hop; rfl
  have n1 : (op == 1) = false := by subst hop; rfl
  have n3 : (op == 3) = false := by subst hop; rfl
  have y4 : (op == 4) = true := by subst hop; rfl
  have hs := H.lt
  have h0 := H.pc
  have k1 := H.reg r1 h1
  have k2 := H.reg r2 h2
  have g1 : (r1 : Int) < 32 := by omega
  have g2 : (r2 : Int) < 32 := by omega
  have g3 : (rd : Int) < 32 := by omega
  have HM : Hid (Mch W m s ov mem iv) := H
  clear H hop
  go_enter Tryd.func47, Tryd.ntmps47
  go_wp2
  go_quiet (fail)
  have hD := Dq.new W op rd r1 r2 im nq
  generalize (W.alloc (.cells #[.int .i64 op, .int .i64 rd, .int .i64 r1, .int .i64 r2, .int .i64 im] 91)).drewN nq = wq at *
  have HD : Hid (Dq W wq op rd r1 r2 im) := hD
  have MQ : Hid (Mch wq m s ov mem iv) := HM.out.below hD.below
  have k0 := MQ.out.pc
  have d0 := hD.c0
  have d1 := hD.c1
  have hz := hD.below.size
  clear hD h0 k1 k2
  go_upto_block 0 with fail
  apply cut_at (W := wq)
  · apply blk_catch
    iterate 7 (apply seq_exit; apply blk_pass (by decide))
    apply seq_to (W := wq)
    · skip
      apply blk_catch
      iterate 3 (apply seq_exit; apply blk_pass (by decide))
      go_wp2_with fail
      exact At.mk
    go_wp2_with fail
    exact At.mk
  simp only [Exit.then]
  obtain ⟨v, hv⟩ : ∃ v, IntKind.u64.wrap (s.pc + 4) = v := ⟨_, rfl⟩
  rw [hv]
  have kr := MQ.out.reg rd hd
  have fr := MQ.out.fz (1 + rd)
  go_wp2
  go_region
  have MZ : Hid (Mch (wq.setCell ⟨m, 1 + rd, none⟩ (.int .u64 v)).drew m { s with x := upd s.x rd v } ov mem iv) := (MQ.out.setReg rd hd v).below (Below.refl _ _).drew
  have HO : Hid (Onl (Im m) W (wq.setCell ⟨m, 1 + rd, none⟩ (.int .u64 v)).drew) := ((Onl.of_below HD.out.below).set Im.self).drew
  generalize (wq.setCell ⟨m, 1 + rd, none⟩ (.int .u64 v)).drew = wz at *
  have p0 := MZ.out.pc
  have p1 : wz.cell? ⟨m, 1, none⟩ = some (.int .u64 (upd s.x rd v 0)) := MZ.out.reg 0 (by omega)
  have pst := MZ.out.st
  have f0 := MZ.out.fz 0
  have f1 := MZ.out.fz 1
  have f33 := MZ.out.fz 33
  clear kr fr k0 d0 d1
  go_wp2
  go_ret
  exact ⟨rfl, ((HO.out.set Im.self).set Im.self).set Im.self, ((MZ.out.setReg 0 (by omega) 0).setPc _).setSt _⟩
set_option maxHeartbeats 2000000 in
set_option maxRecDepth 20000 in
theorem do47_fence {W : World} {m mem : Nat} {s : Sx} {ov iv : Value} (H : Mch W m s ov mem iv) (op im : Int) (rd r1 r2 : Nat) (hop : op = 63) (hd : rd < 32) (h1 : r1 < 32) (h2 : r2 < 32) : Calls Tryd.prog 47 #[.pointer (some ⟨m, 0, none⟩), .agg #[.int .i64 op, .int .i64 rd, .int .i64 r1, .int .i64 r2, .int .i64 im]] W fun e w' => e = .returned (.int .i64 0) ∧ Onl (Im m) W w' ∧ Mch w' m (nxt s rd (0) (IntKind.u64.wrap (s.pc + 4))) ov mem iv := by
  have n2 : (op == 2) = false := by subst hop; rfl
  have n1 : (op == 1) = false := by subst hop; rfl
  have n3 : (op == 3) = false := by subst hop; rfl
  have n4 : (op == 4) = false := by subst hop; rfl
  have n5 : (op == 5) = false := by subst hop; rfl
  have n6 : (op == 6) = false := by subst hop; rfl
  have n7 : (op == 7) = false := by subst hop; rfl
  have n8 : (op == 8) = false := by subst hop; rfl
  have n9 : (op == 9) = false := by subst hop; rfl
  have n10 : (op == 10) = false := by subst hop; rfl
  have n11 : (op == 11) = false := by subst hop; rfl
  have n12 : (op == 12) = false := by subst hop; rfl
  have n13 : (op == 13) = false := by subst hop; rfl
  have n14 : (op == 14) = false := by subst hop; rfl
  have n15 : (op == 15) = false := by subst hop; rfl
  have n16 : (op == 16) = false := by subst hop; rfl
  have n17 : (op == 17) = false := by subst hop; rfl
  have n18 : (op == 18) = false := by subst hop; rfl
  have n19 : (op == 19) = false := by subst hop; rfl
  have n20 : (op == 20) = false := by subst hop; rfl
  have n21 : (op == 21) = false := by subst hop; rfl
  have y63 : (op == 63) = true := by subst hop; rfl
  have hs := H.lt
  have h0 := H.pc
  have k1 := H.reg r1 h1
  have k2 := H.reg r2 h2
  have g1 : (r1 : Int) < 32 := by omega
  have g2 : (r2 : Int) < 32 := by omega
  have g3 : (rd : Int) < 32 := by omega
  have HM : Hid (Mch W m s ov mem iv) := H
  clear H hop
  go_enter Tryd.func47, Tryd.ntmps47
  go_wp2
  go_quiet (fail)
  have hD := Dq.new W op rd r1 r2 im nq
  generalize (W.alloc (.cells #[.int .i64 op, .int .i64 rd, .int .i64 r1, .int .i64 r2, .int .i64 im] 91)).drewN nq = wq at *
  have HD : Hid (Dq W wq op rd r1 r2 im) := hD
  have MQ : Hid (Mch wq m s ov mem iv) := HM.out.below hD.below
  have k0 := MQ.out.pc
  have d0 := hD.c0
  have d1 := hD.c1
  have hz := hD.below.size
  clear hD h0 k1 k2
  go_upto_block 0 with fail
  apply cut_at (W := wq)
  · apply blk_catch
    iterate 3 (apply seq_exit; apply blk_pass (by decide))
    apply seq_to (W := wq)
    · skip
      apply blk_catch
      iterate 7 (apply seq_exit; apply blk_pass (by decide))
      go_wp2_with fail
      exact At.mk
    go_wp2_with fail
    exact At.mk
  simp only [Exit.then]
  have kr := MQ.out.reg rd hd
  have fr := MQ.out.fz (1 + rd)
  go_wp2
  go_region
  have MZ : Hid (Mch (wq.setCell ⟨m, 1 + rd, none⟩ (.int .u64 0)).drew m { s with x := upd s.x rd 0 } ov mem iv) := (MQ.out.setReg rd hd 0).below (Below.refl _ _).drew
  have HO : Hid (Onl (Im m) W (wq.setCell ⟨m, 1 + rd, none⟩ (.int .u64 0)).drew) := ((Onl.of_below HD.out.below).set Im.self).drew
  generalize (wq.setCell ⟨m, 1 + rd, none⟩ (.int .u64 0)).drew = wz at *
  have p0 := MZ.out.pc
  have p1 : wz.cell? ⟨m, 1, none⟩ = some (.int .u64 (upd s.x rd 0 0)) := MZ.out.reg 0 (by omega)
  have pst := MZ.out.st
  have f0 := MZ.out.fz 0
  have f1 := MZ.out.fz 1
  have f33 := MZ.out.fz 33
  clear kr fr k0 d0 d1
  go_wp2
  go_ret
  exact ⟨rfl, ((HO.out.set Im.self).set Im.self).set Im.self, ((MZ.out.setReg 0 (by omega) 0).setPc _).setSt _⟩
set_option maxHeartbeats 2000000 in
set_option maxRecDepth 20000 in
theorem do47_jal {W : World} {m mem : Nat} {s : Sx} {ov iv : Value} (H : Mch W m s ov mem iv) (op im : Int) (rd r1 r2 : Nat) (hop : op = 3) (hd : rd < 32) (h1 : r1 < 32) (h2 : r2 < 32) : Calls Tryd.prog 47 #[.pointer (some ⟨m, 0, none⟩), .agg #[.int .i64 op, .int .i64 rd, .int .i64 r1, .int .i64 r2, .int .i64 im]] W fun e w' => e = .returned (.int .i64 0) ∧ Onl (Im m) W w' ∧ Mch w' m (nxt s rd (IntKind.u64.wrap (s.pc + 4)) (IntKind.u64.wrap (s.pc + IntKind.u64.wrap im))) ov mem iv := by
  have n2 : (op == 2) = false := by subst hop; rfl
  have n1 : (op == 1) = false := by subst hop; rfl
  have y3 : (op == 3) = true := by subst hop; rfl
  have hs := H.lt
  have h0 := H.pc
  have k1 := H.reg r1 h1
  have k2 := H.reg r2 h2
  have g1 : (r1 : Int) < 32 := by omega
  have g2 : (r2 : Int) < 32 := by omega
  have g3 : (rd : Int) < 32 := by omega
  have HM : Hid (Mch W m s ov mem iv) := H
  clear H hop
  go_enter Tryd.func47, Tryd.ntmps47
  go_wp2
  go_quiet (fail)
  have hD := Dq.new W op rd r1 r2 im nq
  generalize (W.alloc (.cells #[.int .i64 op, .int .i64 rd, .int .i64 r1, .int .i64 r2, .int .i64 im] 91)).drewN nq = wq at *
  have HD : Hid (Dq W wq op rd r1 r2 im) := hD
  have MQ : Hid (Mch wq m s ov mem iv) := HM.out.below hD.below
  have k0 := MQ.out.pc
  have d0 := hD.c0
  have d1 := hD.c1
  have hz := hD.below.size
  clear hD h0 k1 k2
  go_upto_block 0 with fail
  apply cut_r (R := Rd _ wq)
  · apply blk_ex
    iterate 8 (apply seq_ex; apply blk_by (by decide))
    apply seq_to (W := wq)
    · apply blk_catch
      iterate 2 (apply seq_exit; apply blk_pass (by decide))
      go_wp2_with fail
      exact At.mk
    go_wp2_with fail
    go_quiet (fail)
    go_wp2_with fail
    exact Ex.mk (Rd.mk _)
  rintro _ _ ⟨rfl, n, rfl⟩
  simp only [Exit.then]
  have HD2 : Hid (Dq W (wq.drewN n) op rd r1 r2 im) := HD.out.drewN n
  clear MQ HD k0 d0 d1 hz
  generalize wq.drewN n = wq at *
  have HD := HD2
  have MQ : Hid (Mch wq m s ov mem iv) := HM.out.below HD.out.below
  have k0 := MQ.out.pc
  have d0 := HD.out.c0
  have d1 := HD.out.c1
  have hz := HD.out.below.size
  obtain ⟨v, hv⟩ : ∃ v, IntKind.u64.wrap (s.pc + 4) = v := ⟨_, rfl⟩
  rw [hv]
  have kr := MQ.out.reg rd hd
  have fr := MQ.out.fz (1 + rd)
  go_wp2
  go_region
  have MZ : Hid (Mch (wq.setCell ⟨m, 1 + rd, none⟩ (.int .u64 v)).drew m { s with x := upd s.x rd v } ov mem iv) := (MQ.out.setReg rd hd v).below (Below.refl _ _).drew
  have HO : Hid (Onl (Im m) W (wq.setCell ⟨m, 1 + rd, none⟩ (.int .u64 v)).drew) := ((Onl.of_below HD.out.below).set Im.self).drew
  generalize (wq.setCell ⟨m, 1 + rd, none⟩ (.int .u64 v)).drew = wz at *
  have p0 := MZ.out.pc
  have p1 : wz.cell? ⟨m, 1, none⟩ = some (.int .u64 (upd s.x rd v 0)) := MZ.out.reg 0 (by omega)
  have pst := MZ.out.st
  have f0 := MZ.out.fz 0
  have f1 := MZ.out.fz 1
  have f33 := MZ.out.fz 33
  clear kr fr k0 d0 d1
  go_wp2
  go_ret
  exact ⟨rfl, ((HO.out.set Im.self).set Im.self).set Im.self, ((MZ.out.setReg 0 (by omega) 0).setPc _).setSt _⟩
set_option maxHeartbeats 2000000 in
set_option maxRecDepth 20000 in
theorem do47_ebreak {W : World} {m mem : Nat} {s : Sx} {ov iv : Value} (H : Mch W m s ov mem iv) (op im : Int) (rd r1 r2 : Nat) (hop : op = 65) (hd : rd < 32) (h1 : r1 < 32) (h2 : r2 < 32) : Calls Tryd.prog 47 #[.pointer (some ⟨m, 0, none⟩), .agg #[.int .i64 op, .int .i64 rd, .int .i64 r1, .int .i64 r2, .int .i64 im]] W fun e w' => e = .returned (.int .i64 34) ∧ Onl (Im m) W w' ∧ Mch w' m s ov mem iv := by
  have n2 : (op == 2) = false := by subst hop; rfl
  have n1 : (op == 1) = false := by subst hop; rfl
  have n3 : (op == 3) = false := by subst hop; rfl
  have n4 : (op == 4) = false := by subst hop; rfl
  have n5 : (op == 5) = false := by subst hop; rfl
  have n6 : (op == 6) = false := by subst hop; rfl
  have n7 : (op == 7) = false := by subst hop; rfl
  have n8 : (op == 8) = false := by subst hop; rfl
  have n9 : (op == 9) = false := by subst hop; rfl
  have n10 : (op == 10) = false := by subst hop; rfl
  have n11 : (op == 11) = false := by subst hop; rfl
  have n12 : (op == 12) = false := by subst hop; rfl
  have n13 : (op == 13) = false := by subst hop; rfl
  have n14 : (op == 14) = false := by subst hop; rfl
  have n15 : (op == 15) = false := by subst hop; rfl
  have n16 : (op == 16) = false := by subst hop; rfl
  have n17 : (op == 17) = false := by subst hop; rfl
  have n18 : (op == 18) = false := by subst hop; rfl
  have n19 : (op == 19) = false := by subst hop; rfl
  have n20 : (op == 20) = false := by subst hop; rfl
  have n21 : (op == 21) = false := by subst hop; rfl
  have n63 : (op == 63) = false := by subst hop; rfl
  have n64 : (op == 64) = false := by subst hop; rfl
  have y65 : (op == 65) = true := by subst hop; rfl
  have hs := H.lt
  have h0 := H.pc
  have k1 := H.reg r1 h1
  have k2 := H.reg r2 h2
  have g1 : (r1 : Int) < 32 := by omega
  have g2 : (r2 : Int) < 32 := by omega
  have g3 : (rd : Int) < 32 := by omega
  have HM : Hid (Mch W m s ov mem iv) := H
  clear H hop
  go_enter Tryd.func47, Tryd.ntmps47
  go_wp2
  go_quiet (fail)
  have hD := Dq.new W op rd r1 r2 im nq
  generalize (W.alloc (.cells #[.int .i64 op, .int .i64 rd, .int .i64 r1, .int .i64 r2, .int .i64 im] 91)).drewN nq = wq at *
  have HD : Hid (Dq W wq op rd r1 r2 im) := hD
  have MQ : Hid (Mch wq m s ov mem iv) := HM.out.below hD.below
  have k0 := MQ.out.pc
  have d0 := hD.c0
  have d1 := hD.c1
  have hz := hD.below.size
  clear hD h0 k1 k2
  go_upto_block 0 with fail
  apply cut_at (W := wq)
  · apply blk_catch
    iterate 1 (apply seq_exit; apply blk_pass (by decide))
    apply seq_to (W := wq)
    · skip
      apply blk_catch
      iterate 9 (apply seq_exit; apply blk_pass (by decide))
      go_wp2_with fail
      exact At.mk
    go_wp2_with fail
    exact At.mk
  simp only [Exit.then]
  go_wp2
  go_ret
  exact ⟨rfl, Onl.of_below HD.out.below, MQ.out⟩
end
end Go.Proofs.YtnmpbihpoefeoaaDoor
