/- A machine with its memory, its input and its output; what an instruction does, plainly. Loads and stores of a machine with its memory. What an instruction does to a machine with its memory. -/
import Derived.Test.YtnmpbihpoefeoaaDoorK0
import Derived.Test.YtnmpbihpoefeoaaDoorG4
import Derived.Test.YtnmpbihpoefeoaaDoorG5
import Derived.Test.YtnmpbihpoefeoaaDoorG6
import Derived.Test.YtnmpbihpoefeoaaDoorG7
import Derived.Test.YtnmpbihpoefeoaaDoorHA
import Derived.Test.YtnmpbihpoefeoaaDoorHB
import Derived.Test.YtnmpbihpoefeoaaDoorDA
namespace Go.Proofs.YtnmpbihpoefeoaaDoor
section
open Go.RowKit Go.Shelf
/-- Blocks of N stay. -/
structure FrN (N : Nat → Prop) (w W : World) : Prop where
  os : W.os = w.os
  tape : W.tape = w.tape
  output : W.output = w.output
  size : w.heap.size ≤ W.heap.size
  block : ∀ k, N k → W.heap[k]? = w.heap[k]?
theorem FrN.refl (N : Nat → Prop) (w : World) : FrN N w w := ⟨rfl, rfl, rfl, Nat.le_refl _, fun _ _ => rfl⟩
theorem FrN.trans {N : Nat → Prop} {w W W' : World} (h : FrN N w W) (k : FrN N W W') : FrN N w W' := ⟨k.os.trans h.os, k.tape.trans h.tape, k.output.trans h.output, Nat.le_trans h.size k.size, fun i hi => (k.block i hi).trans (h.block i hi)⟩
/-- A state whose numbers are of 64 bits. -/
structure Okx (s : Sx) : Prop where
  x : ∀ r, U64 (s.x r)
  pc : U64 s.pc
  inn : 0 ≤ s.inn
/-- A machine, and all that is its own; N: blocks that are not. -/
structure Bd (N : Nat → Prop) (W : World) (m mem r : Nat) (ps : List Pgd) (bt : Nat → Nat → Int) (s : Sx) (ov iv : Value) (base : Nat) (xs : List Value) (L : Nat) (ib : Nat → Int) : Prop where
  mch : Mch W m s ov mem iv
  mo : Mo W mem r ps bt
  inb : InB W iv L ib
  own : W.ownsRow base 5 1 ov xs.length xs
  tab : Tab W
  ok : Okx s
  ibs : ∀ j, 0 ≤ ib j ∧ ib j < 256
  base : base ≤ W.heap.size
  ap1 : ∀ x ∈ ps, ov.ownBlock ≠ some x.g
  ap2 : ∀ g, iv.ownBlock = some g → g < W.heap.size ∧ (∀ x ∈ ps, g ≠ x.g) ∧ ov.ownBlock ≠ some g
  far : ∀ k, N k → k < W.heap.size ∧ k ≠ m ∧ (∀ x ∈ ps, k ≠ x.g) ∧ ov.ownBlock ≠ some k
  zero : N 0
  small : (L : Int) ≤ 9223372036854775807
  ap3 : ov.ownBlock ≠ some mem
theorem Tab.keep {w w' : World} (h : Tab w) (e : w'.heap[0]? = w.heap[0]?) (hs : w.heap.size ≤ w'.heap.size) : Tab w' := ⟨Nat.lt_of_lt_of_le h.1 hs, fun k h1 h2 => by have t := h.2 k h1 h2; simp only [World.cell?, e] at t ⊢; exact t⟩
theorem InB.keep {W W' : World} {iv : Value} {L : Nat} {ib : Nat → Int} (h : InB W iv L ib) (e : ∀ g, iv.ownBlock = some g → W'.heap[g]? = W.heap[g]?) : InB W' iv L ib := by
  obtain ⟨ao, c, rfl, h⟩ := h
  refine ⟨ao, c, rfl, fun hL => ?_⟩
  obtain ⟨g, rfl, hc⟩ := h hL
  refine ⟨g, rfl, fun j hj => ?_⟩
  have t := hc j hj
  simp only [World.cell?, e g rfl] at t ⊢
  exact t
theorem Mo.keep {W W' : World} {b r : Nat} {ps : List Pgd} {bt : Nat → Nat → Int} (h : Mo W b r ps bt) (hb : W'.heap[b]? = W.heap[b]?) (hr : W'.heap[r]? = W.heap[r]?) (hx : ∀ x ∈ ps, W'.heap[x.g]? = W.heap[x.g]?) : Mo W' b r ps bt := by
  refine ⟨⟨?_, hr.trans h.mm.map, fun x hxm j hj => ?_, h.mm.small, h.mm.caps⟩, fun x hxm => ?_, h.apart⟩
  · have t := h.mm.cell; simp only [World.cell?, hb] at t ⊢; exact t
  · have t := h.mm.data x hxm j hj; simp only [World.cell?, hx x hxm] at t ⊢; exact t
  · obtain ⟨cur, hc⟩ := h.own x hxm; exact ⟨cur, (hx x hxm).trans hc⟩
section
variable {N : Nat → Prop} {W : World} {m mem r : Nat} {ps : List Pgd} {bt : Nat → Nat → Int} {s : Sx} {ov iv : Value} {base : Nat} {xs : List Value} {L : Nat} {ib : Nat → Int}
theorem Mch.ne_mem (H : Mch W m s ov mem iv) (h : Mo W mem r ps bt) : mem ≠ m := fun e => by
  have t := h.mm.cell
  rw [e, H.pc] at t
  cases t
theorem Mch.ne_map (H : Mch W m s ov mem iv) (h : Mo W mem r ps bt) : r ≠ m := fun e => by
  have t := h.mm.map
  obtain ⟨cs, hc, _⟩ := H.blk
  rw [e, hc] at t
  cases t
theorem Mch.ne_page (H : Mch W m s ov mem iv) (h : Mo W mem r ps bt) {x : Pgd} (hx : x ∈ ps) : x.g ≠ m := fun e => by
  obtain ⟨cur, t⟩ := h.own x hx
  obtain ⟨cs, hc, _⟩ := H.blk
  rw [e, hc] at t
  cases t
theorem Bd.ne_in (H : Bd N W m mem r ps bt s ov iv base xs L ib) {g : Nat} (hg : iv.ownBlock = some g) (hL : 0 < L) : g ≠ m := fun e => by
  obtain ⟨ao, c, rfl, h⟩ := H.inb
  obtain ⟨g', rfl, hc⟩ := h hL
  cases hg
  have t := hc 0 hL
  have e : g' = m := e
  rw [e, H.mch.pc] at t
  cases t
/-- The machine's blocks, but for its input. -/
def Fp (m : Nat) (ps : List Pgd) (ov : Value) : Nat → Prop := fun k => k = m ∨ (∃ x ∈ ps, k = x.g) ∨ ov.ownBlock = some k
theorem InB.empty {W W' : World} (h : InB W iv L ib) (hL : ¬ 0 < L) : InB W' iv L ib := by
  obtain ⟨ao, c, e, _⟩ := h
  exact ⟨ao, c, e, fun k => absurd k hL⟩
/-- Where a world differs in the machine's blocks alone, and these are right, all is. -/
theorem Bd.on (H : Bd N W m mem r ps bt s ov iv base xs L ib) {W' : World} {s' : Sx} {bt' : Nat → Nat → Int} {ov' : Value} {xs' : List Value} (hO : Onl (Fp m ps ov) W W') (hm : Mch W' m s' ov' mem iv) (ho : Mo W' mem r ps bt') (hw : W'.ownsRow base 5 1 ov' xs'.length xs') (hk : Okx s') (hv : ov'.ownBlock = ov.ownBlock ∨ ∃ g, ov'.ownBlock = some g ∧ W.heap.size ≤ g) : Bd N W' m mem r ps bt' s' ov' iv base xs' L ib ∧ FrN N W W' := by
  have hf : ∀ k, N k → W'.heap[k]? = W.heap[k]? := fun k hN => hO.block k (H.far k hN).1 (fun h => h.elim (H.far k hN).2.1 (fun h => h.elim (fun ⟨x, hx, e⟩ => (H.far k hN).2.2.1 x hx e) (H.far k hN).2.2.2))
  refine ⟨⟨hm, ho, ?_, hw, H.tab.keep (hf 0 H.zero) hO.size, hk, H.ibs, Nat.le_trans H.base hO.size, fun x hx e => ?_, fun g hg => ⟨Nat.lt_of_lt_of_le (H.ap2 g hg).1 hO.size, (H.ap2 g hg).2.1, fun e => ?_⟩, fun k hN => ⟨Nat.lt_of_lt_of_le (H.far k hN).1 hO.size, (H.far k hN).2.1, (H.far k hN).2.2.1, fun e => ?_⟩, H.zero, H.small, fun e => ?_⟩, hO.os, hO.tape, hO.output, hO.size, hf⟩
  · by_cases hL : 0 < L
    · exact H.inb.keep fun g hg => hO.block g (H.ap2 g hg).1 (fun h => h.elim (H.ne_in hg hL) (fun h => h.elim (fun ⟨x, hx, e⟩ => (H.ap2 g hg).2.1 x hx e) (H.ap2 g hg).2.2))
    · exact H.inb.empty hL
  · rcases hv with hv | ⟨g, hg, hl⟩
    · exact H.ap1 x hx (hv.symm.trans e)
    · rw [e] at hg; cases hg; have := (H.mo.ne hx).2.2; omega
  · rcases hv with hv | ⟨g', hg', hl⟩
    · exact (H.ap2 g hg).2.2 (hv.symm.trans e)
    · rw [e] at hg'; cases hg'; have := (H.ap2 g hg).1; omega
  · rcases hv with hv | ⟨g', hg', hl⟩
    · exact (H.far k hN).2.2.2 (hv.symm.trans e)
    · rw [e] at hg'; cases hg'; have := (H.far k hN).1; omega
  · rcases hv with hv | ⟨g', hg', hl⟩
    · exact H.ap3 (hv.symm.trans e)
    · rw [e] at hg'; cases hg'; have := lt_of_cell H.mo.mm.cell; omega
/-- Where the machine's own block alone differs. -/
theorem Bd.on_m (H : Bd N W m mem r ps bt s ov iv base xs L ib) {W' : World} {s' : Sx} (hO : Onl (Im m) W W') (hm : Mch W' m s' ov mem iv) (hk : Okx s') : Bd N W' m mem r ps bt s' ov iv base xs L ib ∧ FrN N W W' :=
  H.on (hO.mono fun _ h => .inl h) hm
    (H.mo.keep (hO.block _ (lt_of_cell H.mo.mm.cell) (H.mch.ne_mem H.mo)) (hO.block _ (lt_of_some H.mo.mm.map) (H.mch.ne_map H.mo)) fun x hx => hO.block _ (H.mo.ne hx).2.2 (H.mch.ne_page H.mo hx))
    (owns_keep H.own fun g hg => by obtain ⟨cur, hc⟩ := owns_lt H.own hg; exact hO.block g (lt_of_some hc) (fun e => owns_ne H.own H.mch (by rw [hg, e]))) hk (.inl rfl)
theorem Bd.below (H : Bd N W m mem r ps bt s ov iv base xs L ib) {W' : World} (hb : Below W.heap.size W W') : Bd N W' m mem r ps bt s ov iv base xs L ib ∧ FrN N W W' := H.on_m (Onl.of_below hb) (H.mch.below hb) H.ok
end
/-- What an instruction does: its fault, the state, what is printed, what is stored. -/
structure Do where
  f : Int
  s : Sx
  o : List Value
  wr : Option (Int × Int × Int)
def adr (s : Sx) (r1 : Nat) (im : Int) : Int := IntKind.u64.wrap (s.x r1 + IntKind.u64.wrap im)
def pc4 (s : Sx) : Int := IntKind.u64.wrap (s.pc + 4)
def ecP (s : Sx) (L : Nat) (ib : Nat → Int) (rd : Nat) : Do :=
  if s.x 17 = 63 then ⟨0, nxt { s with inn := rdI L s.inn, x := upd s.x 10 (rdV L ib s.inn) } rd 0 (pc4 s), [], none⟩
  else if s.x 17 = 64 then ⟨0, nxt s rd 0 (pc4 s), [.int .u8 (IntKind.u8.wrap (s.x 10))], none⟩
  else if s.x 17 = 93 then ⟨0, nxt { s with h := true, code := s.x 10 % 256 } rd 0 (pc4 s), [], none⟩
  else ⟨34, s, [], none⟩
def doP (ld : Int → Int → Int × Int) (se : Int → Int → Int) (L : Nat) (ib : Nat → Int) (s : Sx) (op im : Int) (rd r1 r2 : Nat) : Do :=
  if op = 1 then ⟨0, nxt s rd (IntKind.u64.wrap (IntKind.u64.wrap (IntKind.u64.wrap im * 4096))) (pc4 s), [], none⟩
  else if op = 2 then ⟨0, nxt s rd (IntKind.u64.wrap (s.pc + IntKind.u64.wrap (IntKind.u64.wrap im * 4096))) (pc4 s), [], none⟩
  else if op = 3 then ⟨0, nxt s rd (pc4 s) (IntKind.u64.wrap (s.pc + IntKind.u64.wrap im)), [], none⟩
  else if op = 4 then ⟨0, nxt s rd (pc4 s) (bits .andNot .u64 (IntKind.u64.wrap (s.x r1 + IntKind.u64.wrap im)) 1), [], none⟩
  else if op ≤ 10 then ⟨0, nxt s rd 0 (if Tk op (s.x r1) (s.x r2) then IntKind.u64.wrap (s.pc + IntKind.u64.wrap im) else pc4 s), [], none⟩
  else if op ≤ 17 then (if (ld (adr s r1 im) (wid op)).2 = 0 then ⟨0, nxt s rd (lsx op (ld (adr s r1 im) (wid op)).1) (pc4 s), [], none⟩ else ⟨32, s, [], none⟩)
  else if op ≤ 21 then (if se (adr s r1 im) (wid op) = 0 then ⟨0, nxt s rd 0 (pc4 s), [], some (adr s r1 im, wid op, s.x r2)⟩ else ⟨33, s, [], none⟩)
  else if op ≤ 62 then ⟨0, nxt s rd (Fv op (s.x r1) (if op < 35 then IntKind.u64.wrap im else s.x r2)) (pc4 s), [], none⟩
  else if op = 63 then ⟨0, nxt s rd 0 (pc4 s), [], none⟩
  else if op = 64 then ecP s L ib rd
  else ⟨34, s, [], none⟩
/-- The bytes behind it. -/
def btN (ps : List Pgd) (bt : Nat → Nat → Int) : Option (Int × Int × Int) → Nat → Nat → Int
  | none => bt
  | some q => stB ps bt q.1 q.2.1.toNat q.2.2
/-- What a load tells, and what a store does. -/
def ldP (ps : List Pgd) (bt : Nat → Nat → Int) (a n : Int) : Int × Int := (lV ps bt a n, lE ps a n)
def seP (ps : List Pgd) (a n : Int) : Int := if 281474976710656 ≤ a ∨ 281474976710656 - a < n then 1 else useE ps a n 2
theorem u_upd {x : Nat → Int} {v : Int} (hx : ∀ r, U64 (x r)) (hv : U64 v) (r : Nat) : ∀ k, U64 (upd x r v k) := fun k => by
  unfold upd
  split
  · exact hv
  · exact hx k
theorem Okx.nxt {s : Sx} (h : Okx s) {rd : Nat} {v pc : Int} (hv : U64 v) (hp : U64 pc) : Okx (nxt s rd v pc) := ⟨u_upd (u_upd h.x hv rd) ⟨by omega, by omega⟩ 0, hp, h.inn⟩
end
section
open Go.RowKit Go.Shelf
theorem wid_n (op : Int) : ∃ n : Nat, wid op = n ∧ isN n := by
  unfold wid isN
  split
  · exact ⟨1, rfl, by omega⟩
  · split
    · exact ⟨2, rfl, by omega⟩
    · split
      · exact ⟨4, rfl, by omega⟩
      · exact ⟨8, rfl, by omega⟩
theorem store_all (b r : Nat) (ps : List Pgd) (bt : Nat → Nat → Int) (a v : Int) (n : Nat) (w : World) (h : Mo w b r ps bt) (ha : U64 a) (hn : isN n) (hv : U64 v) : Calls Tryd.prog 76 #[.pointer (some ⟨b, 0, none⟩), .int .u64 a, .int .i64 n, .int .u64 v] w fun e w' => e = .returned (.int .i64 (seP ps a n)) ∧ But ps w.heap.size w w' ∧ Mo w' b r ps (if seP ps a n = 0 then stB ps bt a n v else bt) := by
  unfold seP
  by_cases hf : 281474976710656 ≤ a ∨ 281474976710656 - a < (n : Int)
  · rw [if_pos hf]
    refine (store_bad _ a n v 1 w (by omega) (fun W => number_far _ a 2 n W ha.1 ha.2 hn hf)).mono ?_
    rintro e w' ⟨rfl, hb⟩
    exact ⟨rfl, But.of_below hb, by rw [if_neg (by omega)]; exact h.below hb⟩
  · rw [if_neg hf]
    refine (store_any b r ps bt a v n w h ha.1 hn (by omega) hv.1 hv.2).mono ?_
    rintro e w' ⟨rfl, hb, hm⟩
    refine ⟨rfl, hb, ?_⟩
    by_cases hu : useE ps a n 2 = 0
    · rw [if_pos hu]; exact hm
    · rw [if_neg hu]
      unfold stB at hm
      rw [if_neg hu] at hm
      exact hm
theorem But.onl {ps : List Pgd} {w W : World} (h : But ps w.heap.size w W) : Onl (fun k => ∃ x ∈ ps, k = x.g) w W := ⟨h.os, h.tape, h.output, h.size, fun k hk hx => h.block k hk (fun x hxm e => hx ⟨x, hxm, e⟩)⟩
section
variable {N : Nat → Prop} {W : World} {m mem r : Nat} {ps : List Pgd} {bt : Nat → Nat → Int} {s : Sx} {ov iv : Value} {base : Nat} {xs : List Value} {L : Nat} {ib : Nat → Int}
/-- A memory stays where the machine's block alone changes. -/
theorem mo_stays (H : Bd N W m mem r ps bt s ov iv base xs L ib) (bt' : Nat → Nat → Int) (w w' : World) (hO : Onl (Im m) w w') (h : Mo w mem r ps bt') : Mo w' mem r ps bt' :=
  h.keep (hO.block _ (lt_of_cell h.mm.cell) (H.mch.ne_mem H.mo)) (hO.block _ (lt_of_some h.mm.map) (H.mch.ne_map H.mo)) fun _ hx => hO.block _ (h.ne hx).2.2 (H.mch.ne_page H.mo hx)
def Fal : Nat → Prop := fun _ => False
theorem load_c (op a : Int) (h1 : 11 ≤ op) (h2 : op ≤ 17) (ha : U64 a) (w : World) (hm : Mch w m s ov mem iv) (ho : Mo w mem r ps bt) : Calls Tryd.prog 61 #[.pointer (some ⟨m, 0, none⟩), .int .i64 op, .int .u64 a] w fun e w' => e = .returned (.tuple #[.int .u64 (if (ldP ps bt a (wid op)).2 = 0 then lsx op (ldP ps bt a (wid op)).1 else 0), .int .i64 (if (ldP ps bt a (wid op)).2 = 0 then 0 else 32)]) ∧ Onl (Or1 m Fal) w w' ∧ Mch w' m s ov mem iv ∧ Mo w' mem r ps bt := by
  refine (load61 hm op a (lV ps bt a (wid op)) (lE ps a (wid op)) h1 h2 (load_all mem r ps bt a (wid op) w ho.mm ha.1 ha.2)).mono ?_
  rintro e w' ⟨rfl, hb⟩
  exact ⟨rfl, Onl.of_below hb, hm.below hb, ho.below hb⟩
/-- The pages' blocks. -/
def Pgs (ps : List Pgd) : Nat → Prop := fun k => ∃ x ∈ ps, k = x.g
theorem store_c (H : Bd N W m mem r ps bt s ov iv base xs L ib) (op a v : Int) (h1 : 18 ≤ op) (h2 : op ≤ 21) (ha : U64 a) (hv : U64 v) (w : World) (hm : Mch w m s ov mem iv) (ho : Mo w mem r ps bt ∧ w.ownsRow base 5 1 ov xs.length xs) : Calls Tryd.prog 62 #[.pointer (some ⟨m, 0, none⟩), .int .i64 op, .int .u64 a, .int .u64 v] w fun e w' => e = .returned (.int .i64 (if seP ps a (wid op) = 0 then 0 else 33)) ∧ Onl (Or1 m (Pgs ps)) w w' ∧ Mch w' m s ov mem iv ∧ Mo w' mem r ps (if seP ps a (wid op) = 0 then stB ps bt a (wid op).toNat v else bt) ∧ w'.ownsRow base 5 1 ov xs.length xs := by
  obtain ⟨n, en, hn⟩ := wid_n op
  refine store62 (T := fun w' => Onl (Or1 m (Pgs ps)) w w' ∧ Mch w' m s ov mem iv ∧ Mo w' mem r ps (if seP ps a (wid op) = 0 then stB ps bt a (wid op).toNat v else bt) ∧ w'.ownsRow base 5 1 ov xs.length xs) hm op a v (seP ps a (wid op)) h1 h2 (fun w' h => h.2.1.mem) (fun w2 hb => ?_)
  have t := store_all mem r ps bt a v n w2 (ho.1.below hb) ha hn hv
  rw [← en] at t
  refine t.mono ?_
  rintro e w' ⟨rfl, hB, hM⟩
  have hO : Onl (Pgs ps) w2 w' := hB.onl
  refine ⟨rfl, ((Onl.of_below hb).trans hO).mono fun i hi => .inr hi, (hm.below hb).keep (hO.block m (hm.below hb).lt (fun ⟨x, hx, e⟩ => H.mch.ne_page H.mo hx e.symm)), by rw [show (wid op).toNat = n by omega]; exact hM, ?_⟩
  refine owns_keep ho.2 fun g hg => ?_
  obtain ⟨cur, hc⟩ := owns_lt ho.2 hg
  have l := lt_of_some hc
  exact (hO.block g (Nat.lt_of_lt_of_le l hb.size) (fun ⟨x, hx, e⟩ => H.ap1 x hx (by rw [hg, e]))).trans (hb.block g l)
end
end
section
open Go.RowKit Go.Shelf
section
variable {N : Nat → Prop} {W : World} {m mem r : Nat} {ps : List Pgd} {bt : Nat → Nat → Int} {s : Sx} {ov iv : Value} {base : Nat} {xs : List Value} {L : Nat} {ib : Nat → Int}
/-- What is so behind an instruction. -/
def PoD (N : Nat → Prop) (W : World) (m mem r : Nat) (ps : List Pgd) (bt : Nat → Nat → Int) (iv : Value) (base : Nat) (xs : List Value) (L : Nat) (ib : Nat → Int) (d : Do) (e : Ending) (w' : World) : Prop :=
  e = .returned (.int .i64 d.f) ∧ ∃ ov', Bd N w' m mem r ps (btN ps bt d.wr) d.s ov' iv base (xs ++ d.o) L ib ∧ FrN N W w'
theorem pod_pure (H : Bd N W m mem r ps bt s ov iv base xs L ib) {f : Int} {s' : Sx} (hk : Okx s') {e : Ending} {w' : World} (h : e = .returned (.int .i64 f) ∧ Onl (Im m) W w' ∧ Mch w' m s' ov mem iv) : PoD N W m mem r ps bt iv base xs L ib ⟨f, s', [], none⟩ e w' := by
  obtain ⟨rfl, hO, hm⟩ := h
  obtain ⟨hB, hF⟩ := H.on_m hO hm hk
  exact ⟨rfl, ov, by rw [List.append_nil]; exact hB, hF⟩
theorem u_pc4 (s : Sx) : U64 (pc4 s) := u_wrap _
theorem u_zero : U64 0 := ⟨by omega, by omega⟩
theorem u_adr (s : Sx) (r1 : Nat) (im : Int) : U64 (adr s r1 im) := u_wrap _
/-- A load, a store, a call that leaves no new output: the machine's block, pages. -/
theorem pod_mem (H : Bd N W m mem r ps bt s ov iv base xs L ib) {S : Nat → Prop} (hS : ∀ k, S k → ∃ x ∈ ps, k = x.g) {f : Int} {s' : Sx} {wr : Option (Int × Int × Int)} (hk : Okx s') {e : Ending} {w' : World} (h : e = .returned (.int .i64 f) ∧ Onl (Or1 m S) W w' ∧ Mch w' m s' ov mem iv ∧ Mo w' mem r ps (btN ps bt wr) ∧ w'.ownsRow base 5 1 ov xs.length xs) : PoD N W m mem r ps bt iv base xs L ib ⟨f, s', [], wr⟩ e w' := by
  obtain ⟨rfl, hO, hm, ho, hw⟩ := h
  obtain ⟨hB, hF⟩ := H.on (hO.mono fun i hi => hi.elim .inl (fun h => .inr (.inl (hS i h)))) hm ho hw hk (.inl rfl)
  exact ⟨rfl, ov, by rw [List.append_nil]; exact hB, hF⟩
theorem own_stays (H : Bd N W m mem r ps bt s ov iv base xs L ib) (w w' : World) (hO : Onl (Im m) w w') (h : w.ownsRow base 5 1 ov xs.length xs) : w'.ownsRow base 5 1 ov xs.length xs :=
  owns_keep h fun g hg => by
    obtain ⟨cur, hc⟩ := owns_lt h hg
    exact hO.block g (lt_of_some hc) (fun e => owns_ne H.own H.mch (by rw [hg, e]))
theorem own_below (w w' : World) (hb : Below w.heap.size w w') (h : w.ownsRow base 5 1 ov xs.length xs) : w'.ownsRow base 5 1 ov xs.length xs :=
  owns_keep h fun g hg => by
    obtain ⟨cur, hc⟩ := owns_lt h hg
    exact hb.block g (lt_of_some hc)
theorem any_lui (H : Bd N W m mem r ps bt s ov iv base xs L ib) (op im : Int) (rd r1 r2 : Nat) (hd : rd < 32) (h1 : r1 < 32) (h2 : r2 < 32) (hop : op = 1) : Calls Tryd.prog 47 #[.pointer (some ⟨m, 0, none⟩), .agg #[.int .i64 op, .int .i64 rd, .int .i64 r1, .int .i64 r2, .int .i64 im]] W (PoD N W m mem r ps bt iv base xs L ib (doP (ldP ps bt) (seP ps) L ib s op im rd r1 r2)) := by
  subst hop
  exact (do47_lui H.mch 1 im rd r1 r2 rfl hd h1 h2).mono fun _ _ h => pod_pure H (H.ok.nxt (u_wrap _) (u_pc4 s)) h
theorem any_auipc (H : Bd N W m mem r ps bt s ov iv base xs L ib) (op im : Int) (rd r1 r2 : Nat) (hd : rd < 32) (h1 : r1 < 32) (h2 : r2 < 32) (hop : op = 2) : Calls Tryd.prog 47 #[.pointer (some ⟨m, 0, none⟩), .agg #[.int .i64 op, .int .i64 rd, .int .i64 r1, .int .i64 r2, .int .i64 im]] W (PoD N W m mem r ps bt iv base xs L ib (doP (ldP ps bt) (seP ps) L ib s op im rd r1 r2)) := by
  subst hop
  exact (do47_auipc H.mch 2 im rd r1 r2 rfl hd h1 h2).mono fun _ _ h => pod_pure H (H.ok.nxt (u_wrap _) (u_pc4 s)) h
theorem any_jal (H : Bd N W m mem r ps bt s ov iv base xs L ib) (op im : Int) (rd r1 r2 : Nat) (hd : rd < 32) (h1 : r1 < 32) (h2 : r2 < 32) (hop : op = 3) : Calls Tryd.prog 47 #[.pointer (some ⟨m, 0, none⟩), .agg #[.int .i64 op, .int .i64 rd, .int .i64 r1, .int .i64 r2, .int .i64 im]] W (PoD N W m mem r ps bt iv base xs L ib (doP (ldP ps bt) (seP ps) L ib s op im rd r1 r2)) := by
  subst hop
  exact (do47_jal H.mch 3 im rd r1 r2 rfl hd h1 h2).mono fun _ _ h => pod_pure H (H.ok.nxt (u_pc4 s) (u_wrap _)) h
theorem any_jalr (H : Bd N W m mem r ps bt s ov iv base xs L ib) (op im : Int) (rd r1 r2 : Nat) (hd : rd < 32) (h1 : r1 < 32) (h2 : r2 < 32) (hop : op = 4) : Calls Tryd.prog 47 #[.pointer (some ⟨m, 0, none⟩), .agg #[.int .i64 op, .int .i64 rd, .int .i64 r1, .int .i64 r2, .int .i64 im]] W (PoD N W m mem r ps bt iv base xs L ib (doP (ldP ps bt) (seP ps) L ib s op im rd r1 r2)) := by
  subst hop
  exact (do47_jalr H.mch 4 im rd r1 r2 rfl hd h1 h2).mono fun _ _ h => pod_pure H (H.ok.nxt (u_pc4 s) (u_bits _ _ _)) h
theorem any_fence (H : Bd N W m mem r ps bt s ov iv base xs L ib) (op im : Int) (rd r1 r2 : Nat) (hd : rd < 32) (h1 : r1 < 32) (h2 : r2 < 32) (hop : op = 63) : Calls Tryd.prog 47 #[.pointer (some ⟨m, 0, none⟩), .agg #[.int .i64 op, .int .i64 rd, .int .i64 r1, .int .i64 r2, .int .i64 im]] W (PoD N W m mem r ps bt iv base xs L ib (doP (ldP ps bt) (seP ps) L ib s op im rd r1 r2)) := by
  subst hop
  exact (do47_fence H.mch 63 im rd r1 r2 rfl hd h1 h2).mono fun _ _ h => pod_pure H (H.ok.nxt u_zero (u_pc4 s)) h
theorem any_ebreak (H : Bd N W m mem r ps bt s ov iv base xs L ib) (op im : Int) (rd r1 r2 : Nat) (hd : rd < 32) (h1 : r1 < 32) (h2 : r2 < 32) (hop : op = 65) : Calls Tryd.prog 47 #[.pointer (some ⟨m, 0, none⟩), .agg #[.int .i64 op, .int .i64 rd, .int .i64 r1, .int .i64 r2, .int .i64 im]] W (PoD N W m mem r ps bt iv base xs L ib (doP (ldP ps bt) (seP ps) L ib s op im rd r1 r2)) := by
  subst hop
  exact (do47_ebreak H.mch 65 im rd r1 r2 rfl hd h1 h2).mono fun _ _ h => pod_pure H H.ok h
theorem any_alu (H : Bd N W m mem r ps bt s ov iv base xs L ib) (op im : Int) (rd r1 r2 : Nat) (hd : rd < 32) (h1 : r1 < 32) (h2 : r2 < 32) (hop : 22 ≤ op ∧ op ≤ 62) : Calls Tryd.prog 47 #[.pointer (some ⟨m, 0, none⟩), .agg #[.int .i64 op, .int .i64 rd, .int .i64 r1, .int .i64 r2, .int .i64 im]] W (PoD N W m mem r ps bt iv base xs L ib (doP (ldP ps bt) (seP ps) L ib s op im rd r1 r2)) := by
  have e : doP (ldP ps bt) (seP ps) L ib s op im rd r1 r2 = ⟨0, nxt s rd (Fv op (s.x r1) (if op < 35 then IntKind.u64.wrap im else s.x r2)) (pc4 s), [], none⟩ := by
    unfold doP
    rw [if_neg (by omega), if_neg (by omega), if_neg (by omega), if_neg (by omega), if_neg (by omega), if_neg (by omega), if_neg (by omega), if_pos (by omega)]
  rw [e]
  exact (do47_alu H.mch op im rd r1 r2 hop hd h1 h2 H.ok.x).mono fun _ _ h => pod_pure H (H.ok.nxt (u_Fv (H.ok.x r1) (u_ite (u_wrap _) (H.ok.x r2))) (u_pc4 s)) h
theorem any_branch (H : Bd N W m mem r ps bt s ov iv base xs L ib) (op im : Int) (rd r1 r2 : Nat) (hd : rd < 32) (h1 : r1 < 32) (h2 : r2 < 32) (hop : 5 ≤ op ∧ op ≤ 10) : Calls Tryd.prog 47 #[.pointer (some ⟨m, 0, none⟩), .agg #[.int .i64 op, .int .i64 rd, .int .i64 r1, .int .i64 r2, .int .i64 im]] W (PoD N W m mem r ps bt iv base xs L ib (doP (ldP ps bt) (seP ps) L ib s op im rd r1 r2)) := by
  have e : doP (ldP ps bt) (seP ps) L ib s op im rd r1 r2 = ⟨0, nxt s rd 0 (if Tk op (s.x r1) (s.x r2) then IntKind.u64.wrap (s.pc + IntKind.u64.wrap im) else pc4 s), [], none⟩ := by
    unfold doP
    rw [if_neg (by omega), if_neg (by omega), if_neg (by omega), if_neg (by omega), if_pos (by omega)]
  rw [e]
  have hk : Okx (nxt s rd 0 (if Tk op (s.x r1) (s.x r2) then IntKind.u64.wrap (s.pc + IntKind.u64.wrap im) else pc4 s)) := H.ok.nxt u_zero (by split; exact u_wrap _; exact u_pc4 s)
  by_cases ht : Tk op (s.x r1) (s.x r2) = true
  · rw [if_pos ht] at hk ⊢
    rcases (by omega : op = 5 ∨ op = 6 ∨ op = 7 ∨ op = 8 ∨ op = 9 ∨ op = 10) with rfl | rfl | rfl | rfl | rfl | rfl
    · exact (do47_b5t H.mch 5 im rd r1 r2 rfl hd h1 h2 ht).mono fun _ _ h => pod_pure H hk h
    · exact (do47_b6t H.mch 6 im rd r1 r2 rfl hd h1 h2 ht).mono fun _ _ h => pod_pure H hk h
    · exact (do47_b7t H.mch 7 im rd r1 r2 rfl hd h1 h2 ht).mono fun _ _ h => pod_pure H hk h
    · exact (do47_b8t H.mch 8 im rd r1 r2 rfl hd h1 h2 ht).mono fun _ _ h => pod_pure H hk h
    · exact (do47_b9t H.mch 9 im rd r1 r2 rfl hd h1 h2 ht).mono fun _ _ h => pod_pure H hk h
    · exact (do47_b10t H.mch 10 im rd r1 r2 rfl hd h1 h2 ht).mono fun _ _ h => pod_pure H hk h
  · rw [if_neg ht] at hk ⊢
    have ht : Tk op (s.x r1) (s.x r2) = false := by simpa using ht
    rcases (by omega : op = 5 ∨ op = 6 ∨ op = 7 ∨ op = 8 ∨ op = 9 ∨ op = 10) with rfl | rfl | rfl | rfl | rfl | rfl
    · exact (do47_b5f H.mch 5 im rd r1 r2 rfl hd h1 h2 ht).mono fun _ _ h => pod_pure H hk h
    · exact (do47_b6f H.mch 6 im rd r1 r2 rfl hd h1 h2 ht).mono fun _ _ h => pod_pure H hk h
    · exact (do47_b7f H.mch 7 im rd r1 r2 rfl hd h1 h2 ht).mono fun _ _ h => pod_pure H hk h
    · exact (do47_b8f H.mch 8 im rd r1 r2 rfl hd h1 h2 ht).mono fun _ _ h => pod_pure H hk h
    · exact (do47_b9f H.mch 9 im rd r1 r2 rfl hd h1 h2 ht).mono fun _ _ h => pod_pure H hk h
    · exact (do47_b10f H.mch 10 im rd r1 r2 rfl hd h1 h2 ht).mono fun _ _ h => pod_pure H hk h
theorem any_load (H : Bd N W m mem r ps bt s ov iv base xs L ib) (op im : Int) (rd r1 r2 : Nat) (hd : rd < 32) (h1 : r1 < 32) (h2 : r2 < 32) (hop : 11 ≤ op ∧ op ≤ 17) : Calls Tryd.prog 47 #[.pointer (some ⟨m, 0, none⟩), .agg #[.int .i64 op, .int .i64 rd, .int .i64 r1, .int .i64 r2, .int .i64 im]] W (PoD N W m mem r ps bt iv base xs L ib (doP (ldP ps bt) (seP ps) L ib s op im rd r1 r2)) := by
  have e : doP (ldP ps bt) (seP ps) L ib s op im rd r1 r2 = (if (ldP ps bt (adr s r1 im) (wid op)).2 = 0 then ⟨0, nxt s rd (lsx op (ldP ps bt (adr s r1 im) (wid op)).1) (pc4 s), [], none⟩ else ⟨32, s, [], none⟩) := by
    unfold doP
    rw [if_neg (by omega), if_neg (by omega), if_neg (by omega), if_neg (by omega), if_neg (by omega), if_pos (by omega)]
  rw [e]
  have hc2 : ∀ w, Mch w m s ov mem iv → (Mo w mem r ps bt ∧ w.ownsRow base 5 1 ov xs.length xs) → Calls Tryd.prog 61 #[.pointer (some ⟨m, 0, none⟩), .int .i64 op, .int .u64 (adr s r1 im)] w fun e w' => e = .returned (.tuple #[.int .u64 (if (ldP ps bt (adr s r1 im) (wid op)).2 = 0 then lsx op (ldP ps bt (adr s r1 im) (wid op)).1 else 0), .int .i64 (if (ldP ps bt (adr s r1 im) (wid op)).2 = 0 then 0 else 32)]) ∧ Onl (Or1 m Fal) w w' ∧ Mch w' m s ov mem iv ∧ (Mo w' mem r ps bt ∧ w'.ownsRow base 5 1 ov xs.length xs) := fun w hm ho => by
    refine (load61 hm op (adr s r1 im) (lV ps bt (adr s r1 im) (wid op)) (lE ps (adr s r1 im) (wid op)) hop.1 hop.2 (load_all mem r ps bt (adr s r1 im) (wid op) w ho.1.mm (u_adr s r1 im).1 (u_adr s r1 im).2)).mono ?_
    rintro e w' ⟨rfl, hb⟩
    exact ⟨rfl, Onl.of_below hb, hm.below hb, ho.1.below hb, own_below w w' hb ho.2⟩
  have sJ : ∀ w w', Below w.heap.size w w' → (Mo w mem r ps bt ∧ w.ownsRow base 5 1 ov xs.length xs) → (Mo w' mem r ps bt ∧ w'.ownsRow base 5 1 ov xs.length xs) := fun w w' hb h => ⟨h.1.below hb, own_below w w' hb h.2⟩
  have sK : ∀ w w', Onl (Im m) w w' → (Mo w mem r ps bt ∧ w.ownsRow base 5 1 ov xs.length xs) → (Mo w' mem r ps bt ∧ w'.ownsRow base 5 1 ov xs.length xs) := fun w w' hO h => ⟨mo_stays H bt w w' hO h.1, own_stays H w w' hO h.2⟩
  have hS : ∀ k, Fal k → k < W.heap.size := fun _ h => h.elim
  have hS2 : ∀ k, Fal k → ∃ x ∈ ps, k = x.g := fun _ h => h.elim
  have hv : U64 (lsx op (ldP ps bt (adr s r1 im) (wid op)).1) := u_lsx (u_lV H.mo.mm.small _ _)
  by_cases h0 : (ldP ps bt (adr s r1 im) (wid op)).2 = 0
  · simp only [h0, if_true] at hc2 ⊢
    rcases (by omega : op = 11 ∨ op = 12 ∨ op = 13 ∨ op = 14 ∨ op = 15 ∨ op = 16 ∨ op = 17) with rfl | rfl | rfl | rfl | rfl | rfl | rfl
    · exact (do47_l11 H.mch 11 im rd r1 r2 _ rfl hd h1 h2 hS ⟨H.mo, H.own⟩ sJ sK hc2).mono fun _ _ h => pod_mem H hS2 (wr := none) (H.ok.nxt hv (u_pc4 s)) h
    · exact (do47_l12 H.mch 12 im rd r1 r2 _ rfl hd h1 h2 hS ⟨H.mo, H.own⟩ sJ sK hc2).mono fun _ _ h => pod_mem H hS2 (wr := none) (H.ok.nxt hv (u_pc4 s)) h
    · exact (do47_l13 H.mch 13 im rd r1 r2 _ rfl hd h1 h2 hS ⟨H.mo, H.own⟩ sJ sK hc2).mono fun _ _ h => pod_mem H hS2 (wr := none) (H.ok.nxt hv (u_pc4 s)) h
    · exact (do47_l14 H.mch 14 im rd r1 r2 _ rfl hd h1 h2 hS ⟨H.mo, H.own⟩ sJ sK hc2).mono fun _ _ h => pod_mem H hS2 (wr := none) (H.ok.nxt hv (u_pc4 s)) h
    · exact (do47_l15 H.mch 15 im rd r1 r2 _ rfl hd h1 h2 hS ⟨H.mo, H.own⟩ sJ sK hc2).mono fun _ _ h => pod_mem H hS2 (wr := none) (H.ok.nxt hv (u_pc4 s)) h
    · exact (do47_l16 H.mch 16 im rd r1 r2 _ rfl hd h1 h2 hS ⟨H.mo, H.own⟩ sJ sK hc2).mono fun _ _ h => pod_mem H hS2 (wr := none) (H.ok.nxt hv (u_pc4 s)) h
    · exact (do47_l17 H.mch 17 im rd r1 r2 _ rfl hd h1 h2 hS ⟨H.mo, H.own⟩ sJ sK hc2).mono fun _ _ h => pod_mem H hS2 (wr := none) (H.ok.nxt hv (u_pc4 s)) h
  · simp only [h0, if_false] at hc2 ⊢
    rcases (by omega : op = 11 ∨ op = 12 ∨ op = 13 ∨ op = 14 ∨ op = 15 ∨ op = 16 ∨ op = 17) with rfl | rfl | rfl | rfl | rfl | rfl | rfl
    · exact (do47_l11f H.mch 11 im rd r1 r2 _ 32 (by omega) rfl hd h1 h2 hS ⟨H.mo, H.own⟩ sJ hc2).mono fun _ _ h => pod_mem H hS2 (wr := none) H.ok h
    · exact (do47_l12f H.mch 12 im rd r1 r2 _ 32 (by omega) rfl hd h1 h2 hS ⟨H.mo, H.own⟩ sJ hc2).mono fun _ _ h => pod_mem H hS2 (wr := none) H.ok h
    · exact (do47_l13f H.mch 13 im rd r1 r2 _ 32 (by omega) rfl hd h1 h2 hS ⟨H.mo, H.own⟩ sJ hc2).mono fun _ _ h => pod_mem H hS2 (wr := none) H.ok h
    · exact (do47_l14f H.mch 14 im rd r1 r2 _ 32 (by omega) rfl hd h1 h2 hS ⟨H.mo, H.own⟩ sJ hc2).mono fun _ _ h => pod_mem H hS2 (wr := none) H.ok h
    · exact (do47_l15f H.mch 15 im rd r1 r2 _ 32 (by omega) rfl hd h1 h2 hS ⟨H.mo, H.own⟩ sJ hc2).mono fun _ _ h => pod_mem H hS2 (wr := none) H.ok h
    · exact (do47_l16f H.mch 16 im rd r1 r2 _ 32 (by omega) rfl hd h1 h2 hS ⟨H.mo, H.own⟩ sJ hc2).mono fun _ _ h => pod_mem H hS2 (wr := none) H.ok h
    · exact (do47_l17f H.mch 17 im rd r1 r2 _ 32 (by omega) rfl hd h1 h2 hS ⟨H.mo, H.own⟩ sJ hc2).mono fun _ _ h => pod_mem H hS2 (wr := none) H.ok h
theorem any_store (H : Bd N W m mem r ps bt s ov iv base xs L ib) (op im : Int) (rd r1 r2 : Nat) (hd : rd < 32) (h1 : r1 < 32) (h2 : r2 < 32) (hop : 18 ≤ op ∧ op ≤ 21) : Calls Tryd.prog 47 #[.pointer (some ⟨m, 0, none⟩), .agg #[.int .i64 op, .int .i64 rd, .int .i64 r1, .int .i64 r2, .int .i64 im]] W (PoD N W m mem r ps bt iv base xs L ib (doP (ldP ps bt) (seP ps) L ib s op im rd r1 r2)) := by
  have e : doP (ldP ps bt) (seP ps) L ib s op im rd r1 r2 = (if seP ps (adr s r1 im) (wid op) = 0 then ⟨0, nxt s rd 0 (pc4 s), [], some (adr s r1 im, wid op, s.x r2)⟩ else ⟨33, s, [], none⟩) := by
    unfold doP
    rw [if_neg (by omega), if_neg (by omega), if_neg (by omega), if_neg (by omega), if_neg (by omega), if_neg (by omega), if_pos (by omega)]
  rw [e]
  have hc2 := store_c H op (adr s r1 im) (s.x r2) hop.1 hop.2 (u_adr s r1 im) (H.ok.x r2)
  have sJ : ∀ w w', Below w.heap.size w w' → (Mo w mem r ps bt ∧ w.ownsRow base 5 1 ov xs.length xs) → (Mo w' mem r ps bt ∧ w'.ownsRow base 5 1 ov xs.length xs) := fun w w' hb h => ⟨h.1.below hb, own_below w w' hb h.2⟩
  have hS : ∀ k, Pgs ps k → k < W.heap.size := fun _ ⟨_, hx, e⟩ => e ▸ (H.mo.ne hx).2.2
  by_cases h0 : seP ps (adr s r1 im) (wid op) = 0
  · simp only [h0, if_true] at hc2 ⊢
    have sK : ∀ w w', Onl (Im m) w w' → (Mo w mem r ps (stB ps bt (adr s r1 im) (wid op).toNat (s.x r2)) ∧ w.ownsRow base 5 1 ov xs.length xs) → (Mo w' mem r ps (stB ps bt (adr s r1 im) (wid op).toNat (s.x r2)) ∧ w'.ownsRow base 5 1 ov xs.length xs) := fun w w' hO h => ⟨mo_stays H _ w w' hO h.1, own_stays H w w' hO h.2⟩
    rcases (by omega : op = 18 ∨ op = 19 ∨ op = 20 ∨ op = 21) with rfl | rfl | rfl | rfl
    · exact (do47_s18 H.mch 18 im rd r1 r2 rfl hd h1 h2 hS ⟨H.mo, H.own⟩ sJ sK hc2).mono fun _ _ h => pod_mem H (fun _ h => h) (wr := some (adr s r1 im, wid 18, s.x r2)) (H.ok.nxt u_zero (u_pc4 s)) h
    · exact (do47_s19 H.mch 19 im rd r1 r2 rfl hd h1 h2 hS ⟨H.mo, H.own⟩ sJ sK hc2).mono fun _ _ h => pod_mem H (fun _ h => h) (wr := some (adr s r1 im, wid 19, s.x r2)) (H.ok.nxt u_zero (u_pc4 s)) h
    · exact (do47_s20 H.mch 20 im rd r1 r2 rfl hd h1 h2 hS ⟨H.mo, H.own⟩ sJ sK hc2).mono fun _ _ h => pod_mem H (fun _ h => h) (wr := some (adr s r1 im, wid 20, s.x r2)) (H.ok.nxt u_zero (u_pc4 s)) h
    · exact (do47_s21 H.mch 21 im rd r1 r2 rfl hd h1 h2 hS ⟨H.mo, H.own⟩ sJ sK hc2).mono fun _ _ h => pod_mem H (fun _ h => h) (wr := some (adr s r1 im, wid 21, s.x r2)) (H.ok.nxt u_zero (u_pc4 s)) h
  · simp only [h0, if_false] at hc2 ⊢
    rcases (by omega : op = 18 ∨ op = 19 ∨ op = 20 ∨ op = 21) with rfl | rfl | rfl | rfl
    · exact (do47_s18f H.mch 18 im rd r1 r2 33 (by omega) rfl hd h1 h2 hS ⟨H.mo, H.own⟩ sJ hc2).mono fun _ _ h => pod_mem H (fun _ h => h) (wr := none) H.ok h
    · exact (do47_s19f H.mch 19 im rd r1 r2 33 (by omega) rfl hd h1 h2 hS ⟨H.mo, H.own⟩ sJ hc2).mono fun _ _ h => pod_mem H (fun _ h => h) (wr := none) H.ok h
    · exact (do47_s20f H.mch 20 im rd r1 r2 33 (by omega) rfl hd h1 h2 hS ⟨H.mo, H.own⟩ sJ hc2).mono fun _ _ h => pod_mem H (fun _ h => h) (wr := none) H.ok h
    · exact (do47_s21f H.mch 21 im rd r1 r2 33 (by omega) rfl hd h1 h2 hS ⟨H.mo, H.own⟩ sJ hc2).mono fun _ _ h => pod_mem H (fun _ h => h) (wr := none) H.ok h
theorem any_ecall (H : Bd N W m mem r ps bt s ov iv base xs L ib) (op im : Int) (rd r1 r2 : Nat) (hd : rd < 32) (h1 : r1 < 32) (h2 : r2 < 32) (hop : op = 64) (hn : xs.length < 140737488355328) : Calls Tryd.prog 47 #[.pointer (some ⟨m, 0, none⟩), .agg #[.int .i64 op, .int .i64 rd, .int .i64 r1, .int .i64 r2, .int .i64 im]] W (PoD N W m mem r ps bt iv base xs L ib (doP (ldP ps bt) (seP ps) L ib s op im rd r1 r2)) := by
  subst hop
  have e : doP (ldP ps bt) (seP ps) L ib s 64 im rd r1 r2 = ecP s L ib rd := rfl
  rw [e]
  unfold ecP
  have hS : ∀ k, Fal k → k < W.heap.size := fun _ h => h.elim
  have hS2 : ∀ k, Fal k → ∃ x ∈ ps, k = x.g := fun _ h => h.elim
  have sJ : ∀ w w', Below w.heap.size w w' → ((Mo w mem r ps bt ∧ w.ownsRow base 5 1 ov xs.length xs) ∧ InB w iv L ib) → ((Mo w' mem r ps bt ∧ w'.ownsRow base 5 1 ov xs.length xs) ∧ InB w' iv L ib) := fun w w' hb h => ⟨⟨h.1.1.below hb, own_below w w' hb h.1.2⟩, by
    by_cases hL : 0 < L
    · refine h.2.keep fun g hg => ?_
      obtain ⟨ao, c, e, k⟩ := h.2
      obtain ⟨g', e2, hc⟩ := k hL
      subst e e2
      cases hg
      exact hb.block _ (lt_of_cell (hc 0 hL))
    · exact h.2.empty hL⟩
  have sJ2 : ∀ w w', Below w.heap.size w w' → (Mo w mem r ps bt ∧ w.ownsRow base 5 1 ov xs.length xs) → (Mo w' mem r ps bt ∧ w'.ownsRow base 5 1 ov xs.length xs) := fun w w' hb h => ⟨h.1.below hb, own_below w w' hb h.2⟩
  have sK : ∀ w w', Onl (Im m) w w' → (Mo w mem r ps bt ∧ w.ownsRow base 5 1 ov xs.length xs) → (Mo w' mem r ps bt ∧ w'.ownsRow base 5 1 ov xs.length xs) := fun w w' hO h => ⟨mo_stays H bt w w' hO h.1, own_stays H w w' hO h.2⟩
  by_cases e1 : s.x 17 = 63
  · rw [if_pos e1]
    have hv : U64 (rdV L ib s.inn) := by
      unfold rdV
      split
      · exact u_max
      · have := H.ibs s.inn.toNat; exact ⟨this.1, by omega⟩
    have hi : 0 ≤ rdI L s.inn := by
      unfold rdI
      have := H.ok.inn
      split
      · exact this
      · rename_i h
        have := H.small
        unfold wrap64
        omega
    exact (do47_c H.mch 64 im rd r1 r2 rfl hd h1 h2 hS ⟨⟨H.mo, H.own⟩, H.inb⟩ sJ sK (fun w hm ho => (call63_r hm ho.2 H.ok.inn H.ibs e1).mono fun _ w' h => ⟨h.1, h.2.1.mono (fun _ h => .inl h), h.2.2, sK w w' h.2.1 ho.1⟩)).mono fun _ _ h => pod_mem H hS2 (wr := none) (Okx.nxt (s := { s with inn := rdI L s.inn, x := upd s.x 10 (rdV L ib s.inn) }) ⟨u_upd H.ok.x hv 10, H.ok.pc, hi⟩ u_zero (u_pc4 s)) h
  · rw [if_neg e1]
    by_cases e2 : s.x 17 = 64
    · rw [if_pos e2]
      refine (do47_cw (J := fun w => (Mo w mem r ps bt ∧ w.ownsRow base 5 1 ov xs.length xs) ∧ W.heap.size ≤ w.heap.size) (J' := fun o w => Mo w mem r ps bt ∧ w.ownsRow base 5 1 o (xs.length + 1) (xs ++ [.int .u8 (IntKind.u8.wrap (s.x 10))]) ∧ (o.ownBlock = ov.ownBlock ∨ ∃ g, o.ownBlock = some g ∧ W.heap.size ≤ g)) (s' := s) (S := fun k => ov.ownBlock = some k) H.mch 64 im rd r1 r2 rfl hd h1 h2 (fun k hk => by obtain ⟨cur, hc⟩ := owns_lt H.own hk; exact lt_of_some hc) ⟨⟨H.mo, H.own⟩, Nat.le_refl _⟩ (fun w w' hb h => ⟨sJ2 w w' hb h.1, Nat.le_trans h.2 hb.size⟩) (fun o w w' hO h => ⟨mo_stays H bt w w' hO h.1, owns_keep h.2.1 fun g hg => ?_, h.2.2⟩) (fun w hm ho => ?_)).mono ?_
      · obtain ⟨cur, hc⟩ := owns_lt h.2.1 hg
        refine hO.block g (lt_of_some hc) (fun e => ?_)
        rcases h.2.2 with hv | ⟨g', hg', hl⟩
        · exact owns_ne H.own H.mch (by rw [← hv, hg, e])
        · rw [hg] at hg'; cases hg'; have := H.mch.lt; have e : g = m := e; omega
      · refine (call63_w hm e2 H.ok.x ho.1.2 (Nat.le_trans H.base ho.2) hn).mono ?_
        rintro e w' ⟨rfl, hO, ov', hm', hw, hv⟩
        refine ⟨rfl, ov', hO, hm', ?_, hw, hv.imp id (fun ⟨g, h1, h2⟩ => ⟨g, h1, Nat.le_trans ho.2 h2⟩)⟩
        have nb : ∀ k, k ≠ m → ov.ownBlock ≠ some k → ¬ Or1 m (fun k => ov.ownBlock = some k) k := fun k a b h => h.elim a b
        refine ho.1.1.keep (hO.block _ (lt_of_cell ho.1.1.mm.cell) (nb _ (H.mch.ne_mem H.mo) H.ap3)) (hO.block _ (lt_of_some ho.1.1.mm.map) (nb _ (H.mch.ne_map H.mo) (fun e => ?_))) fun x hx => hO.block _ (ho.1.1.ne hx).2.2 (nb _ (H.mch.ne_page H.mo hx) (H.ap1 x hx))
        obtain ⟨cur, hc⟩ := owns_lt H.own e
        rw [H.mo.mm.map] at hc
        cases hc
      · rintro e w' ⟨rfl, ov', hO, hm, ho, hw, hv⟩
        obtain ⟨hB, hF⟩ := H.on (hO.mono fun i hi => hi.elim .inl (fun h => .inr (.inr h))) hm ho (by rw [List.length_append]; exact hw) (H.ok.nxt u_zero (u_pc4 s)) hv
        exact ⟨rfl, ov', hB, hF⟩
    · rw [if_neg e2]
      by_cases e3 : s.x 17 = 93
      · rw [if_pos e3]
        exact (do47_c H.mch 64 im rd r1 r2 rfl hd h1 h2 hS ⟨H.mo, H.own⟩ sJ2 sK (fun w hm ho => (call63_e hm e3).mono fun _ w' h => ⟨h.1, h.2.1.mono (fun _ h => .inl h), h.2.2, sK w w' h.2.1 ho⟩)).mono fun _ _ h => pod_mem H hS2 (wr := none) (Okx.nxt (s := { s with h := true, code := s.x 10 % 256 }) ⟨H.ok.x, H.ok.pc, H.ok.inn⟩ u_zero (u_pc4 s)) h
      · rw [if_neg e3]
        exact (do47_cf H.mch 64 im rd r1 r2 34 (by omega) rfl hd h1 h2 hS ⟨H.mo, H.own⟩ sJ2 (fun w hm ho => (call63_o hm e1 e2 e3).mono fun _ w' h => ⟨h.1, by rw [h.2]; exact Onl.of_below (Below.refl _ _), by rw [h.2]; exact hm, by rw [h.2]; exact ho⟩)).mono fun _ _ h => pod_mem H hS2 (wr := none) H.ok h
end
end
end Go.Proofs.YtnmpbihpoefeoaaDoor
