/- A run, plainly: no addresses. What an instruction does: those that touch registers alone. -/
import Derived.Test.YtdppoblbenbafaaDoorXAG
import Derived.Test.YtdppoblbenbafaaDoorXAH
import Derived.Test.YtdppoblbenbafaaDoorXAK
import Derived.Test.YtdppoblbenbafaaDoorO1
namespace Go.Proofs.YtdppoblbenbafaaDoor
section
open Go.RowKit Go.Shelf
/-- A number of 64 bits. -/
def I64 (v : Int) : Prop := -9223372036854775808 ≤ v ∧ v ≤ 9223372036854775807
theorem i64_wrap (z : Int) : I64 (wrap64 z) := by unfold I64 wrap64; omega
theorem i64_small (z : Int) (h : -1000000 ≤ z) (h' : z ≤ 1000000) : I64 z := by unfold I64; omega
/-- Numbers of 64 bits. -/
def N64 (l : List Fun) : Prop := ∀ x ∈ l, ∀ b ∈ x.bs, ∀ i ∈ b.l, I64 i.n
/-- A call: its function's number, its registers, its frame, where it is, where its answer goes. -/
structure Cal where
  k : Nat
  rg : List Int
  fr : Int
  b : Nat
  j : Nat
  an : Int
/-- A part of memory: of an ended one the kind is 0. -/
structure Par where
  kd : Int
  ad : Int
  ws : List Int
/-- A run: the innermost call, those around it (the nearest first), the parts, how many have ended, the next address, the heap's words, what was not read, what was printed, the steps. -/
structure St where
  top : Cal
  low : List Cal
  ps : List Par
  en : Int
  nx : Int
  hp : Int
  inp : List UInt8
  out : List UInt8
  st : Nat
/-- What a run tells. -/
structure Oc where
  en : Int
  cd : Int
  out : List UInt8
  st : Nat
def setR (c : Cal) (d v : Int) : Cal := if d = -1 then c else { c with rg := c.rg.set d.toNat v }
def getR (c : Cal) (a : Int) : Int := if a = -1 then 0 else c.rg.getD a.toNat 0
/-- What an operation makes of two numbers. -/
def binV (l : List UInt8) (a b : Int) : Int :=
  if l = [97, 100, 100] then wrap64 (a + b) else if l = [115, 117, 98] then wrap64 (a - b) else if l = [109, 117, 108] then wrap64 (a * b) else if l = [109, 117, 108, 104] then hiV a b else if l = [100, 105, 118] then quoV a b else if l = [114, 101, 109] then remV a b else if l = [97, 110, 100] then bits .and .i64 a b else if l = [111, 114] then bits .or .i64 a b else if l = [120, 111, 114] then bits .xor .i64 a b else if l = [115, 108, 108] then sllV a b else if l = [115, 114, 108] then srlV a b else if l = [115, 114, 97] then sraV a b else if l = [115, 108, 116] then sltV a b else sltuV a b
/-- The parts' keys. -/
def fdK (l : List (Int × Int × Nat)) (t : Int) : Nat := bsF (fun k => decide (t < (match l[k]? with | some p => p.2.1 | none => 0))) 0 l.length
def tdK {α : Type} (key : α → Int × Int × Nat) (l : List α) (e : Int) : List α × Int := if 2 * e < l.length then (l, e) else (l.filter fun a => decide (¬ (key a).1 = 0), 0)
def enK {α : Type} (key : α → Int × Int × Nat) (nil : Int → α) (l : List α) (e kind t c : Int) : Bool × List α × Int := match fdK (l.map key) t with
  | 0 => (false, l, e)
  | k + 1 => match l[k]? with
    | none => (false, l, e)
    | some a => if (key a).1 = kind ∧ (key a).2.1 = t ∧ ((key a).2.2 : Int) = c then (true, (tdK key (l.set k (nil t)) (e + 1)).1, (tdK key (l.set k (nil t)) (e + 1)).2) else (false, l, e)
def kyP (p : Pt) : Int × Int × Nat := (p.kd, p.at_, p.wn)
def kyA (p : Par) : Int × Int × Nat := (p.kd, p.ad, if p.kd = 0 then 0 else p.ws.length)
def nilA (t : Int) : Par := ⟨0, t, []⟩
theorem fdP_key (l : List Pt) (t : Int) : fdP l t = fdK (l.map kyP) t := by
  unfold fdP fdK
  rw [List.length_map]
  congr 1
  funext k
  unfold atF
  rw [List.getElem?_map]
  cases l[k]? <;> rfl
theorem enP_key (l : List Pt) (e kind t c : Int) : enP l e kind t c = enK kyP (fun t => ⟨0, t, none, 0, 0⟩) l e kind t c := by
  unfold enP enK
  rw [fdP_key]
  cases fdK (l.map kyP) t with
  | zero => rfl
  | succ k =>
    simp only []
    cases l[k]? with
    | none => rfl
    | some p => rfl
theorem tdK_map {α β : Type} (f : α → β) (ka : α → Int × Int × Nat) (kb : β → Int × Int × Nat) (hk : ∀ a, kb (f a) = ka a) (l : List α) (e : Int) : tdK kb (l.map f) e = ((tdK ka l e).1.map f, (tdK ka l e).2) := by
  unfold tdK
  rw [List.length_map]
  split
  · rfl
  · rw [List.filter_map]
    congr 2
    apply List.filter_congr
    intro a _
    simp [hk]
theorem enK_map {α β : Type} (f : α → β) (ka : α → Int × Int × Nat) (kb : β → Int × Int × Nat) (na : Int → α) (nb : Int → β) (hk : ∀ a, kb (f a) = ka a) (hn : ∀ t, f (na t) = nb t) (l : List α) (e kind t c : Int) : enK kb nb (l.map f) e kind t c = ((enK ka na l e kind t c).1, (enK ka na l e kind t c).2.1.map f, (enK ka na l e kind t c).2.2) := by
  unfold enK
  rw [List.map_map, show kb ∘ f = ka from funext hk]
  cases fdK (l.map ka) t with
  | zero => rfl
  | succ k =>
    simp only [List.getElem?_map]
    cases l[k]? with
    | none => rfl
    | some a =>
      simp only [Option.map_some, hk]
      split
      · rw [← hn, ← List.map_set, tdK_map f ka kb hk]
      · rfl
theorem tdK_len {α : Type} (key : α → Int × Int × Nat) (l : List α) (e : Int) : (tdK key l e).1.length ≤ l.length := by
  unfold tdK
  split
  · exact Nat.le_refl _
  · exact List.length_filter_le _ _
theorem tdK_en {α : Type} (key : α → Int × Int × Nat) (l : List α) (e : Int) (h : 0 ≤ e) : 0 ≤ (tdK key l e).2 ∧ (tdK key l e).2 ≤ e := by
  unfold tdK
  split
  · exact ⟨h, Int.le_refl _⟩
  · exact ⟨Int.le_refl _, h⟩
theorem enK_len {α : Type} (key : α → Int × Int × Nat) (nil : Int → α) (l : List α) (e kind t c : Int) : (enK key nil l e kind t c).2.1.length ≤ l.length := by
  unfold enK
  split
  · exact Nat.le_refl _
  · split
    · exact Nat.le_refl _
    · rename_i k _ _ _ _
      split
      · have := tdK_len key (l.set k (nil t)) (e + 1); rw [List.length_set] at this; exact this
      · exact Nat.le_refl _
theorem enK_en {α : Type} (key : α → Int × Int × Nat) (nil : Int → α) (l : List α) (e kind t c : Int) (h : 0 ≤ e) : 0 ≤ (enK key nil l e kind t c).2.2 ∧ (enK key nil l e kind t c).2.2 ≤ e + 1 := by
  have h0 : 0 ≤ e ∧ e ≤ e + 1 := ⟨h, by omega⟩
  unfold enK
  split
  · exact h0
  · split
    · exact h0
    · rename_i k _ _ _ _
      split
      · exact tdK_en key (l.set k (nil t)) (e + 1) (by omega)
      · exact h0
/-- What is left is what was there, or one that has ended. -/
theorem enK_mem {α : Type} (key : α → Int × Int × Nat) (nil : Int → α) (l : List α) (e kind t c : Int) : ∀ a ∈ (enK key nil l e kind t c).2.1, a ∈ l ∨ a = nil t := by
  have h1 : ∀ k, ∀ a ∈ l.set k (nil t), a ∈ l ∨ a = nil t := fun k a ha => List.mem_or_eq_of_mem_set ha
  unfold enK
  split
  · exact fun a ha => .inl ha
  · split
    · exact fun a ha => .inl ha
    · split
      · intro a ha
        simp only [] at ha
        unfold tdK at ha
        split at ha
        · exact h1 _ a ha
        · exact h1 _ a (List.mem_filter.1 ha).1
      · exact fun a ha => .inl ha
/-- Where the word at an address is. -/
def woS (l : List Par) (t : Int) : Option (Nat × Nat) := match fdK (l.map kyA) t with
  | 0 => none
  | k + 1 => if t % 8 = 0 then (match l[k]? with
    | none => none
    | some p => if ((kyA p).2.2 : Int) ≤ (t - p.ad) / 8 then none else some (k, ((t - p.ad) / 8).toNat)) else none
def wdAt (l : List Par) (k m : Nat) : Int := ((l[k]?).bind fun p => p.ws[m]?).getD 0
def wdSet (l : List Par) (k m : Nat) (v : Int) : List Par := match l[k]? with
  | some p => l.set k { p with ws := p.ws.set m v }
  | none => l
def insAt (p : List Fun) (c : Cal) : Option Ins := (p[c.k]?).bind fun f => (f.bs[c.b]?).bind fun b => b.l[c.j]?
/-- The number of the function with a name (the last one of that name). -/
def ixOf (l : List Fun) (s : ByteArray) : Nat := (l.findIdx? fun y => decide (y.h.nm = s)).getD 0
def frOf (p : List Fun) (k : Nat) : Nat := ((p[k]?).map fun f => f.h.fr.toNat).getD 0
def rgOf (p : List Fun) (k : Nat) : Nat := ((p[k]?).map fun f => f.h.rg.toNat).getD 0
/-- A call begins. -/
def entS (p : List Fun) (s : St) (c : Cal) (k : Nat) (vs : List Int) (an : Int) : St := { s with top := ⟨k, vs ++ List.replicate (rgOf p k - vs.length) 0, s.nx, 0, 0, an⟩, low := c :: s.low, ps := s.ps ++ [⟨1, s.nx, List.replicate (frOf p k) 0⟩], nx := s.nx + 8 * ((frOf p k : Int) + 1) }
def endS (s : St) (kind t c : Int) : Bool × St := ((enK kyA nilA s.ps s.en kind t c).1, { s with ps := (enK kyA nilA s.ps s.en kind t c).2.1, en := (enK kyA nilA s.ps s.en kind t c).2.2 })
/-- A call ends. -/
def bakS (p : List Fun) (s : St) (v : Int) : St ⊕ Oc := match s.low with
  | [] => .inr ⟨1, 0, s.out, s.st⟩
  | t :: r => .inl { (endS s 1 s.top.fr (frOf p s.top.k)).2 with top := setR t s.top.an v, low := r }
/-- A function is called. -/
def calS (p : List Fun) (s : St) (i : Ins) : St ⊕ Oc :=
  let c := s.top
  let vs := i.gs.map (getR c)
  if i.nm.data.toList = [114, 116, 46, 112, 114, 105, 110, 116] then .inl { s with top := setR c i.d 0, out := s.out ++ (Lib.itoa (vs.getD 0 0) ++ [10]) }
  else if i.nm.data.toList = [114, 116, 46, 114, 101, 97, 100] then .inl { s with top := setR c i.d (match s.inp with | [] => -1 | b :: _ => (b.toNat : Int)), inp := s.inp.tail }
  else if i.nm.data.toList = [114, 116, 46, 97, 108, 108, 111, 99] then
    (if vs.getD 0 0 < 0 ∨ 64 < vs.getD 0 0 ∨ 8192 < s.hp + vs.getD 0 0 then .inr ⟨1, 110, s.out, s.st⟩
    else .inl { s with top := setR c i.d s.nx, ps := s.ps ++ [⟨2, s.nx, List.replicate (vs.getD 0 0).toNat 0⟩], hp := s.hp + vs.getD 0 0, nx := s.nx + 8 * (vs.getD 0 0 + 1) })
  else if i.nm.data.toList = [114, 116, 46, 102, 114, 101, 101] then
    (if (endS s 2 (vs.getD 0 0) (vs.getD 1 0)).1 = true then .inl { (endS s 2 (vs.getD 0 0) (vs.getD 1 0)).2 with top := setR c i.d 0, hp := s.hp - vs.getD 1 0 } else .inr ⟨3, 0, s.out, s.st⟩)
  else .inl (entS p s c (ixOf p i.nm) vs i.d)
/-- One instruction is done. -/
def stpS (p : List Fun) (s : St) (i : Ins) : St ⊕ Oc :=
  let c : Cal := { s.top with j := s.top.j + 1 }
  if i.op = 1 then .inl { s with top := setR c i.d i.n }
  else if i.op = 2 then .inl { s with top := setR c i.d (getR c i.a) }
  else if i.op = 3 then .inl { s with top := setR c i.d (binV i.nm.data.toList (getR c i.a) (getR c i.b)) }
  else if i.op = 4 then (match woS s.ps (wrap64 (getR c i.a + i.n)) with
    | some (k, m) => .inl { s with top := setR c i.d (wdAt s.ps k m) }
    | none => .inr ⟨3, 0, s.out, s.st⟩)
  else if i.op = 5 then (match woS s.ps (wrap64 (getR c i.a + i.n)) with
    | some (k, m) => .inl { s with top := c, ps := wdSet s.ps k m (getR c i.b) }
    | none => .inr ⟨3, 0, s.out, s.st⟩)
  else if i.op = 6 then .inl { s with top := setR c i.d (wrap64 (c.fr + wrap64 (8 * i.n))) }
  else if i.op = 7 then calS p { s with top := c } i
  else if i.op = 8 then .inl { s with top := { c with b := i.to.toNat, j := 0 } }
  else if i.op = 9 then .inl { s with top := { c with b := (if getR c i.a = 0 then i.el else i.to).toNat, j := 0 } }
  else if i.op = 10 then bakS p { s with top := c } (getR c i.a)
  else .inr ⟨1, i.n, s.out, s.st⟩
/-- Is it a call too many? -/
def depB (s : St) (i : Ins) : Bool := decide (i.op = 7) && (decide (1000 ≤ s.low.length + 1) && (rtA i.nm.data.toList).isNone)
/-- So many steps more. -/
def runS (p : List Fun) : Nat → St → Oc
  | 0, s => ⟨2, 0, s.out, s.st⟩
  | n + 1, s => match insAt p s.top with
    | none => ⟨0, 0, s.out, s.st⟩
    | some i => if depB s i then ⟨2, 0, s.out, s.st⟩ else match stpS p { s with st := s.st + 1 } i with
      | .inl s' => runS p n s'
      | .inr o => o
end
section
open Go.RowKit Go.Shelf
theorem look53f (W : World) (r i : Nat) (s : ByteArray) (v : Value) (hr : W.heap[r]? = some (.map oes 14)) (hf : Instr.findNow .string (.string s) oes.toList 0 = some (some (i, v))) : (Instr.lookup 53 (.map (some r)) (.string s) false).run Tryd.prog W = .ok v W := by
  unfold Instr.lookup
  simp [Sem.run_bind, run_underlying und30, run_getObj_map W r oes 14 hr, check9, Go.MapKept.run_findKey Tryd.underlying9 hf]
theorem sd (W : World) (p : Addr) (v : Value) (k : Nat) : (W.drewN k).setCell p v = (W.setCell p v).drewN k := rfl
set_option maxRecDepth 20000 in
set_option maxHeartbeats 2000000 in
theorem do_const22g (R C ca n q m rc x o j : Nat) (d : Nat) (v u : Int) (w : World) (h3 : w.cell? ⟨R, 3, none⟩ = some (.slice (some ⟨C, 0, none⟩) (n + 1) ca)) (hn : n < 1000000) (c1 : w.cell? ⟨C, n * 7 + 1, none⟩ = some (.slice (some ⟨q, 0, none⟩) m rc)) (c5 : w.cell? ⟨C, n * 7 + 5, none⟩ = some (.int .i64 j)) (z5 : w.frozen? ⟨C, n * 7 + 5, none⟩ = false) (hj : j < 1000000) (i0 : w.cell? ⟨x, o, none⟩ = some (.int .i64 1)) (i1 : w.cell? ⟨x, o + 1, none⟩ = some (.int .i64 d)) (i4 : w.cell? ⟨x, o + 4, none⟩ = some (.int .i64 v)) (hd : d < m) (qd : w.cell? ⟨q, d, none⟩ = some (.int .i64 u)) (zd : w.frozen? ⟨q, d, none⟩ = false) (nxC : x ≠ C) (nqC : q ≠ C) (nRC : R ≠ C) : Calls Tryd.prog 22 #[.pointer (some ⟨R, 0, none⟩), .pointer (some ⟨x, o, none⟩)] w fun e w' => e = .returned (.tuple #[]) ∧ ∃ k, w' = ((w.setCell ⟨C, n * 7 + 5, none⟩ (.int .i64 ((j : Int) + 1))).setCell ⟨q, d, none⟩ (.int .i64 v)).drewN k := by
  have hI : Hid (Calls Tryd.prog 41 #[.pointer (some ⟨R, 0, none⟩)] w fun e w' => e = .returned (.pointer (some ⟨C, n * 7, none⟩)) ∧ ∃ k, w' = w.drewN k) := innermost41g R C ca n w h3 hn
  have ej : IntKind.i64.wrap ((j : Int) + 1) = (j : Int) + 1 := by exact wrapI _ (by omega) (by omega)
  have e1 : ¬ x = C := nxC
  have e2 : ¬ C = x := fun e => nxC e.symm
  have e3 : ¬ q = C := nqC
  have e4 : ¬ C = q := fun e => nqC e.symm
  have e5 : ¬ R = C := nRC
  have e6 : ¬ C = R := fun e => nRC e.symm
  have c1' := dcell c1
  have c5' := dcell c5
  have i0' := dcell i0
  have i1' := dcell i1
  have i4' := dcell i4
  have qd' := dcell qd
  have z5' : ∀ k, (w.drewN k).frozen? ⟨C, n * 7 + 5, none⟩ = false := fun _ => z5
  have zd' : ∀ k, (w.drewN k).frozen? ⟨q, d, none⟩ = false := fun _ => zd
  clear h3 c1 c5 i0 i1 i4 qd z5 zd nxC nqC nRC
  go_enter Tryd.func22, Tryd.ntmps22
  go_wp2_with fail
  refine hI.out.mono ?_
  rintro e w1 ⟨rfl, n1, rfl⟩
  go_wp2
  go_region
  go_wp2
  go_returns
  exact ⟨rfl, n1 + 1, rfl⟩
set_option maxRecDepth 20000 in
set_option maxHeartbeats 2000000 in
theorem do_move22g (R C ca n q m rc x o j : Nat) (d a : Nat) (v u : Int) (w : World) (h3 : w.cell? ⟨R, 3, none⟩ = some (.slice (some ⟨C, 0, none⟩) (n + 1) ca)) (hn : n < 1000000) (c1 : w.cell? ⟨C, n * 7 + 1, none⟩ = some (.slice (some ⟨q, 0, none⟩) m rc)) (c5 : w.cell? ⟨C, n * 7 + 5, none⟩ = some (.int .i64 j)) (z5 : w.frozen? ⟨C, n * 7 + 5, none⟩ = false) (hj : j < 1000000) (i0 : w.cell? ⟨x, o, none⟩ = some (.int .i64 2)) (i1 : w.cell? ⟨x, o + 1, none⟩ = some (.int .i64 d)) (i2 : w.cell? ⟨x, o + 2, none⟩ = some (.int .i64 a)) (hd : d < m) (qd : w.cell? ⟨q, d, none⟩ = some (.int .i64 u)) (zd : w.frozen? ⟨q, d, none⟩ = false) (ha : a < m) (qa : w.cell? ⟨q, a, none⟩ = some (.int .i64 v)) (nxC : x ≠ C) (nqC : q ≠ C) (nRC : R ≠ C) : Calls Tryd.prog 22 #[.pointer (some ⟨R, 0, none⟩), .pointer (some ⟨x, o, none⟩)] w fun e w' => e = .returned (.tuple #[]) ∧ ∃ k, w' = ((w.setCell ⟨C, n * 7 + 5, none⟩ (.int .i64 ((j : Int) + 1))).setCell ⟨q, d, none⟩ (.int .i64 v)).drewN k := by
  have hI : Hid (Calls Tryd.prog 41 #[.pointer (some ⟨R, 0, none⟩)] w fun e w' => e = .returned (.pointer (some ⟨C, n * 7, none⟩)) ∧ ∃ k, w' = w.drewN k) := innermost41g R C ca n w h3 hn
  have ej : IntKind.i64.wrap ((j : Int) + 1) = (j : Int) + 1 := by exact wrapI _ (by omega) (by omega)
  have e1 : ¬ x = C := nxC
  have e2 : ¬ C = x := fun e => nxC e.symm
  have e3 : ¬ q = C := nqC
  have e4 : ¬ C = q := fun e => nqC e.symm
  have e5 : ¬ R = C := nRC
  have e6 : ¬ C = R := fun e => nRC e.symm
  have c1' := dcell c1
  have c5' := dcell c5
  have i0' := dcell i0
  have i1' := dcell i1
  have i2' := dcell i2
  have qd' := dcell qd
  have qa' := dcell qa
  have z5' : ∀ k, (w.drewN k).frozen? ⟨C, n * 7 + 5, none⟩ = false := fun _ => z5
  have zd' : ∀ k, (w.drewN k).frozen? ⟨q, d, none⟩ = false := fun _ => zd
  clear h3 c1 c5 i0 i1 i2 qd qa z5 zd nxC nqC nRC
  go_enter Tryd.func22, Tryd.ntmps22
  go_wp2_with fail
  refine hI.out.mono ?_
  rintro e w1 ⟨rfl, n1, rfl⟩
  go_wp2
  go_region
  go_wp2
  go_returns
  exact ⟨rfl, n1 + 1, rfl⟩
set_option maxRecDepth 20000 in
set_option maxHeartbeats 2000000 in
theorem do_frame22g (R C ca n q m rc x o j : Nat) (d : Nat) (fr nn u : Int) (w : World) (h3 : w.cell? ⟨R, 3, none⟩ = some (.slice (some ⟨C, 0, none⟩) (n + 1) ca)) (hn : n < 1000000) (c1 : w.cell? ⟨C, n * 7 + 1, none⟩ = some (.slice (some ⟨q, 0, none⟩) m rc)) (c5 : w.cell? ⟨C, n * 7 + 5, none⟩ = some (.int .i64 j)) (z5 : w.frozen? ⟨C, n * 7 + 5, none⟩ = false) (hj : j < 1000000) (i0 : w.cell? ⟨x, o, none⟩ = some (.int .i64 6)) (c2 : w.cell? ⟨C, n * 7 + 2, none⟩ = some (.int .i64 fr)) (i1 : w.cell? ⟨x, o + 1, none⟩ = some (.int .i64 d)) (i4 : w.cell? ⟨x, o + 4, none⟩ = some (.int .i64 nn)) (hd : d < m) (qd : w.cell? ⟨q, d, none⟩ = some (.int .i64 u)) (zd : w.frozen? ⟨q, d, none⟩ = false) (nxC : x ≠ C) (nqC : q ≠ C) (nRC : R ≠ C) : Calls Tryd.prog 22 #[.pointer (some ⟨R, 0, none⟩), .pointer (some ⟨x, o, none⟩)] w fun e w' => e = .returned (.tuple #[]) ∧ ∃ k, w' = ((w.setCell ⟨C, n * 7 + 5, none⟩ (.int .i64 ((j : Int) + 1))).setCell ⟨q, d, none⟩ (.int .i64 (wrap64 (fr + wrap64 (8 * nn))))).drewN k := by
  have hI : Hid (Calls Tryd.prog 41 #[.pointer (some ⟨R, 0, none⟩)] w fun e w' => e = .returned (.pointer (some ⟨C, n * 7, none⟩)) ∧ ∃ k, w' = w.drewN k) := innermost41g R C ca n w h3 hn
  have ej : IntKind.i64.wrap ((j : Int) + 1) = (j : Int) + 1 := by exact wrapI _ (by omega) (by omega)
  have e1 : ¬ x = C := nxC
  have e2 : ¬ C = x := fun e => nxC e.symm
  have e3 : ¬ q = C := nqC
  have e4 : ¬ C = q := fun e => nqC e.symm
  have e5 : ¬ R = C := nRC
  have e6 : ¬ C = R := fun e => nRC e.symm
  have c1' := dcell c1
  have c5' := dcell c5
  have i0' := dcell i0
  have i1' := dcell i1
  have i4' := dcell i4
  have qd' := dcell qd
  have c2' := dcell c2
  have z5' : ∀ k, (w.drewN k).frozen? ⟨C, n * 7 + 5, none⟩ = false := fun _ => z5
  have zd' : ∀ k, (w.drewN k).frozen? ⟨q, d, none⟩ = false := fun _ => zd
  clear h3 c1 c5 i0 i1 i4 qd c2 z5 zd nxC nqC nRC
  go_enter Tryd.func22, Tryd.ntmps22
  go_wp2_with fail
  refine hI.out.mono ?_
  rintro e w1 ⟨rfl, n1, rfl⟩
  go_wp2
  go_region
  go_wp2
  go_returns
  exact ⟨rfl, n1 + 1, rfl⟩
set_option maxRecDepth 20000 in
set_option maxHeartbeats 2000000 in
theorem do_jump22g (R C ca n q m rc x o j : Nat) (b0 t : Int) (w : World) (h3 : w.cell? ⟨R, 3, none⟩ = some (.slice (some ⟨C, 0, none⟩) (n + 1) ca)) (hn : n < 1000000) (c1 : w.cell? ⟨C, n * 7 + 1, none⟩ = some (.slice (some ⟨q, 0, none⟩) m rc)) (c5 : w.cell? ⟨C, n * 7 + 5, none⟩ = some (.int .i64 j)) (z5 : w.frozen? ⟨C, n * 7 + 5, none⟩ = false) (hj : j < 1000000) (i0 : w.cell? ⟨x, o, none⟩ = some (.int .i64 8)) (i7 : w.cell? ⟨x, o + 7, none⟩ = some (.int .i64 t)) (c4 : w.cell? ⟨C, n * 7 + 4, none⟩ = some (.int .i64 b0)) (z4 : w.frozen? ⟨C, n * 7 + 4, none⟩ = false) (nxC : x ≠ C) (nqC : q ≠ C) (nRC : R ≠ C) : Calls Tryd.prog 22 #[.pointer (some ⟨R, 0, none⟩), .pointer (some ⟨x, o, none⟩)] w fun e w' => e = .returned (.tuple #[]) ∧ ∃ k, w' = (((w.setCell ⟨C, n * 7 + 5, none⟩ (.int .i64 ((j : Int) + 1))).setCell ⟨C, n * 7 + 4, none⟩ (.int .i64 t)).setCell ⟨C, n * 7 + 5, none⟩ (.int .i64 0)).drewN k := by
  have hI : Hid (Calls Tryd.prog 41 #[.pointer (some ⟨R, 0, none⟩)] w fun e w' => e = .returned (.pointer (some ⟨C, n * 7, none⟩)) ∧ ∃ k, w' = w.drewN k) := innermost41g R C ca n w h3 hn
  have ej : IntKind.i64.wrap ((j : Int) + 1) = (j : Int) + 1 := by exact wrapI _ (by omega) (by omega)
  have e1 : ¬ x = C := nxC
  have e2 : ¬ C = x := fun e => nxC e.symm
  have e3 : ¬ q = C := nqC
  have e4 : ¬ C = q := fun e => nqC e.symm
  have e5 : ¬ R = C := nRC
  have e6 : ¬ C = R := fun e => nRC e.symm
  have c1' := dcell c1
  have c5' := dcell c5
  have i0' := dcell i0
  have i7' := dcell i7
  have c4' := dcell c4
  have z5' : ∀ k, (w.drewN k).frozen? ⟨C, n * 7 + 5, none⟩ = false := fun _ => z5
  have z4' : ∀ k, (w.drewN k).frozen? ⟨C, n * 7 + 4, none⟩ = false := fun _ => z4
  clear h3 c1 c5 i0 i7 c4 z5 z4 nxC nqC nRC
  go_enter Tryd.func22, Tryd.ntmps22
  go_wp2_with fail
  refine hI.out.mono ?_
  rintro e w1 ⟨rfl, n1, rfl⟩
  go_wp2
  go_returns
  exact ⟨rfl, n1, rfl⟩
set_option maxRecDepth 20000 in
set_option maxHeartbeats 2000000 in
theorem do_no22g (R C ca n q m rc x o j : Nat) (a : Nat) (b0 t el v : Int) (w : World) (h3 : w.cell? ⟨R, 3, none⟩ = some (.slice (some ⟨C, 0, none⟩) (n + 1) ca)) (hn : n < 1000000) (c1 : w.cell? ⟨C, n * 7 + 1, none⟩ = some (.slice (some ⟨q, 0, none⟩) m rc)) (c5 : w.cell? ⟨C, n * 7 + 5, none⟩ = some (.int .i64 j)) (z5 : w.frozen? ⟨C, n * 7 + 5, none⟩ = false) (hj : j < 1000000) (i0 : w.cell? ⟨x, o, none⟩ = some (.int .i64 9)) (i2 : w.cell? ⟨x, o + 2, none⟩ = some (.int .i64 a)) (i7 : w.cell? ⟨x, o + 7, none⟩ = some (.int .i64 t)) (i8 : w.cell? ⟨x, o + 8, none⟩ = some (.int .i64 el)) (c4 : w.cell? ⟨C, n * 7 + 4, none⟩ = some (.int .i64 b0)) (z4 : w.frozen? ⟨C, n * 7 + 4, none⟩ = false) (ha : a < m) (qa : w.cell? ⟨q, a, none⟩ = some (.int .i64 v)) (hv : v = 0) (nxC : x ≠ C) (nqC : q ≠ C) (nRC : R ≠ C) : Calls Tryd.prog 22 #[.pointer (some ⟨R, 0, none⟩), .pointer (some ⟨x, o, none⟩)] w fun e w' => e = .returned (.tuple #[]) ∧ ∃ k, w' = (((w.setCell ⟨C, n * 7 + 5, none⟩ (.int .i64 ((j : Int) + 1))).setCell ⟨C, n * 7 + 4, none⟩ (.int .i64 el)).setCell ⟨C, n * 7 + 5, none⟩ (.int .i64 0)).drewN k := by
  have hI : Hid (Calls Tryd.prog 41 #[.pointer (some ⟨R, 0, none⟩)] w fun e w' => e = .returned (.pointer (some ⟨C, n * 7, none⟩)) ∧ ∃ k, w' = w.drewN k) := innermost41g R C ca n w h3 hn
  have ej : IntKind.i64.wrap ((j : Int) + 1) = (j : Int) + 1 := by exact wrapI _ (by omega) (by omega)
  have e1 : ¬ x = C := nxC
  have e2 : ¬ C = x := fun e => nxC e.symm
  have e3 : ¬ q = C := nqC
  have e4 : ¬ C = q := fun e => nqC e.symm
  have e5 : ¬ R = C := nRC
  have e6 : ¬ C = R := fun e => nRC e.symm
  subst hv
  have c1' := dcell c1
  have c5' := dcell c5
  have i0' := dcell i0
  have i2' := dcell i2
  have i7' := dcell i7
  have i8' := dcell i8
  have c4' := dcell c4
  have qa' := dcell qa
  have z5' : ∀ k, (w.drewN k).frozen? ⟨C, n * 7 + 5, none⟩ = false := fun _ => z5
  have z4' : ∀ k, (w.drewN k).frozen? ⟨C, n * 7 + 4, none⟩ = false := fun _ => z4
  clear h3 c1 c5 i0 i2 i7 i8 c4 qa z5 z4 nxC nqC nRC
  go_enter Tryd.func22, Tryd.ntmps22
  go_wp2_with fail
  refine hI.out.mono ?_
  rintro e w1 ⟨rfl, n1, rfl⟩
  go_wp2
  go_quiet (fail)
  go_wp2
  go_returns
  exact ⟨rfl, n1 + nq, by simp only [sd, World.drewN_drewN]⟩
set_option maxRecDepth 20000 in
set_option maxHeartbeats 2000000 in
theorem do_yes22g (R C ca n q m rc x o j : Nat) (a : Nat) (b0 t el v : Int) (w : World) (h3 : w.cell? ⟨R, 3, none⟩ = some (.slice (some ⟨C, 0, none⟩) (n + 1) ca)) (hn : n < 1000000) (c1 : w.cell? ⟨C, n * 7 + 1, none⟩ = some (.slice (some ⟨q, 0, none⟩) m rc)) (c5 : w.cell? ⟨C, n * 7 + 5, none⟩ = some (.int .i64 j)) (z5 : w.frozen? ⟨C, n * 7 + 5, none⟩ = false) (hj : j < 1000000) (i0 : w.cell? ⟨x, o, none⟩ = some (.int .i64 9)) (i2 : w.cell? ⟨x, o + 2, none⟩ = some (.int .i64 a)) (i7 : w.cell? ⟨x, o + 7, none⟩ = some (.int .i64 t)) (i8 : w.cell? ⟨x, o + 8, none⟩ = some (.int .i64 el)) (c4 : w.cell? ⟨C, n * 7 + 4, none⟩ = some (.int .i64 b0)) (z4 : w.frozen? ⟨C, n * 7 + 4, none⟩ = false) (ha : a < m) (qa : w.cell? ⟨q, a, none⟩ = some (.int .i64 v)) (hv : ¬ v = 0) (nxC : x ≠ C) (nqC : q ≠ C) (nRC : R ≠ C) : Calls Tryd.prog 22 #[.pointer (some ⟨R, 0, none⟩), .pointer (some ⟨x, o, none⟩)] w fun e w' => e = .returned (.tuple #[]) ∧ ∃ k, w' = ((((w.setCell ⟨C, n * 7 + 5, none⟩ (.int .i64 ((j : Int) + 1))).setCell ⟨C, n * 7 + 4, none⟩ (.int .i64 el)).setCell ⟨C, n * 7 + 5, none⟩ (.int .i64 0)).setCell ⟨C, n * 7 + 4, none⟩ (.int .i64 t)).drewN k := by
  have hI : Hid (Calls Tryd.prog 41 #[.pointer (some ⟨R, 0, none⟩)] w fun e w' => e = .returned (.pointer (some ⟨C, n * 7, none⟩)) ∧ ∃ k, w' = w.drewN k) := innermost41g R C ca n w h3 hn
  have ej : IntKind.i64.wrap ((j : Int) + 1) = (j : Int) + 1 := by exact wrapI _ (by omega) (by omega)
  have e1 : ¬ x = C := nxC
  have e2 : ¬ C = x := fun e => nxC e.symm
  have e3 : ¬ q = C := nqC
  have e4 : ¬ C = q := fun e => nqC e.symm
  have e5 : ¬ R = C := nRC
  have e6 : ¬ C = R := fun e => nRC e.symm
  have c1' := dcell c1
  have c5' := dcell c5
  have i0' := dcell i0
  have i2' := dcell i2
  have i7' := dcell i7
  have i8' := dcell i8
  have c4' := dcell c4
  have qa' := dcell qa
  have z5' : ∀ k, (w.drewN k).frozen? ⟨C, n * 7 + 5, none⟩ = false := fun _ => z5
  have z4' : ∀ k, (w.drewN k).frozen? ⟨C, n * 7 + 4, none⟩ = false := fun _ => z4
  clear h3 c1 c5 i0 i2 i7 i8 c4 qa z5 z4 nxC nqC nRC
  go_enter Tryd.func22, Tryd.ntmps22
  go_wp2_with fail
  refine hI.out.mono ?_
  rintro e w1 ⟨rfl, n1, rfl⟩
  go_wp2
  go_quiet (fail)
  go_wp2
  go_returns
  exact ⟨rfl, n1 + nq, by simp only [sd, World.drewN_drewN]⟩
end
end Go.Proofs.YtdppoblbenbafaaDoor
