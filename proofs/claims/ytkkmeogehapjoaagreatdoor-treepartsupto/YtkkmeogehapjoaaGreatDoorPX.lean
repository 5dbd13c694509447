/- The part below a node, the document's own: what it keeps. The part below a node: the document's own. The part below a node: the program's and the document's are one; where there is none. A builder in a box of its own: its check, a string written. A type's text: plainly; the document's own. A type's text: the document's own. A type's text, and whether a node says one: the document's own. Type: the document's own, of whatever tree. -/
import Derived.Test.YtkkmeogehapjoaaGreatDoorKK
import Derived.Test.YtkkmeogehapjoaaGreatDoorRG
namespace Go.Proofs.YtkkmeogehapjoaaGreatDoor
section
open Go.RowKit Go.Shelf
/-- What the document's Sub keeps: the part lies in a box. -/
structure SubD (w : World) (gP gB gO : Nat) (bs : List Bool) (n : Nat) (P : List Int) (Q : List Nd) (vp : Value) (wx : World) : Prop where
  s : SubS w gP gB bs n P Q vp wx
  ob : wx.heap[gO]? = some (.cells #[vp] 24 (0, 0))
  go : w.heap.size + 1 < gO
theorem SubD.alloc {w : World} {gP gB gO : Nat} {bs : List Bool} {n : Nat} {P : List Int} {Q : List Nd} {vp : Value} {wx : World} (h : SubD w gP gB gO bs n P Q vp wx) (o : Obj) : SubD w gP gB gO bs n P Q vp (wx.alloc o) :=
  ⟨h.s.alloc o, by rw [Lib.alloc_old _ _ _ (Array.getElem?_eq_some_iff.1 h.ob).1]; exact h.ob, h.go⟩
theorem SubS.push' {w : World} {gP gB gO : Nat} {bs : List Bool} {n : Nat} {P : List Int} {Q : List Nd} {vp : Value} {wr : World} (h : SubS w gP gB bs n P Q vp wr) (hob : wr.heap[gO]? = some (.cells #[vp] 24 (0, 0))) (hgo : w.heap.size + 1 < gO) {K : Int} {T : ByteArray} {V F E : Int} {ca : Option Addr} {mk cc : Nat} {r : List Int} {w6 : World} {v' : Value} {k : Nat} {q : Int}
    (hbl : Below w.heap.size w w6) (hpl : Blk w6 gP (P.set k q)) (keep : ∀ b, b < wr.heap.size → b ≠ gP → b ≠ gO → vp.ownBlock ≠ some b → w6.heap[b]? = wr.heap[b]?) (ho : w6.ownsRow w.heap.size 53 6 v' (Q.length + 1) (Q.flatMap ndc ++ [.int .i64 K, .string T, .int .i64 V, .slice ca mk cc, .int .i64 F, .int .i64 E])) (hk : w6.ownsRow (wr.heap.size + 1) 3 1 (.slice ca mk cc) mk (r.map (Value.int .i64))) (hm : mk = r.length) : SubS w gP gB bs n (P.set k q) (Q ++ [⟨K, T, V, ca, cc, r, F, E⟩]) v' w6 := by
  have hPl : gP < wr.heap.size := (Array.getElem?_eq_some_iff.1 h.pl).1
  have own53 : ∀ b, vp.ownBlock = some b → ∃ cur, wr.heap[b]? = some (.cells cur 53 (0, 0)) := fun b hb => by
    obtain ⟨cur, h1, h2, h3⟩ := own_block h.ow hb
    exact ⟨cur, h1⟩
  have hp3 : ∃ cur, wr.heap[gP]? = some (.cells cur 3 (0, 0)) := ⟨_, h.pl⟩
  have other : ∀ b cur t, wr.heap[b]? = some (.cells cur t (0, 0)) → (t ≠ 3 ∨ b ≠ gP) → (t ≠ 24 ∨ b ≠ gO) → t ≠ 53 → w6.heap[b]? = wr.heap[b]? := fun b cur t hb h3 h24 h53 => by
    refine keep b (Array.getElem?_eq_some_iff.1 hb).1 (fun e => ?_) (fun e => ?_) (fun e => ?_)
    · rcases h3 with h3 | h3
      · obtain ⟨c2, e2⟩ := hp3
        rw [e, e2] at hb
        simp at hb
        exact h3 hb.2.symm
      · exact h3 e
    · rcases h24 with h3 | h3
      · rw [e, hob] at hb
        simp at hb
        exact h3 hb.2.symm
      · exact h3 e
    · obtain ⟨c2, e2⟩ := own53 b e
      rw [e2] at hb
      simp at hb
      exact h53 hb.2.symm
  refine ⟨hbl, hpl, by rw [List.length_set]; exact h.pn, h.pb, ?_, ?_, ?_, ?_⟩
  · unfold BlB
    rw [other gB _ 4 h.bb (.inl (by decide)) (.inl (by decide)) (by decide)]
    exact h.bb
  · rw [other _ _ 24 h.rb (.inl (by decide)) (.inr (by omega)) (by decide)]
    exact h.rb
  · rw [List.length_append, List.flatMap_append]
    simp only [List.length_singleton, List.flatMap_cons, List.flatMap_nil, List.append_nil]
    have e : ndc ⟨K, T, V, ca, cc, r, F, E⟩ = [.int .i64 K, .string T, .int .i64 V, .slice ca mk cc, .int .i64 F, .int .i64 E] := by simp [ndc, hm]
    rw [e]
    exact ho
  · intro x hx
    rcases List.mem_append.1 hx with hx | hx
    · obtain ⟨h1, h2⟩ := h.kd x hx
      refine ⟨own_keep h1 (fun b hb => ?_), h2⟩
      obtain ⟨cur, e1, _, e3⟩ := own_block h1 hb
      exact other b cur 3 e1 (.inr (fun e => h2 (by rw [hb, e]))) (.inl (by decide)) (by decide)
    · rw [List.mem_singleton] at hx
      subst hx
      rw [hm] at hk
      refine ⟨own_mono hk (by have := h.bl.size; omega), fun e => ?_⟩
      obtain ⟨cur, _, e2, _⟩ := own_block hk e
      omega
/-- A node in a box, the place of its own laid, its kids' places in a row that grows. -/
structure InD (w wr : World) (gP : Nat) (P' : List Int) (bx : Array Value) (vk : Value) (r : List Int) (wx : World) : Prop where
  keep : ∀ b, b < wr.heap.size → b ≠ gP → wx.heap[b]? = wr.heap[b]?
  sz : wr.heap.size < wx.heap.size
  bl : Below w.heap.size w wx
  pl : Blk wx gP P'
  bx : wx.heap[wr.heap.size]? = some (.cells bx 53 (0, 0))
  ow : wx.ownsRow (wr.heap.size + 1) 3 1 vk r.length (r.map (Value.int .i64))
theorem InD.start {w wr : World} {gP : Nat} {P : List Int} {bx : Array Value} (hb : Below w.heap.size w wr) (hp : Blk wr gP P) (hg : w.heap.size ≤ gP) (k : Nat) (q : Int) : InD w wr gP (P.set k q) bx (.slice none 0 0) [] ((wr.setCell ⟨gP, k, none⟩ (.int .i64 q)).alloc (.cells bx 53)) := by
  have hlt : gP < wr.heap.size := (Array.getElem?_eq_some_iff.1 hp).1
  have hb2 : Below w.heap.size w (wr.setCell ⟨gP, k, none⟩ (.int .i64 q)) := hb.setCell (p := ⟨gP, k, none⟩) hg _
  refine ⟨fun b h1 h2 => ?_, by simp, hb2.alloc hb2.size _, ?_, ?_, World.ownsRow_nil _ _ _ _⟩
  · rw [Lib.alloc_old _ _ _ (by simpa using h1), set_other (Ne.symm h2)]
  · have t := hp.set k q
    unfold Blk at t ⊢
    rw [Lib.alloc_old _ _ _ (by simpa using hlt)]
    exact t
  · have t := Go.heap_alloc_new (wr.setCell ⟨gP, k, none⟩ (.int .i64 q)) (.cells bx 53)
    simpa using t
theorem InD.push {w wr : World} {gP : Nat} {P' : List Int} {bx : Array Value} {vk : Value} {r : List Int} {wx : World} (h : InD w wr gP P' bx vk r wx) (hw : w.heap.size ≤ wr.heap.size) (hP : gP < wr.heap.size) {o : Obj} {w6 : World} {v' : Value} {u : Int} (hg : (wx.alloc o).grownBy w6 vk.ownBlock) (ho : w6.ownsRow (wr.heap.size + 1) 3 1 v' (r.length + 1) (r.map (Value.int .i64) ++ [.int .i64 u])) : InD w wr gP P' bx v' (r ++ [u]) w6 := by
  have hsz : (wx.alloc o).heap.size = wx.heap.size + 1 := by simp
  have hx := h.sz
  have hin : ∀ b, vk.ownBlock = some b → wr.heap.size + 1 ≤ b := fun b hb => by
    obtain ⟨_, _, e, _⟩ := own_block h.ow hb
    exact e
  have kp : ∀ b, b ≤ wr.heap.size → w6.heap[b]? = wx.heap[b]? := fun b hb => by
    rw [hg.block b (by rw [hsz]; omega) (fun e => by have := hin b e.symm; omega), Lib.alloc_old _ _ _ (by omega)]
  have hb2 := h.bl.alloc h.bl.size o
  have hb3 : Below w.heap.size w w6 := hb2.grown hg hb2.size (fun b hb => by have := hin b hb; omega)
  have hz6 : (wx.alloc o).heap.size ≤ w6.heap.size := ((Below.refl (wr.heap.size + 1) (wx.alloc o)).grown hg (by rw [hsz]; omega) hin).size
  refine ⟨fun b h1 h2 => ?_, by omega, hb3, ?_, ?_, ?_⟩
  · rw [kp b (by omega)]
    exact h.keep b h1 h2
  · unfold Blk
    rw [kp gP (by omega)]
    exact h.pl
  · rw [kp _ (Nat.le_refl _)]
    exact h.bx
  · rw [List.length_append, List.map_append]
    exact ho
theorem SubD.row {w : World} {gP gB gO : Nat} {bs : List Bool} {n : Nat} {P : List Int} {Q : List Nd} {vp : Value} {wr : World} (h : SubD w gP gB gO bs n P Q vp wr) {P' : List Int} {bx : Array Value} {vk : Value} {r : List Int} {wx : World} (hI : InD w wr gP P' bx vk r wx) (v : Value) (o : Obj) : ((wx.setCell ⟨wr.heap.size, 3, none⟩ v).alloc o).ownsRow w.heap.size 53 6 vp Q.length (Q.flatMap ndc) := by
  refine own_keep h.s.ow (fun g hg => ?_)
  obtain ⟨cur, h1, _, h3⟩ := own_block h.s.ow hg
  have hx := hI.sz
  rw [Lib.alloc_old _ _ _ (by simp; omega), set_other (by omega), hI.keep g h3]
  rintro rfl
  have t := h.s.pl
  unfold Blk at t
  rw [h1] at t
  cases t
theorem SubD.atO {w : World} {gP gB gO : Nat} {bs : List Bool} {n : Nat} {P : List Int} {Q : List Nd} {vp : Value} {wr : World} (h : SubD w gP gB gO bs n P Q vp wr) {P' : List Int} {bx : Array Value} {vk : Value} {r : List Int} {wx : World} (hI : InD w wr gP P' bx vk r wx) (v : Value) : (wx.setCell ⟨wr.heap.size, 3, none⟩ v).cell? ⟨gO, 0, none⟩ = some vp := by
  have hOl : gO < wr.heap.size := (Array.getElem?_eq_some_iff.1 h.ob).1
  have hb : (wx.setCell ⟨wr.heap.size, 3, none⟩ v).heap[gO]? = some (.cells #[vp] 24 (0, 0)) := by
    rw [set_other (by omega), hI.keep gO hOl]
    · exact h.ob
    · rintro rfl
      have t := h.s.pl
      unfold Blk at t
      rw [h.ob] at t
      simp at t
  rw [Lib.cell_of_heap hb]
  rfl
theorem InD.box {w wr : World} {gP : Nat} {P' : List Int} {a b c d e f : Value} {vk : Value} {r : List Int} {wx : World} (h : InD w wr gP P' #[a, b, c, d, e, f] vk r wx) (v : Value) : (wx.setCell ⟨wr.heap.size, 3, none⟩ v).heap[wr.heap.size]? = some (.cells #[a, b, c, v, e, f] 53 (0, 0)) := by
  simp only [World.setCell, Array.getElem?_modify, if_true, h.bx, Option.map_some]
  rfl
theorem SubD.done {w : World} {gP gB gO : Nat} {bs : List Bool} {n : Nat} {P : List Int} {Q : List Nd} {vp : Value} {wr : World} (h : SubD w gP gB gO bs n P Q vp wr) {k : Nat} {q : Int} {bx : Array Value} {ca : Option Addr} {mk cc : Nat} {r : List Int} {wx : World} (hI : InD w wr gP (P.set k q) bx (.slice ca mk cc) r wx) (hm : mk = r.length) {K : Int} {T : ByteArray} {V F E : Int} {o : Obj} {w6 : World} {v' : Value}
    (hg : ((wx.setCell ⟨wr.heap.size, 3, none⟩ (.slice ca mk cc)).alloc o).grownBy w6 vp.ownBlock) (ho : w6.ownsRow w.heap.size 53 6 v' (Q.length + 1) (Q.flatMap ndc ++ [.int .i64 K, .string T, .int .i64 V, .slice ca mk cc, .int .i64 F, .int .i64 E])) : SubD w gP gB gO bs n (P.set k q) (Q ++ [⟨K, T, V, ca, cc, r, F, E⟩]) v' (w6.setCell ⟨gO, 0, none⟩ v') ∧ w6.cell? ⟨gO, 0, none⟩ = some vp ∧ w6.frozen? ⟨gO, 0, none⟩ = false := by
  have hsz : ((wx.setCell ⟨wr.heap.size, 3, none⟩ (.slice ca mk cc)).alloc o).heap.size = wx.heap.size + 1 := by simp
  have hx := hI.sz
  have hPl : gP < wr.heap.size := (Array.getElem?_eq_some_iff.1 h.s.pl).1
  have hOl : gO < wr.heap.size := (Array.getElem?_eq_some_iff.1 h.ob).1
  have hgo := h.go
  have hws := h.s.bl.size
  have hin : ∀ b, vp.ownBlock = some b → (∃ cur, wr.heap[b]? = some (.cells cur 53 (0, 0))) ∧ w.heap.size ≤ b ∧ b < wr.heap.size := fun b hb => by
    obtain ⟨cur, e1, e2, e3⟩ := own_block h.s.ow hb
    exact ⟨⟨cur, e1⟩, e2, e3⟩
  have nO : vp.ownBlock ≠ some gO := fun e => by
    obtain ⟨⟨cur, e1⟩, _⟩ := hin _ e
    rw [h.ob] at e1
    cases e1
  have nP : vp.ownBlock ≠ some gP := fun e => by
    obtain ⟨⟨cur, e1⟩, _⟩ := hin _ e
    have t := h.s.pl
    unfold Blk at t
    rw [e1] at t
    cases t
  have nPO : gP ≠ gO := fun e => by
    have t := h.s.pl
    unfold Blk at t
    rw [e, h.ob] at t
    simp at t
  have kp : ∀ b, b < wx.heap.size → b ≠ wr.heap.size → vp.ownBlock ≠ some b → w6.heap[b]? = wx.heap[b]? := fun b hb h1 h2 => by
    rw [hg.block b (by rw [hsz]; omega) (Ne.symm h2), Lib.alloc_old _ _ _ (by simpa using hb), set_other (Ne.symm h1)]
  have hO6 : w6.heap[gO]? = some (.cells #[vp] 24 (0, 0)) := by
    rw [kp gO (by omega) (by omega) nO, hI.keep gO hOl (Ne.symm nPO)]
    exact h.ob
  have hb1 : Below w.heap.size w (wx.setCell ⟨wr.heap.size, 3, none⟩ (.slice ca mk cc)) := hI.bl.setCell (p := ⟨wr.heap.size, 3, none⟩) hws _
  have hb2 := hb1.alloc hb1.size o
  have hb3 : Below w.heap.size w w6 := hb2.grown hg hb2.size (fun b hb => (hin b hb).2.1)
  have hb4 : Below w.heap.size w (w6.setCell ⟨gO, 0, none⟩ v') := hb3.setCell (p := ⟨gO, 0, none⟩) (by show w.heap.size ≤ gO; omega) _
  have hO7 : (w6.setCell ⟨gO, 0, none⟩ v').heap[gO]? = some (.cells #[v'] 24 (0, 0)) := by
    simp only [World.setCell, Array.getElem?_modify, if_true, hO6, Option.map_some]
    rfl
  refine ⟨⟨h.s.push' (K := K) (T := T) (V := V) (F := F) (E := E) (mk := mk) h.ob h.go hb4 ?_ (fun b h1 h2 h3 h4 => ?_) ?_ ?_ hm, hO7, h.go⟩, ?_, Lib.frozen_of_heap hO6 0⟩
  · unfold Blk
    rw [set_other (Ne.symm nPO), kp gP (by omega) (by omega) nP]
    exact hI.pl
  · rw [set_other (Ne.symm h3), kp b (by omega) (by omega) h4, hI.keep b h1 h2]
  · refine own_keep ho (fun g hg' => set_other (fun e => ?_))
    obtain ⟨cur, e1, _⟩ := own_block ho hg'
    rw [← e, hO6] at e1
    simp at e1
  · have t := hI.ow
    rw [← hm] at t
    refine own_keep t (fun g hg' => ?_)
    obtain ⟨cur, e1, e2, e3⟩ := own_block t hg'
    rw [set_other (by omega), kp g e3 (by omega) (fun e => by have := (hin _ e).2.2; omega)]
  · rw [Lib.cell_of_heap hO6]
    rfl
end
section
open Go.RowKit Go.Shelf
/-- Which nodes are n, or stand below it, of all. -/
def blwF (l : List Nd) (n : Nat) : List Bool := bAll l (n + 1) ((List.replicate l.length false).set n true)
theorem one_row {W : World} {a : Value} {t : TypeId} {j : Nat} {u : Value} (h : [a][j]? = some u) : (W.alloc (.cells #[a] t)).cell? (Addr.add ⟨W.heap.size, 0, none⟩ j) = some u := by
  rw [Addr.add_lit, Nat.zero_add, Lib.cell_of_heap (Go.heap_alloc_new W _)]
  simpa using h
theorem six_set {W : World} {g p : Nat} {v : Value} {a b c d e f : Value} {t : TypeId} {j : Nat} {u : Value} (h : [a, b, c, d, e, f][j]? = some u) : ((W.setCell ⟨g, p, none⟩ v).alloc (.cells #[a, b, c, d, e, f] t)).cell? (Addr.add ⟨W.heap.size, 0, none⟩ j) = some u := by
  have hsw : (W.setCell ⟨g, p, none⟩ v).heap.size = W.heap.size := by simp
  have r := six_row (W := W.setCell ⟨g, p, none⟩ v) (t := t) h
  rw [hsw] at r
  exact r
theorem own_val {w : World} {base : Nat} {e : TypeId} {size : Nat} {v : Value} {n : Nat} {xs : List Value} (h : w.ownsRow base e size v n xs) : ∃ a c, v = .slice a n c := by
  obtain ⟨_, ⟨e, e0⟩ | ⟨g, cap, cur, e, _⟩⟩ := h
  · exact ⟨none, 0, by rw [e, e0]⟩
  · exact ⟨_, _, e⟩
theorem mapK_set (P : List Int) (k : Nat) (q : Int) (z : Nat) (h : z < k) : (P.set k q)[z]? = P[z]? := by
  rw [List.getElem?_set_ne (by omega)]
theorem mapK_snoc (P ks : List Int) (j z : Nat) (u : Int) (hy : ks[j]? = some (z : Int)) (hu : P[z]? = some u) : mapK P (ks.take (j + 1)) = mapK P (ks.take j) ++ [u] := by
  rw [List.take_add_one, hy]
  simp [mapK, List.getD, hu]
theorem InD.own {w wr : World} {gP : Nat} {P' : List Int} {bx : Array Value} {vk : Value} {r : List Int} {wx : World} (h : InD w wr gP P' bx vk r wx) (o : Obj) : (wx.alloc o).ownsRow (wr.heap.size + 1) 3 1 vk r.length (r.map (Value.int .i64)) :=
  own_keep h.ow (fun g hg => by
    obtain ⟨_, _, _, e3⟩ := own_block h.ow hg
    exact Lib.alloc_old _ _ _ e3)
theorem InD.val {w wr : World} {gP : Nat} {P' : List Int} {bx : Array Value} {vk : Value} {r : List Int} {wx : World} (h : InD w wr gP P' bx vk r wx) : ∃ ca cc, vk = .slice ca r.length cc := by
  obtain ⟨_, ⟨e, e0⟩ | ⟨g, cap, cur, e, _⟩⟩ := h.ow
  · exact ⟨none, 0, by rw [e, e0]⟩
  · exact ⟨_, _, e⟩
set_option maxRecDepth 100000 in
set_option maxHeartbeats 4000000 in
theorem rsub_right (l : List Nd) (ao : Option Addr) (c n : Nat) (w : World) (hl : NdA w ao c l) (hr : rightB l = true) (hn : n < l.length) (hks : ∀ x ∈ l, x.ks.length ≤ 1048576) : Calls Tryz.prog 17 #[.agg #[.slice ao l.length c], .int .i64 n] w fun e w' => Below w.heap.size w w' ∧ ∃ qo qc Q, e = .returned (.tuple #[.agg #[.slice qo (List.length Q) qc], .int .i64 0]) ∧ NdS w' qo qc Q ∧ Q.map pu = sAll (blwF l n) 0 l (List.replicate l.length 0) [] := by
  obtain ⟨p, hp, _⟩ := right_par hr
  have h01 := right_len hr
  have H28 : Hid (∀ W, Below w.heap.size w W → Calls Tryz.prog 28 #[.agg #[.slice ao l.length c]] W fun e w' => e = .returned (.bool true) ∧ Below W.heap.size W w') := fun W hW => by
    have t := right28 l ao c W (hl.below hW)
    rw [hr] at t
    exact t
  obtain ⟨i0, hi, hz0, hz1, hz2⟩ := info_parts info3
  have HI : Hid (Tryz.prog.info? 3 = some i0 ∧ i0.zero = some (.int .i64 0) ∧ i0.size = 1 ∧ i0.bytes = 8) := ⟨hi, hz0, hz1, hz2⟩
  clear hi hz0 hz1 hz2
  obtain ⟨i4, hi, hz0, hz1, hz2⟩ := info_parts info4
  have HI4 : Hid (Tryz.prog.info? 4 = some i4 ∧ i4.zero = some (.bool false) ∧ i4.size = 1 ∧ i4.bytes = 1) := ⟨hi, hz0, hz1, hz2⟩
  clear hi hz0 hz1 hz2
  obtain ⟨i5, hi, hz0, hz1, hz2⟩ := info_parts info53
  have HI53 : Hid (Tryz.prog.info? 53 = some i5 ∧ i5.zero = some (.agg #[.int .i64 0, .string ⟨#[]⟩, .int .i64 0, .slice none 0 0, .int .i64 0, .int .i64 0]) ∧ i5.size = 6 ∧ i5.bytes = 72) := ⟨hi, hz0, hz1, hz2⟩
  clear hi hz0 hz1 hz2
  have HL : Hid (NdA w ao c l) := hl
  have HK : Hid (Kin l) := par_kin hp
  have HQ : Hid (∀ x ∈ l, x.ks.length ≤ 1048576) := hks
  obtain ⟨m, hm⟩ : ∃ m, m = l.length := ⟨_, rfl⟩
  rw [← hm] at hn H28 h01 ⊢
  have HN : Hid (m = l.length) := hm
  have hnc : m ≤ c := by rw [hm]; exact hl.1
  have hc2 : c ≤ 9223372036854775807 := hl.2.1
  have h1 := h01.2
  have c53 := cells53
  have c3 := cells3'
  have c4 : Tryz.prog.cellsOf 4 = 1 := by kernel_rfl
  have hn1 : ¬ (n : Int) < 0 := by omega
  have hn2 : ¬ (m : Int) ≤ (n : Int) := by omega
  have hn3 : (n : Int) < (m : Int) := by omega
  clear hl hm hks hr hp h01
  have HBA : Hid (∀ o o', Below w.heap.size w ((w.alloc o).alloc o')) := fun o o' => ((Below.refl _ w).alloc (Nat.le_refl _) o).alloc (by simp) o'
  go_enter Tryz.func17, Tryz.ntmps17
  go_wp2_with fail
  refine (H28.out _ (HBA.out _ _)).mono ?_
  rintro e w1 ⟨rfl, hb⟩
  have HB1 : Hid (Below w.heap.size w w1) := (HBA.out _ _).trans (hb.mono (by simp; omega))
  have d0 := (bcell hb).1 w.heap.size 0 (by simp; omega)
  have d2 : w1.heap[w.heap.size + 1]? = some (.cells #[.slice none 0 0] 24 (0, 0)) := by
    rw [hb.block (w.heap.size + 1) (by simp)]
    have t := Go.heap_alloc_new (w.alloc (.cells #[.slice ao m c] 24)) (.cells #[.slice none 0 0] 24)
    simpa using t
  simp at d0
  have hz1 : w.heap.size + 1 < w1.heap.size := (Array.getElem?_eq_some_iff.1 d2).1
  have HD2 : Hid (w1.heap[w.heap.size + 1]? = some (.cells #[.slice none 0 0] 24 (0, 0))) := d2
  clear hb H28 d2 HBA
  go_wp2_with (first | (at_make; refine wpList_make_full _ rfl _ _ 71 rfl w1.heap.size 4 i4 (.bool false) 1 Tryz.underlying71 HI4.out.1 HI4.out.2.1 HI4.out.2.2.1 .i64 .i64 m m m rfl rfl rfl rfl (by rw [HI4.out.2.2.2]; omega) (by unfold maxLen; omega) (Nat.le_refl _) ?_; intro w2 hown2 hgrow2; have HO2 : Hid _ := (show w2.ownsRow w1.heap.size 4 1 (.slice (some ⟨w1.heap.size, 0, none⟩) m m) m (madeCells (Value.bool false).cells (m * 1)).toList from hown2); have HG2 : Hid _ := (show w1.grownBy w2 none from hgrow2); clear hown2 hgrow2; have e0 := ((bcell ((Below.refl _ w1).grown HG2.out (Nat.le_refl _) (fun k hk => by cases hk))).1 w.heap.size 0 (by omega)).trans d0; have hB2 : Below w1.heap.size w1 w2 := (Below.refl _ w1).grown HG2.out (Nat.le_refl _) (fun k hk => by cases hk); have b2 : BlB w2 w1.heap.size (List.replicate m false) := blB_of_own (by have t := HO2.out; rw [made_repB] at t; exact t); have f2 := b2.fz n; have d2 : w2.cell? ⟨w1.heap.size, n, none⟩ = some (.bool false) := b2.cell (by rw [List.getElem?_replicate, if_pos hn]); have HR0 : Hid (Below w1.heap.size w1 (w2.setCell ⟨w1.heap.size, n, none⟩ (.bool true)) ∧ BlB (w2.setCell ⟨w1.heap.size, n, none⟩ (.bool true)) w1.heap.size ((List.replicate m false).set n true)) := ⟨hB2.setCell (p := ⟨w1.heap.size, n, none⟩) (Nat.le_refl _) _, b2.set n true⟩; clear hB2 b2 HO2 HG2) | fail)
  go_loopw [7, 9] (fun i _ wx => ∃ (r : Nat) (bs : List Bool), r ≤ n + 1 ∧ i = .int .i64 ((r : Int) - 1) ∧ Below w1.heap.size w1 wx ∧ BlB wx w1.heap.size bs ∧ bs.length = m ∧ blwF l n = bAll l r bs) (fun i _ _ => (intOf i + 1).toNat)
  case atStart => exact ⟨n + 1, _, Nat.le_refl _, by congr 1; omega, HR0.out.1, HR0.out.2, by simp, by unfold blwF; rw [← HN.out]⟩
  case round =>
    obtain ⟨r, bs, hr, rfl, hB, hb, hbl, hE⟩ := hrel
    have e1 := ((bcell hB).1 w.heap.size 0 (by omega)).trans d0
    have hBw : Below w.heap.size w wr := HB1.out.trans (hB.mono HB1.out.size)
    clear HR0 d2 f2 e0
    by_cases hr0 : 0 < r
    · obtain ⟨k, rfl⟩ : ∃ k, r = k + 1 := ⟨r - 1, by omega⟩
      have hkk : ((k + 1 : Nat) : Int) - 1 = (k : Int) := by omega
      rw [hkk]
      have hkw : IntKind.i64.wrap ((k : Int) - 1) = (k : Int) - 1 := by simp [IntKind.wrap, IntKind.bits, IntKind.signed]; omega
      obtain ⟨bv, hbv⟩ : ∃ b, bs[k]? = some b := ⟨_, List.getElem?_eq_getElem (by omega)⟩
      have hgd : bs.getD k false = bv := by simp [List.getD, hbv]
      have d1 := hb.cell hbv
      have HS : Hid (Below w1.heap.size w1 wr ∧ BlB wr w1.heap.size bs ∧ bs.length = m) := ⟨hB, hb, hbl⟩
      unfold bAll at hE
      rw [hgd] at hE
      have HE : Hid (blwF l n = bAll l k (if bv = true then bKids (ksAt l k) bs else bs)) := hE
      obtain ⟨x, hx⟩ : ∃ x, l[k]? = some x := ⟨_, List.getElem?_eq_getElem (by have := HN.out; omega)⟩
      have hxo := HL.out.2.2.1 x (List.mem_of_getElem? hx)
      obtain ⟨gn, on, he, hnd⟩ := HL.out.2.2.2 (by have := HN.out; omega)
      obtain ⟨y0, y1, y2, y3, y4, y5⟩ := nd_cells hnd hx
      have hg : gn < w.heap.size := World.block_lt_of_cell? _ _ y0
      have a3 := ((bcell hBw).1 gn (on + k * 6 + 3) hg).trans y3
      have HKx : Hid (∀ y ∈ x.ks, 0 ≤ y ∧ y < (k : Int)) := HK.out k x hx
      have HIx : Hid (∀ W, Below w.heap.size w W → IsA W x.ka x.kc x.ks) := fun W hW => hxo.ks.below hW
      have hks : ksAt l k = x.ks := by unfold ksAt; rw [hx]
      rw [hks] at HE
      have hkc : x.ks.length ≤ x.kc := hxo.ks.1
      have hkc2 : x.kc ≤ 9223372036854775807 := hxo.ks.2.1
      have hkm : k < m := by omega
      clear hnd hx hxo y0 y1 y2 y3 y4 y5 hks hB hb hbl hE hbv hgd hBw
      subst he
      obtain ⟨K, T, V, ka, kc, ks, F, E⟩ := x
      simp only at *
      obtain ⟨mk, hmk⟩ : ∃ mk, mk = ks.length := ⟨_, rfl⟩
      rw [← hmk] at a3 hkc
      have HM : Hid (mk = ks.length) := hmk
      clear hmk
      cases bv
      · have HE2 : Hid (blwF l n = bAll l k bs) := HE.out
        clear HE
        go_wp2
        exact ⟨⟨k, bs, by omega, rfl, HS.out.1, HS.out.2.1, HS.out.2.2, HE2.out⟩, by simp [intOf]⟩
      · have HE2 : Hid (blwF l n = bAll l k (bKids ks bs)) := HE.out
        clear HE
        go_wp2
        go_loopw [9, 54] (fun _ i wx => ∃ (j : Nat) (b2 : List Bool), j ≤ mk ∧ i = .int .i64 j ∧ Below w1.heap.size w1 wx ∧ BlB wx w1.heap.size b2 ∧ b2.length = m ∧ blwF l n = bAll l k (bKids (ks.drop j) b2)) (fun _ i _ => mk - (intOf i).toNat)
        case atStart => exact ⟨0, bs, Nat.zero_le _, rfl, HS.out.1, HS.out.2.1, HS.out.2.2, HE2.out⟩
        case round =>
          obtain ⟨j, b2, hj, rfl, hB, hb, hbl, hE⟩ := hrel
          clear HS HE2 d1 a3 e1
          by_cases hjm : j < mk
          · obtain ⟨y, hy⟩ : ∃ y, ks[j]? = some y := ⟨_, List.getElem?_eq_getElem (by have := HM.out; omega)⟩
            obtain ⟨gk, ok, rfl, hkc'⟩ := (HIx.out _ (HB1.out.trans (hB.mono HB1.out.size))).2.2 (by have := HM.out; omega)
            have b0 := hkc' j y hy
            obtain ⟨q0, q1⟩ := HKx.out y (List.mem_of_getElem? hy)
            obtain ⟨z, rfl⟩ : ∃ z : Nat, y = z := ⟨y.toNat, by omega⟩
            have hdj : ks.drop j = (z : Int) :: ks.drop (j + 1) := by
              obtain ⟨hk', e⟩ := List.getElem?_eq_some_iff.1 hy
              rw [← e]
              exact List.drop_eq_getElem_cons hk'
            rw [hdj] at hE
            unfold bKids at hE
            rw [Int.toNat_natCast] at hE
            have hzn : z < m := by omega
            obtain ⟨u, hu⟩ : ∃ u, b2[z]? = some u := ⟨_, List.getElem?_eq_getElem (by omega)⟩
            have d1 := hb.cell hu
            have f1 := hb.fz z
            have HS2 : Hid (Below w1.heap.size w1 (wr.setCell ⟨w1.heap.size, z, none⟩ (.bool true)) ∧ BlB (wr.setCell ⟨w1.heap.size, z, none⟩ (.bool true)) w1.heap.size (b2.set z true) ∧ (b2.set z true).length = m ∧ blwF l n = bAll l k (bKids (ks.drop (j + 1)) (b2.set z true))) := ⟨hB.setCell (p := ⟨w1.heap.size, z, none⟩) (Nat.le_refl _) _, hb.set z true, by rw [List.length_set]; exact hbl, hE⟩
            clear hkc' hy hdj hE hB hb hbl hu q0 q1
            go_wp2
            exact ⟨⟨j + 1, b2.set z true, by omega, by go_num, HS2.out.1, HS2.out.2.1, HS2.out.2.2.1, HS2.out.2.2.2⟩, by simp [intOf]; omega⟩
          · obtain rfl : j = mk := by omega
            have hdn : ks.drop j = [] := List.drop_eq_nil_of_le (by have := HM.out; omega)
            rw [hdn] at hE
            have HS2 : Hid (Below w1.heap.size w1 wr ∧ BlB wr w1.heap.size b2 ∧ b2.length = m ∧ blwF l n = bAll l k b2) := ⟨hB, hb, hbl, hE⟩
            clear hdn hE hB hb hbl
            go_wp2
            exact ⟨⟨k, b2, by omega, rfl, HS2.out.1, HS2.out.2.1, HS2.out.2.2.1, HS2.out.2.2.2⟩, by simp [intOf]⟩
    · obtain rfl : r = 0 := by omega
      have HBF : Hid (BlB wr w1.heap.size (blwF l n)) := by rw [hE]; exact hb
      have HBB : Hid (Below w1.heap.size w1 wr) := hB
      have HBw : Hid (Below w.heap.size w wr) := hBw
      have e2 : wr.cell? ⟨w.heap.size, 0, none⟩ = some (.slice ao m c) := e1
      clear hB hb hE hBw d0 e1
      have hbl2 : (blwF l n).length = m := by rw [blwF, bAll_len]; simp [HN.out]
      clear hbl
      go_wp2_with (first | (at_make; refine wpList_make_full _ rfl _ _ 42 rfl wr.heap.size 3 i0 (.int .i64 0) 1 Tryz.underlying42 HI.out.1 HI.out.2.1 HI.out.2.2.1 .i64 .i64 m m m rfl rfl rfl rfl (by rw [HI.out.2.2.2]; omega) (by unfold maxLen; omega) (Nat.le_refl _) ?_; intro w3 hown3 hgrow3; have HB3 : Hid (Below wr.heap.size wr w3) := (Below.refl _ wr).grown hgrow3 (Nat.le_refl _) (fun k hk => by cases hk); have HP3 : Hid (Blk w3 wr.heap.size (List.replicate m 0)) := blk_of_own (by have t := hown3; rw [made_rep] at t; exact t); have e3 := ((bcell HB3.out).1 w.heap.size 0 (World.block_lt_of_cell? _ _ e2)).trans e2; have e4 : ∀ o, (w3.alloc o).cell? ⟨w.heap.size, 0, none⟩ = some (.slice ao m c) := fun o => ((bcell ((Below.refl _ w3).alloc (Nat.le_refl _) o)).1 w.heap.size 0 (World.block_lt_of_cell? _ _ e3)).trans e3; clear hown3 hgrow3) | fail)
      have HSD : Hid (SubD w wr.heap.size w1.heap.size w3.heap.size (blwF l n) (m - 1) (List.replicate m 0) [] (.slice none 0 0) (w3.alloc (.cells #[.slice none 0 0] 24))) := by
        have hz3 := HB3.out.size
        have hzw := HBB.out.size
        have hww := HB1.out.size
        have hlt : wr.heap.size < w3.heap.size := (Array.getElem?_eq_some_iff.1 HP3.out).1
        have hB : Below w.heap.size w w3 := HBw.out.trans (HB3.out.mono HBw.out.size)
        refine ⟨SubS.alloc ⟨hB, HP3.out, by simp; omega, by omega, HBF.out.below HB3.out, ?_, World.ownsRow_nil _ _ _ _, fun x hx => by cases hx⟩ _, Go.heap_alloc_new w3 _, by omega⟩
        rw [HB3.out.block _ (by omega), HBB.out.block _ hz1]
        exact HD2.out
      clear HBF HBB HBw HB3 HP3 HD2 e2 e3 e4
      generalize wr.heap.size = gP at *
      generalize w1.heap.size = gB at *
      generalize w3.heap.size = gO at *
      obtain ⟨bs, hbs⟩ : ∃ bs, bs = blwF l n := ⟨_, rfl⟩
      have HBS : Hid (bs = blwF l n) := hbs
      rw [← hbs] at HSD hbl2
      clear hbs
      obtain ⟨R, hR⟩ : ∃ R, R = sAll bs 0 l (List.replicate m 0) [] := ⟨_, rfl⟩
      have HRR : Hid (R = sAll bs 0 l (List.replicate m 0) []) := hR
      clear hR
      go_loopw [12, 13, 14, 16, 69] (fun _ _ _ _ i wx => ∃ (k : Nat) (P : List Int) (Q : List Nd) (vp : Value), k ≤ m ∧ i = .int .i64 k ∧ SubD w gP gB gO bs (m - 1) P Q vp wx ∧ Q.length ≤ k ∧ sAll bs k (l.drop k) P (Q.map pu) = R) (fun _ _ _ _ i _ => m - (intOf i).toNat)
      case atStart => exact ⟨0, _, [], _, Nat.zero_le _, rfl, HSD.out, Nat.zero_le _, HRR.out.symm⟩
      case round =>
        obtain ⟨k, P, Q, vp, hk, rfl, hS, hQk, hE⟩ := hrel
        clear HSD
        by_cases hlt : k < m
        · obtain ⟨x, hx⟩ : ∃ x, l[k]? = some x := ⟨_, List.getElem?_eq_getElem (by have := HN.out; omega)⟩
          have hxm := List.mem_of_getElem? hx
          have hxo := HL.out.2.2.1 x hxm
          obtain ⟨gn, on, he, hnd⟩ := HL.out.2.2.2 (by have := HN.out; omega)
          obtain ⟨y0, y1, y2, y3, y4, y5⟩ := nd_cells hnd hx
          have hg : gn < w.heap.size := World.block_lt_of_cell? _ _ y0
          have a0 := ((bcell hS.s.bl).1 gn _ hg).trans y0
          have a1 := ((bcell hS.s.bl).1 gn _ hg).trans y1
          have a2 := ((bcell hS.s.bl).1 gn _ hg).trans y2
          have a3 := ((bcell hS.s.bl).1 gn _ hg).trans y3
          have a4 := ((bcell hS.s.bl).1 gn _ hg).trans y4
          have a5 := ((bcell hS.s.bl).1 gn _ hg).trans y5
          obtain ⟨bv, hbv⟩ : ∃ b, bs[k]? = some b := ⟨_, List.getElem?_eq_getElem (by omega)⟩
          have hgd : bs.getD k false = bv := by simp [List.getD, hbv]
          have hdk : l.drop k = x :: l.drop (k + 1) := by
            obtain ⟨hk', e⟩ := List.getElem?_eq_some_iff.1 hx
            rw [← e]
            exact List.drop_eq_getElem_cons hk'
          rw [hdk] at hE
          unfold sAll at hE
          rw [hgd] at hE
          have HSr : Hid (SubD w gP gB gO bs (m - 1) P Q vp wr) := hS
          have hb0 : ∀ o, (wr.alloc o).cell? ⟨gB, k, none⟩ = some (.bool bv) := fun o => ((hS.s.bb.below ((Below.refl _ wr).alloc (Nat.le_refl _) o)).cell hbv)
          obtain ⟨u0, hu0⟩ : ∃ u, P[k]? = some u := ⟨_, List.getElem?_eq_getElem (by have := hS.s.pn; omega)⟩
          have hp0 : ∀ o, (wr.alloc o).cell? ⟨gP, k, none⟩ = some (.int .i64 u0) := fun o => ((hS.s.pl.below ((Below.refl _ wr).alloc (Nat.le_refl _) o)).cell hu0)
          have hp1 : ∀ o, (wr.alloc o).frozen? ⟨gP, k, none⟩ = false := fun o => ((hS.s.pl.below ((Below.refl _ wr).alloc (Nat.le_refl _) o)).fz k)
          have ho0 : ∀ o, (wr.alloc o).cell? ⟨gO, 0, none⟩ = some vp := fun o => by
            rw [Lib.cell_of_heap (hS.alloc o).ob]
            rfl
          have HKx : Hid (∀ y ∈ x.ks, 0 ≤ y ∧ y < (k : Int)) := HK.out k x hx
          have HIx : Hid (∀ W, Below w.heap.size w W → IsA W x.ka x.kc x.ks) := fun W hW => hxo.ks.below hW
          have hkl := HQ.out x hxm
          have hkc : x.ks.length ≤ x.kc := hxo.ks.1
          have hkc2 : x.kc ≤ 9223372036854775807 := hxo.ks.2.1
          subst he
          clear hnd hx hxm hxo y0 y1 y2 y3 y4 y5 hdk hgd hbv hS hu0
          cases bv
          · have HE : Hid (sAll bs (k + 1) (l.drop (k + 1)) P (Q.map pu) = R) := hE
            clear hE
            go_wp2
            exact ⟨⟨k + 1, P, Q, vp, by omega, by go_num, HSr.out.alloc _, by omega, HE.out⟩, by simp [intOf]; omega⟩
          · have HE : Hid (sAll bs (k + 1) (l.drop (k + 1)) (P.set k (((Q.map pu).length : Nat) : Int)) (Q.map pu ++ [⟨x.k, x.nm, x.v, none, 0, mapK P x.ks, x.fr, x.en⟩]) = R) := hE
            clear hE
            obtain ⟨K, T, V, ka, kc, ks, F, E⟩ := x
            simp only at *
            obtain ⟨mk, hmk⟩ : ∃ mk, mk = ks.length := ⟨_, rfl⟩
            rw [← hmk] at a3 hkl hkc
            have HM : Hid (mk = ks.length) := hmk
            clear hmk
            obtain ⟨qo, qc, hvp, _⟩ := HSr.out.s.nds
            subst hvp
            have HI0 : Hid (InD w wr gP (P.set k (Q.length : Int)) #[.int .i64 K, .string T, .int .i64 V, .slice ka mk kc, .int .i64 F, .int .i64 E] (.slice none 0 0) [] ((wr.setCell ⟨gP, k, none⟩ (.int .i64 (Q.length : Int))).alloc (.cells #[.int .i64 K, .string T, .int .i64 V, .slice ka mk kc, .int .i64 F, .int .i64 E] 53))) := InD.start HSr.out.s.bl HSr.out.s.pl HSr.out.s.pb k _
            have g3 : ((wr.setCell ⟨gP, k, none⟩ (.int .i64 (Q.length : Int))).alloc (.cells #[.int .i64 K, .string T, .int .i64 V, .slice ka mk kc, .int .i64 F, .int .i64 E] 53)).cell? ⟨wr.heap.size, 3, none⟩ = some (.slice ka mk kc) := by rw [Lib.cell_of_heap HI0.out.bx]; rfl
            have hq1 : Q.length ≤ 20000 := by omega
            have hPl : gP < wr.heap.size := (Array.getElem?_eq_some_iff.1 HSr.out.s.pl).1
            go_wp2
            clear g3 a0 a1 a2 a3 a4 a5 hb0 hp0 hp1 ho0
            go_loopw [14, 16, 88] (fun vk _ i wx => ∃ j : Nat, j ≤ mk ∧ i = .int .i64 j ∧ InD w wr gP (P.set k (Q.length : Int)) #[.int .i64 K, .string T, .int .i64 V, .slice ka mk kc, .int .i64 F, .int .i64 E] vk (mapK P (ks.take j)) wx) (fun _ _ i _ => mk - (intOf i).toNat)
            case atStart => exact ⟨0, Nat.zero_le _, rfl, HI0.out⟩
            case round =>
              obtain ⟨j, hj, rfl, hI⟩ := hrel
              clear HI0
              have HI6 : Hid _ := hI
              by_cases hjm : j < mk
              · obtain ⟨y, hy⟩ : ∃ y, ks[j]? = some y := ⟨_, List.getElem?_eq_getElem (by have := HM.out; omega)⟩
                obtain ⟨q0, q1⟩ := HKx.out y (List.mem_of_getElem? hy)
                obtain ⟨z, rfl⟩ : ∃ z : Nat, y = z := ⟨y.toNat, by omega⟩
                obtain ⟨gk, ok, rfl, hkc'⟩ := (HIx.out _ hI.bl).2.2 (by have := HM.out; omega)
                have b0 := hkc' j _ hy
                obtain ⟨u, hu⟩ : ∃ u, P[z]? = some u := ⟨_, List.getElem?_eq_getElem (by have := HSr.out.s.pn; omega)⟩
                have r0 := hI.pl.cell (j := z) (y := u) (by rw [mapK_set _ _ _ _ (by omega)]; exact hu)
                have hst := mapK_snoc P ks j z u hy hu
                have HST : Hid (mapK P (ks.take (j + 1)) = mapK P (ks.take j) ++ [u]) := hst
                have hln : (mapK P (ks.take j)).length = j := by rw [mapK_len, List.length_take]; have := HM.out; omega
                obtain ⟨ca, cc, hvk⟩ := hI.val
                rw [hln] at hvk
                subst hvk
                have hzm : z < m := by omega
                have HOW : Hid _ := hI.own
                have HWS : Hid (_ ∧ _) := And.intro HSr.out.s.bl.size hPl
                have hxs := hI.sz
                clear hkc' hy hu hst q0 q1 hI
                have HLN : Hid (List.length (mapK P (ks.take j)) = j) := hln
                clear hln
                go_wp2_with (at_builtin; refine wpList_append_own _ rfl _ _ 42 rfl _ 3 i0 (.int .i64 0) 1 8 Tryz.underlying42 HI.out.1 HI.out.2.1 HI.out.2.2.1 HI.out.2.2.2 rfl (by decide) _ j _ rfl (by have t := HOW.out (.cells #[.int .i64 u] 3); rw [HLN.out] at t; exact t) ⟨wr.heap.size, 0, none⟩ 1 1 [.int .i64 u] rfl (by rfl) (by intro q u hq; exact one_row hq) (by simp [Value.oneCell']) (by unfold maxLen; omega) (by omega) (by simp; omega) ?_; intro v6 w6 hown6 hgrow6 _; have HI7 : Hid _ := HI6.out.push HWS.out.1 HWS.out.2 hgrow6 (by rw [HLN.out]; exact hown6); clear hown6 hgrow6)
                refine ⟨⟨j + 1, by omega, by go_num, ?_⟩, by simp [intOf]; omega⟩
                rw [HST.out]
                exact HI7.out
              · obtain rfl : j = mk := by omega
                have htk : ks.take j = ks := List.take_of_length_le (by have := HM.out; omega)
                rw [htk] at hI
                have hln : (mapK P ks).length = j := by rw [mapK_len]; exact HM.out.symm
                obtain ⟨ca, cc, hvk⟩ := hI.val
                rw [hln] at hvk
                subst hvk
                have HLN : Hid ((mapK P ks).length = j) := hln
                have HIN : Hid _ := hI
                have p3 := Lib.cell_of_heap hI.bx 3
                have pf := Lib.frozen_of_heap hI.bx 3
                have hbx := hI.box (.slice ca j cc)
                have t0 := Lib.cell_of_heap hbx 0
                have t1 := Lib.cell_of_heap hbx 1
                have t2 := Lib.cell_of_heap hbx 2
                have t3 := Lib.cell_of_heap hbx 3
                have t4 := Lib.cell_of_heap hbx 4
                have t5 := Lib.cell_of_heap hbx 5
                simp only [List.getElem?_toArray, List.getElem?_cons_zero, List.getElem?_cons_succ] at t0 t1 t2 t3 t4 t5 p3
                have HOW : Hid _ := HSr.out.row hI (.slice ca j cc)
                have s0 := HSr.out.atO hI (.slice ca j cc)
                have hsz := hI.sz
                have HWS : Hid (_ ≤ _) := HSr.out.s.bl.size
                clear htk hI HI6 hbx hln
                go_wp2_with (at_builtin; refine wpList_append_own _ rfl _ _ 22 rfl w.heap.size 53 i5 (.agg #[.int .i64 0, .string ⟨#[]⟩, .int .i64 0, .slice none 0 0, .int .i64 0, .int .i64 0]) 6 72 Tryz.underlying22 HI53.out.1 HI53.out.2.1 HI53.out.2.2.1 HI53.out.2.2.2 rfl (by decide) _ _ _ rfl (HOW.out _) ⟨wr.heap.size, 0, none⟩ 1 1 [.int .i64 K, .string T, .int .i64 V, .slice ca j cc, .int .i64 F, .int .i64 E] rfl (by rfl) (by intro q u hq; exact six_set hq) (by simp [Value.oneCell']) (by unfold maxLen; omega) (by omega) (by have := HWS.out; simp; omega) ?_; intro v6 w6 hown6 hgrow6 _; obtain ⟨qa, qd, hv6⟩ := own_val hown6; subst hv6; obtain ⟨hs6, z0, z1⟩ := HSr.out.done HIN.out HLN.out.symm hgrow6 hown6; have HS6 : Hid _ := hs6; clear hown6 hgrow6 hs6)
                refine ⟨⟨k + 1, _, _, _, by omega, by go_num, HS6.out, by rw [List.length_append, List.length_singleton]; omega, ?_⟩, by simp [intOf]; omega⟩
                rw [← HE.out, List.map_append, List.length_map]
                rfl
        · obtain rfl : k = m := by omega
          have hdn : l.drop k = [] := List.drop_eq_nil_of_le (by have := HN.out; omega)
          rw [hdn] at hE
          obtain ⟨qo, qc, hvp, hnd⟩ := hS.s.nds
          subst hvp
          have rO : wr.cell? ⟨gO, 0, none⟩ = some (.slice qo Q.length qc) := by rw [Lib.cell_of_heap hS.ob]; rfl
          have r0 : wr.cell? ⟨w.heap.size + 1, 0, none⟩ = some (.slice none 0 0) := by rw [Lib.cell_of_heap hS.s.rb]; rfl
          have r1 : wr.frozen? ⟨w.heap.size + 1, 0, none⟩ = false := Lib.frozen_of_heap hS.s.rb 0
          have hbs : Below w.heap.size w (wr.setCell ⟨w.heap.size + 1, 0, none⟩ (.slice qo Q.length qc)) := hS.s.bl.setCell (p := ⟨w.heap.size + 1, 0, none⟩) (by show w.heap.size ≤ w.heap.size + 1; omega) _
          have HF : Hid (Below w.heap.size w (wr.setCell ⟨w.heap.size + 1, 0, none⟩ (.slice qo Q.length qc)) ∧ NdS (wr.setCell ⟨w.heap.size + 1, 0, none⟩ (.slice qo Q.length qc)) qo qc Q ∧ Q.map pu = sAll (blwF l n) 0 l (List.replicate k 0) []) := by
            refine ⟨hbs, ?_, by rw [← HBS.out, ← HRR.out]; exact hE⟩
            have hne : ∀ (b : Nat) (t : TypeId) (cs : Array Value), t ≠ 24 → wr.heap[b]? = some (.cells cs t (0, 0)) → (wr.setCell ⟨w.heap.size + 1, 0, none⟩ (.slice qo Q.length qc)).heap[b]? = wr.heap[b]? := fun b t cs ht hb => set_other (by
              rintro rfl
              rw [hS.s.rb] at hb
              simp at hb
              exact ht hb.2.symm)
            have hkd : ∀ x ∈ Q, IsA (wr.setCell ⟨w.heap.size + 1, 0, none⟩ (.slice qo Q.length qc)) x.ka x.kc x.ks := fun x hx => isa_of_own (own_keep (hS.s.kd x hx).1 (fun g hg => by
              obtain ⟨cur, e1, _⟩ := own_block (hS.s.kd x hx).1 hg
              exact hne g 3 cur (by decide) e1))
            refine ⟨hnd.1, hnd.2.1, hkd, fun hl => ?_⟩
            obtain ⟨g, o, e1, e2⟩ := hnd.2.2.2 hl
            refine ⟨g, o, e1, fun i x hi j y hy => ?_⟩
            have hblk : (wr.setCell ⟨w.heap.size + 1, 0, none⟩ (.slice qo Q.length qc)).heap[g]? = wr.heap[g]? := by
              obtain ⟨cur, e3, _⟩ := own_block hS.s.ow (g := g) (by rw [e1]; rfl)
              exact hne g 53 cur (by decide) e3
            have t := e2 i x hi j y hy
            unfold World.cell? at t ⊢
            simp only [hblk]
            exact t
          clear hdn hE hnd hbs hS
          have g0 : (wr.setCell ⟨w.heap.size + 1, 0, none⟩ (.slice qo Q.length qc)).cell? ⟨w.heap.size + 1, 0, none⟩ = some (.slice qo Q.length qc) := World.cell?_setCell_same _ _ _ r0
          go_wp2
          refine bodyPost_ret (v := .tuple #[.agg #[.slice qo Q.length qc], .int .i64 0]) ?_ rfl ⟨HF.out.1, qo, qc, Q, rfl, HF.out.2.1, HF.out.2.2⟩
          rw [results_cell_tmp rfl]
          go_simp
end
section
open Go.RowKit Go.Shelf
theorem getD_set {α : Type} (b b' : List α) (d : α) (k : Nat) (x : α) (h : ∀ i, b.getD i d = b'.getD i d) (h1 : k < b.length) (h2 : k < b'.length) (i : Nat) : (b.set k x).getD i d = (b'.set k x).getD i d := by
  have hi := h i
  simp only [List.getD, List.getElem?_set] at hi ⊢
  by_cases e : k = i
  · subst e
    simp [h1, h2]
  · simp only [if_neg e]
    exact hi
theorem bKids_alike : ∀ (ks : List Int) (b b' : List Bool), (∀ i, b.getD i false = b'.getD i false) → (∀ y ∈ ks, y.toNat < b.length ∧ y.toNat < b'.length) → ∀ i, (bKids ks b).getD i false = (bKids ks b').getD i false
  | [], _, _, h, _, i => h i
  | y :: r, b, b', h, hk, i => by
    unfold bKids
    have hy := hk y (List.mem_cons_self ..)
    refine bKids_alike r _ _ (getD_set b b' false _ _ h hy.1 hy.2) (fun z hz => ?_) i
    rw [List.length_set, List.length_set]
    exact hk z (List.mem_cons_of_mem _ hz)
theorem ksAt_in {l : List Nd} (hk : Kin l) (k : Nat) : ∀ y ∈ ksAt l k, 0 ≤ y ∧ y < (k : Int) := by
  intro y hy
  unfold ksAt at hy
  cases hx : l[k]? with
  | none => rw [hx] at hy; cases hy
  | some x => rw [hx] at hy; exact hk k x hx y hy
theorem bAll_alike (l : List Nd) (hk : Kin l) : ∀ (k : Nat) (b b' : List Bool), (∀ i, b.getD i false = b'.getD i false) → k ≤ b.length → k ≤ b'.length → ∀ i, (bAll l k b).getD i false = (bAll l k b').getD i false
  | 0, _, _, h, _, _, i => h i
  | k + 1, b, b', h, h1, h2, i => by
    unfold bAll
    rw [← h k]
    split
    · refine bAll_alike l hk k _ _ (bKids_alike _ _ _ h (fun y hy => ?_)) (by rw [bKids_len]; omega) (by rw [bKids_len]; omega) i
      obtain ⟨e1, e2⟩ := ksAt_in hk k y hy
      omega
    · exact bAll_alike l hk k _ _ h (by omega) (by omega) i
theorem blw_alike (l : List Nd) (hk : Kin l) (n : Nat) (hn : n < l.length) (i : Nat) : (blwF l n).getD i false = (blwR l n).getD i false := by
  refine bAll_alike l hk (n + 1) _ _ (getD_set _ _ _ _ _ (fun j => ?_) (by simp; omega) (by simp)) (by simp; omega) (by simp) i
  simp only [List.getD, List.getElem?_replicate]
  split <;> split <;> rfl
theorem mapK_alike (P P' : List Int) (h : ∀ i, P.getD i 0 = P'.getD i 0) (ks : List Int) : mapK P ks = mapK P' ks := by
  unfold mapK
  exact List.map_congr_left (fun y _ => h _)
theorem sAll_none (bs : List Bool) : ∀ (r : List Nd) (k : Nat) (P : List Int) (Q : List Nd), (∀ i, k ≤ i → bs.getD i false = false) → sAll bs k r P Q = Q
  | [], _, _, _, _ => rfl
  | x :: r, k, P, Q, h => by
    unfold sAll
    rw [h k (Nat.le_refl _), if_neg (by simp)]
    exact sAll_none bs r (k + 1) P Q (fun i hi => h i (by omega))
theorem sAll_alike (bs bs' : List Bool) (h : ∀ i, bs.getD i false = bs'.getD i false) : ∀ (r r2 : List Nd) (k : Nat) (P P' : List Int) (Q : List Nd), (∀ i, P.getD i 0 = P'.getD i 0) → k + r.length ≤ P.length → k + r.length ≤ P'.length → (∀ i, k + r.length ≤ i → bs.getD i false = false) → sAll bs k (r ++ r2) P Q = sAll bs' k r P' Q
  | [], r2, k, P, P', Q, _, _, _, hN => by
    rw [List.nil_append, sAll_none bs r2 k P Q (fun i hi => hN i (by simpa using hi))]
    rfl
  | x :: r, r2, k, P, P', Q, hP, h1, h2, hN => by
    simp only [List.length_cons] at h1 h2 hN
    rw [List.cons_append]
    unfold sAll
    rw [h k, mapK_alike P P' hP]
    split
    · exact sAll_alike bs bs' h r r2 (k + 1) _ _ _ (getD_set _ _ _ _ _ hP (by omega) (by omega)) (by rw [List.length_set]; omega) (by rw [List.length_set]; omega) (fun i hi => hN i (by omega))
    · exact sAll_alike bs bs' h r r2 (k + 1) _ _ _ hP (by omega) (by omega) (fun i hi => hN i (by omega))
/-- The document's part is the program's. -/
theorem rsub_is (l : List Nd) (hk : Kin l) (n : Nat) (hn : n < l.length) : sAll (blwF l n) 0 l (List.replicate l.length 0) [] = subR l n := by
  have t := sAll_alike (blwF l n) (blwR l n) (blw_alike l hk n hn) (l.take (n + 1)) (l.drop (n + 1)) 0 (List.replicate l.length 0) (List.replicate (n + 1) 0) [] (fun i => by
    simp only [List.getD, List.getElem?_replicate]
    split <;> split <;> rfl) (by simp; omega) (by simp; omega) (fun i hi => by
    rw [blw_alike l hk n hn i]
    have hl : (blwR l n).length ≤ i := by
      rw [blwR_len]
      rw [List.length_take] at hi
      omega
    simp [List.getD, List.getElem?_eq_none hl])
  rw [List.take_append_drop] at t
  exact t
set_option maxRecDepth 100000 in
set_option maxHeartbeats 4000000 in
theorem rsub_wrong (l : List Nd) (ao : Option Addr) (c : Nat) (n : Int) (w : World) (hl : NdA w ao c l) (h : cnE l n ≠ 0) : Calls Tryz.prog 17 #[.agg #[.slice ao l.length c], .int .i64 n] w fun e w' => e = .returned (.tuple #[.agg #[.slice none 0 0], .int .i64 (cnE l n)]) ∧ Below w.heap.size w w' := by
  have HC : Hid (∀ W, Below w.heap.size w W → Calls Tryz.prog 28 #[.agg #[.slice ao l.length c]] W fun e w' => e = .returned (.bool (rightB l)) ∧ Below W.heap.size W w') := fun W hW => right28 l ao c W (hl.below hW)
  have HBA : Hid (∀ o o', Below w.heap.size w ((w.alloc o).alloc o')) := fun o o' => ((Below.refl _ w).alloc (Nat.le_refl _) o).alloc (by simp) o'
  unfold cnE at *
  clear hl
  generalize l.length = m at *
  generalize rightB l = rb at *
  have HA : Hid (∀ o o' w1, Below ((w.alloc o).alloc o').heap.size ((w.alloc o).alloc o') w1 → Below w.heap.size w w1) := fun o o' w1 hb => (HBA.out o o').trans (hb.mono (by simp; omega))
  have HD : Hid (∀ o w1, Below ((w.alloc o).alloc (.cells #[.slice none 0 0] 24)).heap.size ((w.alloc o).alloc (.cells #[.slice none 0 0] 24)) w1 → w1.heap[w.heap.size + 1]? = some (.cells #[.slice none 0 0] 24 (0, 0))) := fun o w1 hb => by
    rw [hb.block (w.heap.size + 1) (by simp)]
    have t := Go.heap_alloc_new (w.alloc o) (.cells #[.slice none 0 0] 24)
    simpa using t
  cases rb
  · rw [if_neg (by simp)] at h ⊢
    clear h
    go_enter Tryz.func17, Tryz.ntmps17
    go_wp2_with fail
    refine (HC.out _ (HBA.out _ _)).mono ?_
    rintro e w1 ⟨rfl, hb⟩
    have HB1 : Hid (Below w.heap.size w (w1.setCell ⟨w.heap.size + 1, 0, none⟩ (.slice none 0 0))) := (HA.out _ _ _ hb).setCell (p := ⟨w.heap.size + 1, 0, none⟩) (by show w.heap.size ≤ w.heap.size + 1; omega) _
    have d2 := HD.out _ _ hb
    have d0 := (bcell hb).1 w.heap.size 0 (by simp; omega)
    simp at d0
    have r0 := Lib.cell_of_heap d2 0
    have r1 := Lib.frozen_of_heap d2 0
    simp only [List.getElem?_toArray, List.getElem?_cons_zero] at r0
    have g0 : (w1.setCell ⟨w.heap.size + 1, 0, none⟩ (.slice none 0 0)).cell? ⟨w.heap.size + 1, 0, none⟩ = some (.slice none 0 0) := World.cell?_setCell_same _ _ _ r0
    clear hb HC HBA HA HD d2
    go_wp2
    refine bodyPost_ret (v := .tuple #[.agg #[.slice none 0 0], .int .i64 3]) ?_ rfl ⟨rfl, HB1.out⟩
    rw [results_cell_tmp rfl]
    go_simp
  · rw [if_pos rfl] at h ⊢
    by_cases h0 : n < 0
    · rw [if_pos (.inl h0)] at h ⊢
      clear h
      go_enter Tryz.func17, Tryz.ntmps17
      go_wp2_with fail
      refine (HC.out _ (HBA.out _ _)).mono ?_
      rintro e w1 ⟨rfl, hb⟩
      have HB1 : Hid (Below w.heap.size w (w1.setCell ⟨w.heap.size + 1, 0, none⟩ (.slice none 0 0))) := (HA.out _ _ _ hb).setCell (p := ⟨w.heap.size + 1, 0, none⟩) (by show w.heap.size ≤ w.heap.size + 1; omega) _
      have d2 := HD.out _ _ hb
      have d0 := (bcell hb).1 w.heap.size 0 (by simp; omega)
      simp at d0
      have r0 := Lib.cell_of_heap d2 0
      have r1 := Lib.frozen_of_heap d2 0
      simp only [List.getElem?_toArray, List.getElem?_cons_zero] at r0
      have g0 : (w1.setCell ⟨w.heap.size + 1, 0, none⟩ (.slice none 0 0)).cell? ⟨w.heap.size + 1, 0, none⟩ = some (.slice none 0 0) := World.cell?_setCell_same _ _ _ r0
      clear hb HC HBA HA HD d2
      go_wp2
      refine bodyPost_ret (v := .tuple #[.agg #[.slice none 0 0], .int .i64 9]) ?_ rfl ⟨rfl, HB1.out⟩
      rw [results_cell_tmp rfl]
      go_simp
    · by_cases h1 : (m : Int) ≤ n
      · rw [if_pos (.inr h1)] at h ⊢
        clear h
        go_enter Tryz.func17, Tryz.ntmps17
        go_wp2_with fail
        refine (HC.out _ (HBA.out _ _)).mono ?_
        rintro e w1 ⟨rfl, hb⟩
        have HB1 : Hid (Below w.heap.size w (w1.setCell ⟨w.heap.size + 1, 0, none⟩ (.slice none 0 0))) := (HA.out _ _ _ hb).setCell (p := ⟨w.heap.size + 1, 0, none⟩) (by show w.heap.size ≤ w.heap.size + 1; omega) _
        have d2 := HD.out _ _ hb
        have d0 := (bcell hb).1 w.heap.size 0 (by simp; omega)
        simp at d0
        have r0 := Lib.cell_of_heap d2 0
        have r1 := Lib.frozen_of_heap d2 0
        simp only [List.getElem?_toArray, List.getElem?_cons_zero] at r0
        have g0 : (w1.setCell ⟨w.heap.size + 1, 0, none⟩ (.slice none 0 0)).cell? ⟨w.heap.size + 1, 0, none⟩ = some (.slice none 0 0) := World.cell?_setCell_same _ _ _ r0
        clear hb HC HBA HA HD d2
        go_wp2
        refine bodyPost_ret (v := .tuple #[.agg #[.slice none 0 0], .int .i64 9]) ?_ rfl ⟨rfl, HB1.out⟩
        rw [results_cell_tmp rfl]
        go_simp
      · rw [if_neg (by omega)] at h
        exact absurd rfl h
set_option maxRecDepth 100000 in
set_option maxHeartbeats 4000000 in
theorem sub_wrong (l : List Nd) (ao : Option Addr) (c : Nat) (n : Int) (w : World) (hT : Tm w) (hl : NdA w ao c l) (h : cnE l n ≠ 0) : Calls Tryz.prog 16 #[.agg #[.slice ao l.length c], .int .i64 n] w fun e w' => e = .returned (.tuple #[.agg #[.slice none 0 0], .int .i64 (cnE l n)]) ∧ Below w.heap.size w w' := by
  have HC : Hid (∀ W, Below w.heap.size w W → Calls Tryz.prog 34 #[.agg #[.slice ao l.length c], .int .i64 n] W fun e w' => e = .returned (.int .i64 (cnE l n)) ∧ Below W.heap.size W w') := fun W hW => check34 l ao c n W (hT.below hW) (hl.below hW)
  have HBA : Hid (∀ o o', Below w.heap.size w ((w.alloc o).alloc o')) := fun o o' => ((Below.refl _ w).alloc (Nat.le_refl _) o).alloc (by simp) o'
  clear hl hT
  generalize l.length = m at *
  generalize cnE l n = en at *
  have HA : Hid (∀ o o' w1, Below ((w.alloc o).alloc o').heap.size ((w.alloc o).alloc o') w1 → Below w.heap.size w w1) := fun o o' w1 hb => (HBA.out o o').trans (hb.mono (by simp; omega))
  have HD : Hid (∀ o w1, Below ((w.alloc o).alloc (.cells #[.slice none 0 0] 24)).heap.size ((w.alloc o).alloc (.cells #[.slice none 0 0] 24)) w1 → w1.heap[w.heap.size + 1]? = some (.cells #[.slice none 0 0] 24 (0, 0))) := fun o w1 hb => by
    rw [hb.block (w.heap.size + 1) (by simp)]
    have t := Go.heap_alloc_new (w.alloc o) (.cells #[.slice none 0 0] 24)
    simpa using t
  have hen : (en == 0) = false := by simpa using h
  go_enter Tryz.func16, Tryz.ntmps16
  go_wp2_with fail
  refine (HC.out _ (HBA.out _ _)).mono ?_
  rintro e w1 ⟨rfl, hb⟩
  have HB1 : Hid (Below w.heap.size w (w1.setCell ⟨w.heap.size + 1, 0, none⟩ (.slice none 0 0))) := (HA.out _ _ _ hb).setCell (p := ⟨w.heap.size + 1, 0, none⟩) (by show w.heap.size ≤ w.heap.size + 1; omega) _
  have d2 := HD.out _ _ hb
  have d0 := (bcell hb).1 w.heap.size 0 (by simp; omega)
  simp at d0
  have r0 := Lib.cell_of_heap d2 0
  have r1 := Lib.frozen_of_heap d2 0
  simp only [List.getElem?_toArray, List.getElem?_cons_zero] at r0
  have g0 : (w1.setCell ⟨w.heap.size + 1, 0, none⟩ (.slice none 0 0)).cell? ⟨w.heap.size + 1, 0, none⟩ = some (.slice none 0 0) := World.cell?_setCell_same _ _ _ r0
  clear hb HC HBA HA HD d2
  go_wp2
  refine bodyPost_ret (v := .tuple #[.agg #[.slice none 0 0], .int .i64 en]) ?_ rfl ⟨rfl, HB1.out⟩
  rw [results_cell_tmp rfl]
  go_simp
end
section
open Go.RowKit Go.Shelf
set_option maxRecDepth 100000 in
set_option maxHeartbeats 2000000 in
theorem bcheck_used (b : Nat) (w : World) (c0 : w.cell? ⟨b, 0, none⟩ = some (.pointer (some ⟨b, 0, none⟩))) : Calls Tryz.prog 90 #[.pointer (some ⟨b, 0, none⟩)] w fun e w' => e = .returned (.tuple #[]) ∧ w' = w := by
  obtain ⟨j, hj, _⟩ := Option.map_eq_some_iff.1 bsz
  go_enter Tryz.func90, Tryz.ntmps90
  go_wp2
  rw [Lib.run_neq_ptr_same w _ Tryz.underlying55 hj]
  go_wp2
  go_end0
  exact ⟨rfl, rfl⟩
set_option maxRecDepth 100000 in
set_option maxHeartbeats 2000000 in
theorem bcheck_fresh (b : Nat) (w : World) (h0 : w.cell? ⟨b, 0, none⟩ = some (.pointer none)) (hsh : w.shape? b = some (58, 2)) (hfz : w.frozen? ⟨b, 0, none⟩ = false) : Calls Tryz.prog 90 #[.pointer (some ⟨b, 0, none⟩)] w fun e w' => e = .returned (.tuple #[]) ∧ w' = w.setCell ⟨b, 0, none⟩ (.pointer (some ⟨b, 0, none⟩)) := by
  obtain ⟨j, hj, hjs⟩ := Option.map_eq_some_iff.1 bsz
  go_enter Tryz.func90, Tryz.ntmps90
  go_wp2
  rw [Lib.run_to_unsafe w ⟨b, 0, none⟩ Tryz.underlying55 Tryz.underlying133 hj (by rw [hjs]; decide) hsh (Nat.zero_lt_succ 1)]
  simp only [Result.andThen]
  rw [Oper.upon_value]
  go_wp2
  rw [run_callFunc_extern Tryz.func109 (by kernel_rfl) (by kernel_rfl) (by kernel_rfl) (e := Extern.AbiNoEscape.same) (by kernel_rfl)]
  rw [Lib.run_noEscape]
  simp only [Result.andThen]
  rw [Oper.upon_value]
  go_wp2
  rw [Lib.run_from_unsafe w ⟨b, 0, none⟩ Tryz.underlying133 Tryz.underlying55 hj hsh (by kernel_rfl)]
  simp only [Result.andThen]
  rw [Oper.upon_value]
  go_wp2
  go_end0
  exact ⟨rfl, rfl⟩
theorem bcheck90 (B b : Nat) (bs : List Value) (w : World) (h : Lib.IsBuilder 58 5 B b bs w) : Calls Tryz.prog 90 #[.pointer (some ⟨b, 0, none⟩)] w fun e w' => e = .returned (.tuple #[]) ∧ Lib.BuilderAt 58 5 B b (.pointer (some ⟨b, 0, none⟩)) bs w' ∧ Below B w w' ∧ ∀ i, i ≠ b → w'.heap[i]? = w.heap[i]? := by
  rcases h with h | h
  · refine (bcheck_fresh b w h.cell0 h.shape h.frozen0).mono ?_
    rintro e w' ⟨rfl, rfl⟩
    exact ⟨rfl, h.used _, (Below.refl B w).setCell (p := ⟨b, 0, none⟩) h.1 _, fun i hi => Go.Deep.blk_setCell_other w ⟨b, 0, none⟩ _ i hi⟩
  · refine (bcheck_used b w h.cell0).mono ?_
    rintro e w' ⟨rfl, rfl⟩
    exact ⟨rfl, h, Below.refl B _, fun _ _ => rfl⟩
set_option maxRecDepth 100000 in
set_option maxHeartbeats 4000000 in
/-- A string written to a builder: whatever is neither the builder nor the row of its bytes stays. -/
theorem bwrite63 (B b : Nat) (bs : List Value) (s : ByteArray) (w : World) (h : Lib.IsBuilder 58 5 B b bs w) (hlen : bs.length + s.size ≤ 140737488355328) (hBw : B ≤ w.heap.size) : Calls Tryz.prog 63 #[.pointer (some ⟨b, 0, none⟩), .string s] w fun e w' => e = .returned (.tuple #[.int .i64 s.size, .nilIface]) ∧ Lib.BuilderAt 58 5 B b (.pointer (some ⟨b, 0, none⟩)) (bs ++ Lib.strCells s) w' ∧ Below B w w' := by
  obtain ⟨i0, hi, hz0, hz1, hz2⟩ := info_parts info5
  go_enter Tryz.func63, Tryz.ntmps63
  go_wp2_with (go_at_call 90; refine (bcheck90 B b bs _ h).mono ?_)
  rintro e w1 ⟨rfl, ⟨hB, v, hbk, hown, hne⟩, hb1, hsame⟩
  have c0 : w1.cell? ⟨b, 0, none⟩ = some (.pointer (some ⟨b, 0, none⟩)) := Joins.cell_of_block hbk 0
  have c1 : w1.cell? ⟨b, 1, none⟩ = some v := Joins.cell_of_block hbk 1
  have hsz := hb1.size
  go_wp2_with (at_builtin; refine Lib.wpList_append_own_string _ rfl _ _ 56 9 rfl B 5 i0 Tryz.underlying56 Tryz.underlying9 hi hz0 hz1 hz2 _ _ _ rfl hown s rfl (by unfold maxLen; omega) (by omega) (by omega) ?_)
  intro v' w2 hown' hgrow _
  have hlt : b < w1.heap.size := (Array.getElem?_eq_some_iff.1 hbk).1
  have hb2 : w2.heap[b]? = some (.cells #[.pointer (some ⟨b, 0, none⟩), v] 58 (0, 0)) := by
    rw [hgrow.block b hlt (fun e => hne e.symm)]
    exact hbk
  have d0 : w2.cell? ⟨b, 0, none⟩ = some (.pointer (some ⟨b, 0, none⟩)) := Joins.cell_of_block hb2 0
  have d1 : w2.cell? ⟨b, 1, none⟩ = some v := Joins.cell_of_block hb2 1
  have f1 : w2.frozen? ⟨b, 1, none⟩ = false := Lib.frozen_of_heap hb2 1
  obtain ⟨ao, n', cap, rfl⟩ := own_slice hown'
  go_wp2
  go_ret2
  refine ⟨rfl, Lib.BuilderAt.put (T := 58) (e := 5) hB hb2 (bs' := bs ++ Lib.strCells s) (by simpa [Lib.strCells_length] using hown') (by decide), ?_⟩
  exact (hb1.grown hgrow (by omega) (fun k hk => (hown.lt k hk).1)).setCell (p := ⟨b, 1, none⟩) hB _
end
section
open Go.RowKit Go.Shelf
/-- A type's text: at most so many steps down. -/
def tyF (l : List Nd) : Nat → Nat → ByteArray
  | 0, _ => ⟨#[]⟩
  | f + 1, n => match l[n]? with
    | none => ⟨#[]⟩
    | some x =>
      if x.k = 10 then ⟨#[105, 54, 52]⟩ else if x.k = 11 then ⟨#[98, 111, 111, 108]⟩ else if x.k = 12 then ⟨#[40, 41]⟩ else
      if x.k = 14 then ⟨#[38]⟩ ++ tyF l f (x.ks.getD 0 0).toNat else
      if x.k = 15 then ⟨#[38, 109, 117, 116, 32]⟩ ++ tyF l f (x.ks.getD 0 0).toNat else
      if x.k = 16 then ⟨#[66, 111, 120, 60]⟩ ++ tyF l f (x.ks.getD 0 0).toNat ++ ⟨#[62]⟩ else x.nm
theorem tyF_size (l : List Nd) (h : ∀ x ∈ l, x.nm.size ≤ 4294967280) : ∀ f n, (tyF l f n).size ≤ 5 * f + 4294967280
  | 0, n => by
    show (ByteArray.size ⟨#[]⟩) ≤ _
    simp [ByteArray.size]
  | f + 1, n => by
    unfold tyF
    split
    · simp [ByteArray.size]
    · rename_i x hx
      have hi := tyF_size l h f (x.ks.getD 0 0).toNat
      have hn := h x (List.mem_of_getElem? hx)
      have e1 : (ByteArray.size ⟨#[38]⟩) = 1 := rfl
      have e2 : (ByteArray.size ⟨#[38, 109, 117, 116, 32]⟩) = 5 := rfl
      have e3 : (ByteArray.size ⟨#[66, 111, 120, 60]⟩) = 4 := rfl
      have e4 : (ByteArray.size ⟨#[62]⟩) = 1 := rfl
      split
      · show 3 ≤ _; omega
      · split
        · show 4 ≤ _; omega
        · split
          · show 2 ≤ _; omega
          · split
            · rw [ByteArray.size_append, e1]; omega
            · split
              · rw [ByteArray.size_append, e2]; omega
              · split
                · rw [ByteArray.size_append, ByteArray.size_append, e3, e4]; omega
                · omega
/-- A type and what is below it, of a right tree. -/
theorem ty_step {l : List Nd} (hr : rightB l = true) {n : Nat} {x : Nd} (hx : l[n]? = some x) (ht : tyB x.k = true) :
    ((x.k = 10 ∨ x.k = 11 ∨ x.k = 12 ∨ x.k = 13) ∧ x.ks = []) ∨ ((x.k = 14 ∨ x.k = 15 ∨ x.k = 16) ∧ ∃ z y, z < n ∧ x.ks = [(z : Int)] ∧ l[z]? = some y ∧ tyB y.k = true) := by
  obtain ⟨p, hp, _⟩ := right_par hr
  have hk := par_kin hp n x hx
  have hnod : nodB l x = true := by
    unfold rightB at hr
    split at hr
    · cases hr
    · rw [hp] at hr
      simp only [Bool.and_eq_true, List.all_eq_true] at hr
      exact hr.2.2 x (List.mem_of_getElem? hx)
  unfold nodB at hnod
  simp only [Bool.and_eq_true] at hnod
  have hkb := hnod.2.2.2.2
  have hlt : n < l.length := (List.getElem?_eq_some_iff.1 hx).1
  have one : kAre l x.ks [130048] = true → ∃ z y, z < n ∧ x.ks = [(z : Int)] ∧ l[z]? = some y ∧ tyB y.k = true := fun h => by
    have hl := kAre_len h
    match hks : x.ks, hl with
    | [y], _ =>
      have hy := hk y (by rw [hks]; simp)
      have ha := kAre_at 0 y 130048 h (by rw [hks]; rfl) rfl
      obtain ⟨z, rfl⟩ : ∃ z : Nat, y = z := ⟨y.toNat, by omega⟩
      obtain ⟨y2, hy2⟩ : ∃ y2, l[z]? = some y2 := ⟨_, List.getElem?_eq_getElem (by omega)⟩
      refine ⟨z, y2, by omega, rfl, hy2, ?_⟩
      rw [h_T] at ha
      have hkd : kdK l (z : Int) = y2.k := by simp [kdK, hy2]
      rw [hkd] at ha
      exact ha
  unfold tyB at ht
  simp only [Bool.and_eq_true, decide_eq_true_eq] at ht
  have hc : x.k = 10 ∨ x.k = 11 ∨ x.k = 12 ∨ x.k = 13 ∨ x.k = 14 ∨ x.k = 15 ∨ x.k = 16 := by omega
  rcases hc with e | e | e | e | e | e | e <;> rw [e] at hkb
  · exact .inl ⟨.inl e, by have t : ((x.ks.length : Int) == 0) = true := hkb; exact List.eq_nil_of_length_eq_zero (by simp at t; simp [t])⟩
  · exact .inl ⟨.inr (.inl e), by have t : ((x.ks.length : Int) == 0) = true := hkb; exact List.eq_nil_of_length_eq_zero (by simp at t; simp [t])⟩
  · exact .inl ⟨.inr (.inr (.inl e)), by have t : ((x.ks.length : Int) == 0) = true := hkb; exact List.eq_nil_of_length_eq_zero (by simp at t; simp [t])⟩
  · exact .inl ⟨.inr (.inr (.inr e)), by have t : ((x.ks.length : Int) == 0) = true := hkb; exact List.eq_nil_of_length_eq_zero (by simp at t; simp [t])⟩
  · exact .inr ⟨.inl e, one hkb⟩
  · exact .inr ⟨.inr (.inl e), one hkb⟩
  · exact .inr ⟨.inr (.inr e), one hkb⟩
end
section
open Go.RowKit Go.Shelf
set_option maxRecDepth 100000 in
set_option maxHeartbeats 4000000 in
theorem ty_leaf (l : List Nd) (ao : Option Addr) (c n : Nat) (w : World) (x : Nd) (hl : NdA w ao c l) (hx : l[n]? = some x) (k : Int) (hk : x.k = k) (hc : k = 10 ∨ k = 11 ∨ k = 12 ∨ k = 13) : Calls Tryz.prog 40 #[.agg #[.slice ao l.length c], .int .i64 n] w fun e w' => e = .returned (.string (tyF l (n + 1) n)) ∧ Below w.heap.size w w' := by
  have hn : n < l.length := (List.getElem?_eq_some_iff.1 hx).1
  obtain ⟨gn, on, he, hnd⟩ := hl.2.2.2 (by omega)
  obtain ⟨y0, y1, y2, y3, y4, y5⟩ := nd_cells hnd hx
  have hg : gn < w.heap.size := World.block_lt_of_cell? _ _ y0
  have hA : ∀ o j, (w.alloc o).cell? ⟨gn, j, none⟩ = w.cell? ⟨gn, j, none⟩ := fun o j => (bcell ((Below.refl _ w).alloc (Nat.le_refl _) o)).1 gn j hg
  have hA2 : ∀ o o' j, ((w.alloc o).alloc o').cell? ⟨gn, j, none⟩ = w.cell? ⟨gn, j, none⟩ := fun o o' j => (bcell (((Below.refl _ w).alloc (Nat.le_refl _) o).alloc (by simp) o')).1 gn j hg
  have hnc : l.length ≤ c := hl.1
  have hc2 : c ≤ 9223372036854775807 := hl.2.1
  have c53 := cells53
  have HT : tyF l (n + 1) n = if k = 10 then ⟨#[105, 54, 52]⟩ else if k = 11 then ⟨#[98, 111, 111, 108]⟩ else if k = 12 then ⟨#[40, 41]⟩ else x.nm := by
    unfold tyF
    rw [hx]
    simp only [hk]
    rcases hc with rfl | rfl | rfl | rfl <;> simp
  rw [HT]
  clear HT hnd hx
  subst he
  have HB : Hid (∀ o o', Below w.heap.size w ((w.alloc o).alloc o')) := fun o o' => ((Below.refl _ w).alloc (Nat.le_refl _) o).alloc (by simp) o'
  obtain ⟨K, T, V, ka, kc, ks, F, E⟩ := x
  simp only at *
  subst hk
  generalize l.length = m at *
  clear hl
  rcases hc with rfl | rfl | rfl | rfl
  all_goals
    go_enter Tryz.func40, Tryz.ntmps40
    go_wp2
    go_ret
    exact ⟨rfl, HB.out _ _⟩
set_option maxRecDepth 100000 in
set_option maxHeartbeats 4000000 in
theorem ty_over (l : List Nd) (ao : Option Addr) (c n z : Nat) (S : ByteArray) (w : World) (x : Nd) (hl : NdA w ao c l) (hx : l[n]? = some x) (k : Int) (hk : x.k = k) (hc : k = 14 ∨ k = 15 ∨ k = 16) (hks : x.ks = [(z : Int)]) (hz : S.size ≤ 8589934592)
    (HK : Hid (∀ W, Below w.heap.size w W → Calls Tryz.prog 40 #[.agg #[.slice ao l.length c], .int .i64 z] W fun e w' => e = .returned (.string S) ∧ Below W.heap.size W w')) :
    Calls Tryz.prog 40 #[.agg #[.slice ao l.length c], .int .i64 n] w fun e w' => e = .returned (.string (if k = 14 then ⟨#[38]⟩ ++ S else if k = 15 then ⟨#[38, 109, 117, 116, 32]⟩ ++ S else ⟨#[66, 111, 120, 60]⟩ ++ S ++ ⟨#[62]⟩)) ∧ Below w.heap.size w w' := by
  have hn : n < l.length := (List.getElem?_eq_some_iff.1 hx).1
  obtain ⟨gn, on, he, hnd⟩ := hl.2.2.2 (by omega)
  obtain ⟨y0, y1, y2, y3, y4, y5⟩ := nd_cells hnd hx
  have hg : gn < w.heap.size := World.block_lt_of_cell? _ _ y0
  have hA : ∀ o j, (w.alloc o).cell? ⟨gn, j, none⟩ = w.cell? ⟨gn, j, none⟩ := fun o j => (bcell ((Below.refl _ w).alloc (Nat.le_refl _) o)).1 gn j hg
  have hA2 : ∀ o o' j, ((w.alloc o).alloc o').cell? ⟨gn, j, none⟩ = w.cell? ⟨gn, j, none⟩ := fun o o' j => (bcell (((Below.refl _ w).alloc (Nat.le_refl _) o).alloc (by simp) o')).1 gn j hg
  have hnc : l.length ≤ c := hl.1
  have hc2 : c ≤ 9223372036854775807 := hl.2.1
  have c53 := cells53
  have c3 := cells3'
  have hxo := (hl.2.2.1 x (List.mem_of_getElem? hx)).ks
  rw [hks] at hxo y3
  obtain ⟨gk, ok, hka, hkc⟩ := hxo.2.2 (by simp)
  have hkc1 : 1 ≤ x.kc := hxo.1
  have hkc2 : x.kc ≤ 9223372036854775807 := hxo.2.1
  have q0 : w.cell? ⟨gk, ok, none⟩ = some (.int .i64 (z : Int)) := hkc 0 (z : Int) rfl
  have hgk : gk < w.heap.size := World.block_lt_of_cell? _ _ q0
  have hB2 : ∀ o o' j, ((w.alloc o).alloc o').cell? ⟨gk, j, none⟩ = w.cell? ⟨gk, j, none⟩ := fun o o' j => (bcell (((Below.refl _ w).alloc (Nat.le_refl _) o).alloc (by simp) o')).1 gk j hgk
  rw [hka] at y3
  simp only [List.length_singleton] at y3
  clear hnd hx hxo hkc hka hks
  subst he
  have HB : Hid (∀ o o', Below w.heap.size w ((w.alloc o).alloc o')) := fun o o' => ((Below.refl _ w).alloc (Nat.le_refl _) o).alloc (by simp) o'
  have HC : Hid (∀ o o' w1, Below ((w.alloc o).alloc o').heap.size ((w.alloc o).alloc o') w1 → Below w.heap.size w w1) := fun o o' w1 hb => (HB.out o o').trans (hb.mono (by simp; omega))
  obtain ⟨K, T, V, ka, kc, ks, F, E⟩ := x
  simp only at *
  subst hk
  generalize l.length = m at *
  clear hl
  rcases hc with rfl | rfl | rfl
  · simp only [if_true]
    go_enter Tryz.func40, Tryz.ntmps40
    go_wp2_with fail
    have g0 : ((w.alloc (.cells #[.slice (some ⟨gn, on, none⟩) m c] 24)).alloc (.cells #[.int .i64 14, .string T, .int .i64 V, .slice (some ⟨gk, ok, none⟩) 1 kc, .int .i64 F, .int .i64 E] 53)).cell? ⟨w.heap.size, 0, none⟩ = some (.slice (some ⟨gn, on, none⟩) m c) := by simp
    have g1 : ((w.alloc (.cells #[.slice (some ⟨gn, on, none⟩) m c] 24)).alloc (.cells #[.int .i64 14, .string T, .int .i64 V, .slice (some ⟨gk, ok, none⟩) 1 kc, .int .i64 F, .int .i64 E] 53)).cell? ⟨w.heap.size + 1, 3, none⟩ = some (.slice (some ⟨gk, ok, none⟩) 1 kc) := by simp
    have g2 := (hB2 (.cells #[.slice (some ⟨gn, on, none⟩) m c] 24) (.cells #[.int .i64 14, .string T, .int .i64 V, .slice (some ⟨gk, ok, none⟩) 1 kc, .int .i64 F, .int .i64 E] 53) ok).trans q0
    have hbw := HB.out (.cells #[.slice (some ⟨gn, on, none⟩) m c] 24) (.cells #[.int .i64 14, .string T, .int .i64 V, .slice (some ⟨gk, ok, none⟩) 1 kc, .int .i64 F, .int .i64 E] 53)
    clear HB HC hA hA2 hB2 q0 y0 y1 y2 y3 y4 y5
    generalize (w.alloc (.cells #[.slice (some ⟨gn, on, none⟩) m c] 24)).alloc (.cells #[.int .i64 14, .string T, .int .i64 V, .slice (some ⟨gk, ok, none⟩) 1 kc, .int .i64 F, .int .i64 E] 53) = W0 at *
    have HBW : Hid (Below w.heap.size w W0) := hbw
    have HPC : Hid (∀ W, Below W0.heap.size W0 W → W.cell? ⟨w.heap.size, 0, none⟩ = some (.slice (some ⟨gn, on, none⟩) m c) ∧ W.cell? ⟨w.heap.size + 1, 3, none⟩ = some (.slice (some ⟨gk, ok, none⟩) 1 kc) ∧ W.cell? ⟨gk, ok, none⟩ = some (.int .i64 (z : Int))) := fun W hW => ⟨by rw [(bcell hW).1 _ _ (World.block_lt_of_cell? _ _ g0)]; exact g0, by rw [(bcell hW).1 _ _ (World.block_lt_of_cell? _ _ g1)]; exact g1, by rw [(bcell hW).1 _ _ (World.block_lt_of_cell? _ _ g2)]; exact g2⟩
    have K40 : Hid (∀ W, Below W0.heap.size W0 W → Calls Tryz.prog 40 #[.agg #[.slice (some ⟨gn, on, none⟩) m c], .int .i64 (z : Int)] W fun e w' => e = .returned (.string S) ∧ Below W0.heap.size W0 w') := fun W hW => (HK.out W (hbw.trans (hW.mono hbw.size))).mono fun _ _ ⟨he, hb⟩ => ⟨he, hW.trans (hb.mono hW.size)⟩
    have z1 : ¬ 9223372036854775807 < (⟨#[38]⟩ : ByteArray).size + S.size := by show ¬ 9223372036854775807 < 1 + S.size; omega
    have z2 : ¬ 9223372036854775807 < 1 + S.size := by omega
    have z3 : ¬ 9223372036854775807 < 5 + S.size := by omega
    have z4 : ¬ 9223372036854775807 < 4 + S.size := by omega
    have z5 : ¬ 9223372036854775807 ≤ 4 + S.size := by omega
    have z6 : ¬ 9223372036854775807 < 4 + S.size + 1 := by omega
    have z7 : ¬ 9223372036854775807 ≤ S.size := by omega
    have z8 : 1 + S.size ≤ 9223372036854775807 := by omega
    have z9 : 5 + S.size ≤ 9223372036854775807 := by omega
    have z10 : 4 + S.size ≤ 9223372036854775807 := by omega
    have z11 : 4 + S.size < 9223372036854775807 := by omega
    have z12 : 4 + S.size + 1 ≤ 9223372036854775807 := by omega
    clear hbw HK
    have HZ : Hid (Below W0.heap.size W0 W0) := Below.refl _ _
    go_region_held3 (fun w' => Below W0.heap.size W0 w' ∧ w'.cell? ⟨w.heap.size, 0, none⟩ = some (.slice (some ⟨gn, on, none⟩) m c) ∧ w'.cell? ⟨w.heap.size + 1, 3, none⟩ = some (.slice (some ⟨gk, ok, none⟩) 1 kc) ∧ w'.cell? ⟨gk, ok, none⟩ = some (.int .i64 (z : Int))) (first | assumption | (refine ⟨?_, ?_, ?_, ?_⟩ <;> (first | assumption | (exact HZ.out) | (exact HZ.out.trans ⟨rfl, rfl, rfl, Nat.le_refl _, fun _ _ => rfl⟩) | (simp; done) | (simp; assumption)))) (first | (go_at_call 40; refine (K40.out _ (by first | exact HZ.out.trans ⟨rfl, rfl, rfl, Nat.le_refl _, fun _ _ => rfl⟩ | assumption | exact And.left (by assumption))).mono ?_; rintro e w5 ⟨rfl, hB5⟩; obtain ⟨f0, f1, f2⟩ := HPC.out w5 hB5))
    go_wp2
    go_ret
    exact ⟨rfl, HBW.out.trans (hB5.mono HBW.out.size)⟩
  · simp only [show ¬ ((15 : Int) = 14) by decide, if_false, if_true]
    go_enter Tryz.func40, Tryz.ntmps40
    go_wp2_with fail
    have g0 : ((w.alloc (.cells #[.slice (some ⟨gn, on, none⟩) m c] 24)).alloc (.cells #[.int .i64 15, .string T, .int .i64 V, .slice (some ⟨gk, ok, none⟩) 1 kc, .int .i64 F, .int .i64 E] 53)).cell? ⟨w.heap.size, 0, none⟩ = some (.slice (some ⟨gn, on, none⟩) m c) := by simp
    have g1 : ((w.alloc (.cells #[.slice (some ⟨gn, on, none⟩) m c] 24)).alloc (.cells #[.int .i64 15, .string T, .int .i64 V, .slice (some ⟨gk, ok, none⟩) 1 kc, .int .i64 F, .int .i64 E] 53)).cell? ⟨w.heap.size + 1, 3, none⟩ = some (.slice (some ⟨gk, ok, none⟩) 1 kc) := by simp
    have g2 := (hB2 (.cells #[.slice (some ⟨gn, on, none⟩) m c] 24) (.cells #[.int .i64 15, .string T, .int .i64 V, .slice (some ⟨gk, ok, none⟩) 1 kc, .int .i64 F, .int .i64 E] 53) ok).trans q0
    have hbw := HB.out (.cells #[.slice (some ⟨gn, on, none⟩) m c] 24) (.cells #[.int .i64 15, .string T, .int .i64 V, .slice (some ⟨gk, ok, none⟩) 1 kc, .int .i64 F, .int .i64 E] 53)
    clear HB HC hA hA2 hB2 q0 y0 y1 y2 y3 y4 y5
    generalize (w.alloc (.cells #[.slice (some ⟨gn, on, none⟩) m c] 24)).alloc (.cells #[.int .i64 15, .string T, .int .i64 V, .slice (some ⟨gk, ok, none⟩) 1 kc, .int .i64 F, .int .i64 E] 53) = W0 at *
    have HBW : Hid (Below w.heap.size w W0) := hbw
    have HPC : Hid (∀ W, Below W0.heap.size W0 W → W.cell? ⟨w.heap.size, 0, none⟩ = some (.slice (some ⟨gn, on, none⟩) m c) ∧ W.cell? ⟨w.heap.size + 1, 3, none⟩ = some (.slice (some ⟨gk, ok, none⟩) 1 kc) ∧ W.cell? ⟨gk, ok, none⟩ = some (.int .i64 (z : Int))) := fun W hW => ⟨by rw [(bcell hW).1 _ _ (World.block_lt_of_cell? _ _ g0)]; exact g0, by rw [(bcell hW).1 _ _ (World.block_lt_of_cell? _ _ g1)]; exact g1, by rw [(bcell hW).1 _ _ (World.block_lt_of_cell? _ _ g2)]; exact g2⟩
    have K40 : Hid (∀ W, Below W0.heap.size W0 W → Calls Tryz.prog 40 #[.agg #[.slice (some ⟨gn, on, none⟩) m c], .int .i64 (z : Int)] W fun e w' => e = .returned (.string S) ∧ Below W0.heap.size W0 w') := fun W hW => (HK.out W (hbw.trans (hW.mono hbw.size))).mono fun _ _ ⟨he, hb⟩ => ⟨he, hW.trans (hb.mono hW.size)⟩
    have z1 : ¬ 9223372036854775807 < (⟨#[38]⟩ : ByteArray).size + S.size := by show ¬ 9223372036854775807 < 1 + S.size; omega
    have z2 : ¬ 9223372036854775807 < 1 + S.size := by omega
    have z3 : ¬ 9223372036854775807 < 5 + S.size := by omega
    have z4 : ¬ 9223372036854775807 < 4 + S.size := by omega
    have z5 : ¬ 9223372036854775807 ≤ 4 + S.size := by omega
    have z6 : ¬ 9223372036854775807 < 4 + S.size + 1 := by omega
    have z7 : ¬ 9223372036854775807 ≤ S.size := by omega
    have z8 : 1 + S.size ≤ 9223372036854775807 := by omega
    have z9 : 5 + S.size ≤ 9223372036854775807 := by omega
    have z10 : 4 + S.size ≤ 9223372036854775807 := by omega
    have z11 : 4 + S.size < 9223372036854775807 := by omega
    have z12 : 4 + S.size + 1 ≤ 9223372036854775807 := by omega
    clear hbw HK
    have HZ : Hid (Below W0.heap.size W0 W0) := Below.refl _ _
    go_region_held3 (fun w' => Below W0.heap.size W0 w' ∧ w'.cell? ⟨w.heap.size, 0, none⟩ = some (.slice (some ⟨gn, on, none⟩) m c) ∧ w'.cell? ⟨w.heap.size + 1, 3, none⟩ = some (.slice (some ⟨gk, ok, none⟩) 1 kc) ∧ w'.cell? ⟨gk, ok, none⟩ = some (.int .i64 (z : Int))) (first | assumption | (refine ⟨?_, ?_, ?_, ?_⟩ <;> (first | assumption | (exact HZ.out) | (exact HZ.out.trans ⟨rfl, rfl, rfl, Nat.le_refl _, fun _ _ => rfl⟩) | (simp; done) | (simp; assumption)))) (first | (go_at_call 40; refine (K40.out _ (by first | exact HZ.out.trans ⟨rfl, rfl, rfl, Nat.le_refl _, fun _ _ => rfl⟩ | assumption | exact And.left (by assumption))).mono ?_; rintro e w5 ⟨rfl, hB5⟩; obtain ⟨f0, f1, f2⟩ := HPC.out w5 hB5))
    go_wp2
    go_ret
    exact ⟨rfl, HBW.out.trans (hB5.mono HBW.out.size)⟩
  · simp only [show ¬ ((16 : Int) = 14) by decide, show ¬ ((16 : Int) = 15) by decide, if_false]
    go_enter Tryz.func40, Tryz.ntmps40
    go_wp2_with fail
    have g0 : ((w.alloc (.cells #[.slice (some ⟨gn, on, none⟩) m c] 24)).alloc (.cells #[.int .i64 16, .string T, .int .i64 V, .slice (some ⟨gk, ok, none⟩) 1 kc, .int .i64 F, .int .i64 E] 53)).cell? ⟨w.heap.size, 0, none⟩ = some (.slice (some ⟨gn, on, none⟩) m c) := by simp
    have g1 : ((w.alloc (.cells #[.slice (some ⟨gn, on, none⟩) m c] 24)).alloc (.cells #[.int .i64 16, .string T, .int .i64 V, .slice (some ⟨gk, ok, none⟩) 1 kc, .int .i64 F, .int .i64 E] 53)).cell? ⟨w.heap.size + 1, 3, none⟩ = some (.slice (some ⟨gk, ok, none⟩) 1 kc) := by simp
    have g2 := (hB2 (.cells #[.slice (some ⟨gn, on, none⟩) m c] 24) (.cells #[.int .i64 16, .string T, .int .i64 V, .slice (some ⟨gk, ok, none⟩) 1 kc, .int .i64 F, .int .i64 E] 53) ok).trans q0
    have hbw := HB.out (.cells #[.slice (some ⟨gn, on, none⟩) m c] 24) (.cells #[.int .i64 16, .string T, .int .i64 V, .slice (some ⟨gk, ok, none⟩) 1 kc, .int .i64 F, .int .i64 E] 53)
    clear HB HC hA hA2 hB2 q0 y0 y1 y2 y3 y4 y5
    generalize (w.alloc (.cells #[.slice (some ⟨gn, on, none⟩) m c] 24)).alloc (.cells #[.int .i64 16, .string T, .int .i64 V, .slice (some ⟨gk, ok, none⟩) 1 kc, .int .i64 F, .int .i64 E] 53) = W0 at *
    have HBW : Hid (Below w.heap.size w W0) := hbw
    have HPC : Hid (∀ W, Below W0.heap.size W0 W → W.cell? ⟨w.heap.size, 0, none⟩ = some (.slice (some ⟨gn, on, none⟩) m c) ∧ W.cell? ⟨w.heap.size + 1, 3, none⟩ = some (.slice (some ⟨gk, ok, none⟩) 1 kc) ∧ W.cell? ⟨gk, ok, none⟩ = some (.int .i64 (z : Int))) := fun W hW => ⟨by rw [(bcell hW).1 _ _ (World.block_lt_of_cell? _ _ g0)]; exact g0, by rw [(bcell hW).1 _ _ (World.block_lt_of_cell? _ _ g1)]; exact g1, by rw [(bcell hW).1 _ _ (World.block_lt_of_cell? _ _ g2)]; exact g2⟩
    have K40 : Hid (∀ W, Below W0.heap.size W0 W → Calls Tryz.prog 40 #[.agg #[.slice (some ⟨gn, on, none⟩) m c], .int .i64 (z : Int)] W fun e w' => e = .returned (.string S) ∧ Below W0.heap.size W0 w') := fun W hW => (HK.out W (hbw.trans (hW.mono hbw.size))).mono fun _ _ ⟨he, hb⟩ => ⟨he, hW.trans (hb.mono hW.size)⟩
    have z1 : ¬ 9223372036854775807 < (⟨#[38]⟩ : ByteArray).size + S.size := by show ¬ 9223372036854775807 < 1 + S.size; omega
    have z2 : ¬ 9223372036854775807 < 1 + S.size := by omega
    have z3 : ¬ 9223372036854775807 < 5 + S.size := by omega
    have z4 : ¬ 9223372036854775807 < 4 + S.size := by omega
    have z5 : ¬ 9223372036854775807 ≤ 4 + S.size := by omega
    have z6 : ¬ 9223372036854775807 < 4 + S.size + 1 := by omega
    have z7 : ¬ 9223372036854775807 ≤ S.size := by omega
    have z8 : 1 + S.size ≤ 9223372036854775807 := by omega
    have z9 : 5 + S.size ≤ 9223372036854775807 := by omega
    have z10 : 4 + S.size ≤ 9223372036854775807 := by omega
    have z11 : 4 + S.size < 9223372036854775807 := by omega
    have z12 : 4 + S.size + 1 ≤ 9223372036854775807 := by omega
    clear hbw HK
    have HZ : Hid (Below W0.heap.size W0 W0) := Below.refl _ _
    go_region_held3 (fun w' => Below W0.heap.size W0 w' ∧ w'.cell? ⟨w.heap.size, 0, none⟩ = some (.slice (some ⟨gn, on, none⟩) m c) ∧ w'.cell? ⟨w.heap.size + 1, 3, none⟩ = some (.slice (some ⟨gk, ok, none⟩) 1 kc) ∧ w'.cell? ⟨gk, ok, none⟩ = some (.int .i64 (z : Int))) (first | assumption | (refine ⟨?_, ?_, ?_, ?_⟩ <;> (first | assumption | (exact HZ.out) | (exact HZ.out.trans ⟨rfl, rfl, rfl, Nat.le_refl _, fun _ _ => rfl⟩) | (simp; done) | (simp; assumption)))) (first | (go_at_call 40; refine (K40.out _ (by first | exact HZ.out.trans ⟨rfl, rfl, rfl, Nat.le_refl _, fun _ _ => rfl⟩ | assumption | exact And.left (by assumption))).mono ?_; rintro e w5 ⟨rfl, hB5⟩; obtain ⟨f0, f1, f2⟩ := HPC.out w5 hB5))
    go_wp2
    go_ret
    exact ⟨rfl, HBW.out.trans (hB5.mono HBW.out.size)⟩
end
section
open Go.RowKit Go.Shelf
theorem tyF_over {l : List Nd} {n : Nat} {x : Nd} (hx : l[n]? = some x) (hc : x.k = 14 ∨ x.k = 15 ∨ x.k = 16) {z : Nat} (hks : x.ks = [(z : Int)]) (f : Nat) : tyF l (f + 1) n = (if x.k = 14 then ⟨#[38]⟩ ++ tyF l f z else if x.k = 15 then ⟨#[38, 109, 117, 116, 32]⟩ ++ tyF l f z else ⟨#[66, 111, 120, 60]⟩ ++ tyF l f z ++ ⟨#[62]⟩) := by
  rw [tyF.eq_def]
  simp only [hx, hks]
  rcases hc with e | e | e <;> simp [e]
/-- More steps than there are nodes below make no other text. -/
theorem tyF_more {l : List Nd} (hr : rightB l = true) : ∀ (n f : Nat) (x : Nd), l[n]? = some x → tyB x.k = true → n < f → tyF l f n = tyF l (n + 1) n := by
  intro n
  induction n using Nat.strongRecOn with
  | _ n ih =>
    intro f x hx ht hf
    obtain ⟨g, rfl⟩ : ∃ g, f = g + 1 := ⟨f - 1, by omega⟩
    rcases ty_step hr hx ht with ⟨hk, _⟩ | ⟨hk, z, y, hz, hks, hy, hty⟩
    · rw [tyF.eq_def, tyF.eq_def]
      simp only [hx]
      rcases hk with e | e | e | e <;> simp [e]
    · rw [tyF_over hx hk hks g, tyF_over hx hk hks n, ih z hz g y hy hty (by omega), ih z hz n y hy hty hz]
theorem ty40 (l : List Nd) (ao : Option Addr) (c : Nat) (hr : rightB l = true) (hlen : l.length ≤ 20000) : ∀ (n : Nat) (w : World) (x : Nd), NdA w ao c l → l[n]? = some x → tyB x.k = true → Calls Tryz.prog 40 #[.agg #[.slice ao l.length c], .int .i64 n] w fun e w' => e = .returned (.string (tyF l (n + 1) n)) ∧ Below w.heap.size w w' := by
  intro n
  induction n using Nat.strongRecOn with
  | _ n ih =>
    intro w x hl hx ht
    rcases ty_step hr hx ht with ⟨hk, _⟩ | ⟨hk, z, y, hz, hks, hy, hty⟩
    · exact ty_leaf l ao c n w x hl hx x.k rfl hk
    · rw [tyF_over hx hk hks n, tyF_more hr z n y hy hty hz]
      have hn : n < l.length := (List.getElem?_eq_some_iff.1 hx).1
      exact ty_over l ao c n z _ w x hl hx x.k rfl hk hks (by have := tyF_size l (fun q hq => (hl.2.2.1 q hq).nm) (z + 1) z; omega) (fun W hW => ih z hz W y (hl.below hW) hy hty)
/-- What Type answers with. -/
def tyE (l : List Nd) (n : Int) : Int := if cnE l n = 0 then (if tyB (kdK l n) = true then 0 else 1) else cnE l n
def tyS (l : List Nd) (n : Int) : ByteArray := if tyE l n = 0 then tyF l (n.toNat + 1) n.toNat else ⟨#[]⟩
set_option maxRecDepth 100000 in
set_option maxHeartbeats 4000000 in
theorem rtype_wrong (l : List Nd) (ao : Option Addr) (c : Nat) (n : Int) (w : World) (hl : NdA w ao c l) (h : cnE l n ≠ 0) : Calls Tryz.prog 19 #[.agg #[.slice ao l.length c], .int .i64 n] w fun e w' => e = .returned (.tuple #[.string ⟨#[]⟩, .int .i64 (cnE l n)]) ∧ Below w.heap.size w w' := by
  have HC : Hid (∀ W, Below w.heap.size w W → Calls Tryz.prog 28 #[.agg #[.slice ao l.length c]] W fun e w' => e = .returned (.bool (rightB l)) ∧ Below W.heap.size W w') := fun W hW => right28 l ao c W (hl.below hW)
  unfold cnE at *
  clear hl
  generalize l.length = m at *
  generalize rightB l = rb at *
  cases rb
  · rw [if_neg (by simp)] at h ⊢
    clear h
    go_enter Tryz.func19, Tryz.ntmps19
    go_wp2_with fail
    refine (HC.out _ (below_cells _ _ _)).mono ?_
    rintro e w1 ⟨rfl, hb⟩
    have HB1 : Hid (Below w.heap.size w w1) := (below_cells w _ _).trans (hb.mono (by simp))
    clear hb HC
    go_wp2
    go_ret2
    exact ⟨rfl, HB1.out⟩
  · rw [if_pos rfl] at h ⊢
    by_cases h0 : n < 0
    · rw [if_pos (.inl h0)] at h ⊢
      clear h
      go_enter Tryz.func19, Tryz.ntmps19
      go_wp2_with fail
      refine (HC.out _ (below_cells _ _ _)).mono ?_
      rintro e w1 ⟨rfl, hb⟩
      have HB1 : Hid (Below w.heap.size w w1) := (below_cells w _ _).trans (hb.mono (by simp))
      have d0 := (bcell hb).1 w.heap.size 0 (by simp)
      simp at d0
      clear hb HC
      go_wp2
      go_ret2
      exact ⟨rfl, HB1.out⟩
    · by_cases h1 : (m : Int) ≤ n
      · rw [if_pos (.inr h1)] at h ⊢
        clear h
        go_enter Tryz.func19, Tryz.ntmps19
        go_wp2_with fail
        refine (HC.out _ (below_cells _ _ _)).mono ?_
        rintro e w1 ⟨rfl, hb⟩
        have HB1 : Hid (Below w.heap.size w w1) := (below_cells w _ _).trans (hb.mono (by simp))
        have d0 := (bcell hb).1 w.heap.size 0 (by simp)
        simp at d0
        clear hb HC
        go_wp2
        go_ret2
        exact ⟨rfl, HB1.out⟩
      · rw [if_neg (by omega)] at h
        exact absurd rfl h
end
section
open Go.RowKit Go.Shelf
set_option maxRecDepth 100000 in
set_option maxHeartbeats 4000000 in
theorem rtype_node (l : List Nd) (ao : Option Addr) (c n : Nat) (w : World) (x : Nd) (hl : NdA w ao c l) (hr : rightB l = true) (hx : l[n]? = some x) : Calls Tryz.prog 19 #[.agg #[.slice ao l.length c], .int .i64 n] w fun e w' => e = .returned (.tuple #[.string (if tyB x.k = true then tyF l (n + 1) n else ⟨#[]⟩), .int .i64 (if tyB x.k = true then 0 else 1)]) ∧ Below w.heap.size w w' := by
  have HC : Hid (∀ W, Below w.heap.size w W → Calls Tryz.prog 28 #[.agg #[.slice ao l.length c]] W fun e w' => e = .returned (.bool true) ∧ Below W.heap.size W w') := fun W hW => by
    have t := right28 l ao c W (hl.below hW)
    rw [hr] at t
    exact t
  have hlen := (right_len hr).2
  have HK : tyB x.k = true → Hid (∀ W, Below w.heap.size w W → Calls Tryz.prog 40 #[.agg #[.slice ao l.length c], .int .i64 n] W fun e w' => e = .returned (.string (tyF l (n + 1) n)) ∧ Below W.heap.size W w') := fun h W hW => ty40 l ao c hr hlen n W x (hl.below hW) hx h
  have H39 : Hid (∀ W, Calls Tryz.prog 39 #[.int .i64 x.k] W fun e w' => e = .returned (.bool (tyB x.k)) ∧ w' = W) := fun W => type39 x.k W
  have hn : n < l.length := (List.getElem?_eq_some_iff.1 hx).1
  obtain ⟨gn, on, he, hnd⟩ := hl.2.2.2 (by omega)
  have y0 := (nd_cells hnd hx).1
  have hg : gn < w.heap.size := World.block_lt_of_cell? _ _ y0
  have hnc : l.length ≤ c := hl.1
  have hc2 : c ≤ 9223372036854775807 := hl.2.1
  have c53 := cells53
  have HY : Hid (∀ W, Below w.heap.size w W → W.cell? ⟨gn, on + n * 6, none⟩ = some (.int .i64 x.k)) := fun W hW => ((bcell hW).1 gn _ hg).trans y0
  generalize tyF l (n + 1) n = S at *
  generalize x.k = k at *
  generalize tyB k = tb at *
  clear hl hr hx hnd y0
  subst he
  generalize l.length = m at *
  have hn1 : ¬ (n : Int) < 0 := by omega
  have hn2 : ¬ (m : Int) ≤ (n : Int) := by omega
  cases tb
  · clear HK
    simp only [Bool.false_eq_true, if_false]
    go_enter Tryz.func19, Tryz.ntmps19
    go_wp2_with fail
    refine (HC.out _ (below_cells _ _ _)).mono ?_
    rintro e w1 ⟨rfl, hb⟩
    have HB1 : Hid (Below w.heap.size w w1) := (below_cells w _ _).trans (hb.mono (by simp))
    have d0 := (bcell hb).1 w.heap.size 0 (by simp)
    simp at d0
    have d1 := HY.out _ HB1.out
    clear hb HC HY
    go_wp2_with (go_at_call 39; refine (H39.out _).mono ?_; rintro e w2 ⟨rfl, rfl⟩)
    go_ret2
    exact ⟨rfl, HB1.out⟩
  · have H40 := HK rfl
    clear HK
    simp only [if_true]
    go_enter Tryz.func19, Tryz.ntmps19
    go_wp2_with fail
    refine (HC.out _ (below_cells _ _ _)).mono ?_
    rintro e w1 ⟨rfl, hb⟩
    have HB1 : Hid (Below w.heap.size w w1) := (below_cells w _ _).trans (hb.mono (by simp))
    have d0 := (bcell hb).1 w.heap.size 0 (by simp)
    simp at d0
    have d1 := HY.out _ HB1.out
    clear hb HC HY
    go_wp2_with (first | (go_at_call 39; refine (H39.out _).mono ?_; rintro e w2 ⟨rfl, rfl⟩) | (go_at_call 40; refine (H40.out _ HB1.out).mono ?_; rintro e w3 ⟨rfl, hb3⟩; have HB3 : Hid (Below w.heap.size w w3) := HB1.out.trans (hb3.mono HB1.out.size); clear hb3))
    go_ret2
    exact ⟨rfl, HB3.out⟩
theorem kdK_at {l : List Nd} {n : Nat} {x : Nd} (hx : l[n]? = some x) : kdK l (n : Int) = x.k := by simp [kdK, hx]
theorem rtype19 (l : List Nd) (ao : Option Addr) (c : Nat) (n : Int) (w : World) (hl : NdA w ao c l) : Calls Tryz.prog 19 #[.agg #[.slice ao l.length c], .int .i64 n] w fun e w' => e = .returned (.tuple #[.string (tyS l n), .int .i64 (tyE l n)]) ∧ Below w.heap.size w w' := by
  by_cases h : cnE l n = 0
  · unfold tyS tyE
    have hc := h
    unfold cnE at hc
    split at hc
    · rename_i hr
      split at hc
      · cases hc
      · rename_i h2
        obtain ⟨k, rfl⟩ : ∃ k : Nat, n = k := ⟨n.toNat, by omega⟩
        obtain ⟨x, hx⟩ : ∃ x, l[k]? = some x := ⟨_, List.getElem?_eq_getElem (by omega)⟩
        have t := rtype_node l ao c k w x hl hr hx
        rw [if_pos h, kdK_at hx]
        cases hb : tyB x.k
        · rw [hb] at t
          simpa using t
        · rw [hb] at t
          simpa using t
    · cases hc
  · have t := rtype_wrong l ao c n w hl h
    have e1 : tyE l n = cnE l n := by unfold tyE; rw [if_neg h]
    have e2 : tyS l n = ⟨#[]⟩ := by unfold tyS; rw [e1, if_neg h]
    rw [e1, e2]
    exact t
end
end Go.Proofs.YtkkmeogehapjoaaGreatDoor
