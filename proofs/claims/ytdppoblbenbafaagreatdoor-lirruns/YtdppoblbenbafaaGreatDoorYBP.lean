/- The document's own runtime: what is read, blocks. One step of the document's: what each call of the runtime does. The document's own calls: the program's own. -/
import Derived.Test.YtdppoblbenbafaaGreatDoorYBA
import Derived.Test.YtdppoblbenbafaaGreatDoorYBN
import Derived.Test.YtdppoblbenbafaaGreatDoorYBO
import Derived.Test.YtdppoblbenbafaaGreatDoorYBD
import Derived.Test.YtdppoblbenbafaaGreatDoorYBM
import Derived.Deep.RegionHeld3
import Derived.Deep.AppendLies
namespace Go.Proofs.YtdppoblbenbafaaGreatDoor
section
open Go.RowKit Go.Shelf
set_option maxRecDepth 20000
set_option maxHeartbeats 1000000
theorem rread_none (R : Nat) (n : Nat) (ip : Option Addr) (ic : Nat) (av : Value) (nm : ByteArray) (hnm : nm = ⟨#[114, 116, 46, 114, 101, 97, 100]⟩) (r : Rq) (w : World) (hR : Rqb w R r) (hiv : r.iv = .slice ip n ic) (hrd : (n : Int) ≤ r.rd) : Calls Tryz.prog 139 #[.pointer (some ⟨R, 0, none⟩), .string nm, av] w fun e w' => e = .returned (.int .i64 (-1)) ∧ Below w.heap.size w w' := by
  subst hnm
  have r1 := hR.cell (j := 1) (v := .slice ip n ic) (by rw [← hiv]; rfl)
  have r2 := hR.cell (j := 2) (v := .int .i64 r.rd) rfl
  clear hR hiv
  go_enter Tryz.func139, Tryz.ntmps139
  go_wp2
  go_quiet (fail)
  go_wp2
  go_ret
  exact ⟨rfl, below_drewN (Below.refl _ _) _⟩
theorem rread_one (R : Nat) (n k : Nat) (g o : Nat) (ic : Nat) (b : Nat) (av : Value) (nm : ByteArray) (hnm : nm = ⟨#[114, 116, 46, 114, 101, 97, 100]⟩) (r : Rq) (w : World) (hR : Rqb w R r) (hiv : r.iv = .slice (some ⟨g, o, none⟩) n ic) (hrd : r.rd = (k : Int)) (hk : k < n) (hn : n ≤ 65536) (hb : w.cell? ⟨g, o + k, none⟩ = some (.int .u8 b)) (hb' : b < 256) (hgR : g ≠ R) : Calls Tryz.prog 139 #[.pointer (some ⟨R, 0, none⟩), .string nm, av] w fun e w' => e = .returned (.int .i64 b) ∧ Onl (fun b => b = R) w w' ∧ Rqb w' R { r with rd := (k : Int) + 1 } := by
  subst hnm
  have HR : Hid (Rqb w R r) := hR
  have r1 := hR.cell (j := 1) (v := .slice (some ⟨g, o, none⟩) n ic) (by rw [← hiv]; rfl)
  have r2 := hR.cell (j := 2) (v := .int .i64 k) (by rw [← hrd]; rfl)
  have z2 := hR.fz 2
  have hlt := hR.lt
  have n1 : ¬ g = R := hgR
  have n2 : ¬ R = g := fun e => hgR e.symm
  have hkn : ¬ (n : Int) ≤ k := by omega
  have hki : (k : Int) < n := by omega
  have e0 : IntKind.i64.wrap ((k : Int) + 1) = (k : Int) + 1 := wrapI _ (by omega) (by omega)
  have e1 : IntKind.i64.wrap ((k : Int) + 1 - 1) = (k : Int) := by rw [wrapI _ (by omega) (by omega)]; omega
  have e2 : IntKind.i64.wrap (k : Int) = (k : Int) := wrapI _ (by omega) (by omega)
  have e3 : IntKind.i64.wrap (b : Int) = (b : Int) := wrapI _ (by omega) (by omega)
  clear hR hiv hrd hgR hk
  go_enter Tryz.func139, Tryz.ntmps139
  go_wp2
  go_quiet (fail)
  go_wp2
  go_quiet (fail)
  go_wp2
  go_ret
  exact ⟨rfl, (((Onl.of_below (Below.refl _ _)).drewN _).set (S := fun b => b = R) rfl).drewN _, ((HR.out.drewN _).set 2 _).drewN _⟩
theorem ralloc139 (R q qc : Nat) (n : Int) (nm : ByteArray) (hnm : nm = ⟨#[114, 116, 46, 97, 108, 108, 111, 99]⟩) (w : World) (ha : w.cell? ⟨q, 0, none⟩ = some (.int .i64 n)) {Q : Int → World → Prop} (h : Calls Tryz.prog 156 #[.pointer (some ⟨R, 0, none⟩), .int .i64 n] w fun e w' => ∃ x, e = .returned (.int .i64 x) ∧ Q x w') : Calls Tryz.prog 139 #[.pointer (some ⟨R, 0, none⟩), .string nm, .slice (some ⟨q, 0, none⟩) 1 qc] w fun e w' => ∃ x, e = .returned (.int .i64 x) ∧ Q x w' := by
  subst hnm
  have H : Hid (Calls Tryz.prog 156 #[.pointer (some ⟨R, 0, none⟩), .int .i64 n] w fun e w' => ∃ x, e = .returned (.int .i64 x) ∧ Q x w') := h
  clear h
  go_enter Tryz.func139, Tryz.ntmps139
  go_wp2_with (first | (go_at_call 156; refine H.out.mono ?_; rintro e w1 ⟨x, rfl, hq⟩))
  go_ret
  exact ⟨x, rfl, hq⟩
theorem rfree139 (R q qc : Nat) (t c : Int) (nm : ByteArray) (hnm : nm = ⟨#[114, 116, 46, 102, 114, 101, 101]⟩) (w : World) (ha : w.cell? ⟨q, 0, none⟩ = some (.int .i64 t)) (hb : w.cell? ⟨q, 1, none⟩ = some (.int .i64 c)) {Q : World → Prop} (h : ∀ W, (∃ k, W = w.drewN k) → Calls Tryz.prog 157 #[.pointer (some ⟨R, 0, none⟩), .int .i64 t, .int .i64 c] W fun e w' => e = .returned (.tuple #[]) ∧ Q w') : Calls Tryz.prog 139 #[.pointer (some ⟨R, 0, none⟩), .string nm, .slice (some ⟨q, 0, none⟩) 2 qc] w fun e w' => e = .returned (.int .i64 0) ∧ Q w' := by
  subst hnm
  have H : Hid (∀ W, (∃ k, W = w.drewN k) → Calls Tryz.prog 157 #[.pointer (some ⟨R, 0, none⟩), .int .i64 t, .int .i64 c] W fun e w' => e = .returned (.tuple #[]) ∧ Q w') := h
  clear h
  go_enter Tryz.func139, Tryz.ntmps139
  go_wp2
  go_region_with (first | (go_at_call 157; refine (H.out _ (by first | exact ⟨1, rfl⟩ | exact ⟨0, rfl⟩)).mono ?_; rintro e w1 ⟨rfl, hq⟩; have HQ : Hid (Q w1) := hq; clear hq))
  all_goals (
    go_wp2
    go_ret
    exact ⟨rfl, HQ.out⟩)
end
section
open Go.RowKit Go.Shelf
variable {p : List Fun} {pp : Option Addr} {pc : Nat} {L : List UInt8} {W0 : World} {R : Nat} {r : Rq} {C ca P pa : Nat} {go : List (Nat × Ob)} {W : World} {s1 : Rt} {tq : Nat} {lq : List (Nat × (Cal × Nat))} {nm : ByteArray}
/-- The first numbers of a row that was gathered. -/
theorem gat_one {w W2 : World} {av : Value} {v : Int} (h : GatQ w [v] av W2) : ∃ g c cs, av = .slice (some ⟨g, 0, none⟩) 1 c ∧ Bk W2 g 2 cs ∧ cs[0]? = some (.int .i64 v) := by
  obtain ⟨g, c, hav⟩ : ∃ g c, av = .slice (some ⟨g, 0, none⟩) 1 c := by
    obtain ⟨_, ⟨_, h0⟩ | ⟨g, cap, cur, e, _⟩⟩ := h.own
    · simp at h0
    · exact ⟨g, cap, e⟩
  obtain ⟨_, cs, hb, _, _, _, ht⟩ := own_bk h.own hav
  refine ⟨g, c, cs, hav, hb, ?_⟩
  have : (cs.take 1)[0]? = some (Value.int .i64 v) := by
    have e : cs.take ([v].length * 1) = [v].map (Value.int .i64) := ht
    rw [show cs.take 1 = [v].map (Value.int .i64) from e]
    rfl
  rw [List.getElem?_take] at this
  simpa using this
theorem gat_two {w W2 : World} {av : Value} {v u : Int} (h : GatQ w [v, u] av W2) : ∃ g c, av = .slice (some ⟨g, 0, none⟩) 2 c ∧ W2.cell? ⟨g, 0, none⟩ = some (.int .i64 v) ∧ W2.cell? ⟨g, 1, none⟩ = some (.int .i64 u) := by
  obtain ⟨g, c, hav⟩ : ∃ g c, av = .slice (some ⟨g, 0, none⟩) 2 c := by
    obtain ⟨_, ⟨_, h0⟩ | ⟨g, cap, cur, e, _⟩⟩ := h.own
    · simp at h0
    · exact ⟨g, cap, e⟩
  obtain ⟨_, cs, hb, _, _, _, ht⟩ := own_bk h.own hav
  have e : cs.take 2 = [Value.int .i64 v, .int .i64 u] := ht
  refine ⟨g, c, hav, hb.cell (j := 0) ?_, hb.cell (j := 1) ?_⟩
  · have : (cs.take 2)[0]? = some (Value.int .i64 v) := by rw [e]; rfl
    rw [List.getElem?_take] at this
    simpa using this
  · have : (cs.take 2)[1]? = some (Value.int .i64 u) := by rw [e]; rfl
    rw [List.getElem?_take] at this
    simpa using this
theorem nm_bytes {l : List UInt8} {a : Array UInt8} (h : nm.data.toList = l) (e : a = l.toArray) : nm = ⟨a⟩ := by rw [nm_of h, e]
/-- Printing. -/
theorem rt_print_g {v : Int} (hnm : nm.data.toList = [114, 116, 46, 112, 114, 105, 110, 116]) (h64 : I64 v) (hno : s1.out.length ≤ 1000000000) : RtG p pp pc L W0 R r C ca P pa tq lq go s1 { s1 with out := s1.out ++ (Lib.itoa v ++ [10]) } nm [v] 0 := by
  intro w av W2 hw hg
  have h2 := hw.below hg.bel
  obtain ⟨g, c, cs, rfl, hb, hc⟩ := gat_one hg
  refine (rprint139 R W0.heap.size s1.out.length g c v nm (nm_bytes hnm rfl) r _ W2 h2.rb h2.ov h2.bel.size hno h64 cs hb hc).mono ?_
  rintro e w' ⟨rfl, ov, hR, hv, ho⟩
  refine ⟨rfl, ho.mono fun b e => ?_, _, P, pa, go, h2.printed (l := Lib.itoa v ++ [10]) ho hR ?_⟩
  · rcases e with e | e
    · rw [e]; exact hw.rb.lt
    · obtain ⟨_, ds, hd⟩ := hw.bO e
      exact hd.lt
  · have e1 : (s1.out ++ (Lib.itoa v ++ [10])).length = s1.out.length + (Lib.itoa v).length + 1 := by simp; omega
    have e2 : Lib.byteCells (s1.out ++ (Lib.itoa v ++ [10])) = Lib.byteCells s1.out ++ (Lib.byteCells (Lib.itoa v) ++ [.int .u8 10]) := by simp [Lib.byteCells]
    rw [e1, e2]
    exact hv
/-- Reading. -/
theorem rt_read_g (hnm : nm.data.toList = [114, 116, 46, 114, 101, 97, 100]) (hL : L.length ≤ 65536) : RtG p pp pc L W0 R r C ca P pa tq lq go s1 { s1 with inp := s1.inp.tail } nm [] (match s1.inp with | [] => -1 | b :: _ => (b.toNat : Int)) := by
  intro w av W2 hw hg
  have h2 := hw.below hg.bel
  obtain ⟨k, hk, hkl, hin⟩ := h2.rd
  obtain ⟨a, c, hiv, _, hcells⟩ := h2.iv
  by_cases hlt : k < L.length
  · obtain ⟨g, o, rfl, hgl, hce⟩ := hcells (by omega)
    obtain ⟨b, hb⟩ : ∃ b, L[k]? = some b := ⟨_, List.getElem?_eq_getElem hlt⟩
    have hcell := (World.cell?_of_block (h2.bel.block g hgl)).trans (hce k b hb)
    have hin' : s1.inp = b :: L.drop (k + 1) := by
      rw [hin, List.drop_eq_getElem_cons hlt]
      congr 1
      have := (List.getElem?_eq_some_iff.1 hb).2
      exact this
    refine (rread_one R L.length k g o c b.toNat av nm (nm_bytes hnm rfl) r W2 h2.rb hiv hk hlt hL hcell (UInt8.toNat_lt b) (fun e => by have := h2.rB; omega)).mono ?_
    rintro e w' ⟨rfl, ho, hR⟩
    refine ⟨by rw [hin'], ho.mono (fun b e => by rw [e]; exact hw.rb.lt), _, P, pa, go, h2.readq hk hin hlt ho hR⟩
  · have e0 : s1.inp = [] := by rw [hin, List.drop_eq_nil_of_le (by omega)]
    refine (rread_none R L.length a c av nm (nm_bytes hnm rfl) r W2 h2.rb hiv (by omega)).mono ?_
    rintro e w' ⟨rfl, hb⟩
    have e2 : ({ s1 with inp := s1.inp.tail } : Rt) = s1 := by
      cases s1
      simp at e0 ⊢
      rw [e0]
      rfl
    rw [e2]
    refine ⟨by rw [e0], (Onl.of_below hb : Onl (fun b => b < w.heap.size) W2 w'), r, P, pa, go, h2.below hb⟩
/-- A block that is made. -/
theorem rt_alloc_g {n : Int} (hnm : nm.data.toList = [114, 116, 46, 97, 108, 108, 111, 99]) (hgo : go.length ≤ 1000000) (n0 : 0 ≤ s1.nx ∧ s1.nx ≤ 1099511627776) (hh : 0 ≤ s1.hp) (h1 : 0 ≤ n) (h2 : n ≤ 64) (h3 : s1.hp + n ≤ 8192) : RtG p pp pc L W0 R r C ca P pa tq lq go s1 { s1 with os := s1.os ++ [⟨s1.nx, List.replicate n.toNat 0, true, false⟩], hp := s1.hp + n, nx := s1.nx + 8 * (n + 1) } nm [n] s1.nx := by
  intro w av W2 hw hg
  have hx := hw.below hg.bel
  obtain ⟨g, c, cs, rfl, hb, hc⟩ := gat_one hg
  obtain ⟨m, rfl⟩ : ∃ m : Nat, n = (m : Int) := ⟨n.toNat, by omega⟩
  have hnx := hx.nx
  have hhp := hx.hp
  have key : Calls Tryz.prog 156 #[.pointer (some ⟨R, 0, none⟩), .int .i64 (m : Int)] W2 fun e w' => ∃ x, e = .returned (.int .i64 x) ∧ (x = s1.nx ∧ Onl (fun b => b < w.heap.size) W2 w' ∧ ∃ r' P' pa' go', RelX p pp pc L W0 R r' C ca P' pa' ((tq, s1.top) :: lq) go' w' { s1 with os := s1.os ++ [⟨s1.nx, List.replicate m 0, true, false⟩], hp := s1.hp + m, nx := s1.nx + 8 * ((m : Int) + 1) }) := by
    refine (ralloc_ok R W0.heap.size go.length m r _ W2 hx.rb hx.po (flO_len go) hx.bel.size hgo (by rw [hnx]; exact n0.1) (by rw [hnx]; exact n0.2) (by rw [hhp]; exact hh) (by omega) (by rw [hhp]; exact h3)).mono ?_
    rintro e w' ⟨rfl, g', ob, ho, hR, hP, hG, hgs⟩
    refine ⟨_, rfl, hnx, ho.mono fun b e => ?_, ?_⟩
    · rcases e with e | e
      · rw [e]; exact hw.rb.lt
      · rw [hw.pv] at e
        cases e
        obtain ⟨_, ds, hd, _⟩ := hw.bP
        exact hd.lt
    · obtain ⟨P', pa', h'⟩ := hx.made (hp := r.hp + m) true ho hR hP hG hgs
      rw [hhp] at h'
      exact ⟨_, P', pa', _, h'⟩
  refine (ralloc139 R g c (m : Int) nm (nm_bytes hnm rfl) W2 (hb.cell hc) key).mono ?_
  rintro e w' ⟨x, rfl, rfl, h4, h5⟩
  exact ⟨rfl, h4, h5⟩
theorem rt_alloc_z {n : Int} (N : Nat) (hnm : nm.data.toList = [114, 116, 46, 97, 108, 108, 111, 99]) (h64 : I64 n) (hh : 0 ≤ s1.hp ∧ s1.hp ≤ 8192) (hb : n < 0 ∨ 64 < n ∨ 8192 < s1.hp + n) : RtZ p pp pc L N W0 R r C ca P pa tq lq go s1 ⟨1, 110, s1.out, s1.st⟩ nm [n] := by
  intro w av W2 hw hg
  have hx := hw.below hg.bel
  obtain ⟨g, c, cs, rfl, hbk, hc⟩ := gat_one hg
  have hhp := hx.hp
  have key : Calls Tryz.prog 156 #[.pointer (some ⟨R, 0, none⟩), .int .i64 n] W2 fun e w' => ∃ x, e = .returned (.int .i64 x) ∧ (x = 0 ∧ Onl (fun b => b = R) W2 w' ∧ EndX N W0 R w' ⟨1, 110, s1.out, s1.st⟩) := by
    refine (ralloc_no R n r W2 hx.rb h64 (by rw [hhp]; exact hh) (by rw [hhp]; exact hb)).mono ?_
    rintro e w' ⟨rfl, ho, hR⟩
    exact ⟨0, rfl, rfl, ho, hx.stop N (by decide) ho hR⟩
  refine (ralloc139 R g c n nm (nm_bytes hnm rfl) W2 (hbk.cell hc) key).mono ?_
  rintro e w' ⟨x, rfl, rfl, h4, h5⟩
  exact ⟨rfl, h4, h5⟩
/-- A block that ends. -/
theorem rt_free_g {t c : Int} {k : Nat} (hnm : nm.data.toList = [114, 116, 46, 102, 114, 101, 101]) (hgo : go.length ≤ 1000000) (hh : 0 ≤ s1.hp ∧ s1.hp ≤ 8192) (hk : frR s1.os t c = some k) (hc : 0 ≤ c ∧ c ≤ 4096) : RtG p pp pc L W0 R r C ca P pa tq lq go s1 { s1 with os := edR s1.os k, hp := s1.hp - c } nm [t, c] 0 := by
  intro w av W2 hw hg
  obtain ⟨g, cc, rfl, ha, hb⟩ := gat_two hg
  have hx := hw.below hg.bel
  have hhp := hx.hp
  have hos := hx.os
  refine (rfree139 R g cc t c nm (nm_bytes hnm rfl) W2 ha hb (Q := fun w' => Onl (fun b => b < w.heap.size) W2 w' ∧ ∃ r' P' pa' go', RelX p pp pc L W0 R r' C ca P' pa' ((tq, s1.top) :: lq) go' w' { s1 with os := edR s1.os k, hp := s1.hp - c }) (fun W ⟨q, hq⟩ => ?_)).mono (fun e w' h => ⟨h.1, h.2.1, h.2.2⟩)
  have hbw : Below W2.heap.size W2 W := by rw [hq]; exact below_drewN (Below.refl _ _) q
  have h3 := hx.below hbw
  obtain ⟨p0, cs, hP, _⟩ := h3.bP
  refine (rfree157 R P go.length pa go t c r W h3.rb h3.pv rfl h3.obA cs hP hgo (.inl (by rw [hhp]; omega))).mono ?_
  rintro e w' ⟨rfl, hF⟩
  rw [hos, hk] at hF
  obtain ⟨ho, hR, hB⟩ := hF
  obtain ⟨o, hko, _⟩ := fr_some hk
  obtain ⟨x, hxk, rfl⟩ := RelX.atO h3 hko
  refine ⟨rfl, (Onl.of_below hbw).trans (ho.mono fun b e => ?_), ?_⟩
  · rcases e with e | e
    · rw [e]; exact hw.rb.lt
    · rw [e]
      obtain ⟨_, ds, hd, _⟩ := hw.bP
      exact hd.lt
  · have h' := h3.endq (hp := r.hp - c) hxk hP ho hR hB
    rw [hhp] at h'
    exact ⟨_, P, pa, _, h'⟩
theorem rt_free_z {t c : Int} (N : Nat) (hnm : nm.data.toList = [114, 116, 46, 102, 114, 101, 101]) (hgo : go.length ≤ 1000000) (hk : frR s1.os t c = none) : RtZ p pp pc L N W0 R r C ca P pa tq lq go s1 ⟨3, 0, s1.out, s1.st⟩ nm [t, c] := by
  intro w av W2 hw hg
  obtain ⟨g, cc, rfl, ha, hb⟩ := gat_two hg
  have hx := hw.below hg.bel
  have hos := hx.os
  refine (rfree139 R g cc t c nm (nm_bytes hnm rfl) W2 ha hb (Q := fun w' => Onl (fun b => b = R) W2 w' ∧ EndX N W0 R w' ⟨3, 0, s1.out, s1.st⟩) (fun W ⟨q, hq⟩ => ?_)).mono (fun e w' h => ⟨h.1, h.2.1, h.2.2⟩)
  have hbw : Below W2.heap.size W2 W := by rw [hq]; exact below_drewN (Below.refl _ _) q
  have h3 := hx.below hbw
  obtain ⟨p0, cs, hP, _⟩ := h3.bP
  refine (rfree157 R P go.length pa go t c r W h3.rb h3.pv rfl h3.obA cs hP hgo (.inr (by rw [hos]; exact hk))).mono ?_
  rintro e w' ⟨rfl, hF⟩
  rw [hos, hk] at hF
  exact ⟨rfl, (Onl.of_below hbw).trans hF.1, h3.stop N (by decide) hF.1 hF.2⟩
end
section
open Go.RowKit Go.Shelf
set_option maxRecDepth 20000
set_option maxHeartbeats 4000000
theorem rcalls_own (R C o q : Nat) (rg vs : List Int) (i : Ins) (w : World) (hQ : RegQ C o q rg w) (hA : ArA w i.ar i.ac i.gs) (hg : i.gs.length ≤ 7) (hvl : vs.length = i.gs.length) (hvs : ∀ (j : Nat) (g v : Int), i.gs[j]? = some g → vs[j]? = some v → ∃ n : Nat, g = (n : Int) ∧ rg[n]? = some v) (hbl : blN i.nm.toList < 0) (pp : Option Addr) (pl pc k : Nat) (hpg : w.cell? ⟨R, 0, none⟩ = some (.slice pp pl pc)) (hfi : ∀ W, Below w.heap.size w W → Calls Tryz.prog 27 #[.slice pp pl pc, .string i.nm] W fun e w' => e = .returned (.int .i64 k) ∧ w' = W) {T : World → Prop} (hc : ∀ av W, GatQ w vs av W → Calls Tryz.prog 31 #[.pointer (some ⟨R, 0, none⟩), .int .i64 k, av, .int .i64 i.d] W fun e w' => e = .returned (.tuple #[]) ∧ Onl (fun b => b < w.heap.size) W w' ∧ w'.cell? ⟨R, 0, none⟩ = some (.slice pp pl pc) ∧ T w') : Calls Tryz.prog 105 #[.pointer (some ⟨R, 0, none⟩), .pointer (some ⟨C, o, none⟩), inV i] w fun e w' => e = .returned (.tuple #[]) ∧ T w' := by
  have HQ : Hid (RegQ C o q rg w) := hQ
  have HA : Hid (ArA w i.ar i.ac i.gs) := hA
  have HV : Hid (vs.length = i.gs.length ∧ i.gs.length ≤ 7) := ⟨hvl, hg⟩
  have HVs : Hid (∀ (j : Nat) (g v : Int), i.gs[j]? = some g → vs[j]? = some v → ∃ n : Nat, g = (n : Int) ∧ rg[n]? = some v) := hvs
  obtain ⟨i2, AN0⟩ := info2'
  have AN : Hid (Tryz.prog.info? 2 = some i2 ∧ i2.zero = some (.int .i64 0) ∧ i2.size = 1 ∧ i2.bytes = 8) := AN0
  have HB : Hid (∀ W, Calls Tryz.prog 67 #[.string i.nm] W fun e w' => e = .returned (.int .i64 (blN i.nm.toList)) ∧ w' = W) := fun W => rbuilt67 i.nm W
  have lC : C < w.heap.size := World.block_lt_of_cell? _ _ hQ.c1
  have HFI : Hid (∀ W, Below w.heap.size w W → Calls Tryz.prog 27 #[.slice pp pl pc, .string i.nm] W fun e w' => e = .returned (.int .i64 k) ∧ w' = W) := hfi
  have HCA : Hid (∀ av W, GatQ w vs av W → Calls Tryz.prog 31 #[.pointer (some ⟨R, 0, none⟩), .int .i64 k, av, .int .i64 i.d] W fun e w' => e = .returned (.tuple #[]) ∧ Onl (fun b => b < w.heap.size) W w' ∧ w'.cell? ⟨R, 0, none⟩ = some (.slice pp pl pc) ∧ T w') := hc
  have HPG : Hid (w.cell? ⟨R, 0, none⟩ = some (.slice pp pl pc)) := hpg
  have lR : R < w.heap.size := World.block_lt_of_cell? _ _ hpg
  have HV0 : Hid ((∀ (t : Nat) (y : Value), ([.int .i64 i.op, .int .i64 i.d, .int .i64 i.a, .int .i64 i.b, .int .i64 i.n, .string i.nm, .slice i.ar i.gs.length i.ac, .int .i64 i.to, .int .i64 i.el] : List Value)[t]? = some y → (w.alloc (.cells #[.int .i64 i.op, .int .i64 i.d, .int .i64 i.a, .int .i64 i.b, .int .i64 i.n, .string i.nm, .slice i.ar i.gs.length i.ac, .int .i64 i.to, .int .i64 i.el] 54)).cell? ⟨w.heap.size, t, none⟩ = some y) ∧ w.heap.size < (w.alloc (.cells #[.int .i64 i.op, .int .i64 i.d, .int .i64 i.a, .int .i64 i.b, .int .i64 i.n, .string i.nm, .slice i.ar i.gs.length i.ac, .int .i64 i.to, .int .i64 i.el] 54)).heap.size ∧ Below w.heap.size w (w.alloc (.cells #[.int .i64 i.op, .int .i64 i.d, .int .i64 i.a, .int .i64 i.b, .int .i64 i.n, .string i.nm, .slice i.ar i.gs.length i.ac, .int .i64 i.to, .int .i64 i.el] 54))) := ⟨fun t y ht => (Bk.new w [.int .i64 i.op, .int .i64 i.d, .int .i64 i.a, .int .i64 i.b, .int .i64 i.n, .string i.nm, .slice i.ar i.gs.length i.ac, .int .i64 i.to, .int .i64 i.el] 54).cell ht, by simp, (Below.refl w.heap.size w).alloc (Nat.le_refl _) _⟩
  unfold inV
  clear hQ hA hg hvl hvs AN0 hfi hc hpg
  obtain ⟨n, hn⟩ : ∃ n, n = i.gs.length := ⟨_, rfl⟩
  have HN : Hid (n = i.gs.length) := hn
  rw [← hn] at HV0 ⊢
  clear hn
  go_enter Tryz.func105, Tryz.ntmps105
  go_wp2
  generalize hV : w.alloc (.cells #[.int .i64 i.op, .int .i64 i.d, .int .i64 i.a, .int .i64 i.b, .int .i64 i.n, .string i.nm, .slice i.ar n i.ac, .int .i64 i.to, .int .i64 i.el] 54) = V at *
  clear hV
  have HNil : Hid (V.ownsRow V.heap.size 2 1 (.slice none 0 0) 0 ([] : List Value)) := World.ownsRow_nil _ _ _ _
  go_loopw [6, 7] (fun v u wx => ∃ k : Nat, k ≤ n ∧ u = .int .i64 (k : Nat) ∧ wx.ownsRow V.heap.size 2 1 v k ((vs.take k).map (Value.int .i64)) ∧ Below V.heap.size V wx) (fun _ u _ => n - (intOf u).toNat)
  case atStart => exact ⟨0, Nat.zero_le _, rfl, HNil.out, Below.refl _ _⟩
  case round =>
    obtain ⟨k, hk, rfl, ho, hb⟩ := hrel
    have HO : Hid (wr.ownsRow V.heap.size 2 1 u6 k ((vs.take k).map (Value.int .i64))) := ho
    have HBr : Hid (Below V.heap.size V wr) := hb
    have HBw : Hid (Below w.heap.size w wr) := HV0.out.2.2.trans (hb.mono HV0.out.2.2.size)
    have b5 := (World.cell?_of_block (hb.block w.heap.size HV0.out.2.1)).trans (HV0.out.1 5 _ rfl)
    have b6 := (World.cell?_of_block (hb.block w.heap.size HV0.out.2.1)).trans (HV0.out.1 6 _ rfl)
    have b1 := (World.cell?_of_block (hb.block w.heap.size HV0.out.2.1)).trans (HV0.out.1 1 _ rfl)
    have lb : w.heap.size < wr.heap.size := Nat.lt_of_lt_of_le HV0.out.2.1 hb.size
    clear ho hb
    by_cases hkn : k < n
    · obtain ⟨g, hgk⟩ : ∃ g, i.gs[k]? = some g := ⟨_, List.getElem?_eq_getElem (by have := HN.out; omega)⟩
      obtain ⟨v, hvk⟩ : ∃ v, vs[k]? = some v := ⟨_, List.getElem?_eq_getElem (by have := HN.out; have := HV.out.1; omega)⟩
      obtain ⟨gn, rfl, hrg⟩ := HVs.out k g v hgk hvk
      obtain ⟨ga, oa, har, hac⟩ := HA.out.2.2 (by have := HN.out; omega)
      have a1 := hac k _ hgk
      have lga : ga < w.heap.size := World.block_lt_of_cell? _ _ a1
      obtain ⟨r1, r2, lq, _⟩ := HQ.out.at hrg
      have HKS : Hid (∀ W, Below V.heap.size V W → W.cell? ⟨C, o + 1, none⟩ = some (.slice (some ⟨q, 0, none⟩) rg.length rg.length) ∧ W.cell? ⟨w.heap.size, 6, none⟩ = some (.slice (some ⟨ga, oa, none⟩) n i.ac) ∧ W.cell? ⟨ga, oa + k, none⟩ = some (.int .i64 gn) ∧ W.cell? ⟨q, gn, none⟩ = some (.int .i64 v)) := fun W hW => by
        have hw : Below w.heap.size w W := HV0.out.2.2.trans (hW.mono HV0.out.2.2.size)
        have h6 := (World.cell?_of_block (hW.block w.heap.size HV0.out.2.1)).trans (HV0.out.1 6 _ rfl)
        rw [har] at h6
        exact ⟨(World.cell?_of_block (hw.block C lC)).trans HQ.out.c1, h6, (World.cell?_of_block (hw.block ga lga)).trans a1, (World.cell?_of_block (hw.block q lq)).trans r1⟩
      have HVk : Hid ((vs.take (k + 1)).map (Value.int .i64) = (vs.take k).map (Value.int .i64) ++ [.int .i64 v]) := by
        show _ = _
        rw [List.take_add_one, hvk]
        simp
      have hkI : (k : Int) < n := by omega
      have HK7 : Hid (k < 7) := by have := HN.out; have := HV.out.2; show k < 7; omega
      have e0 : IntKind.i64.wrap ((k : Int) + 1) = (k : Int) + 1 := wrapI _ (by have := HK7.out; omega) (by have := HK7.out; omega)
      have HTw : Hid (∀ W : World, (W.alloc (.cells #[.int .i64 v] 2)).cell? ⟨W.heap.size, 0, none⟩ = some (.int .i64 v)) := fun W => by go_simp
      rw [har] at b6
      clear hgk hvk hrg hac a1 r1 b5 b1 har
      generalize rg.length = rl at *
      go_wp2
      go_region_held3 (fun W => W.cell? ⟨C, o + 1, none⟩ = some (.slice (some ⟨q, 0, none⟩) rl rl) ∧ W.cell? ⟨w.heap.size, 6, none⟩ = some (.slice (some ⟨ga, oa, none⟩) n i.ac) ∧ W.cell? ⟨ga, oa + k, none⟩ = some (.int .i64 gn) ∧ W.cell? ⟨q, gn, none⟩ = some (.int .i64 v)) (first | exact HKS.out _ HBr.out.drew | exact HKS.out _ (HBr.out.alloc HBr.out.size _) | exact HKS.out _ (HBr.out.drew.alloc HBr.out.drew.size _) | exact HKS.out _ (HBr.out.alloc HBr.out.size _).drew | exact HKS.out _ HB3.out.2) (first | (refine step_append_lies _ rfl (.tmp 16) (.tmp 28) 107 rfl V.heap.size 2 i2 (.int .i64 0) 1 8 Tryz.underlying107 AN.out.1 AN.out.2.1 AN.out.2.2.1 AN.out.2.2.2 rfl (by decide) u6 k ((vs.take k).map (Value.int .i64)) rfl (by first | exact own_keep HO.out (fun b hb => ((Below.refl wr.heap.size wr).alloc (Nat.le_refl _) _).block b (own_lt HO.out hb)) | exact own_keep HO.out (fun b hb => ((Below.refl wr.heap.size wr).drew.alloc (Nat.le_refl _) _).block b (own_lt HO.out hb))) _ 1 1 [.int .i64 v] rfl rfl (by intro j x hj; match j, hj with | 0, hj => (cases hj; first | exact HTw.out wr | exact HTw.out wr.drew) | j + 1, hj => simp at hj) (by intro x hx; simp at hx; subst hx; rfl) (by decide) (by unfold maxLen; have := HK7.out; omega) (by have := HK7.out; omega) (by have := HBr.out.size; simp; omega) _ rfl ?_; intro g2 cap2 w3 hown hgrow hat hl3; have HB3 : Hid (w3.ownsRow V.heap.size 2 1 (.slice (some ⟨g2, 0, none⟩) (k + 1) cap2) (k + 1) ((vs.take (k + 1)).map (Value.int .i64)) ∧ Below V.heap.size V w3) := ⟨by rw [HVk.out]; exact hown, Onl.below (S := fun b => u6.ownBlock = some b) (Nat.le_refl _) HBr.out (by first | exact ((Onl.of_below (Below.refl _ wr)).alloc _).trans (onl_grown hgrow) | exact ((Onl.of_below (Below.refl _ wr).drew).alloc _).trans (onl_grown hgrow)) (fun b hb => own_base HO.out hb)⟩; clear hown hgrow hat))
      go_wp2
      go_round
      case rel => exact ⟨k + 1, by omega, by simp, HB3.out.1, HB3.out.2⟩
      case measure => simp [intOf] <;> omega
    · obtain rfl : k = n := by omega
      have HG : Hid (GatQ w vs u6 wr) := by
        refine ⟨HBw.out, ?_⟩
        have := HO.out
        rw [List.take_of_length_le (by have := HN.out; have := HV.out.1; omega)] at this
        rw [HV.out.1, ← HN.out]
        exact own_low this HV0.out.2.2.size
      have HKS : Hid (∀ W, Below wr.heap.size wr W → W.cell? ⟨R, 0, none⟩ = some (.slice pp pl pc) ∧ W.cell? ⟨w.heap.size, 5, none⟩ = some (.string i.nm) ∧ W.cell? ⟨w.heap.size, 1, none⟩ = some (.int .i64 i.d)) := fun W hW => ⟨(World.cell?_of_block (hW.block R (by omega))).trans ((World.cell?_of_block (HBw.out.block R lR)).trans HPG.out), (World.cell?_of_block (hW.block _ lb)).trans b5, (World.cell?_of_block (hW.block _ lb)).trans b1⟩
      go_wp2_with (first | (go_at_call 67; refine (HB.out _).mono ?_; rintro e w5 ⟨rfl, h67⟩; rw [h67]; clear h67))
      clear b1 b5 b6
      go_region_held3 (fun W => W.cell? ⟨R, 0, none⟩ = some (.slice pp pl pc) ∧ W.cell? ⟨w.heap.size, 5, none⟩ = some (.string i.nm) ∧ W.cell? ⟨w.heap.size, 1, none⟩ = some (.int .i64 i.d)) (first | exact HKS.out _ (Below.refl _ _).drew | exact HKS.out _ (Below.refl _ _) | exact HX2.out.1) (first | (go_at_call 27; refine (HFI.out _ (by first | exact HBw.out.drew | exact HBw.out)).mono ?_; rintro e w5 ⟨rfl, h27⟩; rw [h27]; clear h27) | (go_at_call 31; refine (HCA.out _ _ (by first | exact HG.out.drew | exact HG.out)).mono ?_; rintro e w2 ⟨rfl, ho2, hp2, ht2⟩; have HX2 : Hid ((w2.cell? ⟨R, 0, none⟩ = some (.slice pp pl pc) ∧ w2.cell? ⟨w.heap.size, 5, none⟩ = some (.string i.nm) ∧ w2.cell? ⟨w.heap.size, 1, none⟩ = some (.int .i64 i.d)) ∧ T w2) := ⟨⟨hp2, (World.cell?_of_block (ho2.block w.heap.size lb (Nat.lt_irrefl _))).trans (by first | exact (HKS.out _ (Below.refl _ _).drew).2.1 | exact (HKS.out _ (Below.refl _ _)).2.1), (World.cell?_of_block (ho2.block w.heap.size lb (Nat.lt_irrefl _))).trans (by first | exact (HKS.out _ (Below.refl _ _).drew).2.2 | exact (HKS.out _ (Below.refl _ _)).2.2)⟩, ht2⟩; clear ho2 hp2 ht2))
      go_wp2
      go_returns
      exact ⟨rfl, HX2.out.2⟩
end
end Go.Proofs.YtdppoblbenbafaaGreatDoor
