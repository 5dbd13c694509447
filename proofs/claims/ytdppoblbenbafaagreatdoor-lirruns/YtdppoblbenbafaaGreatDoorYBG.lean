/- The document's own loads and stores. The document's own stores. The document's own instructions: those that are handed on. The document's own step. -/
import Derived.Test.YtdppoblbenbafaaGreatDoorYBD
import Derived.Test.YtdppoblbenbafaaGreatDoorYBA
import Derived.Deep.RegionHeld3
namespace Go.Proofs.YtdppoblbenbafaaGreatDoor
section
open Go.RowKit Go.Shelf
set_option maxRecDepth 20000
set_option maxHeartbeats 4000000
/-- What an address's look tells. -/
def WoQ (R : Nat) (t : Int) (rv : Value) (w : World) : Prop := ∀ W, Below w.heap.size w W → Calls Tryz.prog 138 #[.pointer (some ⟨R, 0, none⟩), .int .i64 t] W fun e w' => e = .returned rv ∧ Below W.heap.size W w'
theorem rmem_no (R C o q a : Nat) (va : Int) (rg : List Int) (i : Ins) (r : Rq) (w : World) (ha : i.a = (a : Int)) (hQ : RegQ C o q rg w) (hv : rg[a]? = some va) (hR : Rqb w R r) (hW : WoQ R (IntKind.i64.wrap (va + i.n)) (.tuple #[.int .i64 0, .int .i64 0, .bool false]) w) : Calls Tryz.prog 104 #[.pointer (some ⟨R, 0, none⟩), .pointer (some ⟨C, o, none⟩), inV i] w fun e w' => e = .returned (.tuple #[]) ∧ Onl (fun b => b = R) w w' ∧ Rqb w' R { r with en := 3, cd := 0, ovr := true } := by
  obtain ⟨v1, v2, lq, _⟩ := hQ.at hv
  have c1 := hQ.c1
  have lC : C < w.heap.size := World.block_lt_of_cell? _ _ c1
  have HR : Hid (Rqb w R r) := hR
  have HW : Hid (∀ W, Below w.heap.size w W → Calls Tryz.prog 138 #[.pointer (some ⟨R, 0, none⟩), .int .i64 (IntKind.i64.wrap (va + i.n))] W fun e w' => e = .returned (.tuple #[.int .i64 0, .int .i64 0, .bool false]) ∧ Below W.heap.size W w') := hW
  have HBw : Hid (Below w.heap.size w (w.alloc (.cells #[.int .i64 i.op, .int .i64 i.d, .int .i64 a, .int .i64 i.b, .int .i64 i.n, .string i.nm, .slice i.ar i.gs.length i.ac, .int .i64 i.to, .int .i64 i.el] 54))) := (Below.refl w.heap.size w).alloc (Nat.le_refl _) _
  generalize hrl : rg.length = rl at *
  have HS : Hid (∀ W, Below (w.alloc (.cells #[.int .i64 i.op, .int .i64 i.d, .int .i64 a, .int .i64 i.b, .int .i64 i.n, .string i.nm, .slice i.ar i.gs.length i.ac, .int .i64 i.to, .int .i64 i.el] 54)).heap.size (w.alloc (.cells #[.int .i64 i.op, .int .i64 i.d, .int .i64 a, .int .i64 i.b, .int .i64 i.n, .string i.nm, .slice i.ar i.gs.length i.ac, .int .i64 i.to, .int .i64 i.el] 54)) W → W.cell? ⟨C, o + 1, none⟩ = some (.slice (some ⟨q, 0, none⟩) rl rl) ∧ W.cell? ⟨w.heap.size, 2, none⟩ = some (.int .i64 a) ∧ W.cell? ⟨w.heap.size, 4, none⟩ = some (.int .i64 i.n) ∧ W.cell? ⟨q, a, none⟩ = some (.int .i64 va)) := fun W hW => by
    have hx := (Bk.new w [.int .i64 i.op, .int .i64 i.d, .int .i64 a, .int .i64 i.b, .int .i64 i.n, .string i.nm, .slice i.ar i.gs.length i.ac, .int .i64 i.to, .int .i64 i.el] 54).below hW
    exact ⟨(World.cell?_of_block (hW.block C (by simp; omega))).trans ((World.cell?_of_block (HBw.out.block C lC)).trans c1), hx.cell rfl, hx.cell rfl, (World.cell?_of_block (hW.block q (by simp; omega))).trans ((World.cell?_of_block (HBw.out.block q lq)).trans v1)⟩
  have HC : Hid (Calls Tryz.prog 138 #[.pointer (some ⟨R, 0, none⟩), .int .i64 (IntKind.i64.wrap (va + i.n))] (w.alloc (.cells #[.int .i64 i.op, .int .i64 i.d, .int .i64 a, .int .i64 i.b, .int .i64 i.n, .string i.nm, .slice i.ar i.gs.length i.ac, .int .i64 i.to, .int .i64 i.el] 54)).drew fun e w' => e = .returned (.tuple #[.int .i64 0, .int .i64 0, .bool false]) ∧ Below (w.alloc (.cells #[.int .i64 i.op, .int .i64 i.d, .int .i64 a, .int .i64 i.b, .int .i64 i.n, .string i.nm, .slice i.ar i.gs.length i.ac, .int .i64 i.to, .int .i64 i.el] 54)).heap.size (w.alloc (.cells #[.int .i64 i.op, .int .i64 i.d, .int .i64 a, .int .i64 i.b, .int .i64 i.n, .string i.nm, .slice i.ar i.gs.length i.ac, .int .i64 i.to, .int .i64 i.el] 54)) w') := (HW.out _ HBw.out.drew).mono fun e w' h => ⟨h.1, (Below.refl _ _).drew.trans h.2⟩
  unfold inV
  rw [ha]
  clear hQ hv hW ha HW hR
  go_enter Tryz.func104, Tryz.ntmps104
  go_wp2
  generalize hV : w.alloc (.cells #[.int .i64 i.op, .int .i64 i.d, .int .i64 a, .int .i64 i.b, .int .i64 i.n, .string i.nm, .slice i.ar i.gs.length i.ac, .int .i64 i.to, .int .i64 i.el] 54) = V at *
  clear hV c1 v1
  go_region_held3 (fun W => W.cell? ⟨C, o + 1, none⟩ = some (.slice (some ⟨q, 0, none⟩) rl rl) ∧ W.cell? ⟨w.heap.size, 2, none⟩ = some (.int .i64 a) ∧ W.cell? ⟨w.heap.size, 4, none⟩ = some (.int .i64 i.n) ∧ W.cell? ⟨q, a, none⟩ = some (.int .i64 va)) (first | exact HS.out _ HB2.out | exact HS.out _ (Below.refl _ _).drew) (first | (go_at_call 138; refine HC.out.mono ?_; rintro e w2 ⟨rfl, hb⟩; have HB2 : Hid (Below V.heap.size V w2) := hb; clear hb))
  have HB3 : Hid (Below w.heap.size w w2) := HBw.out.trans (HB2.out.mono HBw.out.size)
  go_wp2_with fail
  refine (rstop32 R 3 0 r _ (HR.out.below HB3.out)).mono ?_
  rintro e w3 ⟨rfl, ho, hr⟩
  have HE : Hid (Onl (fun b => b = R) w w3 ∧ Rqb w3 R { r with en := 3, cd := 0, ovr := true }) := ⟨(Onl.of_below HB3.out).trans ho, hr⟩
  clear ho hr
  go_wp2
  go_returns
  exact ⟨rfl, HE.out⟩
theorem rmem_load (R C o q P np pa a d k m : Nat) (x : Nat × Ob) (va u v : Int) (rg : List Int) (i : Ins) (r : Rq) (l : List (Nat × Ob)) (w : World) (hop : i.op = 4) (ha : i.a = (a : Int)) (hd : i.d = (d : Int)) (hQ : RegQ C o q rg w) (hv : rg[a]? = some va) (hu : rg[d]? = some u) (hR : Rqb w R r) (hob : r.ob = .slice (some ⟨P, 0, none⟩) np pa) (hA : ObA w P l) (hk : l[k]? = some x) (hkn : k < np) (hx : Bk w x.1 2 (x.2.ws.map (Value.int .i64))) (hm : x.2.ws[m]? = some v) (hW : WoQ R (IntKind.i64.wrap (va + i.n)) (.tuple #[.int .i64 (k : Nat), .int .i64 (m : Nat), .bool true]) w) : Calls Tryz.prog 104 #[.pointer (some ⟨R, 0, none⟩), .pointer (some ⟨C, o, none⟩), inV i] w fun e w' => e = .returned (.tuple #[]) ∧ SetQ q (rg.set d v) w w' := by
  obtain ⟨v1, v2, lq, _⟩ := hQ.at hv
  have c1 := hQ.c1
  have lC : C < w.heap.size := World.block_lt_of_cell? _ _ c1
  have HQ : Hid (RegQ C o q rg w ∧ Bk w x.1 2 (x.2.ws.map (Value.int .i64))) := ⟨hQ, hx⟩
  have HF : Hid (∀ W, Below w.heap.size w W → W.cell? ⟨C, o + 1, none⟩ = some (.slice (some ⟨q, 0, none⟩) rg.length rg.length) ∧ W.cell? ⟨R, 3, none⟩ = some (.slice (some ⟨P, 0, none⟩) np pa) ∧ W.cell? ⟨P, k * 4 + 1, none⟩ = some (.slice (some ⟨x.1, 0, none⟩) x.2.ws.length x.2.ws.length) ∧ W.cell? ⟨x.1, m, none⟩ = some (.int .i64 v) ∧ W.cell? ⟨q, d, none⟩ = some (.int .i64 u) ∧ W.frozen? ⟨q, d, none⟩ = false ∧ W.frozen? ⟨x.1, m, none⟩ = false) := fun W hb => by
    have p1 := hA k x hk 1 _ rfl
    have hx' := hx.below hb
    have hq' := hQ.bk.below hb
    exact ⟨(World.cell?_of_block (hb.block C lC)).trans c1, (hR.below hb).cell (j := 3) (by rw [← hob]; rfl), (World.cell?_of_block (hb.block P (World.block_lt_of_cell? _ _ p1))).trans p1, hx'.cell (by rw [List.getElem?_map, hm]; rfl), hq'.cell (by rw [List.getElem?_map, hu]; rfl), hq'.fz d, hx'.fz m⟩
  have hmI : (m : Int) < x.2.ws.length := by have := (List.getElem?_eq_some_iff.1 hm).1; omega
  have hdI : (d : Int) < rg.length := by have := (List.getElem?_eq_some_iff.1 hu).1; omega
  have hkI : (k : Int) < np := by omega
  generalize x.2.ws.length = wl at *
  generalize hxb : x.1 = xb at *
  have HW : Hid (∀ W, Below w.heap.size w W → Calls Tryz.prog 138 #[.pointer (some ⟨R, 0, none⟩), .int .i64 (IntKind.i64.wrap (va + i.n))] W fun e w' => e = .returned (.tuple #[.int .i64 (k : Nat), .int .i64 (m : Nat), .bool true]) ∧ Below W.heap.size W w') := hW
  have HBw : Hid (Below w.heap.size w (w.alloc (.cells #[.int .i64 4, .int .i64 d, .int .i64 a, .int .i64 i.b, .int .i64 i.n, .string i.nm, .slice i.ar i.gs.length i.ac, .int .i64 i.to, .int .i64 i.el] 54))) := (Below.refl w.heap.size w).alloc (Nat.le_refl _) _
  generalize hrl : rg.length = rl at *
  have HS : Hid (∀ W, Below (w.alloc (.cells #[.int .i64 4, .int .i64 d, .int .i64 a, .int .i64 i.b, .int .i64 i.n, .string i.nm, .slice i.ar i.gs.length i.ac, .int .i64 i.to, .int .i64 i.el] 54)).heap.size (w.alloc (.cells #[.int .i64 4, .int .i64 d, .int .i64 a, .int .i64 i.b, .int .i64 i.n, .string i.nm, .slice i.ar i.gs.length i.ac, .int .i64 i.to, .int .i64 i.el] 54)) W → W.cell? ⟨C, o + 1, none⟩ = some (.slice (some ⟨q, 0, none⟩) rl rl) ∧ W.cell? ⟨w.heap.size, 2, none⟩ = some (.int .i64 a) ∧ W.cell? ⟨w.heap.size, 4, none⟩ = some (.int .i64 i.n) ∧ W.cell? ⟨q, a, none⟩ = some (.int .i64 va)) := fun W hW => by
    have hx := (Bk.new w [.int .i64 4, .int .i64 d, .int .i64 a, .int .i64 i.b, .int .i64 i.n, .string i.nm, .slice i.ar i.gs.length i.ac, .int .i64 i.to, .int .i64 i.el] 54).below hW
    exact ⟨(World.cell?_of_block (hW.block C (by simp; omega))).trans ((World.cell?_of_block (HBw.out.block C lC)).trans c1), hx.cell rfl, hx.cell rfl, (World.cell?_of_block (hW.block q (by simp; omega))).trans ((World.cell?_of_block (HBw.out.block q lq)).trans v1)⟩
  have HC : Hid (Calls Tryz.prog 138 #[.pointer (some ⟨R, 0, none⟩), .int .i64 (IntKind.i64.wrap (va + i.n))] (w.alloc (.cells #[.int .i64 4, .int .i64 d, .int .i64 a, .int .i64 i.b, .int .i64 i.n, .string i.nm, .slice i.ar i.gs.length i.ac, .int .i64 i.to, .int .i64 i.el] 54)).drew fun e w' => e = .returned (.tuple #[.int .i64 (k : Nat), .int .i64 (m : Nat), .bool true]) ∧ Below (w.alloc (.cells #[.int .i64 4, .int .i64 d, .int .i64 a, .int .i64 i.b, .int .i64 i.n, .string i.nm, .slice i.ar i.gs.length i.ac, .int .i64 i.to, .int .i64 i.el] 54)).heap.size (w.alloc (.cells #[.int .i64 4, .int .i64 d, .int .i64 a, .int .i64 i.b, .int .i64 i.n, .string i.nm, .slice i.ar i.gs.length i.ac, .int .i64 i.to, .int .i64 i.el] 54)) w') := (HW.out _ HBw.out.drew).mono fun e w' h => ⟨h.1, (Below.refl _ _).drew.trans h.2⟩
  unfold inV
  rw [ha, hd, hop]
  clear hQ hv hW ha HW hu hR hd hop hA hk hkn hx hm hob
  go_enter Tryz.func104, Tryz.ntmps104
  go_wp2
  have HV0 : Hid ((∀ (t : Nat) (y : Value), ([.int .i64 4, .int .i64 d, .int .i64 a, .int .i64 i.b, .int .i64 i.n, .string i.nm, .slice i.ar i.gs.length i.ac, .int .i64 i.to, .int .i64 i.el] : List Value)[t]? = some y → (w.alloc (.cells #[.int .i64 4, .int .i64 d, .int .i64 a, .int .i64 i.b, .int .i64 i.n, .string i.nm, .slice i.ar i.gs.length i.ac, .int .i64 i.to, .int .i64 i.el] 54)).cell? ⟨w.heap.size, t, none⟩ = some y) ∧ w.heap.size < (w.alloc (.cells #[.int .i64 4, .int .i64 d, .int .i64 a, .int .i64 i.b, .int .i64 i.n, .string i.nm, .slice i.ar i.gs.length i.ac, .int .i64 i.to, .int .i64 i.el] 54)).heap.size) := ⟨fun t y ht => (Bk.new w [.int .i64 4, .int .i64 d, .int .i64 a, .int .i64 i.b, .int .i64 i.n, .string i.nm, .slice i.ar i.gs.length i.ac, .int .i64 i.to, .int .i64 i.el] 54).cell ht, by simp⟩
  generalize hV : w.alloc (.cells #[.int .i64 4, .int .i64 d, .int .i64 a, .int .i64 i.b, .int .i64 i.n, .string i.nm, .slice i.ar i.gs.length i.ac, .int .i64 i.to, .int .i64 i.el] 54) = V at *
  clear hV c1 v1
  go_region_held3 (fun W => W.cell? ⟨C, o + 1, none⟩ = some (.slice (some ⟨q, 0, none⟩) rl rl) ∧ W.cell? ⟨w.heap.size, 2, none⟩ = some (.int .i64 a) ∧ W.cell? ⟨w.heap.size, 4, none⟩ = some (.int .i64 i.n) ∧ W.cell? ⟨q, a, none⟩ = some (.int .i64 va)) (first | exact HS.out _ HB2.out | exact HS.out _ (Below.refl _ _).drew) (first | (go_at_call 138; refine HC.out.mono ?_; rintro e w2 ⟨rfl, hb⟩; have HB2 : Hid (Below V.heap.size V w2) := hb; clear hb))
  have HB3 : Hid (Below w.heap.size w w2) := HBw.out.trans (HB2.out.mono HBw.out.size)
  have hi := HS.out w2 HB2.out
  have hI := (World.cell?_of_block (HB2.out.block w.heap.size (HV0.out.2))).trans (HV0.out.1 0 _ rfl)
  have hI1 := (World.cell?_of_block (HB2.out.block w.heap.size (HV0.out.2))).trans (HV0.out.1 1 _ rfl)
  have hI3 := (World.cell?_of_block (HB2.out.block w.heap.size (HV0.out.2))).trans (HV0.out.1 3 _ rfl)
  obtain ⟨f1, f2, f3, f4, f5, f6, f7⟩ := HF.out w2 HB3.out
  clear hi
  go_wp2
  go_region
  go_wp2
  go_returns
  exact ⟨rfl, (SetQ.of HQ.out.1 HB3.out d _).below ((Below.refl _ _).drew)⟩
end
section
open Go.RowKit Go.Shelf
set_option maxRecDepth 20000
set_option maxHeartbeats 4000000
theorem rmem_store (R C o q P np pa a d k m : Nat) (x : Nat × Ob) (va u v : Int) (rg : List Int) (i : Ins) (r : Rq) (l : List (Nat × Ob)) (w : World) (hop : i.op = 5) (ha : i.a = (a : Int)) (hd : i.b = (d : Int)) (hQ : RegQ C o q rg w) (hv : rg[a]? = some va) (hu : rg[d]? = some u) (hR : Rqb w R r) (hob : r.ob = .slice (some ⟨P, 0, none⟩) np pa) (hA : ObA w P l) (hk : l[k]? = some x) (hkn : k < np) (hx : Bk w x.1 2 (x.2.ws.map (Value.int .i64))) (hm : x.2.ws[m]? = some v) (hW : WoQ R (IntKind.i64.wrap (va + i.n)) (.tuple #[.int .i64 (k : Nat), .int .i64 (m : Nat), .bool true]) w) : Calls Tryz.prog 104 #[.pointer (some ⟨R, 0, none⟩), .pointer (some ⟨C, o, none⟩), inV i] w fun e w' => e = .returned (.tuple #[]) ∧ SetQ x.1 (x.2.ws.set m u) w w' := by
  obtain ⟨v1, v2, lq, _⟩ := hQ.at hv
  have c1 := hQ.c1
  have lC : C < w.heap.size := World.block_lt_of_cell? _ _ c1
  have HQ : Hid (RegQ C o q rg w ∧ Bk w x.1 2 (x.2.ws.map (Value.int .i64))) := ⟨hQ, hx⟩
  have HF : Hid (∀ W, Below w.heap.size w W → W.cell? ⟨C, o + 1, none⟩ = some (.slice (some ⟨q, 0, none⟩) rg.length rg.length) ∧ W.cell? ⟨R, 3, none⟩ = some (.slice (some ⟨P, 0, none⟩) np pa) ∧ W.cell? ⟨P, k * 4 + 1, none⟩ = some (.slice (some ⟨x.1, 0, none⟩) x.2.ws.length x.2.ws.length) ∧ W.cell? ⟨x.1, m, none⟩ = some (.int .i64 v) ∧ W.cell? ⟨q, d, none⟩ = some (.int .i64 u) ∧ W.frozen? ⟨q, d, none⟩ = false ∧ W.frozen? ⟨x.1, m, none⟩ = false) := fun W hb => by
    have p1 := hA k x hk 1 _ rfl
    have hx' := hx.below hb
    have hq' := hQ.bk.below hb
    exact ⟨(World.cell?_of_block (hb.block C lC)).trans c1, (hR.below hb).cell (j := 3) (by rw [← hob]; rfl), (World.cell?_of_block (hb.block P (World.block_lt_of_cell? _ _ p1))).trans p1, hx'.cell (by rw [List.getElem?_map, hm]; rfl), hq'.cell (by rw [List.getElem?_map, hu]; rfl), hq'.fz d, hx'.fz m⟩
  have hmI : (m : Int) < x.2.ws.length := by have := (List.getElem?_eq_some_iff.1 hm).1; omega
  have hdI : (d : Int) < rg.length := by have := (List.getElem?_eq_some_iff.1 hu).1; omega
  have hkI : (k : Int) < np := by omega
  generalize x.2.ws.length = wl at *
  generalize hxb : x.1 = xb at *
  have HW : Hid (∀ W, Below w.heap.size w W → Calls Tryz.prog 138 #[.pointer (some ⟨R, 0, none⟩), .int .i64 (IntKind.i64.wrap (va + i.n))] W fun e w' => e = .returned (.tuple #[.int .i64 (k : Nat), .int .i64 (m : Nat), .bool true]) ∧ Below W.heap.size W w') := hW
  have HBw : Hid (Below w.heap.size w (w.alloc (.cells #[.int .i64 5, .int .i64 i.d, .int .i64 a, .int .i64 d, .int .i64 i.n, .string i.nm, .slice i.ar i.gs.length i.ac, .int .i64 i.to, .int .i64 i.el] 54))) := (Below.refl w.heap.size w).alloc (Nat.le_refl _) _
  generalize hrl : rg.length = rl at *
  have HS : Hid (∀ W, Below (w.alloc (.cells #[.int .i64 5, .int .i64 i.d, .int .i64 a, .int .i64 d, .int .i64 i.n, .string i.nm, .slice i.ar i.gs.length i.ac, .int .i64 i.to, .int .i64 i.el] 54)).heap.size (w.alloc (.cells #[.int .i64 5, .int .i64 i.d, .int .i64 a, .int .i64 d, .int .i64 i.n, .string i.nm, .slice i.ar i.gs.length i.ac, .int .i64 i.to, .int .i64 i.el] 54)) W → W.cell? ⟨C, o + 1, none⟩ = some (.slice (some ⟨q, 0, none⟩) rl rl) ∧ W.cell? ⟨w.heap.size, 2, none⟩ = some (.int .i64 a) ∧ W.cell? ⟨w.heap.size, 4, none⟩ = some (.int .i64 i.n) ∧ W.cell? ⟨q, a, none⟩ = some (.int .i64 va)) := fun W hW => by
    have hx := (Bk.new w [.int .i64 5, .int .i64 i.d, .int .i64 a, .int .i64 d, .int .i64 i.n, .string i.nm, .slice i.ar i.gs.length i.ac, .int .i64 i.to, .int .i64 i.el] 54).below hW
    exact ⟨(World.cell?_of_block (hW.block C (by simp; omega))).trans ((World.cell?_of_block (HBw.out.block C lC)).trans c1), hx.cell rfl, hx.cell rfl, (World.cell?_of_block (hW.block q (by simp; omega))).trans ((World.cell?_of_block (HBw.out.block q lq)).trans v1)⟩
  have HC : Hid (Calls Tryz.prog 138 #[.pointer (some ⟨R, 0, none⟩), .int .i64 (IntKind.i64.wrap (va + i.n))] (w.alloc (.cells #[.int .i64 5, .int .i64 i.d, .int .i64 a, .int .i64 d, .int .i64 i.n, .string i.nm, .slice i.ar i.gs.length i.ac, .int .i64 i.to, .int .i64 i.el] 54)).drew fun e w' => e = .returned (.tuple #[.int .i64 (k : Nat), .int .i64 (m : Nat), .bool true]) ∧ Below (w.alloc (.cells #[.int .i64 5, .int .i64 i.d, .int .i64 a, .int .i64 d, .int .i64 i.n, .string i.nm, .slice i.ar i.gs.length i.ac, .int .i64 i.to, .int .i64 i.el] 54)).heap.size (w.alloc (.cells #[.int .i64 5, .int .i64 i.d, .int .i64 a, .int .i64 d, .int .i64 i.n, .string i.nm, .slice i.ar i.gs.length i.ac, .int .i64 i.to, .int .i64 i.el] 54)) w') := (HW.out _ HBw.out.drew).mono fun e w' h => ⟨h.1, (Below.refl _ _).drew.trans h.2⟩
  unfold inV
  rw [ha, hd, hop]
  clear hQ hv hW ha HW hu hR hd hop hA hk hkn hx hm hob
  go_enter Tryz.func104, Tryz.ntmps104
  go_wp2
  have HV0 : Hid ((∀ (t : Nat) (y : Value), ([.int .i64 5, .int .i64 i.d, .int .i64 a, .int .i64 d, .int .i64 i.n, .string i.nm, .slice i.ar i.gs.length i.ac, .int .i64 i.to, .int .i64 i.el] : List Value)[t]? = some y → (w.alloc (.cells #[.int .i64 5, .int .i64 i.d, .int .i64 a, .int .i64 d, .int .i64 i.n, .string i.nm, .slice i.ar i.gs.length i.ac, .int .i64 i.to, .int .i64 i.el] 54)).cell? ⟨w.heap.size, t, none⟩ = some y) ∧ w.heap.size < (w.alloc (.cells #[.int .i64 5, .int .i64 i.d, .int .i64 a, .int .i64 d, .int .i64 i.n, .string i.nm, .slice i.ar i.gs.length i.ac, .int .i64 i.to, .int .i64 i.el] 54)).heap.size) := ⟨fun t y ht => (Bk.new w [.int .i64 5, .int .i64 i.d, .int .i64 a, .int .i64 d, .int .i64 i.n, .string i.nm, .slice i.ar i.gs.length i.ac, .int .i64 i.to, .int .i64 i.el] 54).cell ht, by simp⟩
  generalize hV : w.alloc (.cells #[.int .i64 5, .int .i64 i.d, .int .i64 a, .int .i64 d, .int .i64 i.n, .string i.nm, .slice i.ar i.gs.length i.ac, .int .i64 i.to, .int .i64 i.el] 54) = V at *
  clear hV c1 v1
  go_region_held3 (fun W => W.cell? ⟨C, o + 1, none⟩ = some (.slice (some ⟨q, 0, none⟩) rl rl) ∧ W.cell? ⟨w.heap.size, 2, none⟩ = some (.int .i64 a) ∧ W.cell? ⟨w.heap.size, 4, none⟩ = some (.int .i64 i.n) ∧ W.cell? ⟨q, a, none⟩ = some (.int .i64 va)) (first | exact HS.out _ HB2.out | exact HS.out _ (Below.refl _ _).drew) (first | (go_at_call 138; refine HC.out.mono ?_; rintro e w2 ⟨rfl, hb⟩; have HB2 : Hid (Below V.heap.size V w2) := hb; clear hb))
  have HB3 : Hid (Below w.heap.size w w2) := HBw.out.trans (HB2.out.mono HBw.out.size)
  have hi := HS.out w2 HB2.out
  have hI := (World.cell?_of_block (HB2.out.block w.heap.size (HV0.out.2))).trans (HV0.out.1 0 _ rfl)
  have hI1 := (World.cell?_of_block (HB2.out.block w.heap.size (HV0.out.2))).trans (HV0.out.1 1 _ rfl)
  have hI3 := (World.cell?_of_block (HB2.out.block w.heap.size (HV0.out.2))).trans (HV0.out.1 3 _ rfl)
  obtain ⟨f1, f2, f3, f4, f5, f6, f7⟩ := HF.out w2 HB3.out
  clear hi
  go_wp2
  go_region
  go_wp2
  go_returns
  subst hxb
  refine ⟨rfl, ((Onl.of_below HB3.out).set (S := fun b => b = x.1) rfl).drewN 1, ?_⟩
  rw [List.map_set]
  exact ((HQ.out.2.below HB3.out).set m _).drew
end
section
open Go.RowKit Go.Shelf
set_option maxRecDepth 20000
set_option maxHeartbeats 1000000
theorem rdoes_load (R C o : Nat) (i : Ins) (w : World) (hop : i.op = 4) {Q : World → Prop} (h : ∀ W, Below w.heap.size w W → Calls Tryz.prog 104 #[.pointer (some ⟨R, 0, none⟩), .pointer (some ⟨C, o, none⟩), inV i] W fun e w' => e = .returned (.tuple #[]) ∧ Q w') : Calls Tryz.prog 75 #[.pointer (some ⟨R, 0, none⟩), .pointer (some ⟨C, o, none⟩), inV i] w fun e w' => e = .returned (.tuple #[]) ∧ Q w' := by
  have H : Hid (∀ W, Below w.heap.size w W → Calls Tryz.prog 104 #[.pointer (some ⟨R, 0, none⟩), .pointer (some ⟨C, o, none⟩), inV i] W fun e w' => e = .returned (.tuple #[]) ∧ Q w') := h
  unfold inV at H ⊢
  rw [hop] at H ⊢
  clear h
  go_enter Tryz.func75, Tryz.ntmps75
  go_wp2_with fail
  refine (H.out _ ((Below.refl w.heap.size w).alloc (Nat.le_refl _) _)).mono ?_
  rintro e w1 ⟨rfl, hq⟩
  go_wp2
  go_returns
  exact ⟨rfl, hq⟩
theorem rdoes_store (R C o : Nat) (i : Ins) (w : World) (hop : i.op = 5) {Q : World → Prop} (h : ∀ W, Below w.heap.size w W → Calls Tryz.prog 104 #[.pointer (some ⟨R, 0, none⟩), .pointer (some ⟨C, o, none⟩), inV i] W fun e w' => e = .returned (.tuple #[]) ∧ Q w') : Calls Tryz.prog 75 #[.pointer (some ⟨R, 0, none⟩), .pointer (some ⟨C, o, none⟩), inV i] w fun e w' => e = .returned (.tuple #[]) ∧ Q w' := by
  have H : Hid (∀ W, Below w.heap.size w W → Calls Tryz.prog 104 #[.pointer (some ⟨R, 0, none⟩), .pointer (some ⟨C, o, none⟩), inV i] W fun e w' => e = .returned (.tuple #[]) ∧ Q w') := h
  unfold inV at H ⊢
  rw [hop] at H ⊢
  clear h
  go_enter Tryz.func75, Tryz.ntmps75
  go_wp2_with fail
  refine (H.out _ ((Below.refl w.heap.size w).alloc (Nat.le_refl _) _)).mono ?_
  rintro e w1 ⟨rfl, hq⟩
  go_wp2
  go_returns
  exact ⟨rfl, hq⟩
theorem rdoes_call (R C o : Nat) (i : Ins) (w : World) (hop : i.op = 7) {Q : World → Prop} (h : ∀ W, Below w.heap.size w W → Calls Tryz.prog 105 #[.pointer (some ⟨R, 0, none⟩), .pointer (some ⟨C, o, none⟩), inV i] W fun e w' => e = .returned (.tuple #[]) ∧ Q w') : Calls Tryz.prog 75 #[.pointer (some ⟨R, 0, none⟩), .pointer (some ⟨C, o, none⟩), inV i] w fun e w' => e = .returned (.tuple #[]) ∧ Q w' := by
  have H : Hid (∀ W, Below w.heap.size w W → Calls Tryz.prog 105 #[.pointer (some ⟨R, 0, none⟩), .pointer (some ⟨C, o, none⟩), inV i] W fun e w' => e = .returned (.tuple #[]) ∧ Q w') := h
  unfold inV at H ⊢
  rw [hop] at H ⊢
  clear h
  go_enter Tryz.func75, Tryz.ntmps75
  go_wp2_with fail
  refine (H.out _ ((Below.refl w.heap.size w).alloc (Nat.le_refl _) _)).mono ?_
  rintro e w1 ⟨rfl, hq⟩
  go_wp2
  go_returns
  exact ⟨rfl, hq⟩
end
section
open Go.RowKit Go.Shelf
set_option maxRecDepth 20000
set_option maxHeartbeats 4000000
theorem rstep_jump (R C ca n q g o pl pc g1 o1 bl bc g2 o2 il ic k b j : Nat) (ob an : Int) (rg : List Int) (i : Ins) (r : Rq) (cs : List Value) (w : World) (h : StpQ R C ca n q g o pl pc g1 o1 bl bc g2 o2 il ic k b j ob an rg i r cs w) (hop : i.op = 8) : Calls Tryz.prog 33 #[.pointer (some ⟨R, 0, none⟩)] w fun e w' => e = .returned (.tuple #[]) ∧ Onl (fun b => b = C) w w' ∧ Bk w' C 109 (((cs.set (n * 6 + 4) (.int .i64 ((j : Int) + 1))).set (n * 6 + 3) (.int .i64 i.to)).set (n * 6 + 4) (.int .i64 0)) := by
  have H : Hid (StpQ R C ca n q g o pl pc g1 o1 bl bc g2 o2 il ic k b j ob an rg i r cs w) := h
  have HKS : Hid (∀ W, Below w.heap.size w W → Kx C R n g o pl pc k g1 o1 bl bc b g2 o2 il ic j i W) := fun W hW => by
    have hc := h.bkc.below hW
    have ce : ∀ (t : Nat) (v : Value), (inC i)[t]? = some v → W.cell? ⟨g2, o2 + j * 9 + t, none⟩ = some v := fun t v ht => (World.cell?_of_block (hW.block g2 (World.block_lt_of_cell? _ _ (h.ce t v ht)))).trans (h.ce t v ht)
    exact ⟨(h.rb.below hW).cell (j := 0) (by rw [← h.pg]; rfl), hc.cell (j := n * 6) (h.fc 0 _ rfl), (World.cell?_of_block (hW.block g (World.block_lt_of_cell? _ _ h.f4))).trans h.f4, hc.cell (h.fc 3 _ rfl), (World.cell?_of_block (hW.block g1 (World.block_lt_of_cell? _ _ h.y0))).trans h.y0, hc.cell (h.fc 4 _ rfl), ce 0 _ rfl, ce 1 _ rfl, ce 2 _ rfl, ce 3 _ rfl, ce 4 _ rfl, ce 5 _ rfl, ce 6 _ rfl, ce 7 _ rfl, ce 8 _ rfl⟩
  have r4 := h.rb.cell (j := 4) (v := .slice (some ⟨C, 0, none⟩) (n + 1) ca) (by rw [← h.cv]; rfl)
  have hkI : (k : Int) < pl := by have := h.hk; omega
  have hbI : (b : Int) < bl := by have := h.hb; omega
  have hjI : (j : Int) < il := by have := h.hj; omega
  have e0 := wrapN n (by have := h.hn; omega)
  have e1 : IntKind.i64.wrap ((n : Int) + 1 - 1) = n := by rw [wrapI _ (by have := h.hn; omega) (by have := h.hn; omega)]; omega
  have ej := wrapN1 j (by have := h.hj2; omega)
  have lC := h.bkc.lt
  have lR := h.rb.lt
  have nRC : ¬ R = C := h.rb.ne h.bkc (by decide)
  have nCR : ¬ C = R := fun e => nRC e.symm
  have zc : ∀ t, w.frozen? ⟨C, t, none⟩ = false := h.bkc.fz
  have cj : w.cell? ⟨C, n * 6 + 4, none⟩ = some (.int .i64 (j : Nat)) := h.bkc.cell (h.fc 4 _ rfl)
  clear h
  go_enter Tryz.func33, Tryz.ntmps33
  go_wp2
  go_quiet (fail)
  go_wp2
  have HKV : Hid (∀ W, Below (w.drewN nq).heap.size (w.drewN nq) W → Kx C R n g o pl pc k g1 o1 bl bc b g2 o2 il ic j i W) := fun W hW => HKS.out W ((below_drewN (Below.refl _ _) nq).trans hW)
  have HV : Hid (Bk (w.drewN nq) C 109 cs ∧ Below w.heap.size w (w.drewN nq)) := ⟨H.out.bkc.drewN nq, below_drewN (Below.refl _ _) nq⟩
  have lCV : C < (w.drewN nq).heap.size := lC
  have lRV : R < (w.drewN nq).heap.size := lR
  have cjV : (w.drewN nq).cell? ⟨C, n * 6 + 4, none⟩ = some (.int .i64 (j : Nat)) := cj
  have cbV : (w.drewN nq).cell? ⟨C, n * 6 + 3, none⟩ = some (.int .i64 (b : Nat)) := H.out.bkc.cell (H.out.fc 3 _ rfl)
  have crV : (w.drewN nq).cell? ⟨C, n * 6 + 1, none⟩ = some (.slice (some ⟨q, 0, none⟩) rg.length rg.length) := H.out.bkc.cell (H.out.fc 1 _ rfl)
  have zcV : ∀ t, (w.drewN nq).frozen? ⟨C, t, none⟩ = false := zc
  clear r4 cj zc
  generalize hV : w.drewN nq = V at *
  clear hV
  go_region_held3 (fun W => Kx C R n g o pl pc k g1 o1 bl bc b g2 o2 il ic j i W) (first | exact HKV.out _ (Below.refl _ _).drew | exact HKV.out _ ((Below.refl V.heap.size V).alloc (Nat.le_refl _) _) | exact HKV.out _ ((Below.refl V.heap.size V).drew.alloc (Nat.le_refl _) _) | exact HKV.out _ ((Below.refl V.heap.size V).alloc (Nat.le_refl _) _).drew) (fail)
  go_wp2
  go_returns
  exact ⟨rfl, ((((Onl.of_below HV.out.2).set (S := fun b => b = C) rfl).set rfl).set rfl).alloc _ |>.drewN 1, ((((HV.out.1.set _ _).set _ _).set _ _).alloc _).drew⟩
end
end Go.Proofs.YtdppoblbenbafaaGreatDoor
