/- The document's own Run of any program. At most 5000. Rows of bytes, compared. What the row lists of the table of forms; a world for the witness. The powers of ten, out of the row. The little program that every statement of lir asks for, by the run of any program. -/
import Derived.Test.YtdppoblbenbafaaGreatDoorYBR
import Derived.Test.YtdppoblbenbafaaGreatDoorYBU
import Derived.Test.YtdppoblbenbafaaGreatDoorYBT
import Derived.Test.YtdppoblbenbafaaGreatDoorYAQ
import Derived.Laws.IdiomStrings
import Derived.Test.YtdppoblbenbafaaGreatDoorCards
import Derived.Test.YtdppoblbenbafaaGreatDoorTie
import Derived.Test.YtdppoblbenbafaaGreatDoorYAK
import Derived.ProofKit
import Derived.OpenShut
import Derived.Deep.DeepHandedRow
import Derived.Deep.DeepWitnessRowRef
import Derived.Deep.DeepLaidRun
import Derived.LaidMore
import Derived.Lib.LaidTab
import Derived.Lib.LaidU8
import Derived.Lib.SmallJoins
import Derived.Test.YtdppoblbenbafaaGreatDoorYAT
import Derived.Test.YtdppoblbenbafaaGreatDoorYAD
namespace Go.Proofs.YtdppoblbenbafaaGreatDoor
section
open Go.RowKit Go.Shelf
set_option maxRecDepth 20000
set_option maxHeartbeats 8000000
def ri (pp : Option Addr) (n pc : Nat) (iv : Value) : Rq := ⟨.slice pp n pc, iv, 0, .slice none 0 0, .slice none 0 0, 0, 0, .slice none 0 0, 0, false, 65536, 0⟩
theorem first_call {p : List Fun} {pp : Option Addr} {pc : Nat} {L : List UInt8} {iv : Value} (w : World) (hp : PrF p) (hI : FunA w pp pc p) (hiv : InV w w iv L) (fuel : Nat) : Calls Tryz.prog 31 #[.pointer (some ⟨w.heap.size, 0, none⟩), .int .i64 0, .slice none 0 0, .int .i64 (-1)] (w.alloc (.cells (rqC (ri pp p.length pc iv)).toArray 70)) fun e w' => e = .returned (.tuple #[]) ∧ GoX p pp pc L w w.heap.size fuel (runR p fuel (r0 p L)) w' 0 fuel := by
  have hVb : Below w.heap.size w (w.alloc (.cells (rqC (ri pp p.length pc iv)).toArray 70)) := (Below.refl _ _).alloc (Nat.le_refl _) _
  have hRb : Rqb (w.alloc (.cells (rqC (ri pp p.length pc iv)).toArray 70)) w.heap.size (ri pp p.length pc iv) := Bk.new w (rqC (ri pp p.length pc iv)) 70
  obtain ⟨f, hf⟩ : ∃ f, p[0]? = some f := by
    obtain ⟨f, bl, i, hc⟩ := (wf_s0 hp L).top
    exact ⟨f, hc.hf⟩
  obtain ⟨hF, _⟩ := prog_fn hp.pr hf
  obtain ⟨hm, hfr, _⟩ := rg_le hf hF
  obtain ⟨g, o, epp, f0, f1, f2, f3, f4, hbv⟩ := fn_cells (hI.below hVb) hf hF
  generalize hV : w.alloc (.cells (rqC (ri pp p.length pc iv)).toArray 70) = V at *
  have hh : Bk ((V.alloc (.cells (Array.replicate (rgOf p 0) (.int .i64 0)) 2)).alloc (.cells #[.int .i64 (0 : Nat), .slice (some ⟨V.heap.size, 0, none⟩) (rgOf p 0) (rgOf p 0), .int .i64 0, .int .i64 0, .int .i64 0, .int .i64 (-1)] 109)) V.heap.size 2 (List.replicate (rgOf p 0) (.int .i64 0)) := by
    have t := (Bk.new V (List.replicate (rgOf p 0) (Value.int .i64 0)) 2).alloc (.cells #[.int .i64 (0 : Nat), .slice (some ⟨V.heap.size, 0, none⟩) (rgOf p 0) (rgOf p 0), .int .i64 0, .int .i64 0, .int .i64 0, .int .i64 (-1)] 109)
    simpa using t
  have hrep : (List.replicate (rgOf p 0) (0 : Int)).map (Value.int .i64) = List.replicate (rgOf p 0) (.int .i64 0) := by simp
  refine (rcall31 w.heap.size w.heap.size 0 0 0 g o p.length pc (rgOf p 0) (frOf p 0) (-1) 0 (.slice none 0 0) (ri pp p.length pc iv) [] [] ((List.replicate (rgOf p 0) (0 : Int)).map (Value.int .i64)) V _ hRb (by rw [← epp]; rfl) (List.getElem?_eq_some_iff.1 hf).1 f2 f3 (World.ownsRow_nil _ _ _ _) (World.ownsRow_nil _ _ _ _) hVb.size hm hfr (by omega) (by omega) (by show (0 : Int) ≤ 65536; omega) (by show (65536 : Int) ≤ _; omega) (copy_none _ _ _) (Onl.of_below (Below.refl _ _)) (by rw [hrep]; exact hh)).mono ?_
  rintro e w' ⟨rfl, hE⟩
  obtain ⟨r', C, ca, P, pa, gl, go, h⟩ := first_relX (L := L) (pp := pp) (pc := pc) (Nat.le_refl _) hVb (ri pp p.length pc iv) rfl hiv rfl rfl rfl rfl rfl rfl rfl rfl rfl rfl hE
  refine ⟨rfl, r0 p L, s0 p L, ⟨r', C, ca, P, pa, gl, go, h⟩, sim_first p L, wf_s0 hp L, ⟨by show 1 ≤ 1; omega, fun x hx => ?_⟩, rfl, by omega, rfl⟩
  rw [show x = ⟨65536, List.replicate (frOf p 0) 0, false, false⟩ from List.mem_singleton.1 hx]
  exact ⟨by show (0 : Int) ≤ 65536; omega, by simpa using hfr⟩
theorem rrun_ok (p : List Fun) (pp iv : Option Addr) (pc ic fuel : Nat) (l : List UInt8) (w : World) (hp : PrF p) (hI : FunA w pp pc p) (hiv : InV w w (.slice iv l.length ic) l) (hl : l.length ≤ 65536) (hf : fuel ≤ 524288) : Calls Tryz.prog 14 #[.slice pp p.length pc, .slice iv l.length ic, .int .i64 fuel] w fun e w' => ∃ ov, e = .returned (.tuple #[.agg #[.int .i64 (runR p fuel (r0 p l)).en, .int .i64 (runR p fuel (r0 p l)).cd, ov, .int .i64 ((runR p fuel (r0 p l)).st : Nat)], .int .i64 0]) ∧ w'.ownsRow w.heap.size 5 1 ov (runR p fuel (r0 p l)).out.length (Lib.byteCells (runR p fuel (r0 p l)).out) ∧ Below w.heap.size w w' := by
  obtain ⟨O, hO⟩ : ∃ O, O = runR p fuel (r0 p l) := ⟨_, rfl⟩
  rw [← hO]
  have HB0 : Hid (Below w.heap.size w (w.alloc (.cells #[.int .i64 0, .int .i64 0, .slice none 0 0, .int .i64 0] 36))) := (Below.refl _ _).alloc (Nat.le_refl _) _
  have HX : Hid (Bk (w.alloc (.cells #[.int .i64 0, .int .i64 0, .slice none 0 0, .int .i64 0] 36)) w.heap.size 36 [.int .i64 0, .int .i64 0, .slice none 0 0, .int .i64 0]) := zx_new w
  have HC : Hid (Calls Tryz.prog 10 #[.slice pp p.length pc] (w.alloc (.cells #[.int .i64 0, .int .i64 0, .slice none 0 0, .int .i64 0] 36)) fun e w' => e = .returned (.int .i64 0) ∧ Below (w.alloc (.cells #[.int .i64 0, .int .i64 0, .slice none 0 0, .int .i64 0] 36)).heap.size (w.alloc (.cells #[.int .i64 0, .int .i64 0, .slice none 0 0, .int .i64 0] 36)) w') := by
    have t := rcheck10 p pp pc _ (hI.below HB0.out)
    rw [ck_eq, hp.pr, if_pos rfl] at t
    exact t
  have HFC : Hid (∀ W, Below w.heap.size w W → Calls Tryz.prog 31 #[.pointer (some ⟨W.heap.size, 0, none⟩), .int .i64 0, .slice none 0 0, .int .i64 (-1)] (W.alloc (.cells (rqC (ri pp p.length pc (.slice iv l.length ic))).toArray 70)) fun e w' => e = .returned (.tuple #[]) ∧ GoX p pp pc l W W.heap.size fuel O w' 0 fuel) := fun W hW => by
    rw [hO]
    refine first_call W hp (hI.below hW) ?_ fuel
    obtain ⟨a, c, e1, e2, e3⟩ := hiv
    refine ⟨a, c, e1, e2, fun h0 => ?_⟩
    obtain ⟨g, o, e4, e5, e6⟩ := e3 h0
    exact ⟨g, o, e4, by have := hW.size; omega, fun j b hj => (World.cell?_of_block (hW.block g e5)).trans (e6 j b hj)⟩
  have HRX : Hid (∀ W, Below w.heap.size w W → ∀ wr st n, GoX p pp pc l W W.heap.size fuel O wr st n → ∃ gn cp ca, RndX p pp pc l W W.heap.size fuel O wr st n gn cp ca) := fun W hW wr st n hG => round_x hp (hI.below hW) hl hf hG
  have HFu : Hid (fuel ≤ 524288) := hf
  have hl1 : ¬ (65536 : Int) < l.length := by omega
  have hf1 : ¬ (fuel : Int) < 0 := by omega
  clear hp hI hiv hl hO hf
  unfold ri rqC at HFC
  obtain ⟨pl, hpl⟩ : ∃ pl, pl = p.length := ⟨_, rfl⟩
  rw [← hpl] at HFC HC ⊢
  clear hpl
  generalize l.length = ll at *
  go_enter Tryz.func14, Tryz.ntmps14
  go_wp2_with fail
  refine HC.out.mono ?_
  rintro e w1 ⟨rfl, hb1⟩
  have HB1 : Hid (Below w.heap.size w w1) := HB0.out.trans (hb1.mono HB0.out.size)
  have HX1 : Hid (Bk w1 w.heap.size 36 [.int .i64 0, .int .i64 0, .slice none 0 0, .int .i64 0]) := HX.out.below hb1
  have HS1 : Hid (w.heap.size < w1.heap.size) := HX1.out.lt
  clear hb1
  have HFC1 := HFC.out w1 HB1.out
  have HRX1 : Hid (∀ wr st n, GoX p pp pc l w1 w1.heap.size fuel O wr st n → ∃ gn cp ca, RndX p pp pc l w1 w1.heap.size fuel O wr st n gn cp ca) := HRX.out w1 HB1.out
  clear HRX HFC HC
  go_wp2_with fail
  refine HFC1.mono ?_
  rintro e w2 ⟨rfl, hG⟩
  have HL0 : Hid (LpX p pp pc l w1 w1.heap.size fuel O w2) := ⟨.inl ⟨0, fuel, hG⟩⟩
  clear hG HFC1
  go_wp2_with fail
  go_loopw [9] (fun _ wx => LpX p pp pc l w1 w1.heap.size fuel O wx) (fun _ wx => mX w1.heap.size fuel wx)
  case atStart => exact HL0.out
  case round =>
    obtain ⟨hrel⟩ := hrel
    rcases hrel with ⟨st, n, hG⟩ | hE
    · obtain ⟨gn, cp, ca, hR⟩ := HRX1.out _ _ _ hG
      have HR : Hid (RndX p pp pc l w1 w1.heap.size fuel O wr st n gn cp ca) := hR
      have r9 := hR.r9
      have r8 := hR.r8
      have r4 := hR.r4
      have z8 := hR.z8
      have lR : w1.heap.size < wr.heap.size := World.block_lt_of_cell? _ _ r9
      have HM : Hid (mX w1.heap.size fuel wr = fuel + 1 - st) := mX_go r9 r8
      have hst : st ≤ 524288 := by have := hR.sn; have := HFu.out; omega
      have ew : IntKind.i64.wrap ((st : Int) + 1) = (st : Int) + 1 := wrapI _ (by omega) (by omega)
      by_cases hn0 : n = 0
      · have hst2 : (fuel : Int) ≤ st := by have := hR.sn; omega
        have HFI : Hid (Calls Tryz.prog 32 #[.pointer (some ⟨w1.heap.size, 0, none⟩), .int .i64 2, .int .i64 0] wr fun e w' => e = .returned (.tuple #[]) ∧ EndY w1 w1.heap.size w' O) := hR.fin hn0
        clear hG hR
        go_wp2_with fail
        refine HFI.out.mono ?_
        rintro e WZ ⟨rfl, hE⟩
        have HEND : Hid (EndY w1 w1.heap.size WZ O) := hE
        clear hE r9 r8 r4 z8 HM HR HFI
        obtain ⟨r, e1, e2, e3, e4, e5, e6, e7, e8⟩ := HEND.out
        have hx : Bk WZ w.heap.size 36 [.int .i64 0, .int .i64 0, .slice none 0 0, .int .i64 0] := HX1.out.below e1
        have b9 := e3.cell (j := 9) (v := .bool true) (by rw [← e6]; rfl)
        have b5 := e3.cell (j := 5) (v := .int .i64 O.en) (by rw [← e4]; rfl)
        have b6 := e3.cell (j := 6) (v := .int .i64 O.cd) (by rw [← e5]; rfl)
        have b8 := e3.cell (j := 8) (v := .int .i64 ((O.st : Nat) : Int)) (by rw [← e7]; rfl)
        have b7 := e3.cell (j := 7) (v := r.ov) rfl
        have ho5 := own_ne e8 hx (by decide)
        obtain ⟨cg, cn, cc, hov⟩ : ∃ cg cn cc, r.ov = .slice cg cn cc := by
          obtain ⟨_, ⟨e, _⟩ | ⟨g9, cap9, cur9, e, _⟩⟩ := e8
          · exact ⟨_, _, _, e⟩
          · exact ⟨_, _, _, e⟩
        rw [hov] at b7 e8 ho5
        have x0 := hx.cell (j := 0) rfl
        have x1 := hx.cell (j := 1) rfl
        have x2 := hx.cell (j := 2) rfl
        have x3 := hx.cell (j := 3) rfl
        have zx0 := hx.fz 0
        have zx1 := hx.fz 1
        have zx2 := hx.fz 2
        have zx3 := hx.fz 3
        have HX4 : Hid (Bk ((((WZ.setCell ⟨w.heap.size, 0, none⟩ (.int .i64 O.en)).setCell ⟨w.heap.size, 1, none⟩ (.int .i64 O.cd)).setCell ⟨w.heap.size, 2, none⟩ (.slice cg cn cc)).setCell ⟨w.heap.size, 3, none⟩ (.int .i64 ((O.st : Nat) : Int))) w.heap.size 36 [.int .i64 O.en, .int .i64 O.cd, .slice cg cn cc, .int .i64 ((O.st : Nat) : Int)]) := (((hx.set 0 (.int .i64 O.en)).set 1 (.int .i64 O.cd)).set 2 (.slice cg cn cc)).set 3 (.int .i64 ((O.st : Nat) : Int))
        have HO4 : Hid (((((WZ.setCell ⟨w.heap.size, 0, none⟩ (.int .i64 O.en)).setCell ⟨w.heap.size, 1, none⟩ (.int .i64 O.cd)).setCell ⟨w.heap.size, 2, none⟩ (.slice cg cn cc)).setCell ⟨w.heap.size, 3, none⟩ (.int .i64 ((O.st : Nat) : Int))).ownsRow w.heap.size 5 1 (.slice cg cn cc) O.out.length (Lib.byteCells O.out)) := own_low (own_set (own_set (own_set (own_set e8 ho5) ho5) ho5) ho5) (by have := HS1.out; omega)
        have HB4 : Hid (Below w.heap.size w ((((WZ.setCell ⟨w.heap.size, 0, none⟩ (.int .i64 O.en)).setCell ⟨w.heap.size, 1, none⟩ (.int .i64 O.cd)).setCell ⟨w.heap.size, 2, none⟩ (.slice cg cn cc)).setCell ⟨w.heap.size, 3, none⟩ (.int .i64 ((O.st : Nat) : Int)))) := Onl.below (Nat.le_refl _) (HB1.out.trans (e1.mono HB1.out.size)) (((((Onl.of_below (Below.refl _ _)).set (S := fun b => b = w.heap.size) rfl).set rfl).set rfl).set rfl) (fun b e => by omega)
        have n1 : ¬ w1.heap.size = w.heap.size := by have := HS1.out; omega
        have n2 : ¬ w.heap.size = w1.heap.size := fun e => n1 e.symm
        clear hx e1 e2 e3 e4 e5 e6 e7 e8 ho5 hov
        go_wp2
        clear x0 x1 x2 x3 zx0 zx1 zx2 zx3 b5 b6 b7 b8 b9
        generalize ((((WZ.setCell ⟨w.heap.size, 0, none⟩ (.int .i64 O.en)).setCell ⟨w.heap.size, 1, none⟩ (.int .i64 O.cd)).setCell ⟨w.heap.size, 2, none⟩ (.slice cg cn cc)).setCell ⟨w.heap.size, 3, none⟩ (.int .i64 ((O.st : Nat) : Int))) = Wf at *
        have c0 := HX4.out.cell (j := 0) rfl
        have c1 := HX4.out.cell (j := 1) rfl
        have c2 := HX4.out.cell (j := 2) rfl
        have c3 := HX4.out.cell (j := 3) rfl
        exact bodyPost_ret (v := .tuple #[.agg #[.int .i64 O.en, .int .i64 O.cd, .slice cg cn cc, .int .i64 ((O.st : Nat) : Int)], .int .i64 0]) (by simp [results, Tryz.results14, go_sem, c0, c1, c2, c3]) rfl ⟨_, rfl, HO4.out, HB4.out⟩
      · have hst2 : ¬ (fuel : Int) ≤ st := by have := hR.sn; omega
        have HGO : Hid (Calls Tryz.prog 33 #[.pointer (some ⟨w1.heap.size, 0, none⟩)] (wr.setCell ⟨w1.heap.size, 8, none⟩ (.int .i64 ((st : Int) + 1))) fun e w' => e = .returned (.tuple #[]) ∧ (GoX p pp pc l w1 w1.heap.size fuel O w' (st + 1) (n - 1) ∨ (EndX gn w1 w1.heap.size w' O ∧ O.st ≤ st + 1))) := hR.go hn0
        have HSN : Hid (st + n = fuel) := hR.sn
        clear hG hR
        go_wp2_with fail
        refine HGO.out.mono ?_
        rintro e w3 ⟨rfl, hE⟩
        clear r9 r8 r4 z8 HR HGO
        rcases hE with hG | hE
        · obtain ⟨gn', cp', ca', hR'⟩ := HRX1.out _ _ _ hG
          have q9 := hR'.r9
          have q8 := hR'.r8
          have HL3 : Hid (LpX p pp pc l w1 w1.heap.size fuel O w3 ∧ mX w1.heap.size fuel w3 = fuel + 1 - (st + 1)) := ⟨⟨.inl ⟨_, _, hG⟩⟩, mX_go q9 q8⟩
          clear hG hR' q8
          go_wp2
          go_round
          case rel => exact HL3.out.1
          case measure => have h1 := HL3.out.2; have h2 := HM.out; have h3 := HSN.out; omega
        · obtain ⟨⟨r, cp', cc', h1, h2, h3, h4, h5, h6, h7, h8, h9⟩, hos⟩ := hE
          have q9 := h3.cell (j := 9) (v := .bool true) (by rw [← h6]; rfl)
          have q5 := h3.cell (j := 5) (v := .int .i64 O.en) (by rw [← h4]; rfl)
          have lR3 := h3.lt
          by_cases h2e : O.en = 2
          · rw [if_pos h2e] at h7
            rw [h2e] at q5
            have q4 := h3.cell (j := 4) (v := .slice cp' gn cc') (by rw [← h8 h2e]; rfl)
            have q8 := h3.cell (j := 8) (v := .int .i64 ((O.st : Int) + 1)) (by rw [← h7]; rfl)
            have y8 := h3.fz 8
            have HEY : Hid (EndY w1 w1.heap.size (w3.setCell ⟨w1.heap.size, 8, none⟩ (.int .i64 (O.st : Nat))) O) := ⟨{ r with st := (O.st : Int) }, Onl.below (Nat.le_refl _) h1 ((Onl.of_below (Below.refl _ _)).set (S := fun b => b = w1.heap.size) rfl) (fun b e => by omega), h2, h3.set 8 _, h4, h5, h6, rfl, own_set h9 (own_ne h9 h3 (by decide))⟩
            have e1 : IntKind.i64.wrap ((O.st : Int) + 1 - 1) = (O.st : Nat) := by rw [wrapI _ (by have := hst; omega) (by omega)]; omega
            have e2 : IntKind.i64.wrap (O.st : Int) = (O.st : Nat) := wrapI _ (by omega) (by omega)
            have HM9 : Hid (mX w1.heap.size fuel (w3.setCell ⟨w1.heap.size, 8, none⟩ (.int .i64 (O.st : Nat))) = 0) := mX_end ((Bk.set h3 8 (.int .i64 (O.st : Nat))).cell (j := 9) (v := .bool true) (by rw [← h6]; rfl))
            clear h1 h2 h3 h4 h5 h6 h7 h8 h9
            go_wp2
            exact ⟨⟨.inr HEY.out⟩, by have h1 := HM9.out; have h2 := HM.out; have h3 := HSN.out; omega⟩
          · have HEY : Hid (EndY w1 w1.heap.size w3 O) := ⟨r, h1, h2, h3, h4, h5, h6, by rw [h7, if_neg h2e, Int.add_zero], h9⟩
            have h2i : ¬ O.en = 2 := h2e
            have HL3 : Hid (LpX p pp pc l w1 w1.heap.size fuel O w3 ∧ mX w1.heap.size fuel w3 = 0) := ⟨⟨.inr HEY.out⟩, mX_end q9⟩
            clear h1 h2 h3 h4 h5 h6 h7 h8 h9
            go_wp2
            go_round
            case rel => exact HL3.out.1
            case measure => have h1 := HL3.out.2; have h2 := HM.out; have h3 := HSN.out; omega
    · have HEND : Hid (EndY w1 w1.heap.size wr O) := hE
      clear hE
      obtain ⟨r, e1, e2, e3, e4, e5, e6, e7, e8⟩ := HEND.out
      have hx : Bk wr w.heap.size 36 [.int .i64 0, .int .i64 0, .slice none 0 0, .int .i64 0] := HX1.out.below e1
      have b9 := e3.cell (j := 9) (v := .bool true) (by rw [← e6]; rfl)
      have b5 := e3.cell (j := 5) (v := .int .i64 O.en) (by rw [← e4]; rfl)
      have b6 := e3.cell (j := 6) (v := .int .i64 O.cd) (by rw [← e5]; rfl)
      have b8 := e3.cell (j := 8) (v := .int .i64 ((O.st : Nat) : Int)) (by rw [← e7]; rfl)
      have b7 := e3.cell (j := 7) (v := r.ov) rfl
      have ho5 := own_ne e8 hx (by decide)
      obtain ⟨cg, cn, cc, hov⟩ : ∃ cg cn cc, r.ov = .slice cg cn cc := by
        obtain ⟨_, ⟨e, _⟩ | ⟨g9, cap9, cur9, e, _⟩⟩ := e8
        · exact ⟨_, _, _, e⟩
        · exact ⟨_, _, _, e⟩
      rw [hov] at b7 e8 ho5
      have x0 := hx.cell (j := 0) rfl
      have x1 := hx.cell (j := 1) rfl
      have x2 := hx.cell (j := 2) rfl
      have x3 := hx.cell (j := 3) rfl
      have zx0 := hx.fz 0
      have zx1 := hx.fz 1
      have zx2 := hx.fz 2
      have zx3 := hx.fz 3
      have HX4 : Hid (Bk ((((wr.setCell ⟨w.heap.size, 0, none⟩ (.int .i64 O.en)).setCell ⟨w.heap.size, 1, none⟩ (.int .i64 O.cd)).setCell ⟨w.heap.size, 2, none⟩ (.slice cg cn cc)).setCell ⟨w.heap.size, 3, none⟩ (.int .i64 ((O.st : Nat) : Int))) w.heap.size 36 [.int .i64 O.en, .int .i64 O.cd, .slice cg cn cc, .int .i64 ((O.st : Nat) : Int)]) := (((hx.set 0 (.int .i64 O.en)).set 1 (.int .i64 O.cd)).set 2 (.slice cg cn cc)).set 3 (.int .i64 ((O.st : Nat) : Int))
      have HO4 : Hid (((((wr.setCell ⟨w.heap.size, 0, none⟩ (.int .i64 O.en)).setCell ⟨w.heap.size, 1, none⟩ (.int .i64 O.cd)).setCell ⟨w.heap.size, 2, none⟩ (.slice cg cn cc)).setCell ⟨w.heap.size, 3, none⟩ (.int .i64 ((O.st : Nat) : Int))).ownsRow w.heap.size 5 1 (.slice cg cn cc) O.out.length (Lib.byteCells O.out)) := own_low (own_set (own_set (own_set (own_set e8 ho5) ho5) ho5) ho5) (by have := HS1.out; omega)
      have HB4 : Hid (Below w.heap.size w ((((wr.setCell ⟨w.heap.size, 0, none⟩ (.int .i64 O.en)).setCell ⟨w.heap.size, 1, none⟩ (.int .i64 O.cd)).setCell ⟨w.heap.size, 2, none⟩ (.slice cg cn cc)).setCell ⟨w.heap.size, 3, none⟩ (.int .i64 ((O.st : Nat) : Int)))) := Onl.below (Nat.le_refl _) (HB1.out.trans (e1.mono HB1.out.size)) (((((Onl.of_below (Below.refl _ _)).set (S := fun b => b = w.heap.size) rfl).set rfl).set rfl).set rfl) (fun b e => by omega)
      have n1 : ¬ w1.heap.size = w.heap.size := by have := HS1.out; omega
      have n2 : ¬ w.heap.size = w1.heap.size := fun e => n1 e.symm
      clear hx e1 e2 e3 e4 e5 e6 e7 e8 ho5 hov
      go_wp2
      clear x0 x1 x2 x3 zx0 zx1 zx2 zx3 b5 b6 b7 b8 b9
      generalize ((((wr.setCell ⟨w.heap.size, 0, none⟩ (.int .i64 O.en)).setCell ⟨w.heap.size, 1, none⟩ (.int .i64 O.cd)).setCell ⟨w.heap.size, 2, none⟩ (.slice cg cn cc)).setCell ⟨w.heap.size, 3, none⟩ (.int .i64 ((O.st : Nat) : Int))) = Wf at *
      have c0 := HX4.out.cell (j := 0) rfl
      have c1 := HX4.out.cell (j := 1) rfl
      have c2 := HX4.out.cell (j := 2) rfl
      have c3 := HX4.out.cell (j := 3) rfl
      exact bodyPost_ret (v := .tuple #[.agg #[.int .i64 O.en, .int .i64 O.cd, .slice cg cn cc, .int .i64 ((O.st : Nat) : Int)], .int .i64 0]) (by simp [results, Tryz.results14, go_sem, c0, c1, c2, c3]) rfl ⟨_, rfl, HO4.out, HB4.out⟩
end
section
open Go.RowKit Go.Shelf
set_option maxRecDepth 20000
def fewI (n : Int) : Int := min n 5000
theorem few6 (w : World) (n : Int) : Calls Tryz.prog 12 #[.int .i64 n] w fun e w' => e = .returned (.int .i64 (fewI n)) ∧ w' = w := by
  go_enter Tryz.func12, Tryz.ntmps12
  go_wp2
  go_ret
  exact ⟨rfl, rfl⟩
end
section
open Go.RowKit Go.Shelf
set_option maxRecDepth 20000
set_option maxHeartbeats 4000000
/-- A row of bytes that can be read. -/
def BytV (W : World) (v : Value) (l : List UInt8) : Prop := ∃ a c, v = .slice a l.length c ∧ l.length ≤ c ∧ c ≤ maxLen ∧ (a = none → c = 0) ∧ ∀ A, a = some A → ∃ g o, A = ⟨g, o, none⟩ ∧ ∀ (j : Nat) (b : UInt8), l[j]? = some b → W.cell? ⟨g, o + j, none⟩ = some (.int .u8 b.toNat)
theorem BytV.below {W W' : World} {v : Value} {l : List UInt8} (h : BytV W v l) (hb : Below W.heap.size W W') : BytV W' v l := by
  obtain ⟨a, c, e, h1, h2, h3, h4⟩ := h
  refine ⟨a, c, e, h1, h2, h3, fun A hA => ?_⟩
  obtain ⟨g, o, e2, h5⟩ := h4 A hA
  exact ⟨g, o, e2, fun j b hj => (World.cell?_of_block (hb.block g (World.block_lt_of_cell? _ _ (h5 j b hj)))).trans (h5 j b hj)⟩
theorem byt_own {W : World} {B : Nat} {v : Value} {l : List UInt8} (h : W.ownsRow B 5 1 v l.length (Lib.byteCells l)) : BytV W v l := by
  have hO := h
  obtain ⟨hn, ⟨e, h0⟩ | ⟨g, cap, cur, e, _, hg, h1, h2, _, h4⟩⟩ := h
  · have : l = [] := List.length_eq_zero_iff.1 h0
    subst this
    exact ⟨none, 0, e, Nat.le_refl _, Nat.zero_le _, fun _ => rfl, fun A h => by cases h⟩
  · refine ⟨_, cap, e, h1, h2, (fun h => by cases h), fun A hA => ?_⟩
    cases hA
    refine ⟨g, 0, rfl, fun j b hj => ?_⟩
    rw [Nat.zero_add]
    exact own_cell hO e (by simp [Lib.byteCells, hj])
theorem byt_str {W : World} {v : Value} {l : List UInt8} (h : BytV W v l) : (convert 33 9 v).run Tryz.prog W = .ok (.string ⟨l.toArray⟩) W := by
  obtain ⟨a, c, rfl, h1, h2, h3, h4⟩ := h
  cases a with
  | none =>
    have h3 := h3 rfl
    have : l = [] := List.length_eq_zero_iff.1 (by omega)
    subst this
    show (convert 33 9 (.slice none 0 c)).run Tryz.prog W = _
    rw [run_convert_bytes_string W 33 9 5 none 0 c Tryz.underlying33 Tryz.underlying5 Tryz.underlying9]
    simp [Conv.bytesToString]
    rfl
  | some A =>
    obtain ⟨g, o, rfl, h5⟩ := h4 A rfl
    exact run_convert_bytes_back W 33 9 5 ⟨g, o, none⟩ c l Tryz.underlying33 Tryz.underlying5 Tryz.underlying9 (fun j hj => by rw [Addr.add_lit]; exact h5 j _ (List.getElem?_eq_getElem hj))
theorem below_two (o1 o2 : Obj) (w : World) : Below w.heap.size w ((w.alloc o1).alloc o2) := by
  have h : Below w.heap.size w (w.alloc o1) := (Below.refl _ _).alloc (Nat.le_refl _) o1
  exact h.alloc h.size o2
/-- The same bytes. -/
theorem same15 (l : List UInt8) (a b : Value) (w : World) (ha : BytV w a l) (hb : BytV w b l) : Calls Tryz.prog 34 #[a, b] w fun e w' => e = .returned (.bool true) ∧ w' = w := by
  have h1 := byt_str ha
  have h2 := byt_str hb
  clear ha hb
  go_enter Tryz.func34, Tryz.ntmps34
  go_wp2
  go_ret
  exact ⟨rfl, rfl⟩
/-- A beginning of bytes. -/
theorem same10 (l : List UInt8) (x y z : Int) (a b : Value) (w : World) (ha : BytV w a l) (hb : BytV w b l) : Calls Tryz.prog 15 #[.agg #[.int .i64 x, .int .i64 y, a, .int .i64 z], .agg #[.int .i64 x, .int .i64 y, b, .int .i64 z]] w fun e w' => e = .returned (.bool true) ∧ Below w.heap.size w w' := by
  have HK : Hid (∀ W, Below w.heap.size w W → Calls Tryz.prog 34 #[a, b] W fun e w' => e = .returned (.bool true) ∧ w' = W) := fun W h => same15 l a b W (ha.below h) (hb.below h)
  clear ha hb
  go_enter Tryz.func15, Tryz.ntmps15
  go_wp2_with fail
  refine (HK.out _ (below_two _ _ w)).mono ?_
  rintro e w1 ⟨rfl, rfl⟩
  go_wp2
  go_ret
  exact ⟨rfl, below_two _ _ w⟩
end
section
open Go.ChangeShapes Go.WideShapes Go.ChangeAt Go.RowKit Go.Deep Go.Joins
theorem own : ownKnob Tryz.prog.godebug = none := by kernel_rfl
/-- What the row lists. -/
def laidL : List (String × DataW Unit) := [("math/bits.deBruijn32tab", Rows.laid_math_bits_deBruijn32tab), ("math/bits.deBruijn64tab", Rows.laid_math_bits_deBruijn64tab), ("internal/strconv.uint64pow10", Rows.laid_internal_strconv_uint64pow10), ("patina/lir.forms", Rows.laid_patina_lir_forms)]
theorem laid_plain {W : World} (h : laidMetH Tryz.prog laidL W) : laidMet Tryz.prog laidL W := h
theorem gFor : Tryz.prog.globalNamed "patina/lir.forms" = some 0 := by kernel_rfl
theorem tFor : (Tryz.prog.globals[0]?).map (·.type) = some 155 := by kernel_rfl
theorem c155 : Tryz.prog.cellsOf 155 = 24 := by kernel_rfl
theorem c154 : Tryz.prog.cellsOf 154 = 2 := by kernel_rfl
theorem c9 : Tryz.prog.cellsOf 9 = 1 := by kernel_rfl
theorem f154 : ∃ fs, Tryz.prog.underlying 154 = some (.struct fs) ∧ (fs[1]?).map (fun f => (f.type, f.offset)) = some (9, 1) := ⟨_, Tryz.underlying154, by kernel_rfl⟩
/-- The second text of the i-th form. -/
theorem form_at {W : World} {fuel : Nat} {cs : List Value} {ds : List (DataW Unit)} {p : List MemPlace} (h : DataW.trod (fun _ => ()) Tryz.prog W 0 (fun _ => true) false fuel 155 cs = some (.agg ds, p)) (i : Nat) (hi : i < 12) (d0 : DataW Unit) (z : List UInt8) (hd : ds[i]? = some (.agg [d0, .lit (.string z)])) : cs[2 * i + 1]? = some (.string ⟨z.toArray⟩) := by
  cases fuel with
  | zero => simp [DataW.trod] at h
  | succ fuel =>
    simp only [DataW.trod, Tryz.underlying155, c154, c155] at h
    split at h
    · rename_i hl
      obtain ⟨xs, hm, hx⟩ := Option.map_eq_some_iff.1 h
      have hxs : xs.map (·.1) = ds := by
        have := congrArg Prod.fst hx
        simpa using this
      obtain ⟨b, hb, hf⟩ := Lib.mapM_at hm i i (by simp [hi])
      obtain ⟨fs, hu, hfs⟩ := f154
      obtain ⟨ys, n, -, hy, -, -, hk⟩ := DataW.trod_struct hu hf
      obtain ⟨fl, hfl, hfe⟩ := Option.map_eq_some_iff.1 hfs
      have h1 := hk 1 fl hfl
      have hb' : b.1 = .agg [d0, .lit (.string z)] := by
        have : (xs.map (·.1))[i]? = some b.1 := by simp [hb]
        rw [hxs, hd] at this
        exact (Option.some.inj this).symm
      rw [hy] at hb'
      have hys : (ys.map (·.1))[1]? = some (.lit (.string z)) := by
        have := DataW.agg.inj hb'
        rw [this]
        rfl
      simp only [List.getElem?_map, Option.map_eq_some_iff] at hys
      obtain ⟨y, hy1, hy2⟩ := hys
      rw [hy1] at h1
      have e1 : fl.type = 9 := congrArg Prod.fst hfe
      have e2 : fl.offset = 1 := congrArg Prod.snd hfe
      rw [e1, e2] at h1
      obtain ⟨s, hc, rfl, _⟩ := DataW.trod_string Tryz.underlying9 h1
      have hz : s.data.toList = z := by
        have := hy2
        simpa using this
      have hcs : cs[2 * i + 1]? = some (.string s) := by
        have t := congrArg (·[0]?) hc
        rw [c9] at t
        simp [List.getElem?_drop] at t
        rw [show 2 * i + 1 = i * 2 + 1 by omega]
        exact t
      rw [hcs, ← hz]
    · cases h
theorem tfOf {W : World} (h : laidMetH Tryz.prog laidL W) : Tfa W := by
  have hm := laid_plain h
  obtain ⟨g, t, cs, fuel, p, hg, ht, hv, hd⟩ := Lib.laidMet.reads hm (n := "patina/lir.forms") (d := Rows.laid_patina_lir_forms) (by simp [laidL])
  obtain rfl := Option.some.inj (gFor.symm.trans hg)
  obtain rfl := Option.some.inj (tFor.symm.trans ht)
  have k : ∀ i d0 z, i < 12 → (match (Rows.laid_patina_lir_forms : DataW Unit) with | .agg ds => ds[i]? | _ => none) = some (.agg [d0, .lit (.string z)]) → W.cell? ⟨0, 2 * i + 1, none⟩ = some (.string ⟨z.toArray⟩) := fun i d0 z hi hds => by
    rw [World.var?_cell gFor hv, ← Array.getElem?_toList]
    exact form_at hd i hi d0 z hds
  have k1 := k 1 _ [68, 78] (by omega) rfl
  have k2 := k 2 _ [68, 65] (by omega) rfl
  have k3 := k 3 _ [68, 83, 65, 66] (by omega) rfl
  have k4 := k 4 _ [68, 65, 78] (by omega) rfl
  have k5 := k 5 _ [65, 78, 66] (by omega) rfl
  have k6 := k 6 _ [68, 78] (by omega) rfl
  have k7 := k 7 _ [68, 83, 82] (by omega) rfl
  have k8 := k 8 _ [84] (by omega) rfl
  have k9 := k 9 _ [65, 84, 69] (by omega) rfl
  have k10 := k 10 _ [65] (by omega) rfl
  have k11 := k 11 _ [78] (by omega) rfl
  refine ⟨fun i h1 h2 => ?_, World.block_lt_of_cell? _ _ k1⟩
  obtain rfl | rfl | rfl | rfl | rfl | rfl | rfl | rfl | rfl | rfl | rfl : i = 1 ∨ i = 2 ∨ i = 3 ∨ i = 4 ∨ i = 5 ∨ i = 6 ∨ i = 7 ∨ i = 8 ∨ i = 9 ∨ i = 10 ∨ i = 11 := by omega
  · exact k1
  · exact k2
  · exact k3
  · exact k4
  · exact k5
  · exact k6
  · exact k7
  · exact k8
  · exact k9
  · exact k10
  · exact k11
/-- A world for the witness: what the initialisers lay. -/
noncomputable def laidWorld (os : Os) : World := World.doorLaid Tryz.prog 210 os
end
section
open Go.ChangeShapes Go.WideShapes Go.ChangeAt Go.RowKit Go.Deep Go.Joins
theorem gPow : Tryz.prog.globalNamed "internal/strconv.uint64pow10" = some 1 := by kernel_rfl
theorem pow_eq : (Rows.laid_internal_strconv_uint64pow10 : DataW Unit) = Lib.tabData .u64 Lib.pow10Tab := by kernel_rfl
theorem tPow : (Tryz.prog.globals[1]?).map (·.type) = some 209 := by kernel_rfl
theorem cPow : Tryz.prog.cellsOf 209 = 20 := by kernel_rfl
theorem cElt : Tryz.prog.cellsOf 86 = 1 := by kernel_rfl
theorem powOf {W : World} (h : laidMetH Tryz.prog laidL W) : PwT W := by
  have hm := laid_plain h
  have u3 : Lib.VarReads Tryz.prog W "internal/strconv.uint64pow10" (Lib.tabData .u64 Lib.pow10Tab) := by
    rw [← pow_eq]
    exact Lib.laidMet.reads hm (by simp [laidL])
  obtain ⟨g, t, cs, fuel, p, hg, ht, hv, hd⟩ := u3
  obtain rfl := Option.some.inj (gPow.symm.trans hg)
  obtain rfl := Option.some.inj (tPow.symm.trans ht)
  have hc := Lib.cells_of_tab Tryz.underlying209 Tryz.underlying86 cElt cPow hd
  have hT : Lib.TabIs Tryz.prog W "internal/strconv.uint64pow10" .u64 Lib.pow10Tab := by
    unfold Lib.TabIs
    rw [hv, ← hc]
  exact Lib.tabBelow_of_tabIs hT
end
section
open Go.RowKit Go.Shelf
set_option maxRecDepth 100000
set_option maxHeartbeats 2000000
/-- The little program. -/
def p7 (y x z : Nat) : List Fun := [⟨⟨⟨#[109, 97, 105, 110]⟩, 0, 1, 0, some ⟨y, 0, none⟩, 1, 1⟩, [⟨some ⟨x, 0, none⟩, 3, [⟨1, 0, 0, 0, 7, ⟨#[]⟩, none, 0, [], 0, 0⟩, ⟨7, -1, 0, 0, 0, ⟨#[114, 116, 46, 112, 114, 105, 110, 116]⟩, some ⟨z, 0, none⟩, 1, [0], 0, 0⟩, ⟨10, 0, -1, 0, 0, ⟨#[]⟩, none, 0, [], 0, 0⟩]⟩]⟩]
theorem p7_fun (w : World) (p y x z : Nat) (h : Pr w p y x z) : FunA w (some ⟨p, 0, none⟩) 1 (p7 y x z) := by
  have c1 : (1 : Nat) ≤ 9223372036854775807 := by decide
  have c3 : (3 : Nat) ≤ 9223372036854775807 := by decide
  have c0 : (0 : Nat) ≤ 9223372036854775807 := by decide
  have m4 : (4 : Nat) ≤ maxLen := by decide
  have m8 : (8 : Nat) ≤ maxLen := by decide
  have m0 : (0 : Nat) ≤ maxLen := by decide
  refine ⟨Nat.le_refl _, by omega, fun f hf => ?_, fun _ => ⟨p, 0, rfl, fun j f hj t v ht => ?_⟩⟩
  · obtain rfl := List.mem_singleton.1 hf
    refine ⟨rfl, m4, Nat.le_refl _, c1, fun b hb => ?_, fun _ => ⟨y, 0, rfl, fun j b hj => ?_⟩⟩
    · obtain rfl := List.mem_singleton.1 hb
      refine ⟨Nat.le_refl _, c3, fun i hi => ?_, fun _ => ⟨x, 0, rfl, fun j i hj t v ht => ?_⟩⟩
      · rcases (by simpa using hi) with rfl | rfl | rfl
        · exact ⟨⟨Nat.le_refl _, c0, fun h => absurd h (Nat.lt_irrefl 0)⟩, m0⟩
        · refine ⟨⟨Nat.le_refl _, c1, fun _ => ⟨z, 0, rfl, fun j y hj => ?_⟩⟩, m8⟩
          match j, hj with
          | 0, hj => cases hj; exact h.ib.ar
        · exact ⟨⟨Nat.le_refl _, c0, fun h => absurd h (Nat.lt_irrefl 0)⟩, m0⟩
      · rw [Nat.zero_add]
        match j, hj with
        | 0, hj =>
          cases hj
          exact h.ib.at_ (0 * 9 + t) v (by match t, ht with | 0, ht | 1, ht | 2, ht | 3, ht | 4, ht | 5, ht | 6, ht | 7, ht | 8, ht => exact ht)
        | 1, hj =>
          cases hj
          exact h.ib.at_ (1 * 9 + t) v (by match t, ht with | 0, ht | 1, ht | 2, ht | 3, ht | 4, ht | 5, ht | 6, ht | 7, ht | 8, ht => exact ht)
        | 2, hj =>
          cases hj
          exact h.ib.at_ (2 * 9 + t) v (by match t, ht with | 0, ht | 1, ht | 2, ht | 3, ht | 4, ht | 5, ht | 6, ht | 7, ht | 8, ht => exact ht)
    · match j, hj with
      | 0, hj => cases hj; exact h.by_
  · match j, hj with
    | 0, hj =>
      cases hj
      match t, ht with
      | 0, ht => cases ht; exact h.f0
      | 1, ht => cases ht; exact h.f1
      | 2, ht => cases ht; exact h.f2
      | 3, ht => cases ht; exact h.f3
      | 4, ht => cases ht; exact h.f4
theorem p7_pr (y x z : Nat) : PrF (p7 y x z) := ⟨by rfl, fun f hf b hb i hi => by
  obtain rfl := List.mem_singleton.1 hf
  obtain rfl := List.mem_singleton.1 hb
  rcases (by simpa using hi) with rfl | rfl | rfl <;> (unfold I64; simp), fun f hf => by
  obtain rfl := List.mem_singleton.1 hf
  rfl⟩
theorem itoa7 : Lib.itoa 7 = [55] := by
  unfold Lib.itoa
  rw [if_neg (by decide)]
  show Lib.decDigits 7 = _
  rw [Lib.decDigits]
  rfl
theorem p7_9 (y x z : Nat) : runP (p7 y x z) [] 9 = ⟨1, 0, [55, 10], 3⟩ := by
  have h : runP (p7 y x z) [] 9 = ⟨1, 0, [] ++ (Lib.itoa 7 ++ [10]), 3⟩ := rfl
  rw [h, itoa7]
  rfl
theorem p7_2 (y x z : Nat) : runP (p7 y x z) [] 2 = ⟨2, 0, [55, 10], 2⟩ := by
  have h : runP (p7 y x z) [] 2 = ⟨2, 0, [] ++ (Lib.itoa 7 ++ [10]), 2⟩ := rfl
  rw [h, itoa7]
  rfl
theorem sevenX (w : World) : Calls Tryz.prog 29 #[] w fun e w' => ∃ p y x z, e = .returned (.slice (some ⟨p, 0, none⟩) 1 1) ∧ Pr w' p y x z ∧ Below w.heap.size w w' := by
  go_enter Tryz.func29, Tryz.ntmps29
  go_wp2
  go_ret
  refine ⟨w.heap.size + 1 + 1 + 1, w.heap.size + 1 + 1, w.heap.size + 1, w.heap.size, rfl, ?_, ?_⟩
  · refine ⟨by go_simp, by go_simp, by go_simp, by go_simp, by go_simp, by go_simp, ⟨?_, by go_simp, by simp, by simp; omega⟩, by simp, by simp⟩
    intro j v hj
    have t := ((Cl.new (w.alloc (.cells #[.int .i64 0] 3)) (insL w.heap.size) 54).alloc (.cells #[.slice (some ⟨w.heap.size + 1, 0, none⟩) 3 3] 49)).alloc (.cells #[.string ⟨#[109, 97, 105, 110]⟩, .int .i64 0, .int .i64 1, .int .i64 0, .slice (some ⟨w.heap.size + 1 + 1, 0, none⟩) 1 1] 27)
    rw [show (w.alloc (.cells #[.int .i64 0] 3)).heap.size = w.heap.size + 1 by simp] at t
    exact t.cell hj
  · exact ((((G.refl w).alloc _).alloc _).alloc _ |>.alloc _).below
end
end Go.Proofs.YtdppoblbenbafaaGreatDoor
