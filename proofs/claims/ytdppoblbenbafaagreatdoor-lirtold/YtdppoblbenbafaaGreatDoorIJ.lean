/- Any function, looked at. Any program, looked at: its functions, as they lie. -/
import Derived.Test.YtdppoblbenbafaaGreatDoorII
import Derived.Test.YtdppoblbenbafaaGreatDoorAA
import Derived.Test.YtdppoblbenbafaaGreatDoorB2
namespace Go.Proofs.YtdppoblbenbafaaGreatDoor
section
open Go.RowKit Go.Shelf
/-- A block: where its instructions lie, how many fit there, which they are. -/
structure Blk where
  xo : Option Addr
  xc : Nat
  l : List Ins
/-- Blocks, as they lie. -/
def BlkA (W : World) (ba : Option Addr) (bc : Nat) (l : List Blk) : Prop := l.length ≤ bc ∧ bc ≤ 9223372036854775807 ∧ (∀ b ∈ l, InsA W b.xo b.xc b.l) ∧ (0 < l.length → ∃ g o, ba = some ⟨g, o, none⟩ ∧ ∀ (j : Nat) (b : Blk), l[j]? = some b → W.cell? ⟨g, o + j, none⟩ = some (.slice b.xo b.l.length b.xc))
theorem BlkA.below {W W' : World} {ba : Option Addr} {bc : Nat} {l : List Blk} (h : BlkA W ba bc l) (hb : Below W.heap.size W W') : BlkA W' ba bc l := by
  refine ⟨h.1, h.2.1, fun b hm => (h.2.2.1 b hm).below hb, fun hl => ?_⟩
  obtain ⟨g, o, e, hc⟩ := h.2.2.2 hl
  exact ⟨g, o, e, fun j b hj => by rw [hb.cell (p := ⟨g, o + j, none⟩) (World.block_lt_of_cell? _ _ (hc j b hj))]; exact hc j b hj⟩
def blsB (f : Fnh) (fd : ByteArray → Option (Option Int)) (l : List Blk) : Bool := l.all fun b => blkB f fd b.l
/-- Is a function right? -/
def fnB (f : Fnh) (fd : ByteArray → Option (Option Int)) (l : List Blk) : Bool := nmB f.nm.data.toList && (witB f.pa 0 7 && (witB f.rg f.pa 4096 && (witB f.fr 0 4096 && (witB f.bl 1 1024 && blsB f fd l))))
theorem blsB_at (f : Fnh) (fd : ByteArray → Option (Option Int)) {l : List Blk} {j : Nat} {b : Blk} (h : l[j]? = some b) : blsB f fd (l.drop j) = (blkB f fd b.l && blsB f fd (l.drop (j + 1))) := by
  obtain ⟨hj, e⟩ := List.getElem?_eq_some_iff.1 h
  rw [List.drop_eq_getElem_cons hj, e]
  rfl
set_option maxRecDepth 20000 in
set_option maxHeartbeats 8000000 in
theorem function38g (f : Fnh) (m : Nat) (po : Option Nat) (fd : ByteArray → Option (Option Int)) (l : List Blk) (w : World) (hl : f.bl = l.length) (hs : f.nm.size ≤ maxLen) (hT : Tfa w) (hI : BlkA w f.ba f.bc l) (hm : w.heap[m]? = some (.map oes 14)) (hp : ∀ b ∈ l, ∀ i ∈ b.l, PmA w (.map po) i.nm (fd i.nm)) : Calls Tryz.prog 24 #[.agg #[.map (some m), .map po], fnhV f] w fun e w' => e = .returned (.bool (fnB f fd l)) ∧ G w w' := by
  have HT : Hid (Tfa w) := hT
  have HI : Hid (BlkA w f.ba f.bc l) := hI
  have HM : Hid (w.heap[m]? = some (.map oes 14)) := hm
  have HP : Hid (∀ b ∈ l, ∀ i ∈ b.l, PmA w (.map po) i.nm (fd i.nm)) := hp
  have HN : Hid (f.bl = l.length) := hl
  have hxc : f.bl ≤ f.bc := by have := hI.1; omega
  have hxc2 := hI.2.1
  have HV : Hid (fnB f fd l = (nmB f.nm.data.toList && (witB f.pa 0 7 && (witB f.rg f.pa 4096 && (witB f.fr 0 4096 && (witB f.bl 1 1024 && blsB f fd l)))))) := rfl
  clear hT hI hm hp hl
  have h46 := fun W => nameRight46 f.nm W hs
  have w1 := within47 f.pa 0 7
  have w2 := within47 f.rg f.pa 4096
  have w3 := within47 f.fr 0 4096
  have w4 := within47 f.bl 1 1024
  clear hs
  generalize fnB f fd l = R at *
  unfold fnhV
  generalize nmB f.nm.data.toList = X0 at *
  generalize witB f.pa 0 7 = X1 at *
  generalize witB f.rg f.pa 4096 = X2 at *
  generalize witB f.fr 0 4096 = X3 at *
  cases X0 with
  | false =>
    have HE : Hid (false = R) := by show _ = _; rw [HV.out]; rfl
    go_enter Tryz.func24, Tryz.ntmps24
    go_wp2_with (first | (go_at_call 59; refine (h46 _).mono ?_; rintro e w' ⟨rfl, rfl⟩) | (go_at_call 60; (first | (with_reducible refine (w1 _).mono ?_) | (with_reducible refine (w2 _).mono ?_) | (with_reducible refine (w3 _).mono ?_) | (with_reducible refine (w4 _).mono ?_)); rintro e w' ⟨rfl, rfl⟩))
    go_ret
    exact ⟨ret_bool HE.out, ((G.refl _).alloc _).alloc _⟩
  | true =>
    cases X1 with
    | false =>
      have HE : Hid (false = R) := by show _ = _; rw [HV.out]; rfl
      go_enter Tryz.func24, Tryz.ntmps24
      go_wp2_with (first | (go_at_call 59; refine (h46 _).mono ?_; rintro e w' ⟨rfl, rfl⟩) | (go_at_call 60; (first | (with_reducible refine (w1 _).mono ?_) | (with_reducible refine (w2 _).mono ?_) | (with_reducible refine (w3 _).mono ?_) | (with_reducible refine (w4 _).mono ?_)); rintro e w' ⟨rfl, rfl⟩))
      go_ret
      exact ⟨ret_bool HE.out, ((G.refl _).alloc _).alloc _⟩
    | true =>
      cases X2 with
      | false =>
        have HE : Hid (false = R) := by show _ = _; rw [HV.out]; rfl
        go_enter Tryz.func24, Tryz.ntmps24
        go_wp2_with (first | (go_at_call 59; refine (h46 _).mono ?_; rintro e w' ⟨rfl, rfl⟩) | (go_at_call 60; (first | (with_reducible refine (w1 _).mono ?_) | (with_reducible refine (w2 _).mono ?_) | (with_reducible refine (w3 _).mono ?_) | (with_reducible refine (w4 _).mono ?_)); rintro e w' ⟨rfl, rfl⟩))
        go_ret
        exact ⟨ret_bool HE.out, ((G.refl _).alloc _).alloc _⟩
      | true =>
        cases X3 with
        | false =>
          have HE : Hid (false = R) := by show _ = _; rw [HV.out]; rfl
          go_enter Tryz.func24, Tryz.ntmps24
          go_wp2_with (first | (go_at_call 59; refine (h46 _).mono ?_; rintro e w' ⟨rfl, rfl⟩) | (go_at_call 60; (first | (with_reducible refine (w1 _).mono ?_) | (with_reducible refine (w2 _).mono ?_) | (with_reducible refine (w3 _).mono ?_) | (with_reducible refine (w4 _).mono ?_)); rintro e w' ⟨rfl, rfl⟩))
          go_ret
          exact ⟨ret_bool HE.out, ((G.refl _).alloc _).alloc _⟩
        | true =>
          cases hw : witB f.bl 1 1024 with
          | false =>
            rw [hw] at w4
            have HE : Hid (false = R) := by show _ = _; rw [HV.out, hw]; rfl
            clear hw
            go_enter Tryz.func24, Tryz.ntmps24
            go_wp2_with (first | (go_at_call 59; refine (h46 _).mono ?_; rintro e w' ⟨rfl, rfl⟩) | (go_at_call 60; (first | (with_reducible refine (w1 _).mono ?_) | (with_reducible refine (w2 _).mono ?_) | (with_reducible refine (w3 _).mono ?_) | (with_reducible refine (w4 _).mono ?_)); rintro e w' ⟨rfl, rfl⟩))
            go_ret
            exact ⟨ret_bool HE.out, ((G.refl _).alloc _).alloc _⟩
          | true =>
            rw [hw] at w4
            have HE : Hid (R = blsB f fd l) := by show _ = _; rw [HV.out, hw]; rfl
            have hn1 : 1 ≤ f.bl ∧ f.bl ≤ 1024 := by unfold witB at hw; simp at hw; omega
            obtain ⟨hn1, hn2⟩ := hn1
            clear hw HV
            have HW : Hid (∃ W, W = (w.alloc (.cells #[.map (some m), .map po] 60)).alloc (.cells #[.string f.nm, .int .i64 f.pa, .int .i64 f.rg, .int .i64 f.fr, .slice f.ba f.bl f.bc] 27) ∧ G w W ∧ w.heap.size + 1 < W.heap.size ∧ W.cell? ⟨w.heap.size, 0, none⟩ = some (.map (some m)) ∧ W.cell? ⟨w.heap.size, 1, none⟩ = some (.map po) ∧ W.cell? ⟨w.heap.size + 1, 0, none⟩ = some (.string f.nm) ∧ W.cell? ⟨w.heap.size + 1, 1, none⟩ = some (.int .i64 f.pa) ∧ W.cell? ⟨w.heap.size + 1, 2, none⟩ = some (.int .i64 f.rg) ∧ W.cell? ⟨w.heap.size + 1, 3, none⟩ = some (.int .i64 f.fr) ∧ W.cell? ⟨w.heap.size + 1, 4, none⟩ = some (.slice f.ba f.bl f.bc)) := ⟨_, rfl, ((G.refl _).alloc _).alloc _, by simp, by go_simp, by go_simp, by go_simp, by go_simp, by go_simp, by go_simp, by go_simp⟩
            go_enter Tryz.func24, Tryz.ntmps24
            go_wp2_with (first | (go_at_call 59; refine (h46 _).mono ?_; rintro e w' ⟨rfl, rfl⟩) | (go_at_call 60; (first | (with_reducible refine (w1 _).mono ?_) | (with_reducible refine (w2 _).mono ?_) | (with_reducible refine (w3 _).mono ?_) | (with_reducible refine (w4 _).mono ?_)); rintro e w' ⟨rfl, rfl⟩))
            obtain ⟨W, hWe, hG, hWl, c0, c1, c2, c3, c4, c5, c6⟩ := HW.out
            rw [← hWe]
            have HG : Hid (G w W) := hG
            clear hWe hG HW h46 w1 w2 w3 w4
            go_loopw [41] (fun v wx => ∃ j : Nat, j ≤ f.bl ∧ v = .int .i64 j ∧ G W wx ∧ R = blsB f fd (l.drop j)) (fun v _ => f.bl - (intOf v).toNat)
            case atStart => exact ⟨0, Nat.zero_le _, rfl, G.refl _, HE.out⟩
            case round =>
              obtain ⟨j, hj, rfl, hGx, hRu⟩ := hrel
              have HX : Hid (G W wr) := hGx
              have HRu : Hid (R = blsB f fd (l.drop j)) := hRu
              have HB := hGx.below
              have HBw : Hid (Below w.heap.size w wr) := (HG.out.trans hGx).below
              obtain ⟨kc, kf⟩ := bcell HB
              replace c0 := (kc _ _ (by omega)).trans c0
              replace c1 := (kc _ _ (by omega)).trans c1
              replace c2 := (kc _ _ (by omega)).trans c2
              replace c3 := (kc _ _ (by omega)).trans c3
              replace c4 := (kc _ _ (by omega)).trans c4
              replace c5 := (kc _ _ (by omega)).trans c5
              replace c6 := (kc _ _ (by omega)).trans c6
              have hwl : w.heap.size + 1 < wr.heap.size := Nat.lt_of_lt_of_le hWl HB.size
              clear kc kf HB hGx hWl hRu HE
              have f0 := acell (by omega) c0
              have f1 := acell (by omega) c1
              have f2 := acell (by omega) c2
              have f3 := acell (by omega) c3
              have f4 := acell (by omega) c4
              have f5 := acell (by omega) c5
              have f6 := acell (by omega) c6
              by_cases hlt : j < f.bl
              · obtain ⟨b, hi⟩ : ∃ b, l[j]? = some b := ⟨_, List.getElem?_eq_getElem (by have := HN.out; omega)⟩
                have hIw := HI.out.below HBw.out
                obtain ⟨g, oo, hxo, hcc⟩ := hIw.2.2.2 (by have := HN.out; omega)
                have d0 := hcc j b hi
                have hmem : b ∈ l := List.mem_of_getElem? hi
                have HU : Hid (blsB f fd (l.drop j) = (blkB f fd b.l && blsB f fd (l.drop (j + 1)))) := blsB_at f fd hi
                have hC : Hid (∀ W', G wr W' → Calls Tryz.prog 61 #[.agg #[.map (some m), .map po], .agg #[.string f.nm, .int .i64 f.pa, .int .i64 f.rg, .int .i64 f.fr, .slice f.ba f.bl f.bc], .agg #[.slice b.xo b.l.length b.xc]] W' fun e w' => e = .returned (.bool (blkB f fd b.l)) ∧ G W' w') := fun W' hW' => by
                  have hb := HBw.out.trans (hW'.below.mono HBw.out.size)
                  exact block48g f m po fd b.l b.xo b.xc W' (HT.out.below hb) ((HI.out.below hb).2.2.1 b hmem) (by rw [hb.block m (Array.getElem?_eq_some_iff.1 HM.out).1]; exact HM.out) (fun i hi => (HP.out b hmem i hi).g hb)
                generalize b.l.length = al at *
                clear hIw hcc hi hmem
                rw [hxo] at c6 f6 hC
                simp only [hxo]
                generalize blkB f fd b.l = IB at *
                cases IB with
                | false =>
                  have HE : Hid (false = R) := by show _ = _; rw [HRu.out, HU.out]; rfl
                  go_wp2_with (first | (go_at_call 61; refine (hC.out _ ((G.refl _).alloc _)).mono ?_; rintro e w' ⟨rfl, hg⟩))
                  go_ret
                  exact ⟨ret_bool HE.out, ((HG.out.trans HX.out).alloc _).trans hg⟩
                | true =>
                  have HE : Hid (R = blsB f fd (l.drop (j + 1))) := by show _ = _; rw [HRu.out, HU.out]; rfl
                  go_wp2_with (first | (go_at_call 61; refine (hC.out _ ((G.refl _).alloc _)).mono ?_; rintro e w' ⟨rfl, hg⟩))
                  go_round
                  case rel => exact ⟨j + 1, by omega, by go_num, (HX.out.alloc _).trans hg, HE.out⟩
                  case measure => simp [intOf]; omega
              · obtain rfl : j = f.bl := by omega
                have HE : Hid (true = R) := by show _ = _; rw [HRu.out, List.drop_eq_nil_of_le (by have := HN.out; omega)]; rfl
                go_wp2
                go_ret
                exact ⟨ret_bool HE.out, HG.out.trans HX.out⟩
end
section
open Go.RowKit Go.Shelf
/-- A function, with its blocks. -/
structure Fun where
  h : Fnh
  bs : List Blk
def fnC (f : Fnh) : List Value := [.string f.nm, .int .i64 f.pa, .int .i64 f.rg, .int .i64 f.fr, .slice f.ba f.bl f.bc]
/-- Functions, as they lie. -/
def FunA (W : World) (p : Option Addr) (pc : Nat) (l : List Fun) : Prop := l.length ≤ pc ∧ pc ≤ 9223372036854775807 ∧ (∀ x ∈ l, x.h.bl = x.bs.length ∧ x.h.nm.size ≤ maxLen ∧ BlkA W x.h.ba x.h.bc x.bs) ∧ (0 < l.length → ∃ g o, p = some ⟨g, o, none⟩ ∧ ∀ (j : Nat) (x : Fun), l[j]? = some x → ∀ (t : Nat) (v : Value), (fnC x.h)[t]? = some v → W.cell? ⟨g, o + j * 5 + t, none⟩ = some v)
theorem FunA.below {W W' : World} {p : Option Addr} {pc : Nat} {l : List Fun} (h : FunA W p pc l) (hb : Below W.heap.size W W') : FunA W' p pc l := by
  refine ⟨h.1, h.2.1, fun x hm => ⟨(h.2.2.1 x hm).1, (h.2.2.1 x hm).2.1, (h.2.2.1 x hm).2.2.below hb⟩, fun hl => ?_⟩
  obtain ⟨g, o, e, hc⟩ := h.2.2.2 hl
  exact ⟨g, o, e, fun j i hj t v ht => by rw [hb.cell (p := ⟨g, o + j * 5 + t, none⟩) (World.block_lt_of_cell? _ _ (hc j i hj t v ht))]; exact hc j i hj t v ht⟩
def entsF : Nat → List Fun → List MapEntry
  | _, [] => []
  | n, x :: r => { key := .string x.h.nm, val := .int .i64 x.h.pa, born := n } :: entsF (n + 1) r
theorem entsF_snoc (x : Fun) : ∀ (ps : List Fun) (n : Nat), entsF n (ps ++ [x]) = entsF n ps ++ [{ key := .string x.h.nm, val := .int .i64 x.h.pa, born := n + ps.length }]
  | [], n => by simp [entsF]
  | y :: r, n => by
    simp only [List.cons_append, entsF, entsF_snoc x r (n + 1), List.length_cons]
    rw [show n + 1 + r.length = n + (r.length + 1) by omega]
/-- The function with a name. -/
def fnOf (l : List Fun) (s : ByteArray) : Option Fun := l.find? (fun y => decide (y.h.nm = s))
theorem fnOf_none (s : ByteArray) : ∀ (ps : List Fun), fnOf ps s = none → ∀ n i, Instr.findNow .string (.string s) (entsF n ps) i = some none
  | [], _, _, _ => rfl
  | y :: r, h, n, i => by
    unfold fnOf at h
    rw [List.find?_cons] at h
    split at h
    · cases h
    · rename_i hne
      have this := fnOf_none s r h (n + 1) (i + 1)
      obtain ⟨b, hb, hiff⟩ := Go.MapKept.sameNow_of_keys (d := .string) (a := .string s) (b := .string y.h.nm) trivial trivial
      have : b = false := by
        cases b with
        | false => rfl
        | true => have t := hiff.1 rfl; simp at t hne; exact absurd t.symm hne
      subst this
      simp [entsF, Instr.findNow, *]
theorem fnOf_some (s : ByteArray) (x : Fun) : ∀ (ps : List Fun), fnOf ps s = some x → ∀ n i, ∃ j, Instr.findNow .string (.string s) (entsF n ps) i = some (some (j, .int .i64 x.h.pa))
  | [], h, _, _ => by cases h
  | y :: r, h, n, i => by
    obtain ⟨b, hb, hiff⟩ := Go.MapKept.sameNow_of_keys (d := .string) (a := .string s) (b := .string y.h.nm) trivial trivial
    unfold fnOf at h
    rw [List.find?_cons] at h
    split at h
    · rename_i he
      have e : y.h.nm = s := by simpa using he
      have : b = true := hiff.2 (by rw [e])
      subst this
      cases h
      exact ⟨i, by simp [entsF, Instr.findNow, hb]⟩
    · rename_i hne
      have : b = false := by
        cases b with
        | false => rfl
        | true => have t := hiff.1 rfl; simp at t hne; exact absurd t.symm hne
      subst this
      obtain ⟨j, hj⟩ := fnOf_some s x r h (n + 1) (i + 1)
      exact ⟨j, by simp [entsF, Instr.findNow, hb, hj]⟩
/-- How many parameters the function with a name has. -/
def fdF (l : List Fun) (s : ByteArray) : Option (Option Int) := some ((fnOf l s).map (·.h.pa))
theorem fdF_pm {W : World} {r c : Nat} (l : List Fun) (h : W.heap[r]? = some (.map (entsF 0 l).toArray c)) (s : ByteArray) : PmA W (.map (some r)) s (fdF l s) := by
  unfold fdF
  cases hf : fnOf l s with
  | none => exact ⟨r, _, c, rfl, h, fnOf_none s l hf 0 0⟩
  | some x =>
    obtain ⟨j, hj⟩ := fnOf_some s x l hf 0 0
    exact ⟨r, _, c, j, rfl, h, hj⟩
/-- Do the names of functions differ from each other and from those ahead? -/
def nodB : List Fun → List Fun → Bool
  | _, [] => true
  | a, x :: r => (fnOf a x.h.nm).isNone && nodB (a ++ [x]) r
def fnsB (fd : ByteArray → Option (Option Int)) (l : List Fun) : Bool := l.all fun x => fnB x.h fd x.bs
/-- Is a program right? -/
def prB (l : List Fun) : Bool := (decide (1 ≤ l.length) && decide (l.length ≤ 1024)) && ((l.head?.all fun x => x.h.pa == 0) && (nodB [] l && fnsB (fdF l) l))
theorem nodB_at {l : List Fun} {j : Nat} {x : Fun} (h : l[j]? = some x) : nodB (l.take j) (l.drop j) = ((fnOf (l.take j) x.h.nm).isNone && nodB (l.take (j + 1)) (l.drop (j + 1))) := by
  obtain ⟨hj, e⟩ := List.getElem?_eq_some_iff.1 h
  rw [List.drop_eq_getElem_cons hj, e, List.take_add_one, h]
  rfl
theorem fnsB_at (fd : ByteArray → Option (Option Int)) {l : List Fun} {j : Nat} {x : Fun} (h : l[j]? = some x) : fnsB fd (l.drop j) = (fnB x.h fd x.bs && fnsB fd (l.drop (j + 1))) := by
  obtain ⟨hj, e⟩ := List.getElem?_eq_some_iff.1 h
  rw [List.drop_eq_getElem_cons hj, e]
  rfl
theorem entsF_at {l : List Fun} {j : Nat} {x : Fun} (h : l[j]? = some x) : (entsF 0 (l.take j)).toArray.push { key := .string x.h.nm, val := .int .i64 x.h.pa, born := j } = (entsF 0 (l.take (j + 1))).toArray := by
  obtain ⟨hj, e⟩ := List.getElem?_eq_some_iff.1 h
  rw [List.take_add_one, h]
  have := entsF_snoc x (l.take j) 0
  rw [show (l.take j).length = j by simp; omega, Nat.zero_add] at this
  show _ = (entsF 0 (l.take j ++ [x])).toArray
  rw [this]
  simp
end
end Go.Proofs.YtdppoblbenbafaaGreatDoor
