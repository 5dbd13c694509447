/- The document's own look at a function. The document's own look at a function: its blocks. The document's own look at a function, whole; where a function stands. -/
import Derived.Test.YtdppoblbenbafaaGreatDoorYBL
import Derived.Test.YtdppoblbenbafaaGreatDoorYAB
import Derived.Test.YtdppoblbenbafaaGreatDoorYAL
namespace Go.Proofs.YtdppoblbenbafaaGreatDoor
section
open Go.RowKit Go.Shelf
set_option maxHeartbeats 8000000
set_option maxRecDepth 20000
theorem lex25 : Region.lexB .any (opsOf (Tryz.f25.body.getD .skip) 12).toArray = true := by kernel_rfl
/-- A function's box, as it lies. -/
structure Bx1 (w W : World) (f : Fnh) : Prop where
  g : G w W
  sz : w.heap.size < W.heap.size
  f0 : W.cell? ⟨w.heap.size, 0, none⟩ = some (.string f.nm)
  f1 : W.cell? ⟨w.heap.size, 1, none⟩ = some (.int .i64 f.pa)
  f2 : W.cell? ⟨w.heap.size, 2, none⟩ = some (.int .i64 f.rg)
  f3 : W.cell? ⟨w.heap.size, 3, none⟩ = some (.int .i64 f.fr)
  f4 : W.cell? ⟨w.heap.size, 4, none⟩ = some (.slice f.ba f.bl f.bc)
theorem Bx1.to {w W W' : World} {f : Fnh} (h : Bx1 w W f) (hg : G W W') : Bx1 w W' f := by
  obtain ⟨kc, _⟩ := bcell hg.below
  have s := h.sz
  exact ⟨h.g.trans hg, Nat.lt_of_lt_of_le s hg.below.size, (kc _ _ s).trans h.f0, (kc _ _ s).trans h.f1, (kc _ _ s).trans h.f2, (kc _ _ s).trans h.f3, (kc _ _ s).trans h.f4⟩
theorem bx1 (w : World) (f : Fnh) : Bx1 w (w.alloc (.cells #[.string f.nm, .int .i64 f.pa, .int .i64 f.rg, .int .i64 f.fr, .slice f.ba f.bl f.bc] 27)) f :=
  ⟨(G.refl _).alloc _, by simp, by go_simp, by go_simp, by go_simp, by go_simp, by go_simp⟩
def fdN (_ : ByteArray) : Option (Option Int) := none
theorem atN (f : Fnh) (n j : Nat) (i : Ins) : atB f fdN n j i = (fdR f i && (nuR f.fr i.op i.n i.nm.data.toList && (caR i.op i.nm.data.toList i.gs.length && (endB i.op == decide (j + 1 = n))))) := by
  have h := inR_eq f i
  unfold inR at h
  unfold atB
  rw [show fdN i.nm = none from rfl, ← h]
  generalize fdR f i = a
  generalize nuR f.fr i.op i.n i.nm.data.toList = b
  generalize caR i.op i.nm.data.toList i.gs.length = c
  generalize (endB i.op == decide (j + 1 = n)) = d
  cases a <;> cases b <;> cases c <;> cases d <;> rfl

theorem rright25_head (f : Fnh) (w : World) (hs : f.nm.size ≤ maxLen) (h : nmB f.nm.data.toList = false ∨ ¬ (0 ≤ f.pa ∧ f.pa ≤ 7 ∧ f.pa ≤ f.rg ∧ f.rg ≤ 4096 ∧ 0 ≤ f.fr ∧ f.fr ≤ 4096 ∧ 1 ≤ f.bl ∧ f.bl ≤ 1024)) : Calls Tryz.prog 25 #[fnhV f] w fun e w' => e = .returned (.bool false) ∧ G w w' := by
  have HN : Hid (∀ w, Calls Tryz.prog 62 #[.string f.nm] w fun e w' => e = .returned (.bool (nmB f.nm.data.toList)) ∧ w' = w) := fun w => rname62 f.nm w hs
  clear hs
  unfold fnhV
  generalize nmB f.nm.data.toList = X at *
  cases X with
  | false =>
    clear h
    go_enter Tryz.func25, Tryz.ntmps25
    go_wp2_with (first | (go_at_call 62; refine (HN.out _).mono ?_; rintro e w' ⟨rfl, rfl⟩))
    go_ret
    exact ⟨rfl, (G.refl _).alloc _⟩
  | true =>
    replace h : ¬ (0 ≤ f.pa ∧ f.pa ≤ 7 ∧ f.pa ≤ f.rg ∧ f.rg ≤ 4096 ∧ 0 ≤ f.fr ∧ f.fr ≤ 4096 ∧ 1 ≤ f.bl ∧ f.bl ≤ 1024) := by simpa using h
    have HH : Hid (¬ (0 ≤ f.pa ∧ f.pa ≤ 7 ∧ f.pa ≤ f.rg ∧ f.rg ≤ 4096 ∧ 0 ≤ f.fr ∧ f.fr ≤ 4096 ∧ 1 ≤ f.bl ∧ f.bl ≤ 1024)) := h
    clear h
    by_cases c0 : f.pa < 0
    case pos =>
      clear HH
      go_enter Tryz.func25, Tryz.ntmps25
      go_wp2_with (first | (go_at_call 62; refine (HN.out _).mono ?_; rintro e w' ⟨rfl, rfl⟩))
      go_ret
      exact ⟨rfl, (G.refl _).alloc _⟩
    by_cases c1 : 7 < f.pa
    case pos =>
      clear HH
      go_enter Tryz.func25, Tryz.ntmps25
      go_wp2_with (first | (go_at_call 62; refine (HN.out _).mono ?_; rintro e w' ⟨rfl, rfl⟩))
      go_ret
      exact ⟨rfl, (G.refl _).alloc _⟩
    by_cases c2 : f.rg < f.pa
    case pos =>
      clear HH
      go_enter Tryz.func25, Tryz.ntmps25
      go_wp2_with (first | (go_at_call 62; refine (HN.out _).mono ?_; rintro e w' ⟨rfl, rfl⟩))
      go_ret
      exact ⟨rfl, (G.refl _).alloc _⟩
    by_cases c3 : 4096 < f.rg
    case pos =>
      clear HH
      go_enter Tryz.func25, Tryz.ntmps25
      go_wp2_with (first | (go_at_call 62; refine (HN.out _).mono ?_; rintro e w' ⟨rfl, rfl⟩))
      go_ret
      exact ⟨rfl, (G.refl _).alloc _⟩
    by_cases c4 : f.fr < 0
    case pos =>
      clear HH
      go_enter Tryz.func25, Tryz.ntmps25
      go_wp2_with (first | (go_at_call 62; refine (HN.out _).mono ?_; rintro e w' ⟨rfl, rfl⟩))
      go_ret
      exact ⟨rfl, (G.refl _).alloc _⟩
    by_cases c5 : 4096 < f.fr
    case pos =>
      clear HH
      go_enter Tryz.func25, Tryz.ntmps25
      go_wp2_with (first | (go_at_call 62; refine (HN.out _).mono ?_; rintro e w' ⟨rfl, rfl⟩))
      go_ret
      exact ⟨rfl, (G.refl _).alloc _⟩
    by_cases c6 : (f.bl : Int) < 1
    case pos =>
      clear HH
      go_enter Tryz.func25, Tryz.ntmps25
      go_wp2_with (first | (go_at_call 62; refine (HN.out _).mono ?_; rintro e w' ⟨rfl, rfl⟩))
      go_ret
      exact ⟨rfl, (G.refl _).alloc _⟩
    by_cases c7 : 1024 < (f.bl : Int)
    case pos =>
      clear HH
      go_enter Tryz.func25, Tryz.ntmps25
      go_wp2_with (first | (go_at_call 62; refine (HN.out _).mono ?_; rintro e w' ⟨rfl, rfl⟩))
      go_ret
      exact ⟨rfl, (G.refl _).alloc _⟩
    exact absurd ⟨by omega, by omega, by omega, by omega, by omega, by omega, by omega, by omega⟩ HH.out
end
section
open Go.RowKit Go.Shelf
set_option maxHeartbeats 8000000
set_option maxRecDepth 20000
theorem rright25_body (f : Fnh) (l : List Blk) (w : World) (hs : f.nm.size ≤ maxLen) (hl : f.bl = l.length) (hI : BlkA w f.ba f.bc l) (hn : nmB f.nm.data.toList = true) (h1 : 0 ≤ f.pa) (h2 : f.pa ≤ 7) (h3 : f.pa ≤ f.rg) (h4 : f.rg ≤ 4096) (h5 : 0 ≤ f.fr) (h6 : f.fr ≤ 4096) (h7 : 1 ≤ f.bl) (h8 : f.bl ≤ 1024) : Calls Tryz.prog 25 #[fnhV f] w fun e w' => e = .returned (.bool (blsB f fdN l)) ∧ G w w' := by
  have HN : Hid (∀ w, Calls Tryz.prog 62 #[.string f.nm] w fun e w' => e = .returned (.bool true) ∧ w' = w) := fun w => by
    have t := rname62 f.nm w hs
    rw [hn] at t
    exact t
  have HI : Hid (BlkA w f.ba f.bc l) := hI
  have HL : Hid (f.bl = l.length) := hl
  have hxc : f.bl ≤ f.bc := by have := hI.1; omega
  have hxc2 := hI.2.1
  clear hs hn hI hl
  have HBX : Hid (Bx1 w (w.alloc (.cells #[.string f.nm, .int .i64 f.pa, .int .i64 f.rg, .int .i64 f.fr, .slice f.ba f.bl f.bc] 27)) f) := bx1 w f
  have HE0 : Hid (blsB f fdN l = blsB f fdN (l.drop 0)) := rfl
  have K63 : Hid (∀ (i : Ins) w, ArA w i.ar i.ac i.gs → Calls Tryz.prog 63 #[fnhV f, inV i] w fun e w' => e = .returned (.bool (fdR f i)) ∧ G w w') := fun i w h => rfields63 f i w h
  have K64 : Hid (∀ (i : Ins) w, Calls Tryz.prog 64 #[fnhV f, inV i] w fun e w' => e = .returned (.bool (nuR f.fr i.op i.n i.nm.data.toList)) ∧ G w w') := fun i w => rnumbers64 f i w
  have K65 : Hid (∀ (i : Ins) w, i.nm.size ≤ maxLen → Calls Tryz.prog 65 #[inV i] w fun e w' => e = .returned (.bool (caR i.op i.nm.data.toList i.gs.length)) ∧ G w w') := fun i w h => rcallee65 i w h
  unfold fnhV inV at *
  generalize blsB f fdN l = R at *
  go_enter Tryz.func25, Tryz.ntmps25
  go_wp2_with (first | (go_at_call 62; refine (HN.out _).mono ?_; rintro e w' ⟨rfl, rfl⟩))
  clear h1 h2 h3 h4 h5 h6 HN
  obtain ⟨W, hWe, HX0⟩ : ∃ W, W = w.alloc (.cells #[.string f.nm, .int .i64 f.pa, .int .i64 f.rg, .int .i64 f.fr, .slice f.ba f.bl f.bc] 27) ∧ Hid (Bx1 w W f) := ⟨_, rfl, HBX.out⟩
  rw [← hWe]
  clear hWe HBX
  go_loopw [3, 4, 5] (fun v _ _ wx => ∃ j : Nat, j ≤ f.bl ∧ v = .int .i64 j ∧ G W wx ∧ R = blsB f fdN (l.drop j)) (fun v _ _ _ => f.bl - (intOf v).toNat)
  case atStart => exact ⟨0, Nat.zero_le _, rfl, G.refl _, HE0.out⟩
  case round =>
    obtain ⟨j, hj, rfl, hGx, hRu⟩ := hrel
    generalize wr = V at *
    have HX : Hid (G W V) := hGx
    have HRu : Hid (R = blsB f fdN (l.drop j)) := hRu
    have HY : Hid (Bx1 w V f) := HX0.out.to hGx
    clear hRu HE0 hGx
    obtain ⟨-, -, a0, a1, a2, a3, a4⟩ := HY.out
    by_cases hlt : j < f.bl
    · obtain ⟨b, hi⟩ : ∃ b, l[j]? = some b := ⟨_, List.getElem?_eq_getElem (by have := HL.out; omega)⟩
      obtain ⟨g, oo, hxo, hcc⟩ := (HI.out.below HY.out.g.below).2.2.2 (by have := HL.out; omega)
      have d0 := hcc j b hi
      have HU : Hid (blsB f fdN (l.drop j) = (blkB f fdN b.l && blsB f fdN (l.drop (j + 1)))) := blsB_at f fdN hi
      have HIb : Hid (InsA w b.xo b.xc b.l) := HI.out.2.2.1 b (List.mem_of_getElem? hi)
      have hbc := HIb.out.1
      have hbc2 := HIb.out.2.1
      have HVb : Hid (blkB f fdN b.l = (witB b.l.length 1 4096 && upB f fdN b.l.length b.l 0)) := rfl
      rw [hxo] at a4
      clear hcc hi hxo
      obtain ⟨n, hnn⟩ : ∃ n, n = b.l.length := ⟨_, rfl⟩
      have HNn : Hid (n = b.l.length) := hnn
      rw [← hnn] at hbc d0 HVb
      clear hnn
      generalize b.xo = xo at *
      generalize b.xc = xc at *
      generalize b.l = ll at *
      by_cases n1 : (n : Int) < 1
      case pos =>
        have HE : Hid (false = R) := by
          show _ = _
          rw [HRu.out, HU.out, HVb.out, show witB (n : Int) 1 4096 = false by simp [witB]; omega]
          rfl
        go_wp2
        go_ret
        exact ⟨ret_bool HE.out, HY.out.g⟩
      by_cases n2 : 4096 < (n : Int)
      case pos =>
        have HE : Hid (false = R) := by
          show _ = _
          rw [HRu.out, HU.out, HVb.out, show witB (n : Int) 1 4096 = false by simp [witB]; omega]
          rfl
        go_wp2
        go_ret
        exact ⟨ret_bool HE.out, HY.out.g⟩
      have HE1 : Hid (R = (upB f fdN n (ll.drop 0) (0 + 0) && blsB f fdN (l.drop (j + 1)))) := by
        show _ = _
        rw [HRu.out, HU.out, HVb.out, show witB (n : Int) 1 4096 = true by simp [witB]; omega]
        rfl
      go_wp2_with fail
      clear HVb
      go_loopw [5] (fun v wx => ∃ k : Nat, k ≤ n ∧ v = .int .i64 k ∧ G V wx ∧ R = (upB f fdN n (ll.drop k) (0 + k) && blsB f fdN (l.drop (j + 1)))) (fun v _ => n - (intOf v).toNat)
      case atStart => exact ⟨0, Nat.zero_le _, rfl, G.refl _, HE1.out⟩
      case round =>
        obtain ⟨k, hk, rfl, hGy, hRv⟩ := hrel
        have HX2 : Hid (G V wr) := hGy
        have HRv : Hid (R = (upB f fdN n (ll.drop k) (0 + k) && blsB f fdN (l.drop (j + 1)))) := hRv
        have HY2 : Hid (Bx1 w wr f) := HY.out.to hGy
        clear hRv HE1 hGy a0 a1 a2 a3 a4 d0
        obtain ⟨-, hsz, a0, a1, a2, a3, a4⟩ := HY2.out
        by_cases hkt : k < n
        · obtain ⟨i, hi⟩ : ∃ i, ll[k]? = some i := ⟨_, List.getElem?_eq_getElem (by have := HNn.out; omega)⟩
          have hIw := HIb.out.below HY2.out.g.below
          obtain ⟨g2, o2, hxo2, hcc⟩ := hIw.2.2.2 (by have := HNn.out; omega)
          have hmem := hIw.2.2.1 i (List.mem_of_getElem? hi)
          have e0 := hcc k i hi 0 _ rfl
          have e1 := hcc k i hi 1 _ rfl
          have e2 := hcc k i hi 2 _ rfl
          have e3 := hcc k i hi 3 _ rfl
          have e4 := hcc k i hi 4 _ rfl
          have e5 := hcc k i hi 5 _ rfl
          have e6 := hcc k i hi 6 _ rfl
          have e7 := hcc k i hi 7 _ rfl
          have e8 := hcc k i hi 8 _ rfl
          rw [Nat.add_zero] at e0
          have hgl : g2 < wr.heap.size := World.block_lt_of_cell? _ _ e0
          have HU2 : Hid (upB f fdN n (ll.drop k) (0 + k) = (atB f fdN n (0 + k) i && upB f fdN n (ll.drop (k + 1)) (0 + (k + 1)))) := upB_at f fdN n hi 0
          have HAt : Hid (atB f fdN n (0 + k) i = (fdR f i && (nuR f.fr i.op i.n i.nm.data.toList && (caR i.op i.nm.data.toList i.gs.length && (endB i.op == decide (0 + k + 1 = n)))))) := atN f n (0 + k) i
          have k63 := fun nn os => G.to (w := wr) (n := nn) (os := os) (K63.out i _ (hmem.1.below (G.below ⟨nn, os, rfl⟩)))
          have k64 := fun nn os => G.to (w := wr) (n := nn) (os := os) (K64.out i _)
          have k65 := fun nn os => G.to (w := wr) (n := nn) (os := os) (K65.out i _ hmem.2)
          have k66 := fun nn os => G.same (w := wr) (n := nn) (os := os) (rend66 i.op _)
          clear hcc hi hIw hmem
          subst hxo2
          generalize i.gs.length = al at *
          have u0 := gcell hsz a0
          have u1 := gcell hsz a1
          have u2 := gcell hsz a2
          have u3 := gcell hsz a3
          have u4 := gcell hsz a4
          have v0 := gcell hgl e0
          have v1 := gcell hgl e1
          have v2 := gcell hgl e2
          have v3 := gcell hgl e3
          have v4 := gcell hgl e4
          have v5 := gcell hgl e5
          have v6 := gcell hgl e6
          have v7 := gcell hgl e7
          have v8 := gcell hgl e8
          have hsub : IntKind.i64.wrap ((n : Int) - 1) = (n : Int) - 1 := by simp [IntKind.wrap, IntKind.bits, IntKind.signed]; omega
          generalize fdR f i = XF at *
          generalize nuR f.fr i.op i.n i.nm.data.toList = XN at *
          generalize caR i.op i.nm.data.toList al = XC at *
          generalize hEB : endB i.op = EB at *
          clear hEB
          obtain ⟨UB, hUB⟩ : ∃ UB, UB = upB f fdN n (ll.drop (k + 1)) (0 + (k + 1)) := ⟨_, rfl⟩
          have HUB : Hid (UB = upB f fdN n (ll.drop (k + 1)) (0 + (k + 1))) := hUB
          rw [← hUB] at HU2
          clear hUB
          have HR2 : Hid (R = (((XF && (XN && (XC && (EB == decide (0 + k + 1 = n))))) && UB) && blsB f fdN (l.drop (j + 1)))) := by show _ = _; rw [HRv.out, HU2.out, HAt.out]
          cases XF with
          | false =>
            have HE : Hid (false = R) := by show _ = _; rw [HR2.out]; rfl
            go_wp2_with fail
            refine wp_region_quiet_grown (by kernel_rfl) (by exact lex25) ?_
            repeat (go_big_quiet_step ((first | (go_at_call 63; with_reducible exact k63 _ _) | (go_at_call 64; with_reducible exact k64 _ _) | (go_at_call 65; with_reducible exact k65 _ _) | (go_at_call 66; with_reducible exact k66 _ _))))
            refine wpQuiet_nil ?_
            intro wz hwz
            obtain ⟨⟨nq, osq⟩, hwz2⟩ := hwz
            subst hwz2
            go_wp2
            go_ret
            exact ⟨ret_bool HE.out, HY2.out.g.trans ⟨nq, osq, rfl⟩⟩
          | true =>
            cases XN with
            | false =>
              have HE : Hid (false = R) := by show _ = _; rw [HR2.out]; rfl
              go_wp2_with fail
              refine wp_region_quiet_grown (by kernel_rfl) (by exact lex25) ?_
              repeat (go_big_quiet_step ((first | (go_at_call 63; with_reducible exact k63 _ _) | (go_at_call 64; with_reducible exact k64 _ _) | (go_at_call 65; with_reducible exact k65 _ _) | (go_at_call 66; with_reducible exact k66 _ _))))
              refine wpQuiet_nil ?_
              intro wz hwz
              obtain ⟨⟨nq, osq⟩, hwz2⟩ := hwz
              subst hwz2
              go_wp2
              go_ret
              exact ⟨ret_bool HE.out, HY2.out.g.trans ⟨nq, osq, rfl⟩⟩
            | true =>
              cases XC with
              | false =>
                have HE : Hid (false = R) := by show _ = _; rw [HR2.out]; rfl
                go_wp2_with fail
                refine wp_region_quiet_grown (by kernel_rfl) (by exact lex25) ?_
                repeat (go_big_quiet_step ((first | (go_at_call 63; with_reducible exact k63 _ _) | (go_at_call 64; with_reducible exact k64 _ _) | (go_at_call 65; with_reducible exact k65 _ _) | (go_at_call 66; with_reducible exact k66 _ _))))
                refine wpQuiet_nil ?_
                intro wz hwz
                obtain ⟨⟨nq, osq⟩, hwz2⟩ := hwz
                subst hwz2
                go_wp2
                go_ret
                exact ⟨ret_bool HE.out, HY2.out.g.trans ⟨nq, osq, rfl⟩⟩
              | true =>
                by_cases hkn : k + 1 = n
                · have hd : decide (0 + k + 1 = n) = true := by simp; omega
                  have hq : ((k : Int) == (n : Int) - 1) = true := by simp; omega
                  cases EB with
                  | false =>
                    have HE : Hid (false = R) := by show _ = _; rw [HR2.out, hd]; rfl
                    clear hd
                    go_wp2_with fail
                    refine wp_region_quiet_grown (by kernel_rfl) (by exact lex25) ?_
                    repeat (go_big_quiet_step ((first | (go_at_call 63; with_reducible exact k63 _ _) | (go_at_call 64; with_reducible exact k64 _ _) | (go_at_call 65; with_reducible exact k65 _ _) | (go_at_call 66; with_reducible exact k66 _ _))))
                    refine wpQuiet_nil ?_
                    intro wz hwz
                    obtain ⟨⟨nq, osq⟩, hwz2⟩ := hwz
                    subst hwz2
                    go_wp2
                    go_ret
                    exact ⟨ret_bool HE.out, HY2.out.g.trans ⟨nq, osq, rfl⟩⟩
                  | true =>
                    have HE : Hid (R = (upB f fdN n (ll.drop (k + 1)) (0 + (k + 1)) && blsB f fdN (l.drop (j + 1)))) := by show _ = _; rw [HR2.out, hd, HUB.out]; rfl
                    clear hd
                    go_wp2_with fail
                    refine wp_region_quiet_grown (by kernel_rfl) (by exact lex25) ?_
                    repeat (go_big_quiet_step ((first | (go_at_call 63; with_reducible exact k63 _ _) | (go_at_call 64; with_reducible exact k64 _ _) | (go_at_call 65; with_reducible exact k65 _ _) | (go_at_call 66; with_reducible exact k66 _ _))))
                    refine wpQuiet_nil ?_
                    intro wz hwz
                    obtain ⟨⟨nq, osq⟩, hwz2⟩ := hwz
                    subst hwz2
                    go_wp2
                    go_round
                    case rel => exact ⟨k + 1, by omega, by go_num, HX2.out.trans ⟨nq, osq, rfl⟩, HE.out⟩
                    case measure => simp [intOf]; omega
                · have hd : decide (0 + k + 1 = n) = false := by simp; omega
                  have hq : ((k : Int) == (n : Int) - 1) = false := by simp; omega
                  cases EB with
                  | true =>
                    have HE : Hid (false = R) := by show _ = _; rw [HR2.out, hd]; rfl
                    clear hd
                    go_wp2_with fail
                    refine wp_region_quiet_grown (by kernel_rfl) (by exact lex25) ?_
                    repeat (go_big_quiet_step ((first | (go_at_call 63; with_reducible exact k63 _ _) | (go_at_call 64; with_reducible exact k64 _ _) | (go_at_call 65; with_reducible exact k65 _ _) | (go_at_call 66; with_reducible exact k66 _ _))))
                    refine wpQuiet_nil ?_
                    intro wz hwz
                    obtain ⟨⟨nq, osq⟩, hwz2⟩ := hwz
                    subst hwz2
                    go_wp2
                    go_ret
                    exact ⟨ret_bool HE.out, HY2.out.g.trans ⟨nq, osq, rfl⟩⟩
                  | false =>
                    have HE : Hid (R = (upB f fdN n (ll.drop (k + 1)) (0 + (k + 1)) && blsB f fdN (l.drop (j + 1)))) := by show _ = _; rw [HR2.out, hd, HUB.out]; rfl
                    clear hd
                    go_wp2_with fail
                    refine wp_region_quiet_grown (by kernel_rfl) (by exact lex25) ?_
                    repeat (go_big_quiet_step ((first | (go_at_call 63; with_reducible exact k63 _ _) | (go_at_call 64; with_reducible exact k64 _ _) | (go_at_call 65; with_reducible exact k65 _ _) | (go_at_call 66; with_reducible exact k66 _ _))))
                    refine wpQuiet_nil ?_
                    intro wz hwz
                    obtain ⟨⟨nq, osq⟩, hwz2⟩ := hwz
                    subst hwz2
                    go_wp2
                    go_round
                    case rel => exact ⟨k + 1, by omega, by go_num, HX2.out.trans ⟨nq, osq, rfl⟩, HE.out⟩
                    case measure => simp [intOf]; omega
        · obtain rfl : k = n := by omega
          have HE : Hid (R = blsB f fdN (l.drop (j + 1))) := by show _ = _; rw [HRv.out, List.drop_eq_nil_of_le (by have := HNn.out; omega)]; rfl
          go_wp2
          go_round
          case rel => exact ⟨j + 1, by omega, by go_num, HX.out.trans HX2.out, HE.out⟩
          case measure => simp [intOf]; omega
    · obtain rfl : j = f.bl := by omega
      have HE : Hid (true = R) := by show _ = _; rw [HRu.out, List.drop_eq_nil_of_le (by have := HL.out; omega)]; rfl
      go_wp2
      go_ret
      exact ⟨ret_bool HE.out, HY.out.g⟩
end
section
open Go.RowKit Go.Shelf
set_option maxHeartbeats 4000000
theorem rright25 (f : Fnh) (l : List Blk) (w : World) (hs : f.nm.size ≤ maxLen) (hl : f.bl = l.length) (hI : BlkA w f.ba f.bc l) : Calls Tryz.prog 25 #[fnhV f] w fun e w' => e = .returned (.bool (fnB f fdN l)) ∧ G w w' := by
  have hv : fnB f fdN l = (nmB f.nm.data.toList && (witB f.pa 0 7 && (witB f.rg f.pa 4096 && (witB f.fr 0 4096 && (witB f.bl 1 1024 && blsB f fdN l))))) := rfl
  by_cases h : nmB f.nm.data.toList = false ∨ ¬ (0 ≤ f.pa ∧ f.pa ≤ 7 ∧ f.pa ≤ f.rg ∧ f.rg ≤ 4096 ∧ 0 ≤ f.fr ∧ f.fr ≤ 4096 ∧ 1 ≤ f.bl ∧ f.bl ≤ 1024)
  · have hz : fnB f fdN l = false := by
      rw [hv]
      rcases h with h | h
      · rw [h]; rfl
      · rw [Bool.eq_false_iff]
        intro t
        simp [witB] at t
        apply h
        omega
    rw [hz]
    exact rright25_head f w hs h
  · have hn : nmB f.nm.data.toList = true := by
      cases hx : nmB f.nm.data.toList with
      | true => rfl
      | false => exact absurd (.inl hx) h
    have hh : 0 ≤ f.pa ∧ f.pa ≤ 7 ∧ f.pa ≤ f.rg ∧ f.rg ≤ 4096 ∧ 0 ≤ f.fr ∧ f.fr ≤ 4096 ∧ 1 ≤ f.bl ∧ f.bl ≤ 1024 := by
      by_cases hx : 0 ≤ f.pa ∧ f.pa ≤ 7 ∧ f.pa ≤ f.rg ∧ f.rg ≤ 4096 ∧ 0 ≤ f.fr ∧ f.fr ≤ 4096 ∧ 1 ≤ f.bl ∧ f.bl ≤ 1024
      · exact hx
      · exact absurd (.inr hx) h
    obtain ⟨h1, h2, h3, h4, h5, h6, h7, h8⟩ := hh
    have hz : fnB f fdN l = blsB f fdN l := by
      rw [hv, hn, show witB f.pa 0 7 = true by simp [witB]; omega, show witB f.rg f.pa 4096 = true by simp [witB]; omega, show witB f.fr 0 4096 = true by simp [witB]; omega, show witB f.bl 1 1024 = true by simp [witB]; omega]
      rfl
    rw [hz]
    exact rright25_body f l w hs hl hI hn h1 h2 h3 h4 h5 h6 h7 h8
/-- Where the function with a name stands; below 0: nowhere. -/
def fiN (l : List Fun) (s : ByteArray) : Int := match l.findIdx? (fun y => decide (y.h.nm = s)) with
  | some k => (k : Int)
  | none => -1
theorem fiN_at {l : List Fun} {s : ByteArray} {k : Nat} {x : Fun} (h : l[k]? = some x) (hx : x.h.nm = s) (ha : ∀ y ∈ l.take k, y.h.nm ≠ s) : fiN l s = k := by
  obtain ⟨hk, e⟩ := List.getElem?_eq_some_iff.1 h
  have : l.findIdx? (fun y => decide (y.h.nm = s)) = some k := by
    rw [List.findIdx?_eq_some_iff_getElem]
    refine ⟨hk, by rw [e]; simpa using hx, fun j hj => ?_⟩
    have := ha (l[j]'(by omega)) (by rw [List.mem_take_iff_getElem]; exact ⟨j, by omega, rfl⟩)
    simpa using this
  unfold fiN
  rw [this]
theorem fiN_none {l : List Fun} {s : ByteArray} (ha : ∀ y ∈ l, y.h.nm ≠ s) : fiN l s = -1 := by
  have : l.findIdx? (fun y => decide (y.h.nm = s)) = none := by
    rw [List.findIdx?_eq_none_iff]
    intro y hy
    simpa using ha y hy
  unfold fiN
  rw [this]
theorem nm_ne {a b : ByteArray} (h : ¬ a = b) : (a == b) = false ∧ (a.toList == b.toList) = false := by
  constructor
  · cases e : (a == b)
    · rfl
    · exact absurd ((Go.MapKept.bytes_beq _ _).1 e) h
  · rw [ByteArray.toList_eq, ByteArray.toList_eq]
    simp
    intro e
    apply h
    cases a; cases b
    simp at e
    rw [e]
theorem rfind27 (l : List Fun) (p : Option Addr) (pc : Nat) (s : ByteArray) (w : World) (hI : FunA w p pc l) : Calls Tryz.prog 27 #[.slice p l.length pc, .string s] w fun e w' => e = .returned (.int .i64 (fiN l s)) ∧ w' = w := by
  have HI : Hid (FunA w p pc l) := hI
  have hxc := hI.1
  have hxc2 := hI.2.1
  obtain ⟨n, hn⟩ : ∃ n, n = l.length := ⟨_, rfl⟩
  have HN : Hid (n = l.length) := hn
  rw [← hn] at hxc ⊢
  clear hI hn
  obtain ⟨R, hR⟩ : ∃ R, R = fiN l s := ⟨_, rfl⟩
  have HR : Hid (R = fiN l s) := hR
  rw [← hR]
  clear hR
  go_enter Tryz.func27, Tryz.ntmps27
  go_wp2
  go_loop [5] (fun v => ∃ k : Nat, k ≤ n ∧ v = .int .i64 k ∧ ∀ y ∈ l.take k, y.h.nm ≠ s) (fun v => n - (intOf v).toNat)
  case atStart => exact ⟨0, Nat.zero_le _, rfl, fun y hy => by simp at hy⟩
  case round =>
    obtain ⟨k, hk, rfl, ha⟩ := hrel
    have HA : Hid (∀ y ∈ l.take k, y.h.nm ≠ s) := ha
    clear ha
    by_cases hlt : k < n
    · obtain ⟨x, hx⟩ : ∃ x, l[k]? = some x := ⟨_, List.getElem?_eq_getElem (by have := HN.out; omega)⟩
      obtain ⟨g, oo, hp, hcc⟩ := HI.out.2.2.2 (by have := HN.out; omega)
      have d0 := hcc k x hx 0 _ rfl
      rw [Nat.add_zero] at d0
      have HXx : Hid (l[k]? = some x) := hx
      simp only [hp]
      clear hcc hx hp
      by_cases he : x.h.nm = s
      · have HE : Hid ((k : Int) = R) := by show _ = _; rw [HR.out, fiN_at HXx.out he HA.out]
        rw [he] at d0
        clear he
        go_wp2
        go_ret
        exact ⟨ret_int HE.out, rfl⟩
      · obtain ⟨q1, q2⟩ := nm_ne he
        have HEn : Hid (¬ x.h.nm = s) := he
        clear he
        go_wp2
        go_round
        case rel =>
          refine ⟨k + 1, by omega, by go_num, fun y hy => ?_⟩
          rw [List.take_add_one, HXx.out] at hy
          simp at hy
          rcases hy with hy | hy
          · exact HA.out y hy
          · rw [hy]; exact HEn.out
        case measure => simp [intOf]; omega
    · obtain rfl : k = n := by omega
      have HE : Hid (-1 = R) := by
        show _ = _
        have := HA.out
        rw [List.take_of_length_le (by have := HN.out; omega)] at this
        rw [HR.out, fiN_none this]
      go_wp2
      go_ret
      exact ⟨ret_int HE.out, rfl⟩
end
end Go.Proofs.YtdppoblbenbafaaGreatDoor
