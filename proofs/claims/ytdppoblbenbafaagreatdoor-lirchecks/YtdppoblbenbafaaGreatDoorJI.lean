/- What the law asks of any program. -/
import Derived.Test.YtdppoblbenbafaaGreatDoorJZ
import Derived.Test.YtdppoblbenbafaaGreatDoorDD
namespace Go.Proofs.YtdppoblbenbafaaGreatDoor
open Go.RowKit Go.Shelf
set_option maxHeartbeats 8000000
theorem Tfa.tf {w : World} (h : Tfa w) : Tf w := ⟨h.c 1 (by omega) (by omega), h.c 7 (by omega) (by omega), h.c 10 (by omega) (by omega), h.pos⟩
theorem lex3 : Region.lexB .any (opsOf (Tryz.f3.body.getD .skip) 4).toArray = true := by kernel_rfl
set_option maxRecDepth 20000 in
theorem law3 (l : List Fun) (p : Option Addr) (pc : Nat) (w : World) (hT : Tfa w) (hI : FunA w p pc l) : Calls Tryz.prog 3 #[.slice p l.length pc] w fun e w' => e = .returned (.bool true) ∧ Below w.heap.size w w' := by
  have HI : Hid (FunA w p pc l) := hI
  have HT : Hid (Tfa w) := hT
  have hxc := hI.1
  have hxc2 := hI.2.1
  have KA : Hid (∀ x ∈ l, ∀ W, Below w.heap.size w W → Calls Tryz.prog 7 #[fnhV x.h] W fun e w' => e = .returned (.int .i64 (if fnB x.h fdN x.bs then 0 else 6)) ∧ G W w') := fun x hx W hW => by
    obtain ⟨t1, t2, t3⟩ := (HI.out.below hW).2.2.1 x hx
    exact alone7 x.h x.bs W t2 t1 (HT.out.below hW) t3
  have KB : Hid (∀ x ∈ l, ∀ W, Below w.heap.size w W → Calls Tryz.prog 8 #[fnhV x.h] W fun e w' => e = .returned (.int .i64 (if fnB x.h fdN x.bs then 0 else 6)) ∧ G W w') := fun x hx W hW => by
    obtain ⟨t1, t2, t3⟩ := (HI.out.below hW).2.2.1 x hx
    exact ralone8 x.h x.bs W t2 t1 t3
  have KC : Hid (∀ W, Below w.heap.size w W → Calls Tryz.prog 9 #[.slice p l.length pc] W fun e w' => e = .returned (.int .i64 (if prB l then 0 else 6)) ∧ Below W.heap.size W w') := fun W hW => check28g l p pc W (HT.out.below hW) (HI.out.below hW)
  have KD : Hid (∀ W, Below w.heap.size w W → Calls Tryz.prog 10 #[.slice p l.length pc] W fun e w' => e = .returned (.int .i64 (if prB l then 0 else 6)) ∧ Below W.heap.size W w') := fun W hW => by
    have t := rcheck10 l p pc W (HI.out.below hW)
    rw [ck_eq] at t
    exact t
  have KS : Hid (∀ W, Below w.heap.size w W → Calls Tryz.prog 11 #[] W fun e w' => e = .returned (.bool true) ∧ Below W.heap.size W w') := fun W hW => speaks6 W (HT.out.below hW).tf
  obtain ⟨n, hn⟩ : ∃ n, n = l.length := ⟨_, rfl⟩
  have HN : Hid (n = l.length) := hn
  rw [← hn] at hxc KC KD ⊢
  clear hI hT hn
  obtain ⟨E, hE⟩ : ∃ E : Int, E = if prB l then 0 else 6 := ⟨_, rfl⟩
  rw [← hE] at KC KD
  clear hE
  unfold fnhV at *
  go_enter Tryz.func3, Tryz.ntmps3
  go_wp2
  go_loopw [3] (fun v wx => ∃ j : Nat, j ≤ n ∧ v = .int .i64 j ∧ Below w.heap.size w wx) (fun v _ => n - (intOf v).toNat)
  case atStart => exact ⟨0, Nat.zero_le _, rfl, Below.refl _ _⟩
  case round =>
    obtain ⟨j, hj, rfl, hb⟩ := hrel
    have HB : Hid (Below w.heap.size w wr) := hb
    clear hb
    by_cases hlt : j < n
    · obtain ⟨x, hi⟩ : ∃ x, l[j]? = some x := ⟨_, List.getElem?_eq_getElem (by have := HN.out; omega)⟩
      have hmem : x ∈ l := List.mem_of_getElem? hi
      obtain ⟨g, oo, hxo, hcc⟩ := (HI.out.below HB.out).2.2.2 (by have := HN.out; omega)
      have d0 := hcc j x hi 0 _ rfl
      have d1 := hcc j x hi 1 _ rfl
      have d2 := hcc j x hi 2 _ rfl
      have d3 := hcc j x hi 3 _ rfl
      have d4 := hcc j x hi 4 _ rfl
      rw [Nat.add_zero] at d0
      have hgl : g < wr.heap.size := World.block_lt_of_cell? _ _ d0
      have u0 := gcell hgl d0
      have u1 := gcell hgl d1
      have u2 := gcell hgl d2
      have u3 := gcell hgl d3
      have u4 := gcell hgl d4
      have hbn : ∀ nn os, Below w.heap.size w (Go.Sort.grow (wr.drewN nn) os) := fun nn os => HB.out.trans ((G.below ⟨nn, os, rfl⟩).mono HB.out.size)
      obtain ⟨E2, hE2⟩ : ∃ E : Int, E = if fnB x.h fdN x.bs then 0 else 6 := ⟨_, rfl⟩
      have k7 := fun nn os => G.to (w := wr) (n := nn) (os := os) (KA.out x hmem _ (hbn nn os))
      have k8 := fun nn os => G.to (w := wr) (n := nn) (os := os) (KB.out x hmem _ (hbn nn os))
      rw [← hE2] at k7 k8
      clear hcc hi hmem hbn hE2
      subst hxo
      go_wp2_with fail
      refine wp_region_quiet_grown (by kernel_rfl) (by exact lex3) ?_
      repeat (go_big_quiet_step ((first | (go_at_call 7; with_reducible exact k7 _ _) | (go_at_call 8; with_reducible exact k8 _ _))))
      refine wpQuiet_nil ?_
      intro wz hwz
      obtain ⟨⟨nq, osq⟩, hwz2⟩ := hwz
      subst hwz2
      go_wp2
      go_round
      case rel => exact ⟨j + 1, by omega, by go_num, HB.out.trans ((G.below ⟨nq, osq, rfl⟩).mono HB.out.size)⟩
      case measure => simp [intOf]; omega
    · obtain rfl : j = n := by omega
      go_wp2_with fail
      refine (KC.out _ HB.out).mono ?_
      rintro e w1 ⟨rfl, hb1⟩
      have HB1 : Hid (Below w.heap.size w w1) := HB.out.trans (hb1.mono HB.out.size)
      clear hb1
      go_wp2_with fail
      refine (KD.out _ HB1.out).mono ?_
      rintro e w2 ⟨rfl, hb2⟩
      have HB2 : Hid (Below w.heap.size w w2) := HB1.out.trans (hb2.mono HB1.out.size)
      clear hb2
      go_wp2_with fail
      refine (KS.out _ HB2.out).mono ?_
      rintro e w3 ⟨rfl, hb3⟩
      go_wp2
      go_ret
      exact ⟨rfl, HB2.out.trans (hb3.mono HB2.out.size)⟩
end Go.Proofs.YtdppoblbenbafaaGreatDoor
