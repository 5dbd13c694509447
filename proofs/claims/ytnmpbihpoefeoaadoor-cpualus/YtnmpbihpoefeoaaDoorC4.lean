/- Walks of the little machine: a step. -/
import Derived.Test.YtnmpbihpoefeoaaDoorC3
import Derived.Test.YtnmpbihpoefeoaaDoorDA
import Derived.Deep.RegionHeld3
import Derived.RegionTactic
namespace Go.Proofs.YtnmpbihpoefeoaaDoor
open Go.RowKit Go.Shelf
set_option maxHeartbeats 1000000 in
set_option maxRecDepth 20000 in
theorem next33 {W0 W : World} {m mem : Nat} {pc x10 x17 st word : Int} {ia ib ic id ie : Int} {R : World → Prop} (HB : Below W0.heap.size W0 W) (H : Mac W m pc x10 x17 st false 0 mem)
    (hf : ∀ w, Below W0.heap.size W0 w → Calls Tryd.prog 45 #[.pointer (some ⟨mem, 0, none⟩), .int .u64 pc] w fun e w' => e = .returned (.tuple #[.int .u32 word, .int .i64 0]) ∧ Below w.heap.size w w')
    (hd : ∀ w, Below W0.heap.size W0 w → Calls Tryd.prog 46 #[.int .u32 word] w fun e w' => e = .returned (.tuple #[.agg #[.int .i64 ia, .int .i64 ib, .int .i64 ic, .int .i64 id, .int .i64 ie], .int .i64 0]) ∧ Below w.heap.size w w')
    (hdo : ∀ w, Mac w m pc x10 x17 st false 0 mem → Calls Tryd.prog 47 #[.pointer (some ⟨m, 0, none⟩), .agg #[.int .i64 ia, .int .i64 ib, .int .i64 ic, .int .i64 id, .int .i64 ie]] w fun e w' => e = .returned (.int .i64 0) ∧ Below m w w' ∧ R w') :
    Calls Tryd.prog 33 #[.pointer (some ⟨m, 0, none⟩)] W fun e w' => e = .returned (.int .i64 0) ∧ Below m W w' ∧ R w' := by
  have hs := lt_of_some H.blk
  have h0 : W.cell? ⟨m, 0, none⟩ = some (.int .u64 pc) := H.at_ 0
  have h39 : W.cell? ⟨m, 39, none⟩ = some (.pointer (some ⟨mem, 0, none⟩)) := H.at_ 39
  have HM : Hid (Mac W m pc x10 x17 st false 0 mem) := H
  have HW : Hid (Below W0.heap.size W0 W) := HB
  clear H HB
  go_enter Tryd.func33, Tryd.ntmps33
  go_wp2
  go_region_held3 (fun w' => w'.cell? ⟨m, 0, none⟩ = some (.int .u64 pc) ∧ w'.cell? ⟨m, 39, none⟩ = some (.pointer (some ⟨mem, 0, none⟩))) (go_keep)
    (first | (go_at_call 45; refine (hf W.drew HW.out.drew).mono ?_; rintro e w1 ⟨rfl, hb1⟩; have _g0 := (hb1.cell (p := ⟨m, 0, none⟩) hs).trans h0; have _g1 := (hb1.cell (p := ⟨m, 39, none⟩) hs).trans h39))
  have HB1 : Hid (Below W.heap.size W w1) := (Below.refl _ W).drew.trans hb1
  clear _g0 _g1 hb1
  have hz := HB1.out.size
  go_wp2_with fail
  refine (hd _ ?_).mono ?_
  · exact HW.out.trans (HB1.out.mono HW.out.size)
  rintro e w2 ⟨rfl, hb2⟩
  have HB2 : Hid (Below W.heap.size W w2) := HB1.out.trans (hb2.mono HB1.out.size)
  clear hb2
  go_wp2_with fail
  refine (hdo _ (HM.out.below (HB2.out.alloc HB2.out.size _))).mono ?_
  rintro e w3 ⟨rfl, hb3, hR⟩
  have HB3 : Hid (Below m W w3) := ((HB2.out.alloc HB2.out.size _).mono (Nat.le_of_lt hs)).trans hb3
  have HR : Hid (R w3) := hR
  clear hb3 hR
  go_wp2
  go_ret
  exact ⟨rfl, HB3.out, HR.out⟩
set_option maxHeartbeats 1000000 in
set_option maxRecDepth 20000 in
theorem step18 {W : World} {m mem : Nat} {pc x10 x17 st pc' x10' x17' st' code' : Int} {h' : Bool} (H : Mac W m pc x10 x17 st false 0 mem)
    (hn : Calls Tryd.prog 33 #[.pointer (some ⟨m, 0, none⟩)] W fun e w' => e = .returned (.int .i64 0) ∧ Below m W w' ∧ Mac w' m pc' x10' x17' st' h' code' mem) :
    Calls Tryd.prog 18 #[.pointer (some ⟨m, 0, none⟩)] W fun e w' => e = .returned (.int .i64 0) ∧ Below m W w' ∧ Mac w' m pc' x10' x17' st' h' code' mem := by
  have hs := lt_of_some H.blk
  have h34 : W.cell? ⟨m, 34, none⟩ = some (.bool false) := H.at_ 34
  have HM : Hid (Mac W m pc x10 x17 st false 0 mem) := H
  have HN : Hid (Calls Tryd.prog 33 #[.pointer (some ⟨m, 0, none⟩)] W fun e w' => e = .returned (.int .i64 0) ∧ Below m W w' ∧ Mac w' m pc' x10' x17' st' h' code' mem) := hn
  clear H hn
  go_enter Tryd.func18, Tryd.ntmps18
  go_wp2_with fail
  refine (over30 HM.out).mono ?_
  rintro e w1 ⟨rfl, h1⟩
  subst h1
  go_wp2_with fail
  refine HN.out.mono ?_
  rintro e w2 ⟨rfl, hb, hm⟩
  have h36 : w2.cell? ⟨m, 36, none⟩ = some (.int .i64 0) := hm.at_ 36
  have f36 : w2.frozen? ⟨m, 36, none⟩ = false := hm.fz 36
  have hz := lt_of_some hm.blk
  have HB : Hid (Below m w1 w2) := hb
  have HM2 : Hid (Mac w2 m pc' x10' x17' st' h' code' mem) := hm
  clear hb hm
  go_wp2
  go_ret
  exact ⟨rfl, HB.out.setCell (Nat.le_refl _) _, ⟨mac_set HM2.out.blk 36 _⟩⟩
end Go.Proofs.YtnmpbihpoefeoaaDoor
