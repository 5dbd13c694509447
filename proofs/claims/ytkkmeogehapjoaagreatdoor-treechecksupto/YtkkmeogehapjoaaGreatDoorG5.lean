/- The document: every node of a right tree is put as its tokens. The document: Print and Check of every tree; whether a tree is right and how it is printed: the law. -/
import Derived.Test.YtkkmeogehapjoaaGreatDoorE1
import Derived.Test.YtkkmeogehapjoaaGreatDoorE2
import Derived.Test.YtkkmeogehapjoaaGreatDoorE3
import Derived.Test.YtkkmeogehapjoaaGreatDoorE6
import Derived.Test.YtkkmeogehapjoaaGreatDoorE7
import Derived.Test.YtkkmeogehapjoaaGreatDoorD4
import Derived.Test.YtkkmeogehapjoaaGreatDoorG1
import Derived.Test.YtkkmeogehapjoaaGreatDoorNI
import Derived.Test.YtkkmeogehapjoaaGreatDoorRG
import Derived.Test.YtkkmeogehapjoaaGreatDoorYC
namespace Go.Proofs.YtkkmeogehapjoaaGreatDoor
section
open Go.RowKit Go.Shelf
theorem nod_nf {l : List Nd} {x : Nd} (h : nodB l x = true) : nfB x.k x.nm.data.toList = true ∧ nuB x.k x.v = true := by
  unfold nodB at h
  simp only [Bool.and_eq_true] at h
  exact ⟨h.2.2.1, h.2.2.2.1⟩
theorem sgn_ne {l : List UInt8} (h : sgnB l = true) : l ≠ [] := by
  rintro rfl
  revert h
  decide
theorem le_one {n : Nat} (h : n ≤ 1) : n = 0 ∨ n = 1 := by omega
set_option maxRecDepth 100000 in
set_option maxHeartbeats 4000000 in
theorem rr_any (w0 : World) (b : Nat) (ao : Option Addr) (c : Nat) (l : List Nd) (nt : Nat → Tks) (K : Nat) (hT : Tm w0) (x : Nd) (h0 : 0 ≤ x.k) (hr : NdR w0 b ao c l nt K x) (hnod : nodB l x = true) (k : Nat) (hx : l[k]? = some x) (t : List UInt8) (W : World) (hS : RSt w0 b (.slice ao l.length c) t W) (hlen : (run t (psT nt l (prt l x))).length ≤ 140737488355328) : Calls Tryz.prog 29 #[.pointer (some ⟨b, 0, none⟩), .int .i64 (k : Nat)] W fun e w' => e = .returned (.tuple #[]) ∧ PoR w0 b (.slice ao l.length c) (run t (psT nt l (prt l x))) W w' := by
  obtain ⟨hnf, hnu⟩ := nod_nf hnod
  have ho := hr.hl.2.2.1 x (List.mem_of_getElem? hx)
  have e : prt l x = prtK l x x.k.toNat := rfl
  rw [e] at hlen ⊢
  obtain ⟨q, hq⟩ : ∃ q : Nat, x.k = q := ⟨x.k.toNat, (Int.toNat_of_nonneg h0).symm⟩
  have hin := kind_in hr.nk.ar
  have har := hr.nk.ar
  rw [hq, Int.toNat_natCast] at hin
  simp only [List.mem_cons, List.not_mem_nil, or_false] at hin
  rcases hin with rfl | rfl | rfl | rfl | rfl | rfl | rfl | rfl | rfl | rfl | rfl | rfl | rfl | rfl | rfl | rfl | rfl | rfl | rfl | rfl | rfl | rfl | rfl | rfl | rfl | rfl | rfl | rfl | rfl | rfl | rfl | rfl | rfl | rfl | rfl | rfl | rfl | rfl | rfl | rfl | rfl | rfl | rfl | rfl | rfl
  · have h : x.k = 1 := hq
    clear hq
    rw [h] at hlen hnf hnu har ⊢
    replace hlen : (run t (psT nt l (prtK l x 1))).length ≤ 140737488355328 := hlen
    show Calls Tryz.prog 29 _ _ fun e w' => e = .returned (.tuple #[]) ∧ PoR w0 b (.slice ao l.length c) (run t (psT nt l (prtK l x 1))) W w'
    exact rd_item w0 b ao c l nt K x (by rw [h]; decide) hr k hx t _ (fun W' hW => rf_1 w0 b ao c l nt K x h hr t W' hW hlen) W hS
  · have h : x.k = 2 := hq
    clear hq
    rw [h] at hlen hnf hnu har ⊢
    replace hlen : (run t (psT nt l (prtK l x 2))).length ≤ 140737488355328 := hlen
    show Calls Tryz.prog 29 _ _ fun e w' => e = .returned (.tuple #[]) ∧ PoR w0 b (.slice ao l.length c) (run t (psT nt l (prtK l x 2))) W w'
    have hnm : x.nm.data.toList ≠ [] := name_ne (by simpa [nfB] using hnf)
    by_cases hu : kdK l (kidN x (x.ks.length - 2)) = 12
    · exact rd_item w0 b ao c l nt K x (by rw [h]; decide) hr k hx t _ (fun W' hW => rf_2a w0 b ao c l nt K x h hr hnm hu t W' hW hlen) W hS
    · exact rd_item w0 b ao c l nt K x (by rw [h]; decide) hr k hx t _ (fun W' hW => rf_2b w0 b ao c l nt K x h hr hnm hu t W' hW hlen) W hS
  · have h : x.k = 3 := hq
    clear hq
    rw [h] at hlen hnf hnu har ⊢
    replace hlen : (run t (psT nt l (prtK l x 3))).length ≤ 140737488355328 := hlen
    show Calls Tryz.prog 29 _ _ fun e w' => e = .returned (.tuple #[]) ∧ PoR w0 b (.slice ao l.length c) (run t (psT nt l (prtK l x 3))) W w'
    have hnm : x.nm.data.toList ≠ [] := name_ne (by simpa [nfB] using hnf)
    exact rd_item w0 b ao c l nt K x (by rw [h]; decide) hr k hx t _ (fun W' hW => rf_3 w0 b ao c l nt K x h hr hnm t W' hW hlen) W hS
  · have h : x.k = 4 := hq
    clear hq
    rw [h] at hlen hnf hnu har ⊢
    replace hlen : (run t (psT nt l (prtK l x 4))).length ≤ 140737488355328 := hlen
    show Calls Tryz.prog 29 _ _ fun e w' => e = .returned (.tuple #[]) ∧ PoR w0 b (.slice ao l.length c) (run t (psT nt l (prtK l x 4))) W w'
    have hnm : x.nm.data.toList ≠ [] := name_ne (by simpa [nfB] using hnf)
    exact rd_item w0 b ao c l nt K x (by rw [h]; decide) hr k hx t _ (fun W' hW => rf_4 w0 b ao c l nt K x h hr hnm t W' hW hlen) W hS
  · have h : x.k = 5 := hq
    clear hq
    rw [h] at hlen hnf hnu har ⊢
    replace hlen : (run t (psT nt l (prtK l x 5))).length ≤ 140737488355328 := hlen
    show Calls Tryz.prog 29 _ _ fun e w' => e = .returned (.tuple #[]) ∧ PoR w0 b (.slice ao l.length c) (run t (psT nt l (prtK l x 5))) W w'
    have hnm : x.nm.data.toList ≠ [] := name_ne (by simpa [nfB] using hnf)
    exact rd_item w0 b ao c l nt K x (by rw [h]; decide) hr k hx t _ (fun W' hW => rf_5 w0 b ao c l nt K x h hr hnm t W' hW hlen) W hS
  · have h : x.k = 6 := hq
    clear hq
    rw [h] at hlen hnf hnu har ⊢
    replace hlen : (run t (psT nt l (prtK l x 6))).length ≤ 140737488355328 := hlen
    show Calls Tryz.prog 29 _ _ fun e w' => e = .returned (.tuple #[]) ∧ PoR w0 b (.slice ao l.length c) (run t (psT nt l (prtK l x 6))) W w'
    have hnm : x.nm.data.toList ≠ [] := name_ne (by simpa [nfB] using hnf)
    rcases (le_one (by simpa [arB] using har)) with hl | hl
    · exact rd_item w0 b ao c l nt K x (by rw [h]; decide) hr k hx t _ (fun W' hW => rf_6a w0 b ao c l nt K x h hr hnm hl t W' hW hlen) W hS
    · exact rd_item w0 b ao c l nt K x (by rw [h]; decide) hr k hx t _ (fun W' hW => rf_6b w0 b ao c l nt K x h hr hnm hl t W' hW hlen) W hS
  · have h : x.k = 7 := hq
    clear hq
    rw [h] at hlen hnf hnu har ⊢
    replace hlen : (run t (psT nt l (prtK l x 7))).length ≤ 140737488355328 := hlen
    show Calls Tryz.prog 29 _ _ fun e w' => e = .returned (.tuple #[]) ∧ PoR w0 b (.slice ao l.length c) (run t (psT nt l (prtK l x 7))) W w'
    have hnm : x.nm.data.toList ≠ [] := name_ne (by simpa [nfB] using hnf)
    by_cases hv : x.v = 1
    · exact rd_item w0 b ao c l nt K x (by rw [h]; decide) hr k hx t _ (fun W' hW => rf_7a w0 b ao c l nt K x h hr hnm hv t W' hW hlen) W hS
    · exact rd_item w0 b ao c l nt K x (by rw [h]; decide) hr k hx t _ (fun W' hW => rf_7b w0 b ao c l nt K x h hr hnm hv t W' hW hlen) W hS
  · have h : x.k = 10 := hq
    clear hq
    rw [h] at hlen hnf hnu har ⊢
    replace hlen : (run t (psT nt l (prtK l x 10))).length ≤ 140737488355328 := hlen
    show Calls Tryz.prog 29 _ _ fun e w' => e = .returned (.tuple #[]) ∧ PoR w0 b (.slice ao l.length c) (run t (psT nt l (prtK l x 10))) W w'
    exact rd_type w0 b ao c l nt K x (by rw [h]; decide) (by rw [h]; decide) hr k hx t _ (fun W' hW => rf_10 w0 b ao c l nt K x h hr t W' hW hlen) W hS
  · have h : x.k = 11 := hq
    clear hq
    rw [h] at hlen hnf hnu har ⊢
    replace hlen : (run t (psT nt l (prtK l x 11))).length ≤ 140737488355328 := hlen
    show Calls Tryz.prog 29 _ _ fun e w' => e = .returned (.tuple #[]) ∧ PoR w0 b (.slice ao l.length c) (run t (psT nt l (prtK l x 11))) W w'
    exact rd_type w0 b ao c l nt K x (by rw [h]; decide) (by rw [h]; decide) hr k hx t _ (fun W' hW => rf_11 w0 b ao c l nt K x h hr t W' hW hlen) W hS
  · have h : x.k = 12 := hq
    clear hq
    rw [h] at hlen hnf hnu har ⊢
    replace hlen : (run t (psT nt l (prtK l x 12))).length ≤ 140737488355328 := hlen
    show Calls Tryz.prog 29 _ _ fun e w' => e = .returned (.tuple #[]) ∧ PoR w0 b (.slice ao l.length c) (run t (psT nt l (prtK l x 12))) W w'
    exact rd_type w0 b ao c l nt K x (by rw [h]; decide) (by rw [h]; decide) hr k hx t _ (fun W' hW => rf_12 w0 b ao c l nt K x h hr t W' hW hlen) W hS
  · have h : x.k = 13 := hq
    clear hq
    rw [h] at hlen hnf hnu har ⊢
    replace hlen : (run t (psT nt l (prtK l x 13))).length ≤ 140737488355328 := hlen
    show Calls Tryz.prog 29 _ _ fun e w' => e = .returned (.tuple #[]) ∧ PoR w0 b (.slice ao l.length c) (run t (psT nt l (prtK l x 13))) W w'
    have hnm : x.nm.data.toList ≠ [] := name_ne (by simpa [nfB] using hnf)
    exact rd_type w0 b ao c l nt K x (by rw [h]; decide) (by rw [h]; decide) hr k hx t _ (fun W' hW => rf_13 w0 b ao c l nt K x h hr hnm t W' hW hlen) W hS
  · have h : x.k = 14 := hq
    clear hq
    rw [h] at hlen hnf hnu har ⊢
    replace hlen : (run t (psT nt l (prtK l x 14))).length ≤ 140737488355328 := hlen
    show Calls Tryz.prog 29 _ _ fun e w' => e = .returned (.tuple #[]) ∧ PoR w0 b (.slice ao l.length c) (run t (psT nt l (prtK l x 14))) W w'
    exact rd_type w0 b ao c l nt K x (by rw [h]; decide) (by rw [h]; decide) hr k hx t _ (fun W' hW => rf_14 w0 b ao c l nt K x h hr t W' hW hlen) W hS
  · have h : x.k = 15 := hq
    clear hq
    rw [h] at hlen hnf hnu har ⊢
    replace hlen : (run t (psT nt l (prtK l x 15))).length ≤ 140737488355328 := hlen
    show Calls Tryz.prog 29 _ _ fun e w' => e = .returned (.tuple #[]) ∧ PoR w0 b (.slice ao l.length c) (run t (psT nt l (prtK l x 15))) W w'
    exact rd_type w0 b ao c l nt K x (by rw [h]; decide) (by rw [h]; decide) hr k hx t _ (fun W' hW => rf_15 w0 b ao c l nt K x h hr t W' hW hlen) W hS
  · have h : x.k = 16 := hq
    clear hq
    rw [h] at hlen hnf hnu har ⊢
    replace hlen : (run t (psT nt l (prtK l x 16))).length ≤ 140737488355328 := hlen
    show Calls Tryz.prog 29 _ _ fun e w' => e = .returned (.tuple #[]) ∧ PoR w0 b (.slice ao l.length c) (run t (psT nt l (prtK l x 16))) W w'
    exact rd_type w0 b ao c l nt K x (by rw [h]; decide) (by rw [h]; decide) hr k hx t _ (fun W' hW => rf_16 w0 b ao c l nt K x h hr t W' hW hlen) W hS
  · have h : x.k = 20 := hq
    clear hq
    rw [h] at hlen hnf hnu har ⊢
    replace hlen : (run t (psT nt l (prtK l x 20))).length ≤ 140737488355328 := hlen
    show Calls Tryz.prog 29 _ _ fun e w' => e = .returned (.tuple #[]) ∧ PoR w0 b (.slice ao l.length c) (run t (psT nt l (prtK l x 20))) W w'
    exact rn_20 w0 b ao c l nt K x h hr k hx t W hS hlen
  · have h : x.k = 21 := hq
    clear hq
    rw [h] at hlen hnf hnu har ⊢
    replace hlen : (run t (psT nt l (prtK l x 21))).length ≤ 140737488355328 := hlen
    show Calls Tryz.prog 29 _ _ fun e w' => e = .returned (.tuple #[]) ∧ PoR w0 b (.slice ao l.length c) (run t (psT nt l (prtK l x 21))) W w'
    have hnm : x.nm.data.toList ≠ [] := name_ne (by simpa [nfB] using hnf)
    rcases (show x.ks.length = 1 ∨ x.ks.length = 2 by simpa [arB] using har) with hl | hl
    · by_cases hv : x.v = 1
      · exact rd_stmt w0 b ao c l nt K x (by rw [h]; decide) (by rw [h]; decide) (by rw [h]; decide) hr k hx t _ (fun W' hW => rf_21a1 w0 b ao c l nt K x h hr hnm hl hv t W' hW hlen) W hS
      · exact rd_stmt w0 b ao c l nt K x (by rw [h]; decide) (by rw [h]; decide) (by rw [h]; decide) hr k hx t _ (fun W' hW => rf_21a0 w0 b ao c l nt K x h hr hnm hl hv t W' hW hlen) W hS
    · by_cases hv : x.v = 1
      · exact rd_stmt w0 b ao c l nt K x (by rw [h]; decide) (by rw [h]; decide) (by rw [h]; decide) hr k hx t _ (fun W' hW => rf_21b1 w0 b ao c l nt K x h hr hnm hl hv t W' hW hlen) W hS
      · exact rd_stmt w0 b ao c l nt K x (by rw [h]; decide) (by rw [h]; decide) (by rw [h]; decide) hr k hx t _ (fun W' hW => rf_21b0 w0 b ao c l nt K x h hr hnm hl hv t W' hW hlen) W hS
  · have h : x.k = 22 := hq
    clear hq
    rw [h] at hlen hnf hnu har ⊢
    replace hlen : (run t (psT nt l (prtK l x 22))).length ≤ 140737488355328 := hlen
    show Calls Tryz.prog 29 _ _ fun e w' => e = .returned (.tuple #[]) ∧ PoR w0 b (.slice ao l.length c) (run t (psT nt l (prtK l x 22))) W w'
    exact rd_stmt w0 b ao c l nt K x (by rw [h]; decide) (by rw [h]; decide) (by rw [h]; decide) hr k hx t _ (fun W' hW => rf_22 w0 b ao c l nt K x h hr (by simpa [arB] using har) t W' hW hlen) W hS
  · have h : x.k = 23 := hq
    clear hq
    rw [h] at hlen hnf hnu har ⊢
    replace hlen : (run t (psT nt l (prtK l x 23))).length ≤ 140737488355328 := hlen
    show Calls Tryz.prog 29 _ _ fun e w' => e = .returned (.tuple #[]) ∧ PoR w0 b (.slice ao l.length c) (run t (psT nt l (prtK l x 23))) W w'
    exact rd_stmt w0 b ao c l nt K x (by rw [h]; decide) (by rw [h]; decide) (by rw [h]; decide) hr k hx t _ (fun W' hW => rf_23 w0 b ao c l nt K x h hr t W' hW hlen) W hS
  · have h : x.k = 24 := hq
    clear hq
    rw [h] at hlen hnf hnu har ⊢
    replace hlen : (run t (psT nt l (prtK l x 24))).length ≤ 140737488355328 := hlen
    show Calls Tryz.prog 29 _ _ fun e w' => e = .returned (.tuple #[]) ∧ PoR w0 b (.slice ao l.length c) (run t (psT nt l (prtK l x 24))) W w'
    exact rd_stmt w0 b ao c l nt K x (by rw [h]; decide) (by rw [h]; decide) (by rw [h]; decide) hr k hx t _ (fun W' hW => rf_24 w0 b ao c l nt K x h hr t W' hW hlen) W hS
  · have h : x.k = 25 := hq
    clear hq
    rw [h] at hlen hnf hnu har ⊢
    replace hlen : (run t (psT nt l (prtK l x 25))).length ≤ 140737488355328 := hlen
    show Calls Tryz.prog 29 _ _ fun e w' => e = .returned (.tuple #[]) ∧ PoR w0 b (.slice ao l.length c) (run t (psT nt l (prtK l x 25))) W w'
    rcases (le_one (by simpa [arB] using har)) with hl | hl
    · exact rd_stmt w0 b ao c l nt K x (by rw [h]; decide) (by rw [h]; decide) (by rw [h]; decide) hr k hx t _ (fun W' hW => rf_25a w0 b ao c l nt K x h hr hl t W' hW hlen) W hS
    · exact rd_stmt w0 b ao c l nt K x (by rw [h]; decide) (by rw [h]; decide) (by rw [h]; decide) hr k hx t _ (fun W' hW => rf_25b w0 b ao c l nt K x h hr hl t W' hW hlen) W hS
  · have h : x.k = 26 := hq
    clear hq
    rw [h] at hlen hnf hnu har ⊢
    replace hlen : (run t (psT nt l (prtK l x 26))).length ≤ 140737488355328 := hlen
    show Calls Tryz.prog 29 _ _ fun e w' => e = .returned (.tuple #[]) ∧ PoR w0 b (.slice ao l.length c) (run t (psT nt l (prtK l x 26))) W w'
    exact rd_stmt w0 b ao c l nt K x (by rw [h]; decide) (by rw [h]; decide) (by rw [h]; decide) hr k hx t _ (fun W' hW => rf_26 w0 b ao c l nt K x h hr t W' hW hlen) W hS
  · have h : x.k = 27 := hq
    clear hq
    rw [h] at hlen hnf hnu har ⊢
    replace hlen : (run t (psT nt l (prtK l x 27))).length ≤ 140737488355328 := hlen
    show Calls Tryz.prog 29 _ _ fun e w' => e = .returned (.tuple #[]) ∧ PoR w0 b (.slice ao l.length c) (run t (psT nt l (prtK l x 27))) W w'
    exact rd_stmt w0 b ao c l nt K x (by rw [h]; decide) (by rw [h]; decide) (by rw [h]; decide) hr k hx t _ (fun W' hW => rf_27 w0 b ao c l nt K x h hr t W' hW hlen) W hS
  · have h : x.k = 30 := hq
    clear hq
    rw [h] at hlen hnf hnu har ⊢
    replace hlen : (run t (psT nt l (prtK l x 30))).length ≤ 140737488355328 := hlen
    show Calls Tryz.prog 29 _ _ fun e w' => e = .returned (.tuple #[]) ∧ PoR w0 b (.slice ao l.length c) (run t (psT nt l (prtK l x 30))) W w'
    have hv0 : 0 ≤ x.v := by simpa [nuB] using hnu
    have hv : ¬ x.v < 0 := by omega
    exact rd_30 w0 b ao c l nt K x h hr k hx t _ (rnum_pos w0 b _ t _ x.v hT hv ho.v1 (by simp only [prtK, psT, Pt.tk, List.append_nil]) hlen).out W hS
  · have h : x.k = 31 := hq
    clear hq
    rw [h] at hlen hnf hnu har ⊢
    replace hlen : (run t (psT nt l (prtK l x 31))).length ≤ 140737488355328 := hlen
    show Calls Tryz.prog 29 _ _ fun e w' => e = .returned (.tuple #[]) ∧ PoR w0 b (.slice ao l.length c) (run t (psT nt l (prtK l x 31))) W w'
    by_cases hv : x.v = 1
    · exact rn_31a w0 b ao c l nt K x h hr k hx hv t W hS hlen
    · exact rn_31b w0 b ao c l nt K x h hr k hx hv t W hS hlen
  · have h : x.k = 32 := hq
    clear hq
    rw [h] at hlen hnf hnu har ⊢
    replace hlen : (run t (psT nt l (prtK l x 32))).length ≤ 140737488355328 := hlen
    show Calls Tryz.prog 29 _ _ fun e w' => e = .returned (.tuple #[]) ∧ PoR w0 b (.slice ao l.length c) (run t (psT nt l (prtK l x 32))) W w'
    exact rn_32 w0 b ao c l nt K x h hr k hx t W hS hlen
  · have h : x.k = 33 := hq
    clear hq
    rw [h] at hlen hnf hnu har ⊢
    replace hlen : (run t (psT nt l (prtK l x 33))).length ≤ 140737488355328 := hlen
    show Calls Tryz.prog 29 _ _ fun e w' => e = .returned (.tuple #[]) ∧ PoR w0 b (.slice ao l.length c) (run t (psT nt l (prtK l x 33))) W w'
    have hnm : x.nm.data.toList ≠ [] := name_ne (by simpa [nfB] using hnf)
    exact rn_33 w0 b ao c l nt K x h hr k hx hnm t W hS hlen
  · have h : x.k = 34 := hq
    clear hq
    rw [h] at hlen hnf hnu har ⊢
    replace hlen : (run t (psT nt l (prtK l x 34))).length ≤ 140737488355328 := hlen
    show Calls Tryz.prog 29 _ _ fun e w' => e = .returned (.tuple #[]) ∧ PoR w0 b (.slice ao l.length c) (run t (psT nt l (prtK l x 34))) W w'
    have hnm : x.nm.data.toList ≠ [] := name_ne (by simpa [nfB] using hnf)
    exact rd_34 w0 b ao c l nt K x h hr k hx t _ (fun W' hW => rf_34 w0 b ao c l nt K x h hr hnm t W' hW hlen) W hS
  · have h : x.k = 35 := hq
    clear hq
    rw [h] at hlen hnf hnu har ⊢
    replace hlen : (run t (psT nt l (prtK l x 35))).length ≤ 140737488355328 := hlen
    show Calls Tryz.prog 29 _ _ fun e w' => e = .returned (.tuple #[]) ∧ PoR w0 b (.slice ao l.length c) (run t (psT nt l (prtK l x 35))) W w'
    have hnm : x.nm.data.toList ≠ [] := name_ne (by simpa [nfB] using hnf)
    exact rd_35 w0 b ao c l nt K x h hr k hx t _ (fun W' hW => rf_35 w0 b ao c l nt K x h hr hnm t W' hW hlen) W hS
  · have h : x.k = 36 := hq
    clear hq
    rw [h] at hlen hnf hnu har ⊢
    replace hlen : (run t (psT nt l (prtK l x 36))).length ≤ 140737488355328 := hlen
    show Calls Tryz.prog 29 _ _ fun e w' => e = .returned (.tuple #[]) ∧ PoR w0 b (.slice ao l.length c) (run t (psT nt l (prtK l x 36))) W w'
    have hnm : x.nm.data.toList ≠ [] := name_ne (by simpa [nfB] using hnf)
    exact rd_36 w0 b ao c l nt K x h hr k hx t _ (fun W' hW => rf_36 w0 b ao c l nt K x h hr hnm t W' hW hlen) W hS
  · have h : x.k = 37 := hq
    clear hq
    rw [h] at hlen hnf hnu har ⊢
    replace hlen : (run t (psT nt l (prtK l x 37))).length ≤ 140737488355328 := hlen
    show Calls Tryz.prog 29 _ _ fun e w' => e = .returned (.tuple #[]) ∧ PoR w0 b (.slice ao l.length c) (run t (psT nt l (prtK l x 37))) W w'
    have hpk : pkB x.nm.data.toList = true := by simpa [nfB, pkB] using hnf
    rcases le_one (by simpa [arB] using har : x.ks.length ≤ 1) with hl | hl
    · refine rd_37 w0 b ao c l nt K x h hr k hx t _ (fun W' hW => ?_) W hS
      unfold nda
      rw [h, hl]
      have e0 : x.ks = [] := List.eq_nil_of_length_eq_zero hl
      exact (rpick0 w0 b _ t _ 37 x.nm x.v x.fr x.en x.ka x.kc ho.nm hpk (by simp only [prtK, psT, Pt.tk, run_app, List.append_nil, e0, if_true, pckA, pckB]) hlen).out W' hW
    · refine rd_37 w0 b ao c l nt K x h hr k hx t _ (fun W' hW => ?_) W hS
      have e1 := list1 (fun y hy => (hr.nk.hin y hy).1) hl
      obtain ⟨g0, o0, hka, hcell⟩ := hr.nk.addr (by omega)
      have hc1 := hr.nk.ks.1
      unfold nda
      rw [h, hl, hka]
      refine (rpick1 w0 b _ t _ 37 x.nm x.v x.fr x.en g0 o0 x.kc (kidN x 0) (by omega) hr.nk.ks.2.1 nt (fun W hW => hcell W hW 0 (by omega)) (hr.kid 0 (by omega)) ho.nm hpk ?_ hlen).out W' hW
      simp only [prtK, psT, Pt.tk, List.append_nil]
      rw [if_neg (by rw [e1]; simp), e1]
      simp only [seqT, Int.toNat_natCast, List.append_nil, run_app, pckA, pckB]
      rw [show ([40] :: (nt (kidN x 0) ++ [[41]]) : Tks) = [[40]] ++ (nt (kidN x 0) ++ [[41]]) from rfl, run_app, run_app]
  · have h : x.k = 38 := hq
    clear hq
    rw [h] at hlen hnf hnu har ⊢
    replace hlen : (run t (psT nt l (prtK l x 38))).length ≤ 140737488355328 := hlen
    show Calls Tryz.prog 29 _ _ fun e w' => e = .returned (.tuple #[]) ∧ PoR w0 b (.slice ao l.length c) (run t (psT nt l (prtK l x 38))) W w'
    have hnm : x.nm.data.toList ≠ [] := sgn_ne (by simpa [nfB] using hnf)
    exact rn_38 w0 b ao c l nt K x h hr k hx hnm t W hS hlen
  · have h : x.k = 39 := hq
    clear hq
    rw [h] at hlen hnf hnu har ⊢
    replace hlen : (run t (psT nt l (prtK l x 39))).length ≤ 140737488355328 := hlen
    show Calls Tryz.prog 29 _ _ fun e w' => e = .returned (.tuple #[]) ∧ PoR w0 b (.slice ao l.length c) (run t (psT nt l (prtK l x 39))) W w'
    exact rd_39 w0 b ao c l nt K x h hr k hx t _ (fun W' hW => rf_39 w0 b ao c l nt K x h hr t W' hW hlen) W hS
  · have h : x.k = 40 := hq
    clear hq
    rw [h] at hlen hnf hnu har ⊢
    replace hlen : (run t (psT nt l (prtK l x 40))).length ≤ 140737488355328 := hlen
    show Calls Tryz.prog 29 _ _ fun e w' => e = .returned (.tuple #[]) ∧ PoR w0 b (.slice ao l.length c) (run t (psT nt l (prtK l x 40))) W w'
    exact rd_40 w0 b ao c l nt K x h hr k hx t _ (fun W' hW => rf_40 w0 b ao c l nt K x h hr t W' hW hlen) W hS
  · have h : x.k = 41 := hq
    clear hq
    rw [h] at hlen hnf hnu har ⊢
    replace hlen : (run t (psT nt l (prtK l x 41))).length ≤ 140737488355328 := hlen
    show Calls Tryz.prog 29 _ _ fun e w' => e = .returned (.tuple #[]) ∧ PoR w0 b (.slice ao l.length c) (run t (psT nt l (prtK l x 41))) W w'
    have hnm : x.nm.data.toList ≠ [] := name_ne (by simpa [nfB] using hnf)
    exact rn_41 w0 b ao c l nt K x h hr k hx hnm t W hS hlen
  · have h : x.k = 42 := hq
    clear hq
    rw [h] at hlen hnf hnu har ⊢
    replace hlen : (run t (psT nt l (prtK l x 42))).length ≤ 140737488355328 := hlen
    show Calls Tryz.prog 29 _ _ fun e w' => e = .returned (.tuple #[]) ∧ PoR w0 b (.slice ao l.length c) (run t (psT nt l (prtK l x 42))) W w'
    exact rd_42 w0 b ao c l nt K x h hr k hx t _ (fun W' hW => rf_42 w0 b ao c l nt K x h hr t W' hW hlen) W hS
  · have h : x.k = 43 := hq
    clear hq
    rw [h] at hlen hnf hnu har ⊢
    replace hlen : (run t (psT nt l (prtK l x 43))).length ≤ 140737488355328 := hlen
    show Calls Tryz.prog 29 _ _ fun e w' => e = .returned (.tuple #[]) ∧ PoR w0 b (.slice ao l.length c) (run t (psT nt l (prtK l x 43))) W w'
    by_cases hv : x.v = 1
    · exact rd_43 w0 b ao c l nt K x h hr k hx t _ (fun W' hW => rf_43a w0 b ao c l nt K x h hr hv t W' hW hlen) W hS
    · exact rd_43 w0 b ao c l nt K x h hr k hx t _ (fun W' hW => rf_43b w0 b ao c l nt K x h hr hv t W' hW hlen) W hS
  · have h : x.k = 44 := hq
    clear hq
    rw [h] at hlen hnf hnu har ⊢
    replace hlen : (run t (psT nt l (prtK l x 44))).length ≤ 140737488355328 := hlen
    show Calls Tryz.prog 29 _ _ fun e w' => e = .returned (.tuple #[]) ∧ PoR w0 b (.slice ao l.length c) (run t (psT nt l (prtK l x 44))) W w'
    exact rd_44 w0 b ao c l nt K x h hr k hx t _ (fun W' hW => rf_44 w0 b ao c l nt K x h hr t W' hW hlen) W hS
  · have h : x.k = 45 := hq
    clear hq
    rw [h] at hlen hnf hnu har ⊢
    replace hlen : (run t (psT nt l (prtK l x 45))).length ≤ 140737488355328 := hlen
    show Calls Tryz.prog 29 _ _ fun e w' => e = .returned (.tuple #[]) ∧ PoR w0 b (.slice ao l.length c) (run t (psT nt l (prtK l x 45))) W w'
    rcases (show x.ks.length = 2 ∨ x.ks.length = 3 by simpa [arB] using har) with hl | hl
    · exact rd_45 w0 b ao c l nt K x h hr k hx t _ (fun W' hW => rf_45a w0 b ao c l nt K x h hr hl t W' hW hlen) W hS
    · exact rd_45 w0 b ao c l nt K x h hr k hx t _ (fun W' hW => rf_45b w0 b ao c l nt K x h hr hl t W' hW hlen) W hS
  · have h : x.k = 46 := hq
    clear hq
    rw [h] at hlen hnf hnu har ⊢
    replace hlen : (run t (psT nt l (prtK l x 46))).length ≤ 140737488355328 := hlen
    show Calls Tryz.prog 29 _ _ fun e w' => e = .returned (.tuple #[]) ∧ PoR w0 b (.slice ao l.length c) (run t (psT nt l (prtK l x 46))) W w'
    by_cases h1 : x.kc = 1
    · exact rd_46 w0 b ao c l nt K x h hr k hx t _ (fun W' hW => rf_46a w0 b ao c l nt K x h hr h1 t W' hW hlen) W hS
    · exact rd_46 w0 b ao c l nt K x h hr k hx t _ (fun W' hW => rf_46b w0 b ao c l nt K x h hr h1 t W' hW hlen) W hS
  · have h : x.k = 47 := hq
    clear hq
    rw [h] at hlen hnf hnu har ⊢
    replace hlen : (run t (psT nt l (prtK l x 47))).length ≤ 140737488355328 := hlen
    show Calls Tryz.prog 29 _ _ fun e w' => e = .returned (.tuple #[]) ∧ PoR w0 b (.slice ao l.length c) (run t (psT nt l (prtK l x 47))) W w'
    exact rd_47 w0 b ao c l nt K x h hr k hx t _ (fun W' hW => rf_47 w0 b ao c l nt K x h hr t W' hW hlen) W hS
  · have h : x.k = 50 := hq
    clear hq
    rw [h] at hlen hnf hnu har ⊢
    replace hlen : (run t (psT nt l (prtK l x 50))).length ≤ 140737488355328 := hlen
    show Calls Tryz.prog 29 _ _ fun e w' => e = .returned (.tuple #[]) ∧ PoR w0 b (.slice ao l.length c) (run t (psT nt l (prtK l x 50))) W w'
    exact rn_50 w0 b ao c l nt K x h hr k hx t W hS hlen
  · have h : x.k = 51 := hq
    clear hq
    rw [h] at hlen hnf hnu har ⊢
    replace hlen : (run t (psT nt l (prtK l x 51))).length ≤ 140737488355328 := hlen
    show Calls Tryz.prog 29 _ _ fun e w' => e = .returned (.tuple #[]) ∧ PoR w0 b (.slice ao l.length c) (run t (psT nt l (prtK l x 51))) W w'
    have hnm : x.nm.data.toList ≠ [] := name_ne (by simpa [nfB] using hnf)
    exact rn_51 w0 b ao c l nt K x h hr k hx hnm t W hS hlen
  · have h : x.k = 52 := hq
    clear hq
    rw [h] at hlen hnf hnu har ⊢
    replace hlen : (run t (psT nt l (prtK l x 52))).length ≤ 140737488355328 := hlen
    show Calls Tryz.prog 29 _ _ fun e w' => e = .returned (.tuple #[]) ∧ PoR w0 b (.slice ao l.length c) (run t (psT nt l (prtK l x 52))) W w'
    have hv0 : ¬ x.v = -9223372036854775808 := by simpa [nuB] using hnu
    have hv1 := ho.v0
    by_cases hv : x.v < 0
    · exact rd_52 w0 b ao c l nt K x h hr k hx t _ (rnum_neg w0 b _ t _ x.v hT hv (by omega) (by
        show _ = run t (psT nt l ((if x.v < 0 then [.s ⟨#[45]⟩] else []) ++ [.s ⟨(Lib.trimPrefix (Lib.itoa x.v) [45]).toArray⟩]))
        rw [if_pos hv, trim_neg hv]
        simp only [psT_app, psT, Pt.tk, run_app, List.append_nil]) hlen).out W hS
    · exact rd_52 w0 b ao c l nt K x h hr k hx t _ (rnum_pos w0 b _ t _ x.v hT hv ho.v1 (by
        show _ = run t (psT nt l ((if x.v < 0 then [.s ⟨#[45]⟩] else []) ++ [.s ⟨(Lib.trimPrefix (Lib.itoa x.v) [45]).toArray⟩]))
        rw [if_neg hv, trim_pos hv]
        simp only [psT_app, psT, Pt.tk, run_app, List.append_nil, run_nil]) hlen).out W hS
  · have h : x.k = 53 := hq
    clear hq
    rw [h] at hlen hnf hnu har ⊢
    replace hlen : (run t (psT nt l (prtK l x 53))).length ≤ 140737488355328 := hlen
    show Calls Tryz.prog 29 _ _ fun e w' => e = .returned (.tuple #[]) ∧ PoR w0 b (.slice ao l.length c) (run t (psT nt l (prtK l x 53))) W w'
    by_cases hv : x.v = 1
    · exact rn_53a w0 b ao c l nt K x h hr k hx hv t W hS hlen
    · exact rn_53b w0 b ao c l nt K x h hr k hx hv t W hS hlen
  · have h : x.k = 54 := hq
    clear hq
    rw [h] at hlen hnf hnu har ⊢
    replace hlen : (run t (psT nt l (prtK l x 54))).length ≤ 140737488355328 := hlen
    show Calls Tryz.prog 29 _ _ fun e w' => e = .returned (.tuple #[]) ∧ PoR w0 b (.slice ao l.length c) (run t (psT nt l (prtK l x 54))) W w'
    have hpk : pkB x.nm.data.toList = true := by simpa [nfB, pkB] using hnf
    rcases le_one (by simpa [arB] using har : x.ks.length ≤ 1) with hl | hl
    · refine rd_54 w0 b ao c l nt K x h hr k hx t _ (fun W' hW => ?_) W hS
      unfold nda
      rw [h, hl]
      have e0 : x.ks = [] := List.eq_nil_of_length_eq_zero hl
      exact (rpick0 w0 b _ t _ 54 x.nm x.v x.fr x.en x.ka x.kc ho.nm hpk (by simp only [prtK, psT, Pt.tk, run_app, List.append_nil, e0, if_true, pckA, pckB]) hlen).out W' hW
    · refine rd_54 w0 b ao c l nt K x h hr k hx t _ (fun W' hW => ?_) W hS
      have e1 := list1 (fun y hy => (hr.nk.hin y hy).1) hl
      obtain ⟨g0, o0, hka, hcell⟩ := hr.nk.addr (by omega)
      have hc1 := hr.nk.ks.1
      unfold nda
      rw [h, hl, hka]
      refine (rpick1 w0 b _ t _ 54 x.nm x.v x.fr x.en g0 o0 x.kc (kidN x 0) (by omega) hr.nk.ks.2.1 nt (fun W hW => hcell W hW 0 (by omega)) (hr.kid 0 (by omega)) ho.nm hpk ?_ hlen).out W' hW
      simp only [prtK, psT, Pt.tk, List.append_nil]
      rw [if_neg (by rw [e1]; simp), e1]
      simp only [seqT, Int.toNat_natCast, List.append_nil, run_app, pckA, pckB]
      rw [show ([40] :: (nt (kidN x 0) ++ [[41]]) : Tks) = [[40]] ++ (nt (kidN x 0) ++ [[41]]) from rfl, run_app, run_app]
theorem rnode_right (w0 : World) (b : Nat) (ao : Option Addr) (c : Nat) (l : List Nd) (hl : NdA w0 ao c l) (hT : Tm w0) (hri : rightB l = true) : ∀ (n k : Nat), k < n → k < l.length → NodeR w0 b (.slice ao l.length c) (ntR l) k
  | 0, k, h, _ => absurd h (Nat.not_lt_zero _)
  | n + 1, k, h, hkl => by
    intro t W hS hlen
    obtain ⟨x, hx⟩ : ∃ x, l[k]? = some x := ⟨_, List.getElem?_eq_getElem hkl⟩
    have hm := List.mem_of_getElem? hx
    have hr : NdR w0 b ao c l (ntR l) k x := ⟨hl, by omega, fun j hj => rnode_right w0 b ao c l hl hT hri n j (by omega) (by omega), ⟨(hl.2.2.1 x hm).ks, right_kin hri k x hx, (right_ar hri hm).1⟩⟩
    rw [ntR_eq (right_pkin hri) hx] at hlen ⊢
    exact rr_any w0 b ao c l (ntR l) k hT x (right_ar hri hm).2 hr (right_nod hri hm) k hx t W hS hlen
end
section
open Go.RowKit Go.Shelf
theorem rst_new (w : World) (nd : Value) : RSt w w.heap.size nd [] (w.alloc (.cells #[nd, .string ⟨#[]⟩] 65)) :=
  ⟨Go.heap_alloc_new w _, Nat.le_refl _, below_cells w _ _⟩
set_option maxRecDepth 100000 in
set_option maxHeartbeats 4000000 in
theorem rprint10 (l : List Nd) (ao : Option Addr) (c : Nat) (w : World) (hT : Tm w) (hl : NdA w ao c l) : Calls Tryz.prog 10 #[.agg #[.slice ao l.length c]] w fun e w' => e = .returned (.tuple #[.string ⟨(prS l).toArray⟩, .int .i64 (prE l)]) ∧ Below w.heap.size w w' := by
  have H28 : Hid (∀ W, Below w.heap.size w W → Calls Tryz.prog 28 #[.agg #[.slice ao l.length c]] W fun e w' => e = .returned (.bool (rightB l)) ∧ Below W.heap.size W w') := fun W hW => right28 l ao c W (hl.below hW)
  have h1 := hl.1
  have h2 := hl.2.1
  cases hr : rightB l with
  | false =>
    have e1 : prE l = 3 := by unfold prE; rw [if_neg (by simp [hr])]
    have e2 : prS l = [] := by unfold prS; rw [if_neg (by simp [hr])]
    rw [hr] at H28
    rw [e1, e2]
    clear e1 e2 hr hT hl
    generalize l.length = n at *
    go_enter Tryz.func10, Tryz.ntmps10
    go_wp2_with fail
    refine (H28.out _ (below_cells _ _ _)).mono ?_
    rintro e w1 ⟨rfl, hb⟩
    have HB1 : Hid (Below w.heap.size w w1) := (below_cells w _ _).trans (hb.mono (by simp))
    clear hb H28
    go_wp2
    go_ret2
    exact ⟨rfl, HB1.out⟩
  | true =>
    have h01 := right_len hr
    have h0 := h01.1
    have e1 : prE l = 0 := by unfold prE; rw [if_pos hr]
    have e2 : prS l = run [] (ntR l (l.length - 1)) := by unfold prS; rw [if_pos hr]
    have hTl := prS_len hl hr
    rw [← e2] at hTl
    rw [hr] at H28
    rw [e1]
    have H29 : Hid (∀ W0 W, Below w.heap.size w W0 → RSt W0 W0.heap.size (.slice ao l.length c) [] W → Calls Tryz.prog 29 #[.pointer (some ⟨W0.heap.size, 0, none⟩), .int .i64 (l.length - 1 : Nat)] W fun e w' => e = .returned (.tuple #[]) ∧ PoR W0 W0.heap.size (.slice ao l.length c) (prS l) W w') := fun W0 W hb hW => by
      have hlW := hl.below hb
      have t := rnode_right W0 W0.heap.size ao c l hlW (hT.below hb) hr l.length (l.length - 1) (by omega) (by omega) [] W hW (by rw [← e2]; exact hTl)
      rw [← e2] at t
      exact t
    generalize prS l = T at *
    obtain ⟨n, hn⟩ : ∃ n, n = l.length := ⟨_, rfl⟩
    rw [← hn] at H28 H29 h1 h0 ⊢
    obtain ⟨m, hm⟩ : ∃ m, m = n - 1 := ⟨_, rfl⟩
    rw [← hm] at H29
    have hm1 : IntKind.i64.wrap ((n : Int) - 1) = (m : Int) := by simp [IntKind.wrap, IntKind.bits, IntKind.signed]; omega
    have hm2 : (n : Int) - 1 = (m : Int) := by omega
    clear hT hl hr hTl hn hm e1 e2 h01
    go_enter Tryz.func10, Tryz.ntmps10
    go_wp2_with fail
    refine (H28.out _ (below_cells _ _ _)).mono ?_
    rintro e w1 ⟨rfl, hb⟩
    have HB1 : Hid (Below w.heap.size w w1) := (below_cells w _ _).trans (hb.mono (by simp))
    have d0 := (bcell hb).1 w.heap.size 0 (by simp)
    simp at d0
    have hlt : w.heap.size < w1.heap.size := World.block_lt_of_cell? _ _ d0
    have d1 : (w1.alloc (.cells #[.slice ao n c, .string ⟨#[]⟩] 65)).cell? ⟨w.heap.size, 0, none⟩ = some (.slice ao n c) := by
      rw [← d0]
      exact (bcell (below_cells w1 _ _)).1 w.heap.size 0 hlt
    clear hb H28
    have HZ : Hid (w.heap.size < w1.heap.size) := hlt
    clear hlt
    go_wp2_with fail
    refine (H29.out w1 _ HB1.out (rst_new w1 _)).mono ?_
    rintro e w2 ⟨rfl, hE⟩
    have HS2 : Hid (RSt w1 w1.heap.size (.slice ao n c) T w2) := hE.1
    have c1 := hE.1.c1
    clear hE H29 d0 d1
    have HB3 : Hid (Below w.heap.size w w2) := HB1.out.trans (HS2.out.bl.mono (Nat.le_of_lt HZ.out))
    go_wp2
    go_ret2
    exact ⟨rfl, HB3.out⟩
set_option maxRecDepth 100000 in
set_option maxHeartbeats 4000000 in
theorem rcheck12 (l : List Nd) (ao : Option Addr) (c : Nat) (w : World) (hl : NdA w ao c l) : Calls Tryz.prog 12 #[.agg #[.slice ao l.length c]] w fun e w' => e = .returned (.int .i64 (prE l)) ∧ Below w.heap.size w w' := by
  have H28 : Hid (∀ W, Below w.heap.size w W → Calls Tryz.prog 28 #[.agg #[.slice ao l.length c]] W fun e w' => e = .returned (.bool (rightB l)) ∧ Below W.heap.size W w') := fun W hW => right28 l ao c W (hl.below hW)
  have h1 := hl.1
  have h2 := hl.2.1
  unfold prE
  clear hl
  generalize l.length = n at *
  cases hr : rightB l with
  | true =>
    rw [hr] at H28
    rw [if_pos rfl]
    clear hr
    go_enter Tryz.func12, Tryz.ntmps12
    go_wp2_with fail
    refine (H28.out _ (below_cells _ _ _)).mono ?_
    rintro e w1 ⟨rfl, hb⟩
    have HB : Hid (Below w.heap.size w w1) := (below_cells w _ _).trans (hb.mono (by simp))
    clear hb
    go_wp2
    go_ret
    exact ⟨rfl, HB.out⟩
  | false =>
    rw [hr] at H28
    rw [if_neg (by simp)]
    clear hr
    go_enter Tryz.func12, Tryz.ntmps12
    go_wp2_with fail
    refine (H28.out _ (below_cells _ _ _)).mono ?_
    rintro e w1 ⟨rfl, hb⟩
    have HB : Hid (Below w.heap.size w w1) := (below_cells w _ _).trans (hb.mono (by simp))
    clear hb
    go_wp2
    go_ret
    exact ⟨rfl, HB.out⟩
set_option maxRecDepth 100000 in
set_option maxHeartbeats 4000000 in
theorem law3 (l : List Nd) (ao : Option Addr) (c : Nat) (w : World) (hT : Tm w) (hl : NdA w ao c l) : Calls Tryz.prog 3 #[.agg #[.slice ao l.length c]] w fun e w' => e = .returned (.bool true) ∧ Below w.heap.size w w' := by
  have H9 : Hid (∀ W, Below w.heap.size w W → Calls Tryz.prog 9 #[.agg #[.slice ao l.length c]] W fun e w' => e = .returned (.tuple #[.string ⟨(prS l).toArray⟩, .int .i64 (prE l)]) ∧ Below W.heap.size W w') := fun W hW => print9 l ao c W (hT.below hW) (hl.below hW)
  have H10 : Hid (∀ W, Below w.heap.size w W → Calls Tryz.prog 10 #[.agg #[.slice ao l.length c]] W fun e w' => e = .returned (.tuple #[.string ⟨(prS l).toArray⟩, .int .i64 (prE l)]) ∧ Below W.heap.size W w') := fun W hW => rprint10 l ao c W (hT.below hW) (hl.below hW)
  have H11 : Hid (∀ W, Below w.heap.size w W → Calls Tryz.prog 11 #[.agg #[.slice ao l.length c]] W fun e w' => e = .returned (.int .i64 (prE l)) ∧ Below W.heap.size W w') := fun W hW => check11 l ao c W (hT.below hW) (hl.below hW)
  have H12 : Hid (∀ W, Below w.heap.size w W → Calls Tryz.prog 12 #[.agg #[.slice ao l.length c]] W fun e w' => e = .returned (.int .i64 (prE l)) ∧ Below W.heap.size W w') := fun W hW => rcheck12 l ao c W (hl.below hW)
  have H13 : Hid (∀ W, Below w.heap.size w W → Calls Tryz.prog 13 #[] W fun e w' => e = .returned (.bool true) ∧ Below W.heap.size W w') := fun W hW => small13 W (hT.below hW)
  have h1 := hl.1
  have h2 := hl.2.1
  have hE : prE l = 0 ∨ prE l = 3 := by unfold prE; split <;> simp
  clear hT hl
  generalize (prS l).toArray = A at *
  generalize prE l = E at *
  generalize l.length = n at *
  go_enter Tryz.func3, Tryz.ntmps3
  go_wp2_with fail
  refine (H9.out _ (below_cells _ _ _)).mono ?_
  rintro e w1 ⟨rfl, hb⟩
  have HB1 : Hid (Below w.heap.size w w1) := (below_cells w _ _).trans (hb.mono (by simp))
  have d0 := (bcell hb).1 w.heap.size 0 (by simp)
  simp at d0
  clear hb H9
  go_wp2_with fail
  refine (H10.out _ HB1.out).mono ?_
  rintro e w2 ⟨rfl, hb⟩
  have HB2 : Hid (Below w.heap.size w w2) := HB1.out.trans (hb.mono HB1.out.size)
  have d1 := ((bcell hb).1 w.heap.size 0 (World.block_lt_of_cell? _ _ d0)).trans d0
  clear hb d0 H10 HB1
  go_wp2_with fail
  have hz : w.heap.size < w2.heap.size := World.block_lt_of_cell? _ _ d1
  have HPC : Hid (∀ W, Below w2.heap.size w2 W → W.cell? ⟨w.heap.size, 0, none⟩ = some (.slice ao n c)) := fun W hW => ((bcell hW).1 w.heap.size 0 hz).trans d1
  have K11 : Hid (∀ W, Below w2.heap.size w2 W → Calls Tryz.prog 11 #[.agg #[.slice ao n c]] W fun e w' => e = .returned (.int .i64 E) ∧ Below w2.heap.size w2 w') := fun W hW => (H11.out W (HB2.out.trans (hW.mono HB2.out.size))).mono fun _ _ ⟨he, hb⟩ => ⟨he, hW.trans (hb.mono hW.size)⟩
  have K12 : Hid (∀ W, Below w2.heap.size w2 W → Calls Tryz.prog 12 #[.agg #[.slice ao n c]] W fun e w' => e = .returned (.int .i64 E) ∧ Below w2.heap.size w2 w') := fun W hW => (H12.out W (HB2.out.trans (hW.mono HB2.out.size))).mono fun _ _ ⟨he, hb⟩ => ⟨he, hW.trans (hb.mono hW.size)⟩
  have K13 : Hid (∀ W, Below w2.heap.size w2 W → Calls Tryz.prog 13 #[] W fun e w' => e = .returned (.bool true) ∧ Below w2.heap.size w2 w') := fun W hW => (H13.out W (HB2.out.trans (hW.mono HB2.out.size))).mono fun _ _ ⟨he, hb⟩ => ⟨he, hW.trans (hb.mono hW.size)⟩
  have HZ : Hid (Below w2.heap.size w2 w2) := Below.refl _ _
  clear H11 H12 H13 hz
  go_region_held3 (fun w' => Below w2.heap.size w2 w' ∧ w'.cell? ⟨w.heap.size, 0, none⟩ = some (.slice ao n c)) (first | assumption | (refine ⟨?_, ?_⟩ <;> (first | assumption | (exact HZ.out) | (exact HZ.out.trans ⟨rfl, rfl, rfl, Nat.le_refl _, fun _ _ => rfl⟩) | (simp; done) | (simp; assumption)))) (first | (go_at_call 11; refine (K11.out _ (by first | exact HZ.out.trans ⟨rfl, rfl, rfl, Nat.le_refl _, fun _ _ => rfl⟩ | assumption | exact And.left (by assumption))).mono ?_; rintro e w4 ⟨rfl, hB11⟩; have p11 := HPC.out w4 hB11) | (go_at_call 12; refine (K12.out _ (by first | exact HZ.out.trans ⟨rfl, rfl, rfl, Nat.le_refl _, fun _ _ => rfl⟩ | assumption | exact And.left (by assumption))).mono ?_; rintro e w5 ⟨rfl, hB12⟩; have p12 := HPC.out w5 hB12) | (go_at_call 13; refine (K13.out _ (by first | exact HZ.out.trans ⟨rfl, rfl, rfl, Nat.le_refl _, fun _ _ => rfl⟩ | assumption | exact And.left (by assumption))).mono ?_; rintro e w6 ⟨rfl, hB13⟩; have p13 := HPC.out w6 hB13))
  go_wp2
  go_ret
  exact ⟨rfl, HB2.out.trans (hB13.mono HB2.out.size)⟩
end
end Go.Proofs.YtkkmeogehapjoaaGreatDoor
