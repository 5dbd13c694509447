/- What a printer puts: parts, their tokens; a node in brackets. Which kind a part is. -/
import Derived.Test.YtkkmeogehapjoaaGreatDoorYA
namespace Go.Proofs.YtkkmeogehapjoaaGreatDoor
section
open Go.RowKit Go.Shelf
/-- A part. -/
inductive Pt
  | s (x : ByteArray)
  | n (k : Nat)
  | ea (ao : Option Addr) (c : Nat) (ks : List Int)
  | li (ao : Option Addr) (c : Nat) (ks : List Int)
  | pa (ao : Option Addr) (c : Nat) (ks : List Int)
  | op (k : Nat)
  | ow (k : Nat)
def Pt.v : Pt → Value
  | .s x => .iface 9 (.string x)
  | .n k => .iface 3 (.int .i64 k)
  | .ea ao c ks => .iface 87 (.slice ao ks.length c)
  | .li ao c ks => .iface 88 (.slice ao ks.length c)
  | .pa ao c ks => .iface 89 (.slice ao ks.length c)
  | .op k => .iface 90 (.int .i64 k)
  | .ow k => .iface 92 (.int .i64 k)
abbrev Tks := List (List UInt8)
/-- Nodes one behind the other; with commas between. -/
def seqT (nt : Nat → Tks) : List Int → Tks
  | [] => []
  | y :: r => nt y.toNat ++ seqT nt r
def comT (nt : Nat → Tks) : Nat → List Int → Tks
  | _, [] => []
  | i, y :: r => (if 0 < i then [[44]] else []) ++ (nt y.toNat ++ comT nt (i + 1) r)
def brT (nt : Nat → Tks) (l : List Nd) (g k : Nat) : Tks := if hasB g (kdK l k) = true then nt k else [40] :: (nt k ++ [[41]])
def Pt.tk (nt : Nat → Tks) (l : List Nd) : Pt → Tks
  | .s x => [x.data.toList]
  | .n k => nt k
  | .ea _ _ ks => seqT nt ks
  | .li _ _ ks => comT nt 0 ks
  | .pa _ _ ks => if ks = [] then [] else [40] :: (seqT nt ks ++ [[41]])
  | .op k => brT nt l 17762910994432 k
  | .ow k => brT nt l 19961934249984 k
def psT (nt : Nat → Tks) (l : List Nd) : List Pt → Tks
  | [] => []
  | p :: r => p.tk nt l ++ psT nt l r
def run (t : List UInt8) (L : Tks) : List UInt8 := L.foldl tokS t
theorem run_app (t : List UInt8) (a b : Tks) : run t (a ++ b) = run (run t a) b := List.foldl_append
theorem tokS_le (t s : List UInt8) : t.length ≤ (tokS t s).length := by
  unfold tokS
  repeat' split
  · exact Nat.le_refl _
  · rename_i h; rw [h]; exact Nat.zero_le _
  · simp
theorem run_le : ∀ (L : Tks) (t : List UInt8), t.length ≤ (run t L).length
  | [], _ => Nat.le_refl _
  | s :: r, t => Nat.le_trans (tokS_le t s) (run_le r (tokS t s))
theorem run_le_app (t : List UInt8) (a b : Tks) : (run t a).length ≤ (run t (a ++ b)).length := by
  rw [run_app]
  exact run_le _ _
/-- A printer at work: its text, and what lay there before is kept. -/
structure St (w0 : World) (b : Nat) (nd : Value) (t : List UInt8) (W : World) : Prop where
  pr : Pr w0.heap.size b nd t W
  bl : Below w0.heap.size w0 W
def PoS (w0 : World) (b : Nat) (nd : Value) (t : List UInt8) (W w' : World) : Prop := St w0 b nd t w' ∧ Kept b W w'
theorem St.cell {w0 W : World} {b : Nat} {nd : Value} {t : List UInt8} (h : St w0 b nd t W) : W.cell? ⟨b, 0, none⟩ = some nd := by
  rcases h.pr.1 with ⟨_, v, hbk, _⟩ | ⟨_, v, hbk, _⟩
  · exact Joins.cell_of_block hbk 0
  · exact Joins.cell_of_block hbk 0
theorem PrnAt.alloc {B b : Nat} {nd p : Value} {bs : List Value} {w : World} (h : PrnAt B b nd p bs w) (o : Obj) : PrnAt B b nd p bs (w.alloc o) := by
  have hlt := h.lt
  obtain ⟨hB, v, hb, hown, hne⟩ := h
  exact ⟨hB, v, by rw [Lib.alloc_old w o b hlt]; exact hb, hown.alloc _, hne⟩
theorem St.alloc {w0 W : World} {b : Nat} {nd : Value} {t : List UInt8} (h : St w0 b nd t W) (o : Obj) : St w0 b nd t (W.alloc o) :=
  ⟨⟨h.pr.1.imp (fun k => k.alloc o) (fun k => k.alloc o), Nat.le_trans h.pr.2 (by simp)⟩, h.bl.alloc h.bl.size o⟩
theorem PoS.trans {w0 W W' W'' : World} {b : Nat} {nd : Value} {t t' : List UInt8} (h : PoS w0 b nd t W W') (k : PoS w0 b nd t' W' W'') : PoS w0 b nd t' W W'' := ⟨k.1, h.2.trans k.2⟩
theorem PoS.of_alloc {w0 W W' : World} {b : Nat} {nd : Value} {t : List UInt8} {o : Obj} (h : PoS w0 b nd t (W.alloc o) W') : PoS w0 b nd t W W' := ⟨h.1, ((Kept.refl b W).alloc o).trans h.2⟩
theorem token_st (w0 : World) (b : Nat) (nd : Value) (t : List UInt8) (s : ByteArray) (W : World) (h : St w0 b nd t W) (hlen : (tokS t s.data.toList).length ≤ 140737488355328) : Calls Tryz.prog 45 #[.pointer (some ⟨b, 0, none⟩), .string s] W fun e w' => e = .returned (.tuple #[]) ∧ PoS w0 b nd (tokS t s.data.toList) W w' := by
  refine (token45 _ b nd t s W h.pr hlen).mono ?_
  rintro e w' ⟨rfl, h1, h2, h3⟩
  exact ⟨rfl, ⟨h1, h.bl.trans h2⟩, h3⟩
/-- What is asked of a node's own printing, and of a list of parts. -/
def NodeC (w0 : World) (b : Nat) (nd : Value) (l : List Nd) (nt : Nat → Tks) (k : Nat) : Prop := ∀ x t W, l[k]? = some x → St w0 b nd t W → (run t (nt k)).length ≤ 140737488355328 → Calls Tryz.prog 46 #[.pointer (some ⟨b, 0, none⟩), .agg #[.int .i64 x.k, .string x.nm, .int .i64 x.v, .slice x.ka x.ks.length x.kc, .int .i64 x.fr, .int .i64 x.en]] W fun e w' => e = .returned (.tuple #[]) ∧ PoS w0 b nd (run t (nt k)) W w'
def PutC (w0 : World) (b : Nat) (nd : Value) (l : List Nd) (nt : Nat → Tks) (ps : List Pt) : Prop := ∀ t W A n, n = ps.length → St w0 b nd t W → W.heap[A]? = some (.cells (ps.map Pt.v).toArray 20 (0, 0)) → (run t (psT nt l ps)).length ≤ 140737488355328 → Calls Tryz.prog 26 #[.pointer (some ⟨b, 0, none⟩), .slice (some ⟨A, 0, none⟩) n n] W fun e w' => e = .returned (.tuple #[]) ∧ PoS w0 b nd (run t (psT nt l ps)) W w'
set_option maxRecDepth 100000 in
set_option maxHeartbeats 4000000 in
theorem bracketed47 (w0 : World) (b : Nat) (ao : Option Addr) (c : Nat) (l : List Nd) (nt : Nat → Tks) (k g : Nat) (t : List UInt8) (W : World) (hl : NdA w0 ao c l) (hk : k < l.length) (hg : g < 18446744073709551616) (hP1 : PutC w0 b (.slice ao l.length c) l nt [.n k]) (hP3 : PutC w0 b (.slice ao l.length c) l nt [.s ⟨#[40]⟩, .n k, .s ⟨#[41]⟩]) (hS : St w0 b (.slice ao l.length c) t W) (hlen : (run t (brT nt l g k)).length ≤ 140737488355328) : Calls Tryz.prog 47 #[.pointer (some ⟨b, 0, none⟩), .int .i64 k, .int .u64 g] W fun e w' => e = .returned (.tuple #[]) ∧ PoS w0 b (.slice ao l.length c) (run t (brT nt l g k)) W w' := by
  obtain ⟨x, hx⟩ : ∃ x, l[k]? = some x := ⟨_, List.getElem?_eq_getElem hk⟩
  have hlW := hl.below hS.bl
  obtain ⟨gn, on, rfl, hnd⟩ := hlW.2.2.2 (by omega)
  obtain ⟨a0, _⟩ := nd_cells hnd hx
  have hc0 := hS.cell
  have hkd : kdK l (k : Int) = x.k := by unfold kdK; rw [Int.toNat_natCast, hx]
  have H37 : Hid (∀ W, Calls Tryz.prog 37 #[.int .u64 g, .int .i64 x.k] W fun e w' => e = .returned (.bool (hasB g x.k)) ∧ w' = W) := fun W => has37 g x.k W hg
  have c53 := cells53
  have hkI : (k : Int) < (l.length : Int) := by omega
  have h1 := hlW.1
  have h2 := hlW.2.1
  unfold brT at hlen ⊢
  rw [hkd] at hlen ⊢
  obtain ⟨n, hn⟩ : ∃ n, n = l.length := ⟨_, rfl⟩
  rw [← hn] at hP1 hP3 hS hkI h1 hk hc0 ⊢
  have HP1 : Hid (PutC w0 b (.slice (some ⟨gn, on, none⟩) n c) l nt [.n k]) := hP1
  have HP3 : Hid (PutC w0 b (.slice (some ⟨gn, on, none⟩) n c) l nt [.s ⟨#[40]⟩, .n k, .s ⟨#[41]⟩]) := hP3
  have HS : Hid (St w0 b (.slice (some ⟨gn, on, none⟩) n c) t W) := hS
  clear hP1 hP3 hl hlW hnd hkd hS hn hx
  generalize x.k = K at *
  cases hq : hasB g K with
  | true =>
    rw [hq] at H37 hlen
    rw [if_pos rfl] at hlen ⊢
    have H26 : Hid (Calls Tryz.prog 26 #[.pointer (some ⟨b, 0, none⟩), .slice (some ⟨W.heap.size, 0, none⟩) 1 1] (W.alloc (.cells #[.iface 3 (.int .i64 k)] 20)) fun e w' => e = .returned (.tuple #[]) ∧ PoS w0 b (.slice (some ⟨gn, on, none⟩) n c) (run t (nt k)) W w') := by
      have e : psT nt l [.n k] = nt k := by simp [psT, Pt.tk]
      have t' := HP1.out t (W.alloc (.cells #[.iface 3 (.int .i64 k)] 20)) W.heap.size 1 rfl (HS.out.alloc _) (Go.heap_alloc_new W _) (by rw [e]; exact hlen)
      rw [e] at t'
      exact t'.mono fun e w' ⟨h1, h2⟩ => ⟨h1, h2.of_alloc⟩
    clear HP1 HP3 hlen hq
    generalize run t (nt k) = T at *
    go_enter Tryz.func47, Tryz.ntmps47
    go_wp2_with (first | (go_at_call 37; refine (H37.out _).mono ?_; rintro e w' ⟨rfl, hw⟩; subst w') | (go_at_call 26; refine H26.out.mono ?_))
    rintro e w' ⟨rfl, hE⟩
    have HE : Hid (PoS w0 b (.slice (some ⟨gn, on, none⟩) n c) T W w') := hE
    clear hE
    go_wp2
    refine bodyPost_ret (results_none rfl _ _ _) rfl ?_
    exact ⟨rfl, HE.out⟩
  | false =>
    rw [hq] at H37 hlen
    rw [if_neg (by simp)] at hlen ⊢
    have H26 : Hid (Calls Tryz.prog 26 #[.pointer (some ⟨b, 0, none⟩), .slice (some ⟨W.heap.size, 0, none⟩) 3 3] (W.alloc (.cells #[.iface 9 (.string ⟨#[40]⟩), .iface 3 (.int .i64 k), .iface 9 (.string ⟨#[41]⟩)] 20)) fun e w' => e = .returned (.tuple #[]) ∧ PoS w0 b (.slice (some ⟨gn, on, none⟩) n c) (run t ([40] :: (nt k ++ [[41]]))) W w') := by
      have e : psT nt l [.s ⟨#[40]⟩, .n k, .s ⟨#[41]⟩] = [40] :: (nt k ++ [[41]]) := by simp [psT, Pt.tk]
      have t' := HP3.out t (W.alloc (.cells #[.iface 9 (.string ⟨#[40]⟩), .iface 3 (.int .i64 k), .iface 9 (.string ⟨#[41]⟩)] 20)) W.heap.size 3 rfl (HS.out.alloc _) (Go.heap_alloc_new W _) (by rw [e]; exact hlen)
      rw [e] at t'
      exact t'.mono fun e w' ⟨h1, h2⟩ => ⟨h1, h2.of_alloc⟩
    clear HP1 HP3 hlen hq
    generalize run t ([40] :: (nt k ++ [[41]])) = T at *
    go_enter Tryz.func47, Tryz.ntmps47
    go_wp2_with (first | (go_at_call 37; refine (H37.out _).mono ?_; rintro e w' ⟨rfl, hw⟩; subst w') | (go_at_call 26; refine H26.out.mono ?_))
    rintro e w' ⟨rfl, hE⟩
    have HE : Hid (PoS w0 b (.slice (some ⟨gn, on, none⟩) n c) T W w') := hE
    clear hE
    go_wp2
    go_end0
    exact ⟨rfl, HE.out⟩
end
section
open Go.RowKit Go.Shelf
theorem ta_9_9 (v : Value) (w : World) : (Instr.typeAssert (.iface 9 v) 20 9 true).run Tryz.prog w = .ok (.tuple #[v, .bool true]) w := by kernel_rfl
theorem ta_3_9 (v : Value) (w : World) : (Instr.typeAssert (.iface 3 v) 20 9 true).run Tryz.prog w = .ok (.tuple #[.string ⟨#[]⟩, .bool false]) w := by kernel_rfl
theorem ta_3_3 (v : Value) (w : World) : (Instr.typeAssert (.iface 3 v) 20 3 true).run Tryz.prog w = .ok (.tuple #[v, .bool true]) w := by kernel_rfl
theorem ta_87_9 (v : Value) (w : World) : (Instr.typeAssert (.iface 87 v) 20 9 true).run Tryz.prog w = .ok (.tuple #[.string ⟨#[]⟩, .bool false]) w := by kernel_rfl
theorem ta_87_3 (v : Value) (w : World) : (Instr.typeAssert (.iface 87 v) 20 3 true).run Tryz.prog w = .ok (.tuple #[.int .i64 0, .bool false]) w := by kernel_rfl
theorem ta_87_87 (v : Value) (w : World) : (Instr.typeAssert (.iface 87 v) 20 87 true).run Tryz.prog w = .ok (.tuple #[v, .bool true]) w := by kernel_rfl
theorem ta_88_9 (v : Value) (w : World) : (Instr.typeAssert (.iface 88 v) 20 9 true).run Tryz.prog w = .ok (.tuple #[.string ⟨#[]⟩, .bool false]) w := by kernel_rfl
theorem ta_88_3 (v : Value) (w : World) : (Instr.typeAssert (.iface 88 v) 20 3 true).run Tryz.prog w = .ok (.tuple #[.int .i64 0, .bool false]) w := by kernel_rfl
theorem ta_88_87 (v : Value) (w : World) : (Instr.typeAssert (.iface 88 v) 20 87 true).run Tryz.prog w = .ok (.tuple #[.slice none 0 0, .bool false]) w := by kernel_rfl
theorem ta_88_88 (v : Value) (w : World) : (Instr.typeAssert (.iface 88 v) 20 88 true).run Tryz.prog w = .ok (.tuple #[v, .bool true]) w := by kernel_rfl
theorem ta_89_9 (v : Value) (w : World) : (Instr.typeAssert (.iface 89 v) 20 9 true).run Tryz.prog w = .ok (.tuple #[.string ⟨#[]⟩, .bool false]) w := by kernel_rfl
theorem ta_89_3 (v : Value) (w : World) : (Instr.typeAssert (.iface 89 v) 20 3 true).run Tryz.prog w = .ok (.tuple #[.int .i64 0, .bool false]) w := by kernel_rfl
theorem ta_89_87 (v : Value) (w : World) : (Instr.typeAssert (.iface 89 v) 20 87 true).run Tryz.prog w = .ok (.tuple #[.slice none 0 0, .bool false]) w := by kernel_rfl
theorem ta_89_88 (v : Value) (w : World) : (Instr.typeAssert (.iface 89 v) 20 88 true).run Tryz.prog w = .ok (.tuple #[.slice none 0 0, .bool false]) w := by kernel_rfl
theorem ta_89_89 (v : Value) (w : World) : (Instr.typeAssert (.iface 89 v) 20 89 true).run Tryz.prog w = .ok (.tuple #[v, .bool true]) w := by kernel_rfl
theorem ta_90_9 (v : Value) (w : World) : (Instr.typeAssert (.iface 90 v) 20 9 true).run Tryz.prog w = .ok (.tuple #[.string ⟨#[]⟩, .bool false]) w := by kernel_rfl
theorem ta_90_3 (v : Value) (w : World) : (Instr.typeAssert (.iface 90 v) 20 3 true).run Tryz.prog w = .ok (.tuple #[.int .i64 0, .bool false]) w := by kernel_rfl
theorem ta_90_87 (v : Value) (w : World) : (Instr.typeAssert (.iface 90 v) 20 87 true).run Tryz.prog w = .ok (.tuple #[.slice none 0 0, .bool false]) w := by kernel_rfl
theorem ta_90_88 (v : Value) (w : World) : (Instr.typeAssert (.iface 90 v) 20 88 true).run Tryz.prog w = .ok (.tuple #[.slice none 0 0, .bool false]) w := by kernel_rfl
theorem ta_90_89 (v : Value) (w : World) : (Instr.typeAssert (.iface 90 v) 20 89 true).run Tryz.prog w = .ok (.tuple #[.slice none 0 0, .bool false]) w := by kernel_rfl
theorem ta_90_90 (v : Value) (w : World) : (Instr.typeAssert (.iface 90 v) 20 90 true).run Tryz.prog w = .ok (.tuple #[v, .bool true]) w := by kernel_rfl
theorem ta_92_9 (v : Value) (w : World) : (Instr.typeAssert (.iface 92 v) 20 9 true).run Tryz.prog w = .ok (.tuple #[.string ⟨#[]⟩, .bool false]) w := by kernel_rfl
theorem ta_92_3 (v : Value) (w : World) : (Instr.typeAssert (.iface 92 v) 20 3 true).run Tryz.prog w = .ok (.tuple #[.int .i64 0, .bool false]) w := by kernel_rfl
theorem ta_92_87 (v : Value) (w : World) : (Instr.typeAssert (.iface 92 v) 20 87 true).run Tryz.prog w = .ok (.tuple #[.slice none 0 0, .bool false]) w := by kernel_rfl
theorem ta_92_88 (v : Value) (w : World) : (Instr.typeAssert (.iface 92 v) 20 88 true).run Tryz.prog w = .ok (.tuple #[.slice none 0 0, .bool false]) w := by kernel_rfl
theorem ta_92_89 (v : Value) (w : World) : (Instr.typeAssert (.iface 92 v) 20 89 true).run Tryz.prog w = .ok (.tuple #[.slice none 0 0, .bool false]) w := by kernel_rfl
theorem ta_92_90 (v : Value) (w : World) : (Instr.typeAssert (.iface 92 v) 20 90 true).run Tryz.prog w = .ok (.tuple #[.int .i64 0, .bool false]) w := by kernel_rfl
theorem ta_92_92 (v : Value) (w : World) : (Instr.typeAssert (.iface 92 v) 20 92 true).run Tryz.prog w = .ok (.tuple #[v, .bool true]) w := by kernel_rfl
end
end Go.Proofs.YtkkmeogehapjoaaGreatDoor
