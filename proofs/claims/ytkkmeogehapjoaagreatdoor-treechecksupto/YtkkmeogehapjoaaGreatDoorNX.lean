/- What a node is printed as: its parts, by its kind; how many kids it has. Plain. The tokens of each node of a tree, and how long a printed tree is at most. Plain. -/
import Derived.Test.YtkkmeogehapjoaaGreatDoorY8
namespace Go.Proofs.YtkkmeogehapjoaaGreatDoor
section
open Go.RowKit Go.Shelf
/-- How long tokens are at most, with a blank each. -/
def tl : Tks → Nat
  | [] => 0
  | s :: r => s.length + 1 + tl r
theorem tl_app : ∀ (a b : Tks), tl (a ++ b) = tl a + tl b
  | [], b => by simp [tl]
  | s :: r, b => by simp only [List.cons_append, tl, tl_app r b]; omega
theorem tokS_len (t s : List UInt8) : (tokS t s).length ≤ t.length + (s.length + 1) := by
  unfold tokS
  split
  · omega
  · split
    · omega
    · simp only [List.length_append, List.length_cons]; omega
theorem run_len : ∀ (L : Tks) (t : List UInt8), (run t L).length ≤ t.length + tl L
  | [], t => by simp [run, tl]
  | s :: r, t => by
    have h := run_len r (tokS t s)
    have h2 := tokS_len t s
    have e : run t (s :: r) = run (tokS t s) r := rfl
    rw [e]
    simp only [tl]
    omega
/-- A part's kids, and its own room. -/
def Pt.kd : Pt → List Int
  | .s _ => []
  | .n k => [(k : Int)]
  | .ea _ _ ks => ks
  | .li _ _ ks => ks
  | .pa _ _ ks => ks
  | .op k => [(k : Int)]
  | .ow k => [(k : Int)]
def Pt.cs : Pt → Nat
  | .s x => x.data.toList.length + 1
  | .pa _ _ _ => 4
  | _ => 0
def sumW (W : Nat → Nat) : List Int → Nat
  | [] => 0
  | y :: r => W y.toNat + sumW W r
theorem sumW_app (W : Nat → Nat) : ∀ a b : List Int, sumW W (a ++ b) = sumW W a + sumW W b
  | [], b => by simp [sumW]
  | y :: r, b => by simp only [List.cons_append, sumW, sumW_app W r b]; omega
def psK : List Pt → List Int
  | [] => []
  | p :: r => p.kd ++ psK r
def psC : List Pt → Nat
  | [] => 0
  | p :: r => p.cs + psC r
theorem psT_app (nt : Nat → Tks) (l : List Nd) : ∀ a b : List Pt, psT nt l (a ++ b) = psT nt l a ++ psT nt l b
  | [], b => rfl
  | p :: r, b => by simp only [List.cons_append, psT, psT_app nt l r b, List.append_assoc]
theorem psK_app : ∀ a b : List Pt, psK (a ++ b) = psK a ++ psK b
  | [], b => rfl
  | p :: r, b => by simp only [List.cons_append, psK, psK_app r b, List.append_assoc]
theorem psC_app : ∀ a b : List Pt, psC (a ++ b) = psC a + psC b
  | [], b => by simp [psC]
  | p :: r, b => by simp only [List.cons_append, psC, psC_app r b]; omega
theorem seqT_tl (nt : Nat → Tks) : ∀ ks, tl (seqT nt ks) ≤ sumW (fun k => tl (nt k) + 6) ks
  | [] => by simp [seqT, tl]
  | y :: r => by
    have h := seqT_tl nt r
    simp only [seqT, tl_app, sumW]
    omega
theorem comT_tl (nt : Nat → Tks) : ∀ ks i, tl (comT nt i ks) ≤ sumW (fun k => tl (nt k) + 6) ks
  | [], i => by simp [comT, tl]
  | y :: r, i => by
    have h := comT_tl nt r (i + 1)
    simp only [comT, tl_app, sumW]
    by_cases hi : 0 < i
    · rw [if_pos hi]
      simp only [tl, List.length_cons, List.length_nil]
      omega
    · rw [if_neg hi]
      simp only [tl]
      omega
theorem brT_tl (nt : Nat → Tks) (l : List Nd) (g k : Nat) : tl (brT nt l g k) ≤ tl (nt k) + 6 := by
  unfold brT
  split
  · omega
  · simp only [tl, tl_app, List.length_cons, List.length_nil]; omega
theorem tk_tl (nt : Nat → Tks) (l : List Nd) (p : Pt) : tl (p.tk nt l) ≤ p.cs + sumW (fun k => tl (nt k) + 6) p.kd := by
  cases p with
  | s x => simp [Pt.tk, Pt.cs, Pt.kd, tl, sumW]
  | n k => simp only [Pt.tk, Pt.cs, Pt.kd, sumW, Int.toNat_natCast]; omega
  | ea ao c ks => have := seqT_tl nt ks; simp only [Pt.tk, Pt.cs, Pt.kd]; omega
  | li ao c ks => have := comT_tl nt ks 0; simp only [Pt.tk, Pt.cs, Pt.kd]; omega
  | pa ao c ks =>
    have := seqT_tl nt ks
    simp only [Pt.tk, Pt.cs, Pt.kd]
    by_cases h : ks = []
    · rw [if_pos h]; simp [tl]
    · rw [if_neg h]; simp only [tl, tl_app, List.length_cons, List.length_nil]; omega
  | op k => have := brT_tl nt l 17762910994432 k; simp only [Pt.tk, Pt.cs, Pt.kd, sumW, Int.toNat_natCast]; omega
  | ow k => have := brT_tl nt l 19961934249984 k; simp only [Pt.tk, Pt.cs, Pt.kd, sumW, Int.toNat_natCast]; omega
theorem psT_tl (nt : Nat → Tks) (l : List Nd) : ∀ ps, tl (psT nt l ps) ≤ psC ps + sumW (fun k => tl (nt k) + 6) (psK ps)
  | [] => by simp [psT, tl]
  | p :: r => by
    have h1 := tk_tl nt l p
    have h2 := psT_tl nt l r
    simp only [psT, psC, psK, tl_app, sumW_app]
    omega
/-- Tokens hang on those of the kids alone, and on the kids' kinds. -/
theorem seqT_cong {nt nt' : Nat → Tks} : ∀ {ks : List Int}, (∀ y ∈ ks, nt y.toNat = nt' y.toNat) → seqT nt ks = seqT nt' ks
  | [], _ => rfl
  | y :: r, h => by
    simp only [seqT]
    rw [h y (List.mem_cons_self ..), seqT_cong fun z hz => h z (List.mem_cons_of_mem _ hz)]
theorem comT_cong {nt nt' : Nat → Tks} : ∀ {ks : List Int} (i : Nat), (∀ y ∈ ks, nt y.toNat = nt' y.toNat) → comT nt i ks = comT nt' i ks
  | [], _, _ => rfl
  | y :: r, i, h => by
    simp only [comT]
    rw [h y (List.mem_cons_self ..), comT_cong (i + 1) fun z hz => h z (List.mem_cons_of_mem _ hz)]
theorem brT_cong {nt nt' : Nat → Tks} {l l' : List Nd} (g k : Nat) (h : nt k = nt' k) (hk : ∀ y, kdK l y = kdK l' y) : brT nt l g k = brT nt' l' g k := by
  unfold brT
  rw [h, hk]
theorem tk_cong {nt nt' : Nat → Tks} {l l' : List Nd} (p : Pt) (h : ∀ y ∈ p.kd, nt y.toNat = nt' y.toNat) (hk : ∀ y, kdK l y = kdK l' y) : p.tk nt l = p.tk nt' l' := by
  cases p with
  | s x => rfl
  | n k => show nt k = nt' k; simpa [Pt.kd] using h
  | ea ao c ks => exact seqT_cong h
  | li ao c ks => exact comT_cong 0 h
  | pa ao c ks => simp only [Pt.tk]; rw [seqT_cong (by simpa [Pt.kd] using h)]
  | op k => exact brT_cong _ _ (by simpa [Pt.kd] using h) hk
  | ow k => exact brT_cong _ _ (by simpa [Pt.kd] using h) hk
theorem psT_cong {nt nt' : Nat → Tks} {l l' : List Nd} : ∀ (ps : List Pt), (∀ y ∈ psK ps, nt y.toNat = nt' y.toNat) → (∀ y, kdK l y = kdK l' y) → psT nt l ps = psT nt' l' ps
  | [], _, _ => rfl
  | p :: r, h, hk => by
    simp only [psT]
    rw [tk_cong p (fun y hy => h y (by simp only [psK]; exact List.mem_append_left _ hy)) hk, psT_cong r (fun y hy => h y (by simp only [psK]; exact List.mem_append_right _ hy)) hk]
/-- A node's parts. -/
def kidN (x : Nd) (j : Nat) : Nat := (x.ks.getD j 0).toNat
def mutS (v : Int) : ByteArray := if v = 1 then ⟨#[109, 117, 116]⟩ else ⟨#[]⟩
def truS (v : Int) : ByteArray := if v = 1 then ⟨#[116, 114, 117, 101]⟩ else ⟨#[102, 97, 108, 115, 101]⟩
def pckA (x : Nd) : List UInt8 := (Lib.cut x.nm.data.toList [58, 58]).1
def pckB (x : Nd) : List UInt8 := (Lib.cut x.nm.data.toList [58, 58]).2.1
def prtK (l : List Nd) (x : Nd) : Nat → List Pt
  | 1 => [.ea none 0 x.ks]
  | 2 => [.s ⟨#[102, 110]⟩, .s x.nm, .s ⟨#[40]⟩, .li none 0 (x.ks.take (x.ks.length - 2)), .s ⟨#[41]⟩] ++ ((if kdK l (kidN x (x.ks.length - 2)) = 12 then [] else [.s ⟨#[45, 62]⟩, .n (kidN x (x.ks.length - 2))]) ++ [.n (kidN x (x.ks.length - 1))])
  | 3 => [.s ⟨#[115, 116, 114, 117, 99, 116]⟩, .s x.nm, .s ⟨#[123]⟩, .li none 0 x.ks, .s ⟨#[125]⟩]
  | 4 => [.s ⟨#[101, 110, 117, 109]⟩, .s x.nm, .s ⟨#[123]⟩, .li none 0 x.ks, .s ⟨#[125]⟩]
  | 5 => [.s x.nm, .s ⟨#[58]⟩, .n (kidN x 0)]
  | 6 => [.s x.nm, .pa none 0 x.ks]
  | 7 => [.s (mutS x.v), .s x.nm, .s ⟨#[58]⟩, .n (kidN x 0)]
  | 10 => [.s ⟨#[105, 54, 52]⟩]
  | 11 => [.s ⟨#[98, 111, 111, 108]⟩]
  | 12 => [.s ⟨#[40]⟩, .s ⟨#[41]⟩]
  | 13 => [.s x.nm]
  | 14 => [.s ⟨#[38]⟩, .n (kidN x 0)]
  | 15 => [.s ⟨#[38]⟩, .s ⟨#[109, 117, 116]⟩, .n (kidN x 0)]
  | 16 => [.s ⟨#[66, 111, 120]⟩, .s ⟨#[60]⟩, .n (kidN x 0), .s ⟨#[62]⟩]
  | 20 => [.s ⟨#[123]⟩, .ea none 0 x.ks, .s ⟨#[125]⟩]
  | 21 => [.s ⟨#[108, 101, 116]⟩, .s (mutS x.v), .s x.nm] ++ ((if x.ks.length = 1 then [] else [.s ⟨#[58]⟩, .ea none 0 (x.ks.take (x.ks.length - 1))]) ++ ([.s ⟨#[61]⟩, .ea none 0 (x.ks.drop (x.ks.length - 1))] ++ [.s ⟨#[59]⟩]))
  | 22 => [.ea none 0 x.ks, .s ⟨#[59]⟩]
  | 23 => [.op (kidN x 0), .s ⟨#[61]⟩, .op (kidN x 1), .s ⟨#[59]⟩]
  | 24 => [.s ⟨#[119, 104, 105, 108, 101]⟩, .op (kidN x 0), .n (kidN x 1)]
  | 25 => [.s ⟨#[114, 101, 116, 117, 114, 110]⟩, .ea none 0 x.ks, .s ⟨#[59]⟩]
  | 26 => [.s ⟨#[98, 114, 101, 97, 107]⟩, .s ⟨#[59]⟩]
  | 27 => [.s ⟨#[99, 111, 110, 116, 105, 110, 117, 101]⟩, .s ⟨#[59]⟩]
  | 30 => [.s ⟨(Lib.itoa x.v).toArray⟩]
  | 31 => [.s (truS x.v)]
  | 32 => [.s ⟨#[40]⟩, .s ⟨#[41]⟩]
  | 33 => [.s x.nm]
  | 34 => [.s x.nm, .s ⟨#[40]⟩, .li none 0 x.ks, .s ⟨#[41]⟩]
  | 35 => [.s x.nm, .s ⟨#[123]⟩, .li none 0 x.ks, .s ⟨#[125]⟩]
  | 36 => [.s x.nm, .s ⟨#[58]⟩, .n (kidN x 0)]
  | 37 => [.s ⟨(pckA x).toArray⟩, .s ⟨#[58, 58]⟩, .s ⟨(pckB x).toArray⟩, .pa none 0 x.ks]
  | 38 => [.op (kidN x 0), .s x.nm, .op (kidN x 1)]
  | 39 => [.s ⟨#[45]⟩, .op (kidN x 0)]
  | 40 => [.s ⟨#[33]⟩, .op (kidN x 0)]
  | 41 => [.ow (kidN x 0), .s ⟨#[46]⟩, .s x.nm]
  | 42 => [.s ⟨#[42]⟩, .op (kidN x 0)]
  | 43 => [.s ⟨#[38]⟩, .s (mutS x.v), .op (kidN x 0)]
  | 44 => [.s ⟨#[66, 111, 120]⟩, .s ⟨#[58, 58]⟩, .s ⟨#[110, 101, 119]⟩, .s ⟨#[40]⟩, .n (kidN x 0), .s ⟨#[41]⟩]
  | 45 => [.s ⟨#[105, 102]⟩, .op (kidN x 0), .n (kidN x 1)] ++ (if x.ks.length = 2 then [] else [.s ⟨#[101, 108, 115, 101]⟩, .n (kidN x 2)])
  | 46 => [.s ⟨#[109, 97, 116, 99, 104]⟩, .op (kidN x 0), .s ⟨#[123]⟩, .li none 0 (x.ks.drop 1), .s ⟨#[125]⟩]
  | 47 => [.n (kidN x 0), .s ⟨#[61, 62]⟩, .n (kidN x 1)]
  | 50 => [.s ⟨#[95]⟩]
  | 51 => [.s x.nm]
  | 52 => (if x.v < 0 then [.s ⟨#[45]⟩] else []) ++ [.s ⟨(Lib.trimPrefix (Lib.itoa x.v) [45]).toArray⟩]
  | 53 => [.s (truS x.v)]
  | 54 => [.s ⟨(pckA x).toArray⟩, .s ⟨#[58, 58]⟩, .s ⟨(pckB x).toArray⟩, .pa none 0 x.ks]
  | _ => []
def prt (l : List Nd) (x : Nd) : List Pt := prtK l x x.k.toNat
/-- How many kids a kind has. -/
def arB : Nat → Nat → Bool
  | 1, _ => true
  | 2, n => decide (2 ≤ n)
  | 3, _ => true
  | 4, _ => true
  | 5, n => decide (n = 1)
  | 6, n => decide (n ≤ 1)
  | 7, n => decide (n = 1)
  | 10, n => decide (n = 0)
  | 11, n => decide (n = 0)
  | 12, n => decide (n = 0)
  | 13, n => decide (n = 0)
  | 14, n => decide (n = 1)
  | 15, n => decide (n = 1)
  | 16, n => decide (n = 1)
  | 20, _ => true
  | 21, n => decide (n = 1) || decide (n = 2)
  | 22, n => decide (n = 1)
  | 23, n => decide (n = 2)
  | 24, n => decide (n = 2)
  | 25, n => decide (n ≤ 1)
  | 26, n => decide (n = 0)
  | 27, n => decide (n = 0)
  | 30, n => decide (n = 0)
  | 31, n => decide (n = 0)
  | 32, n => decide (n = 0)
  | 33, n => decide (n = 0)
  | 34, _ => true
  | 35, _ => true
  | 36, n => decide (n = 1)
  | 37, n => decide (n ≤ 1)
  | 38, n => decide (n = 2)
  | 39, n => decide (n = 1)
  | 40, n => decide (n = 1)
  | 41, n => decide (n = 1)
  | 42, n => decide (n = 1)
  | 43, n => decide (n = 1)
  | 44, n => decide (n = 1)
  | 45, n => decide (n = 2) || decide (n = 3)
  | 46, n => decide (1 ≤ n)
  | 47, n => decide (n = 2)
  | 50, n => decide (n = 0)
  | 51, n => decide (n = 0)
  | 52, n => decide (n = 0)
  | 53, n => decide (n = 0)
  | 54, n => decide (n ≤ 1)
  | _, _ => false
theorem kAre_n {l : List Nd} {ks : List Int} {gs : List Nat} (h : kAre l ks gs = true) {n : Nat} (hn : gs.length = n) : ks.length = n := by rw [kAre_len h, hn]
theorem ar_of {l : List Nd} {k v : Int} {ks : List Int} (h : kidsB l k v ks = true) : arB k.toNat ks.length = true ∧ 0 ≤ k := by
  unfold kidsB at h
  by_cases h1 : k = 1
  · rw [if_pos h1] at h
    subst h1
    exact ⟨rfl, by decide⟩
  rw [if_neg h1] at h
  by_cases h2 : k = 2
  · rw [if_pos h2] at h
    subst h2
    exact ⟨by
      simp only [Bool.and_eq_true] at h
      have := kAre_n (n := 2) h.2.2 rfl
      rw [List.length_drop] at this
      simp [arB]; omega, by decide⟩
  rw [if_neg h2] at h
  by_cases h3 : k = 3
  · rw [if_pos h3] at h
    subst h3
    exact ⟨rfl, by decide⟩
  rw [if_neg h3] at h
  by_cases h4 : k = 4
  · rw [if_pos h4] at h
    subst h4
    exact ⟨rfl, by decide⟩
  rw [if_neg h4] at h
  by_cases h5 : k = 5
  · rw [if_pos h5] at h
    subst h5
    exact ⟨by have := kAre_n h rfl; simp [arB, this], by decide⟩
  rw [if_neg h5] at h
  by_cases h6 : k = 6
  · rw [if_pos h6] at h
    subst h6
    exact ⟨by
      by_cases h0 : ks.length = 0
      · simp [arB, h0]
      · rw [if_neg h0] at h; have := kAre_n h rfl; simp [arB, this], by decide⟩
  rw [if_neg h6] at h
  by_cases h7 : k = 7
  · rw [if_pos h7] at h
    subst h7
    exact ⟨by have := kAre_n h rfl; simp [arB, this], by decide⟩
  rw [if_neg h7] at h
  by_cases h10 : k = 10
  · rw [if_pos h10] at h
    subst h10
    exact ⟨by simpa [arB] using h, by decide⟩
  rw [if_neg h10] at h
  by_cases h11 : k = 11
  · rw [if_pos h11] at h
    subst h11
    exact ⟨by simpa [arB] using h, by decide⟩
  rw [if_neg h11] at h
  by_cases h12 : k = 12
  · rw [if_pos h12] at h
    subst h12
    exact ⟨by simpa [arB] using h, by decide⟩
  rw [if_neg h12] at h
  by_cases h13 : k = 13
  · rw [if_pos h13] at h
    subst h13
    exact ⟨by simpa [arB] using h, by decide⟩
  rw [if_neg h13] at h
  by_cases h14 : k = 14
  · rw [if_pos h14] at h
    subst h14
    exact ⟨by have := kAre_n h rfl; simp [arB, this], by decide⟩
  rw [if_neg h14] at h
  by_cases h15 : k = 15
  · rw [if_pos h15] at h
    subst h15
    exact ⟨by have := kAre_n h rfl; simp [arB, this], by decide⟩
  rw [if_neg h15] at h
  by_cases h16 : k = 16
  · rw [if_pos h16] at h
    subst h16
    exact ⟨by have := kAre_n h rfl; simp [arB, this], by decide⟩
  rw [if_neg h16] at h
  by_cases h20 : k = 20
  · rw [if_pos h20] at h
    subst h20
    exact ⟨rfl, by decide⟩
  rw [if_neg h20] at h
  by_cases h21 : k = 21
  · rw [if_pos h21] at h
    subst h21
    exact ⟨by
      rw [Bool.or_eq_true] at h
      rcases h with h | h <;> have := kAre_n h rfl <;> simp [arB, this], by decide⟩
  rw [if_neg h21] at h
  by_cases h22 : k = 22
  · rw [if_pos h22] at h
    subst h22
    exact ⟨by have := kAre_n h rfl; simp [arB, this], by decide⟩
  rw [if_neg h22] at h
  by_cases h23 : k = 23
  · rw [if_pos h23] at h
    subst h23
    exact ⟨by have := kAre_n h rfl; simp [arB, this], by decide⟩
  rw [if_neg h23] at h
  by_cases h24 : k = 24
  · rw [if_pos h24] at h
    subst h24
    exact ⟨by have := kAre_n h rfl; simp [arB, this], by decide⟩
  rw [if_neg h24] at h
  by_cases h25 : k = 25
  · rw [if_pos h25] at h
    subst h25
    exact ⟨by
      by_cases h0 : ks.length = 0
      · simp [arB, h0]
      · rw [if_neg h0] at h; have := kAre_n h rfl; simp [arB, this], by decide⟩
  rw [if_neg h25] at h
  by_cases h26 : k = 26
  · rw [if_pos h26] at h
    subst h26
    exact ⟨by simpa [arB] using h, by decide⟩
  rw [if_neg h26] at h
  by_cases h27 : k = 27
  · rw [if_pos h27] at h
    subst h27
    exact ⟨by simpa [arB] using h, by decide⟩
  rw [if_neg h27] at h
  by_cases h30 : k = 30
  · rw [if_pos h30] at h
    subst h30
    exact ⟨by simpa [arB] using h, by decide⟩
  rw [if_neg h30] at h
  by_cases h31 : k = 31
  · rw [if_pos h31] at h
    subst h31
    exact ⟨by simpa [arB] using h, by decide⟩
  rw [if_neg h31] at h
  by_cases h32 : k = 32
  · rw [if_pos h32] at h
    subst h32
    exact ⟨by simpa [arB] using h, by decide⟩
  rw [if_neg h32] at h
  by_cases h33 : k = 33
  · rw [if_pos h33] at h
    subst h33
    exact ⟨by simpa [arB] using h, by decide⟩
  rw [if_neg h33] at h
  by_cases h34 : k = 34
  · rw [if_pos h34] at h
    subst h34
    exact ⟨rfl, by decide⟩
  rw [if_neg h34] at h
  by_cases h35 : k = 35
  · rw [if_pos h35] at h
    subst h35
    exact ⟨rfl, by decide⟩
  rw [if_neg h35] at h
  by_cases h36 : k = 36
  · rw [if_pos h36] at h
    subst h36
    exact ⟨by have := kAre_n h rfl; simp [arB, this], by decide⟩
  rw [if_neg h36] at h
  by_cases h37 : k = 37
  · rw [if_pos h37] at h
    subst h37
    exact ⟨by
      by_cases h0 : ks.length = 0
      · simp [arB, h0]
      · rw [if_neg h0] at h; have := kAre_n h rfl; simp [arB, this], by decide⟩
  rw [if_neg h37] at h
  by_cases h38 : k = 38
  · rw [if_pos h38] at h
    subst h38
    exact ⟨by have := kAre_n h rfl; simp [arB, this], by decide⟩
  rw [if_neg h38] at h
  by_cases h39 : k = 39
  · rw [if_pos h39] at h
    subst h39
    exact ⟨by have := kAre_n h rfl; simp [arB, this], by decide⟩
  rw [if_neg h39] at h
  by_cases h40 : k = 40
  · rw [if_pos h40] at h
    subst h40
    exact ⟨by have := kAre_n h rfl; simp [arB, this], by decide⟩
  rw [if_neg h40] at h
  by_cases h41 : k = 41
  · rw [if_pos h41] at h
    subst h41
    exact ⟨by have := kAre_n h rfl; simp [arB, this], by decide⟩
  rw [if_neg h41] at h
  by_cases h42 : k = 42
  · rw [if_pos h42] at h
    subst h42
    exact ⟨by have := kAre_n h rfl; simp [arB, this], by decide⟩
  rw [if_neg h42] at h
  by_cases h43 : k = 43
  · rw [if_pos h43] at h
    subst h43
    exact ⟨by have := kAre_n h rfl; simp [arB, this], by decide⟩
  rw [if_neg h43] at h
  by_cases h44 : k = 44
  · rw [if_pos h44] at h
    subst h44
    exact ⟨by have := kAre_n h rfl; simp [arB, this], by decide⟩
  rw [if_neg h44] at h
  by_cases h45 : k = 45
  · rw [if_pos h45] at h
    subst h45
    exact ⟨by
      rw [Bool.or_eq_true] at h
      rcases h with h | h <;> have := kAre_n h rfl <;> simp [arB, this], by decide⟩
  rw [if_neg h45] at h
  by_cases h46 : k = 46
  · rw [if_pos h46] at h
    subst h46
    exact ⟨by
      by_cases h0 : ks.length = 0
      · rw [if_pos h0] at h; cases h
      · simp [arB]; omega, by decide⟩
  rw [if_neg h46] at h
  by_cases h47 : k = 47
  · rw [if_pos h47] at h
    subst h47
    exact ⟨by have := kAre_n h rfl; simp [arB, this], by decide⟩
  rw [if_neg h47] at h
  by_cases h50 : k = 50
  · rw [if_pos h50] at h
    subst h50
    exact ⟨by simpa [arB] using h, by decide⟩
  rw [if_neg h50] at h
  by_cases h51 : k = 51
  · rw [if_pos h51] at h
    subst h51
    exact ⟨by simpa [arB] using h, by decide⟩
  rw [if_neg h51] at h
  by_cases h52 : k = 52
  · rw [if_pos h52] at h
    subst h52
    exact ⟨by simpa [arB] using h, by decide⟩
  rw [if_neg h52] at h
  by_cases h53 : k = 53
  · rw [if_pos h53] at h
    subst h53
    exact ⟨by simpa [arB] using h, by decide⟩
  rw [if_neg h53] at h
  by_cases h54 : k = 54
  · rw [if_pos h54] at h
    subst h54
    exact ⟨by
      by_cases h0 : ks.length = 0
      · simp [arB, h0]
      · rw [if_neg h0] at h; have := kAre_n h rfl; simp [arB, this], by decide⟩
  rw [if_neg h54] at h
  cases h
theorem getD_mem {ks : List Int} {j : Nat} (h : j < ks.length) : ks.getD j 0 ∈ ks := by
  simp [List.getD, h]
theorem kidN_in {x : Nd} {j : Nat} (hp : ∀ y ∈ x.ks, 0 ≤ y) (h : j < x.ks.length) : x.ks[j]? = some ((kidN x j : Nat) : Int) := by
  have h2 := hp _ (getD_mem h)
  unfold kidN
  rw [Int.toNat_of_nonneg h2, List.getElem?_eq_getElem h]
  simp [List.getD, h]
theorem list1 {x : Nd} (hp : ∀ y ∈ x.ks, 0 ≤ y) (h : x.ks.length = 1) : x.ks = [((kidN x 0 : Nat) : Int)] := by
  have a := kidN_in hp (j := 0) (by omega)
  apply List.ext_getElem?
  intro i
  by_cases hi : i = 0
  · subst hi; simpa using a
  · rw [List.getElem?_eq_none (by omega), List.getElem?_eq_none (by simp; omega)]
theorem list2 {x : Nd} (hp : ∀ y ∈ x.ks, 0 ≤ y) (h : x.ks.length = 2) : x.ks = [((kidN x 0 : Nat) : Int), ((kidN x 1 : Nat) : Int)] := by
  have a := kidN_in hp (j := 0) (by omega)
  have b := kidN_in hp (j := 1) (by omega)
  apply List.ext_getElem?
  intro i
  by_cases hi : i = 0
  · subst hi; simpa using a
  · by_cases hj : i = 1
    · subst hj; simpa using b
    · rw [List.getElem?_eq_none (by omega), List.getElem?_eq_none (by simp; omega)]
theorem list3 {x : Nd} (hp : ∀ y ∈ x.ks, 0 ≤ y) (h : x.ks.length = 3) : x.ks = [((kidN x 0 : Nat) : Int), ((kidN x 1 : Nat) : Int), ((kidN x 2 : Nat) : Int)] := by
  have a := kidN_in hp (j := 0) (by omega)
  have b := kidN_in hp (j := 1) (by omega)
  have c := kidN_in hp (j := 2) (by omega)
  apply List.ext_getElem?
  intro i
  by_cases hi : i = 0
  · subst hi; simpa using a
  · by_cases hj : i = 1
    · subst hj; simpa using b
    · by_cases hk : i = 2
      · subst hk; simpa using c
      · rw [List.getElem?_eq_none (by omega), List.getElem?_eq_none (by simp; omega)]
/-- What a list of parts has below it lies in a list of kids. -/
def KidsIn (ps : List Pt) (ks : List Int) : Prop := (∀ y ∈ psK ps, y ∈ ks) ∧ ∀ W, sumW W (psK ps) ≤ sumW W ks
theorem KidsIn.of_eq {ps : List Pt} {ks : List Int} (h : psK ps = ks) : KidsIn ps ks := ⟨fun y hy => h ▸ hy, fun W => by rw [h]; exact Nat.le_refl _⟩
theorem KidsIn.nil {ps : List Pt} {ks : List Int} (h : psK ps = []) : KidsIn ps ks := ⟨fun y hy => absurd (h ▸ hy) (by simp), fun W => by rw [h]; exact Nat.zero_le _⟩
theorem fn_split {x : Nd} (hp : ∀ y ∈ x.ks, 0 ≤ y) (h : 2 ≤ x.ks.length) : x.ks = x.ks.take (x.ks.length - 2) ++ [((kidN x (x.ks.length - 2) : Nat) : Int), ((kidN x (x.ks.length - 1) : Nat) : Int)] := by
  have a := kidN_in hp (j := x.ks.length - 2) (by omega)
  have b := kidN_in hp (j := x.ks.length - 1) (by omega)
  apply List.ext_getElem?
  intro i
  rw [List.getElem?_append]
  by_cases hi : i < (x.ks.take (x.ks.length - 2)).length
  · rw [if_pos hi, List.getElem?_take, if_pos (by rw [List.length_take] at hi; omega)]
  · rw [if_neg hi]
    rw [List.length_take] at hi
    rw [List.length_take, show min (x.ks.length - 2) x.ks.length = x.ks.length - 2 by omega]
    by_cases h0 : i = x.ks.length - 2
    · rw [h0, Nat.sub_self]; exact a
    · by_cases h1 : i = x.ks.length - 1
      · rw [h1, show x.ks.length - 1 - (x.ks.length - 2) = 1 by omega]; exact b
      · rw [List.getElem?_eq_none (by omega), List.getElem?_eq_none (by simp; omega)]
theorem prt_kids {l : List Nd} {x : Nd} (h : arB x.k.toNat x.ks.length = true) (hp : ∀ y ∈ x.ks, 0 ≤ y) : KidsIn (prt l x) x.ks := by
  unfold prt
  revert h
  generalize x.k.toNat = K
  intro h
  unfold arB at h
  split at h
  · exact .of_eq (by simp [prtK, psK, Pt.kd])
  · have h2 : 2 ≤ x.ks.length := by simpa using h
    have e := fn_split hp h2
    rw [show prtK l x 2 = [.s ⟨#[102, 110]⟩, .s x.nm, .s ⟨#[40]⟩, .li none 0 (x.ks.take (x.ks.length - 2)), .s ⟨#[41]⟩] ++ ((if kdK l (kidN x (x.ks.length - 2)) = 12 then [] else [.s ⟨#[45, 62]⟩, .n (kidN x (x.ks.length - 2))]) ++ [.n (kidN x (x.ks.length - 1))]) from rfl]
    by_cases hu : kdK l (kidN x (x.ks.length - 2)) = 12
    · rw [if_pos hu]
      unfold KidsIn
      simp only [psK_app, psK, Pt.kd, List.nil_append, List.append_nil]
      refine ⟨fun y hy => ?_, fun W => ?_⟩
      · rcases List.mem_append.1 hy with hy | hy
        · exact List.mem_of_mem_take hy
        · rw [e]; exact List.mem_append_right _ (List.mem_cons_of_mem _ hy)
      · rw [sumW_app]
        have e2 : sumW W x.ks = sumW W (x.ks.take (x.ks.length - 2)) + sumW W [((kidN x (x.ks.length - 2) : Nat) : Int), ((kidN x (x.ks.length - 1) : Nat) : Int)] := by rw [← sumW_app, ← e]
        rw [e2]
        simp only [sumW]
        omega
    · rw [if_neg hu]
      refine .of_eq ?_
      simp only [psK, Pt.kd, List.nil_append, List.append_nil, List.cons_append]
      exact e.symm
  · exact .of_eq (by simp [prtK, psK, Pt.kd])
  · exact .of_eq (by simp [prtK, psK, Pt.kd])
  · exact .of_eq (by have e := list1 hp (by simpa using h); simp only [prtK, psK, Pt.kd, List.nil_append, List.append_nil]; exact e.symm)
  · exact .of_eq (by simp [prtK, psK, Pt.kd])
  · exact .of_eq (by have e := list1 hp (by simpa using h); simp only [prtK, psK, Pt.kd, List.nil_append, List.append_nil]; exact e.symm)
  · exact .nil (by simp [prtK, psK, Pt.kd])
  · exact .nil (by simp [prtK, psK, Pt.kd])
  · exact .nil (by simp [prtK, psK, Pt.kd])
  · exact .nil (by simp [prtK, psK, Pt.kd])
  · exact .of_eq (by have e := list1 hp (by simpa using h); simp only [prtK, psK, Pt.kd, List.nil_append, List.append_nil]; exact e.symm)
  · exact .of_eq (by have e := list1 hp (by simpa using h); simp only [prtK, psK, Pt.kd, List.nil_append, List.append_nil]; exact e.symm)
  · exact .of_eq (by have e := list1 hp (by simpa using h); simp only [prtK, psK, Pt.kd, List.nil_append, List.append_nil]; exact e.symm)
  · exact .of_eq (by simp [prtK, psK, Pt.kd])
  · unfold prtK
    by_cases h1 : x.ks.length = 1
    · rw [if_pos h1]
      exact .of_eq (by simp [psK, Pt.kd, h1])
    · rw [if_neg h1]
      exact .of_eq (by simp only [psK, psK_app, Pt.kd, List.nil_append, List.append_nil]; exact List.take_append_drop _ _)
  · exact .of_eq (by simp [prtK, psK, Pt.kd])
  · exact .of_eq (by have e := list2 hp (by simpa using h); simp only [prtK, psK, Pt.kd, List.nil_append, List.append_nil, List.cons_append]; exact e.symm)
  · exact .of_eq (by have e := list2 hp (by simpa using h); simp only [prtK, psK, Pt.kd, List.nil_append, List.append_nil, List.cons_append]; exact e.symm)
  · exact .of_eq (by simp [prtK, psK, Pt.kd])
  · exact .nil (by simp [prtK, psK, Pt.kd])
  · exact .nil (by simp [prtK, psK, Pt.kd])
  · exact .nil (by simp [prtK, psK, Pt.kd])
  · exact .nil (by simp [prtK, psK, Pt.kd])
  · exact .nil (by simp [prtK, psK, Pt.kd])
  · exact .nil (by simp [prtK, psK, Pt.kd])
  · exact .of_eq (by simp [prtK, psK, Pt.kd])
  · exact .of_eq (by simp [prtK, psK, Pt.kd])
  · exact .of_eq (by have e := list1 hp (by simpa using h); simp only [prtK, psK, Pt.kd, List.nil_append, List.append_nil]; exact e.symm)
  · exact .of_eq (by simp [prtK, psK, Pt.kd])
  · exact .of_eq (by have e := list2 hp (by simpa using h); simp only [prtK, psK, Pt.kd, List.nil_append, List.append_nil, List.cons_append]; exact e.symm)
  · exact .of_eq (by have e := list1 hp (by simpa using h); simp only [prtK, psK, Pt.kd, List.nil_append, List.append_nil]; exact e.symm)
  · exact .of_eq (by have e := list1 hp (by simpa using h); simp only [prtK, psK, Pt.kd, List.nil_append, List.append_nil]; exact e.symm)
  · exact .of_eq (by have e := list1 hp (by simpa using h); simp only [prtK, psK, Pt.kd, List.append_nil]; exact e.symm)
  · exact .of_eq (by have e := list1 hp (by simpa using h); simp only [prtK, psK, Pt.kd, List.nil_append, List.append_nil]; exact e.symm)
  · exact .of_eq (by have e := list1 hp (by simpa using h); simp only [prtK, psK, Pt.kd, List.nil_append, List.append_nil]; exact e.symm)
  · exact .of_eq (by have e := list1 hp (by simpa using h); simp only [prtK, psK, Pt.kd, List.nil_append, List.append_nil]; exact e.symm)
  · unfold prtK
    by_cases h1 : x.ks.length = 2
    · rw [if_pos h1]
      exact .of_eq (by have e := list2 hp h1; simp only [psK, Pt.kd, List.nil_append, List.append_nil, List.cons_append]; exact e.symm)
    · rw [if_neg h1]
      exact .of_eq (by have e := list3 hp (by simp at h; omega); simp only [psK, Pt.kd, List.nil_append, List.append_nil, List.cons_append]; exact e.symm)
  · refine .of_eq ?_
    have h1 : 1 ≤ x.ks.length := by simpa using h
    have a := kidN_in hp (j := 0) (by omega)
    simp only [prtK, psK, Pt.kd, List.nil_append, List.append_nil, List.cons_append]
    have t := List.drop_eq_getElem_cons (l := x.ks) (i := 0) (by omega)
    rw [List.getElem?_eq_getElem (by omega)] at a
    have a2 := Option.some.inj a
    rw [← a2]
    simpa using t.symm
  · exact .of_eq (by have e := list2 hp (by simpa using h); simp only [prtK, psK, Pt.kd, List.nil_append, List.append_nil, List.cons_append]; exact e.symm)
  · exact .nil (by simp [prtK, psK, Pt.kd])
  · exact .nil (by simp [prtK, psK, Pt.kd])
  · exact .nil (by simp [prtK]; split <;> simp [psK, Pt.kd])
  · exact .nil (by simp [prtK, psK, Pt.kd])
  · exact .of_eq (by simp [prtK, psK, Pt.kd])
  · cases h
end
section
open Go.RowKit Go.Shelf
/-- A node's own room. -/
theorem prt_room {l : List Nd} {x : Nd} (hi : (Lib.itoa x.v).length ≤ 21) (hc : (pckA x).length + (pckB x).length ≤ x.nm.data.toList.length) (ht : (Lib.trimPrefix (Lib.itoa x.v) [45]).length ≤ 21) : psC (prt l x) ≤ x.nm.data.toList.length + 100 := by
  have hm : (mutS x.v).data.toList.length ≤ 3 := by unfold mutS; split <;> simp
  have hu : (truS x.v).data.toList.length ≤ 5 := by unfold truS; split <;> simp
  unfold prt
  generalize x.k.toNat = K
  unfold prtK
  split
  all_goals (try simp only [psC, psC_app, Pt.cs, List.length_cons, List.length_nil])
  all_goals (repeat' split)
  all_goals (try simp only [psC, Pt.cs, List.length_cons, List.length_nil])
  all_goals omega
/-- The tokens of each node. -/
def ntF (l : List Nd) : Nat → Nat → Tks
  | 0, _ => []
  | f + 1, k => match l[k]? with
    | some x => psT (ntF l f) l (prt l x)
    | none => []
/-- Each node's parts stand ahead of it. -/
def PKin (l : List Nd) : Prop := ∀ (k : Nat) x, l[k]? = some x → ∀ y ∈ psK (prt l x), 0 ≤ y ∧ y < (k : Int)
theorem ntF_eq {l : List Nd} (hl : PKin l) : ∀ (n k f f' : Nat), k < n → k < f → k < f' → ntF l f k = ntF l f' k
  | 0, k, f, f', h, _, _ => absurd h (Nat.not_lt_zero _)
  | n + 1, k, f + 1, f' + 1, h, h1, h2 => by
    simp only [ntF]
    cases hx : l[k]? with
    | none => rfl
    | some x =>
      refine psT_cong _ (fun y hy => ?_) (fun _ => rfl)
      have t := hl k x hx y hy
      exact ntF_eq hl n y.toNat f f' (by omega) (by omega) (by omega)
def ntR (l : List Nd) (k : Nat) : Tks := ntF l (k + 1) k
theorem ntR_eq {l : List Nd} (hl : PKin l) {k : Nat} {x : Nd} (hx : l[k]? = some x) : ntR l k = psT (ntR l) l (prt l x) := by
  show ntF l (k + 1) k = _
  simp only [ntF, hx]
  refine psT_cong _ (fun y hy => ?_) (fun _ => rfl)
  have t := hl k x hx y hy
  exact ntF_eq hl k y.toNat _ _ (by omega) (by omega) (by omega)
/-- The weight of what has no parent. -/
def freeW (W : Nat → Nat) (p : List Int) : Nat → Nat
  | 0 => 0
  | K + 1 => freeW W p K + (if p.getD K 0 < 0 then W K else 0)
theorem freeW_far (W : Nat → Nat) (p : List Int) (y : Nat) (v : Int) : ∀ K, K ≤ y → freeW W (p.set y v) K = freeW W p K
  | 0, _ => rfl
  | K + 1, h => by
    simp only [freeW]
    rw [freeW_far W p y v K (by omega)]
    have e : (p.set y v).getD K 0 = p.getD K 0 := by simp [List.getD, show ¬ y = K by omega]
    rw [e]
theorem freeW_set (W : Nat → Nat) (p : List Int) (y v : Nat) (h0 : p.getD y 0 < 0) : ∀ K, y < K → freeW W (p.set y (v : Int)) K + W y = freeW W p K
  | 0, h => absurd h (Nat.not_lt_zero _)
  | K + 1, h => by
    have hl : y < p.length := by
      rw [← Nat.not_le]
      intro hc
      simp [List.getD, hc] at h0
    simp only [freeW]
    by_cases e : y = K
    · subst e
      rw [freeW_far W p y v y (Nat.le_refl _), if_pos h0]
      have e2 : (p.set y (v : Int)).getD y 0 = v := by simp [List.getD, hl]
      rw [e2, if_neg (by omega)]
      omega
    · have t := freeW_set W p y v h0 K (by omega)
      have e2 : (p.set y (v : Int)).getD K 0 = p.getD K 0 := by simp [List.getD, e]
      rw [e2]
      omega
theorem pKids_free (W : Nat → Nat) {k : Nat} : ∀ {ks p q : List Int}, pKids k ks p = some q → freeW W q k + sumW W ks = freeW W p k
  | [], p, q, h => by cases h; rfl
  | y :: r, p, q, h => by
    unfold pKids at h
    split at h
    · cases h
    · rename_i hc
      have t := pKids_free W h
      have t2 := freeW_set W p y.toNat k (by omega) k (by omega)
      simp only [sumW]
      omega
theorem pAll_free (W : Nat → Nat) (C : Nat) : ∀ (r : List Nd) (k : Nat) (p q : List Int), pAll k r p = some q → (∀ i x, r[i]? = some x → W (k + i) ≤ C + sumW W x.ks) → freeW W q (k + r.length) ≤ freeW W p k + r.length * C
  | [], k, p, q, h, _ => by cases h; simp
  | x :: r, k, p, q, h, hW => by
    unfold pAll at h
    cases hq : pKids k x.ks p with
    | none => rw [hq] at h; cases h
    | some p' =>
      rw [hq] at h
      have t := pKids_free W hq
      have t2 := pAll_free W C r (k + 1) p' q h (fun i z hz => by
        have := hW (i + 1) z (by simpa using hz)
        rw [show k + 1 + i = k + (i + 1) by omega]
        exact this)
      have t3 := hW 0 x rfl
      simp only [Nat.add_zero] at t3
      have t4 : freeW W p' (k + 1) ≤ freeW W p' k + W k := by
        simp only [freeW]
        split <;> omega
      rw [List.length_cons, show k + (r.length + 1) = k + 1 + r.length by omega, Nat.add_mul]
      omega
theorem root_free {W : Nat → Nat} {C : Nat} {l : List Nd} {p : List Int} (h : parR l = some p) (h0 : 1 ≤ l.length) (hlast : p.getD (l.length - 1) 0 = -1) (hW : ∀ i x, l[i]? = some x → W i ≤ C + sumW W x.ks) : W (l.length - 1) ≤ l.length * C := by
  have t := pAll_free W C l 0 _ p h (fun i x hx => by rw [Nat.zero_add]; exact hW i x hx)
  simp only [freeW, Nat.zero_add] at t
  obtain ⟨n, hn⟩ : ∃ n, l.length = n + 1 := ⟨l.length - 1, by omega⟩
  rw [hn] at t hlast ⊢
  simp only [freeW] at t
  rw [Nat.add_sub_cancel] at hlast ⊢
  rw [hlast, if_pos (by decide)] at t
  omega
/-- How long a printed tree is at most. -/
theorem root_len {l : List Nd} {p : List Int} {C : Nat} (h : parR l = some p) (h0 : 1 ≤ l.length) (hlast : p.getD (l.length - 1) 0 = -1) (hl : PKin l) (hC : ∀ (i : Nat) x, l[i]? = some x → psC (prt l x) + 6 ≤ C ∧ KidsIn (prt l x) x.ks) : (run [] (ntR l (l.length - 1))).length ≤ l.length * C := by
  have t := root_free (W := fun k => tl (ntR l k) + 6) (C := C) h h0 hlast (fun i x hx => by
    obtain ⟨a, b⟩ := hC i x hx
    have t1 := psT_tl (ntR l) l (prt l x)
    have t2 := b.2 (fun k => tl (ntR l k) + 6)
    rw [← ntR_eq hl hx] at t1
    show tl (ntR l i) + 6 ≤ _
    omega)
  have t2 := run_len (ntR l (l.length - 1)) []
  simp only [List.length_nil] at t2
  have t3 : tl (ntR l (l.length - 1)) + 6 ≤ l.length * C := t
  omega
end
end Go.Proofs.YtkkmeogehapjoaaGreatDoor
