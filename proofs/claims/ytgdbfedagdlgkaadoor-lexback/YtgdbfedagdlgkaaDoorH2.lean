/- The size of a letter, by the document, walked. -/
import Derived.Test.YtgdbfedagdlgkaaDoorH1
namespace Go.Proofs.YtgdbfedagdlgkaaDoor
open Go.RowKit Go.Shelf
set_option maxRecDepth 100000 in
set_option maxHeartbeats 4000000 in
theorem size33_2 (s : ByteArray) (l : List UInt8) (p b : Nat) (w : World) (hs : s.size ≤ 140737488355328) (hp : p < s.size) (hA : ∀ k (h : k < s.size), s[k].toNat = bt l k) (hb0 : bt l p = b) (h : 194 ≤ b) (h' : b ≤ 223) : Calls Tryd.prog 33 #[.string s, .int .i64 p] w fun e w' => e = .returned (.int .i64 (tl2 (s.size - p) (bt l (p + 1)) 128 191 : Nat)) ∧ w' = w := by
  have HA : Hid (∀ k (h : k < s.size), s[k].toNat = bt l k) := hA
  have hb1 : s[p].toNat = b := by rw [hA p hp, hb0]
  clear hA hb0
  have q224 : ¬ (b : Int) = 224 := by omega
  have q237 : ¬ (b : Int) = 237 := by omega
  have q240 : ¬ (b : Int) = 240 := by omega
  have q244 : ¬ (b : Int) = 244 := by omega
  obtain ⟨r, hr⟩ : ∃ r, r = tl2 (s.size - p) (bt l (p + 1)) 128 191 := ⟨_, rfl⟩
  rw [← hr]
  have HR : Hid (r = if 2 ≤ s.size - p ∧ 128 ≤ bt l (p + 1) ∧ bt l (p + 1) ≤ 191 then 2 else 0) := hr
  clear hr
  by_cases h1 : p + 2 ≤ s.size
  · have hc1 : s[p + 1].toNat = bt l (p + 1) := HA.out (p + 1) (by omega)
    have hr1 := bt_lt l (p + 1)
    generalize bt l (p + 1) = c1 at *
    by_cases h2 : 128 ≤ c1 ∧ c1 ≤ 191
    · have h2a : (128 : Int) ≤ (c1 : Int) := by omega
      have h2b : (c1 : Int) ≤ 191 := by omega
      have HQ : Hid (r = 2) := HR.out.trans (if_pos ⟨by omega, h2⟩)
      clear h2
      go_enter Tryd.func33, Tryd.ntmps33
      go_wp2
      go_loop [9] (fun i => i = .int .i64 2) (fun _ => 0)
      case atStart => exact rfl
      case round =>
        subst hrel
        go_wp2
        go_ret
        exact ⟨ret_int (by rw [HQ.out]; rfl), rfl⟩
    · have HQ : Hid (r = 0) := HR.out.trans (if_neg (fun h => h2 h.2))
      by_cases h3 : 128 ≤ c1
      · have h3a : (128 : Int) ≤ (c1 : Int) := by omega
        have h3b : ¬ (c1 : Int) ≤ 191 := by omega
        clear h2
        go_enter Tryd.func33, Tryd.ntmps33
        go_wp2
        go_ret
        exact ⟨ret_int (by rw [HQ.out]; rfl), rfl⟩
      · have h3a : ¬ (128 : Int) ≤ (c1 : Int) := by omega
        clear h2
        go_enter Tryd.func33, Tryd.ntmps33
        go_wp2
        go_ret
        exact ⟨ret_int (by rw [HQ.out]; rfl), rfl⟩
  · have HQ : Hid (r = 0) := HR.out.trans (if_neg (fun h => by omega))
    go_enter Tryd.func33, Tryd.ntmps33
    go_wp2
    go_ret
    exact ⟨ret_int (by rw [HQ.out]; rfl), rfl⟩
set_option maxRecDepth 100000 in
set_option maxHeartbeats 4000000 in
theorem size33_224 (s : ByteArray) (l : List UInt8) (p b : Nat) (w : World) (hs : s.size ≤ 140737488355328) (hp : p < s.size) (hA : ∀ k (h : k < s.size), s[k].toNat = bt l k) (hb0 : bt l p = b) (h : b = 224) : Calls Tryd.prog 33 #[.string s, .int .i64 p] w fun e w' => e = .returned (.int .i64 (tl3 (s.size - p) (bt l (p + 1)) (bt l (p + 2)) 160 191 : Nat)) ∧ w' = w := by
  have HA : Hid (∀ k (h : k < s.size), s[k].toNat = bt l k) := hA
  have hb1 : s[p].toNat = b := by rw [hA p hp, hb0]
  clear hA hb0
  have q237 : ¬ (b : Int) = 237 := by omega
  have q240 : ¬ (b : Int) = 240 := by omega
  have q244 : ¬ (b : Int) = 244 := by omega
  obtain ⟨r, hr⟩ : ∃ r, r = tl3 (s.size - p) (bt l (p + 1)) (bt l (p + 2)) 160 191 := ⟨_, rfl⟩
  rw [← hr]
  have HR : Hid (r = if 3 ≤ s.size - p ∧ (160 ≤ bt l (p + 1) ∧ bt l (p + 1) ≤ 191) ∧ (128 ≤ bt l (p + 2) ∧ bt l (p + 2) ≤ 191) then 3 else 0) := hr
  clear hr
  by_cases h1 : p + 3 ≤ s.size
  · have hc1 : s[p + 1].toNat = bt l (p + 1) := HA.out (p + 1) (by omega)
    have hr1 := bt_lt l (p + 1)
    generalize bt l (p + 1) = c1 at *
    by_cases h2 : 160 ≤ c1 ∧ c1 ≤ 191
    · have h2a : (160 : Int) ≤ (c1 : Int) := by omega
      have h2b : (c1 : Int) ≤ 191 := by omega
      clear h2
      go_enter Tryd.func33, Tryd.ntmps33
      go_wp2
      go_loop [9] (fun i => ∃ k : Nat, 2 ≤ k ∧ k ≤ 3 ∧ i = .int .i64 k ∧ ∀ j, 2 ≤ j → j < k → 128 ≤ bt l (p + j) ∧ bt l (p + j) ≤ 191) (fun i => 3 - (intOf i).toNat)
      case atStart => exact ⟨2, by omega, by omega, rfl, fun j h1 h2 => absurd h2 (by omega)⟩
      case round =>
        obtain ⟨k, hk1, hk2, rfl, hpre⟩ := hrel
        have HP : Hid (∀ j, 2 ≤ j → j < k → 128 ≤ bt l (p + j) ∧ bt l (p + j) ≤ 191) := hpre
        clear hpre
        by_cases hk3 : k < 3
        · have hck : s[p + k].toNat = bt l (p + k) := HA.out (p + k) (by omega)
          have hrk := bt_lt l (p + k)
          have HB : Hid (¬ (128 ≤ bt l (p + k) ∧ bt l (p + k) ≤ 191) → ¬ (3 ≤ s.size - p ∧ (160 ≤ c1 ∧ c1 ≤ 191) ∧ (128 ≤ bt l (p + 2) ∧ bt l (p + 2) ≤ 191))) := fun hn h => by
            rcases (by omega : k = 2) with rfl <;> omega
          generalize hbk : bt l (p + k) = ck at *
          have HBK : Hid (bt l (p + k) = ck) := hbk
          clear hbk
          by_cases h3 : 128 ≤ ck
          · by_cases h4 : ck ≤ 191
            · have h3a : (128 : Int) ≤ (ck : Int) := by omega
              have h4a : (ck : Int) ≤ 191 := by omega
              go_wp2
              go_round
              case rel => exact ⟨k + 1, by omega, by omega, by go_num, fun j h5 h6 => by
                rcases Nat.lt_or_ge j k with h7 | h7
                · exact HP.out j h5 h7
                · obtain rfl : j = k := by omega
                  rw [HBK.out]
                  exact ⟨h3, h4⟩⟩
              case measure => simp [intOf]; omega
            · have h3a : (128 : Int) ≤ (ck : Int) := by omega
              have h4a : ¬ (ck : Int) ≤ 191 := by omega
              go_wp2
              go_ret
              exact ⟨ret_int (by rw [HR.out, if_neg (HB.out (fun h => h4 h.2))]; rfl), rfl⟩
          · have h3a : ¬ (128 : Int) ≤ (ck : Int) := by omega
            go_wp2
            go_ret
            exact ⟨ret_int (by rw [HR.out, if_neg (HB.out (fun h => h3 h.1))]; rfl), rfl⟩
        · obtain rfl : k = 3 := by omega
          go_wp2
          go_ret
          exact ⟨ret_int (by rw [HR.out, if_pos ⟨by omega, ⟨by omega, by omega⟩, HP.out 2 (by omega) (by omega)⟩]; rfl), rfl⟩
    · have HQ : Hid (r = 0) := HR.out.trans (if_neg (fun h => h2 h.2.1))
      by_cases h3 : 160 ≤ c1
      · have h3a : (160 : Int) ≤ (c1 : Int) := by omega
        have h3b : ¬ (c1 : Int) ≤ 191 := by omega
        clear h2
        go_enter Tryd.func33, Tryd.ntmps33
        go_wp2
        go_ret
        exact ⟨ret_int (by rw [HQ.out]; rfl), rfl⟩
      · have h3a : ¬ (160 : Int) ≤ (c1 : Int) := by omega
        clear h2
        go_enter Tryd.func33, Tryd.ntmps33
        go_wp2
        go_ret
        exact ⟨ret_int (by rw [HQ.out]; rfl), rfl⟩
  · have HQ : Hid (r = 0) := HR.out.trans (if_neg (fun h => by omega))
    go_enter Tryd.func33, Tryd.ntmps33
    go_wp2
    go_ret
    exact ⟨ret_int (by rw [HQ.out]; rfl), rfl⟩
set_option maxRecDepth 100000 in
set_option maxHeartbeats 4000000 in
theorem size33_237 (s : ByteArray) (l : List UInt8) (p b : Nat) (w : World) (hs : s.size ≤ 140737488355328) (hp : p < s.size) (hA : ∀ k (h : k < s.size), s[k].toNat = bt l k) (hb0 : bt l p = b) (h : b = 237) : Calls Tryd.prog 33 #[.string s, .int .i64 p] w fun e w' => e = .returned (.int .i64 (tl3 (s.size - p) (bt l (p + 1)) (bt l (p + 2)) 128 159 : Nat)) ∧ w' = w := by
  have HA : Hid (∀ k (h : k < s.size), s[k].toNat = bt l k) := hA
  have hb1 : s[p].toNat = b := by rw [hA p hp, hb0]
  clear hA hb0
  have q224 : ¬ (b : Int) = 224 := by omega
  have q240 : ¬ (b : Int) = 240 := by omega
  have q244 : ¬ (b : Int) = 244 := by omega
  obtain ⟨r, hr⟩ : ∃ r, r = tl3 (s.size - p) (bt l (p + 1)) (bt l (p + 2)) 128 159 := ⟨_, rfl⟩
  rw [← hr]
  have HR : Hid (r = if 3 ≤ s.size - p ∧ (128 ≤ bt l (p + 1) ∧ bt l (p + 1) ≤ 159) ∧ (128 ≤ bt l (p + 2) ∧ bt l (p + 2) ≤ 191) then 3 else 0) := hr
  clear hr
  by_cases h1 : p + 3 ≤ s.size
  · have hc1 : s[p + 1].toNat = bt l (p + 1) := HA.out (p + 1) (by omega)
    have hr1 := bt_lt l (p + 1)
    generalize bt l (p + 1) = c1 at *
    by_cases h2 : 128 ≤ c1 ∧ c1 ≤ 159
    · have h2a : (128 : Int) ≤ (c1 : Int) := by omega
      have h2b : (c1 : Int) ≤ 159 := by omega
      clear h2
      go_enter Tryd.func33, Tryd.ntmps33
      go_wp2
      go_loop [9] (fun i => ∃ k : Nat, 2 ≤ k ∧ k ≤ 3 ∧ i = .int .i64 k ∧ ∀ j, 2 ≤ j → j < k → 128 ≤ bt l (p + j) ∧ bt l (p + j) ≤ 191) (fun i => 3 - (intOf i).toNat)
      case atStart => exact ⟨2, by omega, by omega, rfl, fun j h1 h2 => absurd h2 (by omega)⟩
      case round =>
        obtain ⟨k, hk1, hk2, rfl, hpre⟩ := hrel
        have HP : Hid (∀ j, 2 ≤ j → j < k → 128 ≤ bt l (p + j) ∧ bt l (p + j) ≤ 191) := hpre
        clear hpre
        by_cases hk3 : k < 3
        · have hck : s[p + k].toNat = bt l (p + k) := HA.out (p + k) (by omega)
          have hrk := bt_lt l (p + k)
          have HB : Hid (¬ (128 ≤ bt l (p + k) ∧ bt l (p + k) ≤ 191) → ¬ (3 ≤ s.size - p ∧ (128 ≤ c1 ∧ c1 ≤ 159) ∧ (128 ≤ bt l (p + 2) ∧ bt l (p + 2) ≤ 191))) := fun hn h => by
            rcases (by omega : k = 2) with rfl <;> omega
          generalize hbk : bt l (p + k) = ck at *
          have HBK : Hid (bt l (p + k) = ck) := hbk
          clear hbk
          by_cases h3 : 128 ≤ ck
          · by_cases h4 : ck ≤ 191
            · have h3a : (128 : Int) ≤ (ck : Int) := by omega
              have h4a : (ck : Int) ≤ 191 := by omega
              go_wp2
              go_round
              case rel => exact ⟨k + 1, by omega, by omega, by go_num, fun j h5 h6 => by
                rcases Nat.lt_or_ge j k with h7 | h7
                · exact HP.out j h5 h7
                · obtain rfl : j = k := by omega
                  rw [HBK.out]
                  exact ⟨h3, h4⟩⟩
              case measure => simp [intOf]; omega
            · have h3a : (128 : Int) ≤ (ck : Int) := by omega
              have h4a : ¬ (ck : Int) ≤ 191 := by omega
              go_wp2
              go_ret
              exact ⟨ret_int (by rw [HR.out, if_neg (HB.out (fun h => h4 h.2))]; rfl), rfl⟩
          · have h3a : ¬ (128 : Int) ≤ (ck : Int) := by omega
            go_wp2
            go_ret
            exact ⟨ret_int (by rw [HR.out, if_neg (HB.out (fun h => h3 h.1))]; rfl), rfl⟩
        · obtain rfl : k = 3 := by omega
          go_wp2
          go_ret
          exact ⟨ret_int (by rw [HR.out, if_pos ⟨by omega, ⟨by omega, by omega⟩, HP.out 2 (by omega) (by omega)⟩]; rfl), rfl⟩
    · have HQ : Hid (r = 0) := HR.out.trans (if_neg (fun h => h2 h.2.1))
      by_cases h3 : 128 ≤ c1
      · have h3a : (128 : Int) ≤ (c1 : Int) := by omega
        have h3b : ¬ (c1 : Int) ≤ 159 := by omega
        clear h2
        go_enter Tryd.func33, Tryd.ntmps33
        go_wp2
        go_ret
        exact ⟨ret_int (by rw [HQ.out]; rfl), rfl⟩
      · have h3a : ¬ (128 : Int) ≤ (c1 : Int) := by omega
        clear h2
        go_enter Tryd.func33, Tryd.ntmps33
        go_wp2
        go_ret
        exact ⟨ret_int (by rw [HQ.out]; rfl), rfl⟩
  · have HQ : Hid (r = 0) := HR.out.trans (if_neg (fun h => by omega))
    go_enter Tryd.func33, Tryd.ntmps33
    go_wp2
    go_ret
    exact ⟨ret_int (by rw [HQ.out]; rfl), rfl⟩
set_option maxRecDepth 100000 in
set_option maxHeartbeats 4000000 in
theorem size33_3 (s : ByteArray) (l : List UInt8) (p b : Nat) (w : World) (hs : s.size ≤ 140737488355328) (hp : p < s.size) (hA : ∀ k (h : k < s.size), s[k].toNat = bt l k) (hb0 : bt l p = b) (h : 225 ≤ b) (h' : b ≤ 239) (h'' : ¬ b = 237) : Calls Tryd.prog 33 #[.string s, .int .i64 p] w fun e w' => e = .returned (.int .i64 (tl3 (s.size - p) (bt l (p + 1)) (bt l (p + 2)) 128 191 : Nat)) ∧ w' = w := by
  have HA : Hid (∀ k (h : k < s.size), s[k].toNat = bt l k) := hA
  have hb1 : s[p].toNat = b := by rw [hA p hp, hb0]
  clear hA hb0
  have q224 : ¬ (b : Int) = 224 := by omega
  have q237 : ¬ (b : Int) = 237 := by omega
  have q240 : ¬ (b : Int) = 240 := by omega
  have q244 : ¬ (b : Int) = 244 := by omega
  obtain ⟨r, hr⟩ : ∃ r, r = tl3 (s.size - p) (bt l (p + 1)) (bt l (p + 2)) 128 191 := ⟨_, rfl⟩
  rw [← hr]
  have HR : Hid (r = if 3 ≤ s.size - p ∧ (128 ≤ bt l (p + 1) ∧ bt l (p + 1) ≤ 191) ∧ (128 ≤ bt l (p + 2) ∧ bt l (p + 2) ≤ 191) then 3 else 0) := hr
  clear hr
  by_cases h1 : p + 3 ≤ s.size
  · have hc1 : s[p + 1].toNat = bt l (p + 1) := HA.out (p + 1) (by omega)
    have hr1 := bt_lt l (p + 1)
    generalize bt l (p + 1) = c1 at *
    by_cases h2 : 128 ≤ c1 ∧ c1 ≤ 191
    · have h2a : (128 : Int) ≤ (c1 : Int) := by omega
      have h2b : (c1 : Int) ≤ 191 := by omega
      clear h2
      go_enter Tryd.func33, Tryd.ntmps33
      go_wp2
      go_loop [9] (fun i => ∃ k : Nat, 2 ≤ k ∧ k ≤ 3 ∧ i = .int .i64 k ∧ ∀ j, 2 ≤ j → j < k → 128 ≤ bt l (p + j) ∧ bt l (p + j) ≤ 191) (fun i => 3 - (intOf i).toNat)
      case atStart => exact ⟨2, by omega, by omega, rfl, fun j h1 h2 => absurd h2 (by omega)⟩
      case round =>
        obtain ⟨k, hk1, hk2, rfl, hpre⟩ := hrel
        have HP : Hid (∀ j, 2 ≤ j → j < k → 128 ≤ bt l (p + j) ∧ bt l (p + j) ≤ 191) := hpre
        clear hpre
        by_cases hk3 : k < 3
        · have hck : s[p + k].toNat = bt l (p + k) := HA.out (p + k) (by omega)
          have hrk := bt_lt l (p + k)
          have HB : Hid (¬ (128 ≤ bt l (p + k) ∧ bt l (p + k) ≤ 191) → ¬ (3 ≤ s.size - p ∧ (128 ≤ c1 ∧ c1 ≤ 191) ∧ (128 ≤ bt l (p + 2) ∧ bt l (p + 2) ≤ 191))) := fun hn h => by
            rcases (by omega : k = 2) with rfl <;> omega
          generalize hbk : bt l (p + k) = ck at *
          have HBK : Hid (bt l (p + k) = ck) := hbk
          clear hbk
          by_cases h3 : 128 ≤ ck
          · by_cases h4 : ck ≤ 191
            · have h3a : (128 : Int) ≤ (ck : Int) := by omega
              have h4a : (ck : Int) ≤ 191 := by omega
              go_wp2
              go_round
              case rel => exact ⟨k + 1, by omega, by omega, by go_num, fun j h5 h6 => by
                rcases Nat.lt_or_ge j k with h7 | h7
                · exact HP.out j h5 h7
                · obtain rfl : j = k := by omega
                  rw [HBK.out]
                  exact ⟨h3, h4⟩⟩
              case measure => simp [intOf]; omega
            · have h3a : (128 : Int) ≤ (ck : Int) := by omega
              have h4a : ¬ (ck : Int) ≤ 191 := by omega
              go_wp2
              go_ret
              exact ⟨ret_int (by rw [HR.out, if_neg (HB.out (fun h => h4 h.2))]; rfl), rfl⟩
          · have h3a : ¬ (128 : Int) ≤ (ck : Int) := by omega
            go_wp2
            go_ret
            exact ⟨ret_int (by rw [HR.out, if_neg (HB.out (fun h => h3 h.1))]; rfl), rfl⟩
        · obtain rfl : k = 3 := by omega
          go_wp2
          go_ret
          exact ⟨ret_int (by rw [HR.out, if_pos ⟨by omega, ⟨by omega, by omega⟩, HP.out 2 (by omega) (by omega)⟩]; rfl), rfl⟩
    · have HQ : Hid (r = 0) := HR.out.trans (if_neg (fun h => h2 h.2.1))
      by_cases h3 : 128 ≤ c1
      · have h3a : (128 : Int) ≤ (c1 : Int) := by omega
        have h3b : ¬ (c1 : Int) ≤ 191 := by omega
        clear h2
        go_enter Tryd.func33, Tryd.ntmps33
        go_wp2
        go_ret
        exact ⟨ret_int (by rw [HQ.out]; rfl), rfl⟩
      · have h3a : ¬ (128 : Int) ≤ (c1 : Int) := by omega
        clear h2
        go_enter Tryd.func33, Tryd.ntmps33
        go_wp2
        go_ret
        exact ⟨ret_int (by rw [HQ.out]; rfl), rfl⟩
  · have HQ : Hid (r = 0) := HR.out.trans (if_neg (fun h => by omega))
    go_enter Tryd.func33, Tryd.ntmps33
    go_wp2
    go_ret
    exact ⟨ret_int (by rw [HQ.out]; rfl), rfl⟩
set_option maxRecDepth 100000 in
set_option maxHeartbeats 4000000 in
theorem size33_240 (s : ByteArray) (l : List UInt8) (p b : Nat) (w : World) (hs : s.size ≤ 140737488355328) (hp : p < s.size) (hA : ∀ k (h : k < s.size), s[k].toNat = bt l k) (hb0 : bt l p = b) (h : b = 240) : Calls Tryd.prog 33 #[.string s, .int .i64 p] w fun e w' => e = .returned (.int .i64 (tl4 (s.size - p) (bt l (p + 1)) (bt l (p + 2)) (bt l (p + 3)) 144 191 : Nat)) ∧ w' = w := by
  have HA : Hid (∀ k (h : k < s.size), s[k].toNat = bt l k) := hA
  have hb1 : s[p].toNat = b := by rw [hA p hp, hb0]
  clear hA hb0
  have q224 : ¬ (b : Int) = 224 := by omega
  have q237 : ¬ (b : Int) = 237 := by omega
  have q244 : ¬ (b : Int) = 244 := by omega
  obtain ⟨r, hr⟩ : ∃ r, r = tl4 (s.size - p) (bt l (p + 1)) (bt l (p + 2)) (bt l (p + 3)) 144 191 := ⟨_, rfl⟩
  rw [← hr]
  have HR : Hid (r = if 4 ≤ s.size - p ∧ (144 ≤ bt l (p + 1) ∧ bt l (p + 1) ≤ 191) ∧ (128 ≤ bt l (p + 2) ∧ bt l (p + 2) ≤ 191) ∧ (128 ≤ bt l (p + 3) ∧ bt l (p + 3) ≤ 191) then 4 else 0) := hr
  clear hr
  by_cases h1 : p + 4 ≤ s.size
  · have hc1 : s[p + 1].toNat = bt l (p + 1) := HA.out (p + 1) (by omega)
    have hr1 := bt_lt l (p + 1)
    generalize bt l (p + 1) = c1 at *
    by_cases h2 : 144 ≤ c1 ∧ c1 ≤ 191
    · have h2a : (144 : Int) ≤ (c1 : Int) := by omega
      have h2b : (c1 : Int) ≤ 191 := by omega
      clear h2
      go_enter Tryd.func33, Tryd.ntmps33
      go_wp2
      go_loop [9] (fun i => ∃ k : Nat, 2 ≤ k ∧ k ≤ 4 ∧ i = .int .i64 k ∧ ∀ j, 2 ≤ j → j < k → 128 ≤ bt l (p + j) ∧ bt l (p + j) ≤ 191) (fun i => 4 - (intOf i).toNat)
      case atStart => exact ⟨2, by omega, by omega, rfl, fun j h1 h2 => absurd h2 (by omega)⟩
      case round =>
        obtain ⟨k, hk1, hk2, rfl, hpre⟩ := hrel
        have HP : Hid (∀ j, 2 ≤ j → j < k → 128 ≤ bt l (p + j) ∧ bt l (p + j) ≤ 191) := hpre
        clear hpre
        by_cases hk3 : k < 4
        · have hck : s[p + k].toNat = bt l (p + k) := HA.out (p + k) (by omega)
          have hrk := bt_lt l (p + k)
          have HB : Hid (¬ (128 ≤ bt l (p + k) ∧ bt l (p + k) ≤ 191) → ¬ (4 ≤ s.size - p ∧ (144 ≤ c1 ∧ c1 ≤ 191) ∧ (128 ≤ bt l (p + 2) ∧ bt l (p + 2) ≤ 191) ∧ (128 ≤ bt l (p + 3) ∧ bt l (p + 3) ≤ 191))) := fun hn h => by
            rcases (by omega : k = 2 ∨ k = 3) with rfl | rfl <;> omega
          generalize hbk : bt l (p + k) = ck at *
          have HBK : Hid (bt l (p + k) = ck) := hbk
          clear hbk
          by_cases h3 : 128 ≤ ck
          · by_cases h4 : ck ≤ 191
            · have h3a : (128 : Int) ≤ (ck : Int) := by omega
              have h4a : (ck : Int) ≤ 191 := by omega
              go_wp2
              go_round
              case rel => exact ⟨k + 1, by omega, by omega, by go_num, fun j h5 h6 => by
                rcases Nat.lt_or_ge j k with h7 | h7
                · exact HP.out j h5 h7
                · obtain rfl : j = k := by omega
                  rw [HBK.out]
                  exact ⟨h3, h4⟩⟩
              case measure => simp [intOf]; omega
            · have h3a : (128 : Int) ≤ (ck : Int) := by omega
              have h4a : ¬ (ck : Int) ≤ 191 := by omega
              go_wp2
              go_ret
              exact ⟨ret_int (by rw [HR.out, if_neg (HB.out (fun h => h4 h.2))]; rfl), rfl⟩
          · have h3a : ¬ (128 : Int) ≤ (ck : Int) := by omega
            go_wp2
            go_ret
            exact ⟨ret_int (by rw [HR.out, if_neg (HB.out (fun h => h3 h.1))]; rfl), rfl⟩
        · obtain rfl : k = 4 := by omega
          go_wp2
          go_ret
          exact ⟨ret_int (by rw [HR.out, if_pos ⟨by omega, ⟨by omega, by omega⟩, HP.out 2 (by omega) (by omega), HP.out 3 (by omega) (by omega)⟩]; rfl), rfl⟩
    · have HQ : Hid (r = 0) := HR.out.trans (if_neg (fun h => h2 h.2.1))
      by_cases h3 : 144 ≤ c1
      · have h3a : (144 : Int) ≤ (c1 : Int) := by omega
        have h3b : ¬ (c1 : Int) ≤ 191 := by omega
        clear h2
        go_enter Tryd.func33, Tryd.ntmps33
        go_wp2
        go_ret
        exact ⟨ret_int (by rw [HQ.out]; rfl), rfl⟩
      · have h3a : ¬ (144 : Int) ≤ (c1 : Int) := by omega
        clear h2
        go_enter Tryd.func33, Tryd.ntmps33
        go_wp2
        go_ret
        exact ⟨ret_int (by rw [HQ.out]; rfl), rfl⟩
  · have HQ : Hid (r = 0) := HR.out.trans (if_neg (fun h => by omega))
    go_enter Tryd.func33, Tryd.ntmps33
    go_wp2
    go_ret
    exact ⟨ret_int (by rw [HQ.out]; rfl), rfl⟩
set_option maxRecDepth 100000 in
set_option maxHeartbeats 4000000 in
theorem size33_244 (s : ByteArray) (l : List UInt8) (p b : Nat) (w : World) (hs : s.size ≤ 140737488355328) (hp : p < s.size) (hA : ∀ k (h : k < s.size), s[k].toNat = bt l k) (hb0 : bt l p = b) (h : b = 244) : Calls Tryd.prog 33 #[.string s, .int .i64 p] w fun e w' => e = .returned (.int .i64 (tl4 (s.size - p) (bt l (p + 1)) (bt l (p + 2)) (bt l (p + 3)) 128 143 : Nat)) ∧ w' = w := by
  have HA : Hid (∀ k (h : k < s.size), s[k].toNat = bt l k) := hA
  have hb1 : s[p].toNat = b := by rw [hA p hp, hb0]
  clear hA hb0
  have q224 : ¬ (b : Int) = 224 := by omega
  have q237 : ¬ (b : Int) = 237 := by omega
  have q240 : ¬ (b : Int) = 240 := by omega
  obtain ⟨r, hr⟩ : ∃ r, r = tl4 (s.size - p) (bt l (p + 1)) (bt l (p + 2)) (bt l (p + 3)) 128 143 := ⟨_, rfl⟩
  rw [← hr]
  have HR : Hid (r = if 4 ≤ s.size - p ∧ (128 ≤ bt l (p + 1) ∧ bt l (p + 1) ≤ 143) ∧ (128 ≤ bt l (p + 2) ∧ bt l (p + 2) ≤ 191) ∧ (128 ≤ bt l (p + 3) ∧ bt l (p + 3) ≤ 191) then 4 else 0) := hr
  clear hr
  by_cases h1 : p + 4 ≤ s.size
  · have hc1 : s[p + 1].toNat = bt l (p + 1) := HA.out (p + 1) (by omega)
    have hr1 := bt_lt l (p + 1)
    generalize bt l (p + 1) = c1 at *
    by_cases h2 : 128 ≤ c1 ∧ c1 ≤ 143
    · have h2a : (128 : Int) ≤ (c1 : Int) := by omega
      have h2b : (c1 : Int) ≤ 143 := by omega
      clear h2
      go_enter Tryd.func33, Tryd.ntmps33
      go_wp2
      go_loop [9] (fun i => ∃ k : Nat, 2 ≤ k ∧ k ≤ 4 ∧ i = .int .i64 k ∧ ∀ j, 2 ≤ j → j < k → 128 ≤ bt l (p + j) ∧ bt l (p + j) ≤ 191) (fun i => 4 - (intOf i).toNat)
      case atStart => exact ⟨2, by omega, by omega, rfl, fun j h1 h2 => absurd h2 (by omega)⟩
      case round =>
        obtain ⟨k, hk1, hk2, rfl, hpre⟩ := hrel
        have HP : Hid (∀ j, 2 ≤ j → j < k → 128 ≤ bt l (p + j) ∧ bt l (p + j) ≤ 191) := hpre
        clear hpre
        by_cases hk3 : k < 4
        · have hck : s[p + k].toNat = bt l (p + k) := HA.out (p + k) (by omega)
          have hrk := bt_lt l (p + k)
          have HB : Hid (¬ (128 ≤ bt l (p + k) ∧ bt l (p + k) ≤ 191) → ¬ (4 ≤ s.size - p ∧ (128 ≤ c1 ∧ c1 ≤ 143) ∧ (128 ≤ bt l (p + 2) ∧ bt l (p + 2) ≤ 191) ∧ (128 ≤ bt l (p + 3) ∧ bt l (p + 3) ≤ 191))) := fun hn h => by
            rcases (by omega : k = 2 ∨ k = 3) with rfl | rfl <;> omega
          generalize hbk : bt l (p + k) = ck at *
          have HBK : Hid (bt l (p + k) = ck) := hbk
          clear hbk
          by_cases h3 : 128 ≤ ck
          · by_cases h4 : ck ≤ 191
            · have h3a : (128 : Int) ≤ (ck : Int) := by omega
              have h4a : (ck : Int) ≤ 191 := by omega
              go_wp2
              go_round
              case rel => exact ⟨k + 1, by omega, by omega, by go_num, fun j h5 h6 => by
                rcases Nat.lt_or_ge j k with h7 | h7
                · exact HP.out j h5 h7
                · obtain rfl : j = k := by omega
                  rw [HBK.out]
                  exact ⟨h3, h4⟩⟩
              case measure => simp [intOf]; omega
            · have h3a : (128 : Int) ≤ (ck : Int) := by omega
              have h4a : ¬ (ck : Int) ≤ 191 := by omega
              go_wp2
              go_ret
              exact ⟨ret_int (by rw [HR.out, if_neg (HB.out (fun h => h4 h.2))]; rfl), rfl⟩
          · have h3a : ¬ (128 : Int) ≤ (ck : Int) := by omega
            go_wp2
            go_ret
            exact ⟨ret_int (by rw [HR.out, if_neg (HB.out (fun h => h3 h.1))]; rfl), rfl⟩
        · obtain rfl : k = 4 := by omega
          go_wp2
          go_ret
          exact ⟨ret_int (by rw [HR.out, if_pos ⟨by omega, ⟨by omega, by omega⟩, HP.out 2 (by omega) (by omega), HP.out 3 (by omega) (by omega)⟩]; rfl), rfl⟩
    · have HQ : Hid (r = 0) := HR.out.trans (if_neg (fun h => h2 h.2.1))
      by_cases h3 : 128 ≤ c1
      · have h3a : (128 : Int) ≤ (c1 : Int) := by omega
        have h3b : ¬ (c1 : Int) ≤ 143 := by omega
        clear h2
        go_enter Tryd.func33, Tryd.ntmps33
        go_wp2
        go_ret
        exact ⟨ret_int (by rw [HQ.out]; rfl), rfl⟩
      · have h3a : ¬ (128 : Int) ≤ (c1 : Int) := by omega
        clear h2
        go_enter Tryd.func33, Tryd.ntmps33
        go_wp2
        go_ret
        exact ⟨ret_int (by rw [HQ.out]; rfl), rfl⟩
  · have HQ : Hid (r = 0) := HR.out.trans (if_neg (fun h => by omega))
    go_enter Tryd.func33, Tryd.ntmps33
    go_wp2
    go_ret
    exact ⟨ret_int (by rw [HQ.out]; rfl), rfl⟩
set_option maxRecDepth 100000 in
set_option maxHeartbeats 4000000 in
theorem size33_4 (s : ByteArray) (l : List UInt8) (p b : Nat) (w : World) (hs : s.size ≤ 140737488355328) (hp : p < s.size) (hA : ∀ k (h : k < s.size), s[k].toNat = bt l k) (hb0 : bt l p = b) (h : 241 ≤ b) (h' : b ≤ 243) : Calls Tryd.prog 33 #[.string s, .int .i64 p] w fun e w' => e = .returned (.int .i64 (tl4 (s.size - p) (bt l (p + 1)) (bt l (p + 2)) (bt l (p + 3)) 128 191 : Nat)) ∧ w' = w := by
  have HA : Hid (∀ k (h : k < s.size), s[k].toNat = bt l k) := hA
  have hb1 : s[p].toNat = b := by rw [hA p hp, hb0]
  clear hA hb0
  have q224 : ¬ (b : Int) = 224 := by omega
  have q237 : ¬ (b : Int) = 237 := by omega
  have q240 : ¬ (b : Int) = 240 := by omega
  have q244 : ¬ (b : Int) = 244 := by omega
  obtain ⟨r, hr⟩ : ∃ r, r = tl4 (s.size - p) (bt l (p + 1)) (bt l (p + 2)) (bt l (p + 3)) 128 191 := ⟨_, rfl⟩
  rw [← hr]
  have HR : Hid (r = if 4 ≤ s.size - p ∧ (128 ≤ bt l (p + 1) ∧ bt l (p + 1) ≤ 191) ∧ (128 ≤ bt l (p + 2) ∧ bt l (p + 2) ≤ 191) ∧ (128 ≤ bt l (p + 3) ∧ bt l (p + 3) ≤ 191) then 4 else 0) := hr
  clear hr
  by_cases h1 : p + 4 ≤ s.size
  · have hc1 : s[p + 1].toNat = bt l (p + 1) := HA.out (p + 1) (by omega)
    have hr1 := bt_lt l (p + 1)
    generalize bt l (p + 1) = c1 at *
    by_cases h2 : 128 ≤ c1 ∧ c1 ≤ 191
    · have h2a : (128 : Int) ≤ (c1 : Int) := by omega
      have h2b : (c1 : Int) ≤ 191 := by omega
      clear h2
      go_enter Tryd.func33, Tryd.ntmps33
      go_wp2
      go_loop [9] (fun i => ∃ k : Nat, 2 ≤ k ∧ k ≤ 4 ∧ i = .int .i64 k ∧ ∀ j, 2 ≤ j → j < k → 128 ≤ bt l (p + j) ∧ bt l (p + j) ≤ 191) (fun i => 4 - (intOf i).toNat)
      case atStart => exact ⟨2, by omega, by omega, rfl, fun j h1 h2 => absurd h2 (by omega)⟩
      case round =>
        obtain ⟨k, hk1, hk2, rfl, hpre⟩ := hrel
        have HP : Hid (∀ j, 2 ≤ j → j < k → 128 ≤ bt l (p + j) ∧ bt l (p + j) ≤ 191) := hpre
        clear hpre
        by_cases hk3 : k < 4
        · have hck : s[p + k].toNat = bt l (p + k) := HA.out (p + k) (by omega)
          have hrk := bt_lt l (p + k)
          have HB : Hid (¬ (128 ≤ bt l (p + k) ∧ bt l (p + k) ≤ 191) → ¬ (4 ≤ s.size - p ∧ (128 ≤ c1 ∧ c1 ≤ 191) ∧ (128 ≤ bt l (p + 2) ∧ bt l (p + 2) ≤ 191) ∧ (128 ≤ bt l (p + 3) ∧ bt l (p + 3) ≤ 191))) := fun hn h => by
            rcases (by omega : k = 2 ∨ k = 3) with rfl | rfl <;> omega
          generalize hbk : bt l (p + k) = ck at *
          have HBK : Hid (bt l (p + k) = ck) := hbk
          clear hbk
          by_cases h3 : 128 ≤ ck
          · by_cases h4 : ck ≤ 191
            · have h3a : (128 : Int) ≤ (ck : Int) := by omega
              have h4a : (ck : Int) ≤ 191 := by omega
              go_wp2
              go_round
              case rel => exact ⟨k + 1, by omega, by omega, by go_num, fun j h5 h6 => by
                rcases Nat.lt_or_ge j k with h7 | h7
                · exact HP.out j h5 h7
                · obtain rfl : j = k := by omega
                  rw [HBK.out]
                  exact ⟨h3, h4⟩⟩
              case measure => simp [intOf]; omega
            · have h3a : (128 : Int) ≤ (ck : Int) := by omega
              have h4a : ¬ (ck : Int) ≤ 191 := by omega
              go_wp2
              go_ret
              exact ⟨ret_int (by rw [HR.out, if_neg (HB.out (fun h => h4 h.2))]; rfl), rfl⟩
          · have h3a : ¬ (128 : Int) ≤ (ck : Int) := by omega
            go_wp2
            go_ret
            exact ⟨ret_int (by rw [HR.out, if_neg (HB.out (fun h => h3 h.1))]; rfl), rfl⟩
        · obtain rfl : k = 4 := by omega
          go_wp2
          go_ret
          exact ⟨ret_int (by rw [HR.out, if_pos ⟨by omega, ⟨by omega, by omega⟩, HP.out 2 (by omega) (by omega), HP.out 3 (by omega) (by omega)⟩]; rfl), rfl⟩
    · have HQ : Hid (r = 0) := HR.out.trans (if_neg (fun h => h2 h.2.1))
      by_cases h3 : 128 ≤ c1
      · have h3a : (128 : Int) ≤ (c1 : Int) := by omega
        have h3b : ¬ (c1 : Int) ≤ 191 := by omega
        clear h2
        go_enter Tryd.func33, Tryd.ntmps33
        go_wp2
        go_ret
        exact ⟨ret_int (by rw [HQ.out]; rfl), rfl⟩
      · have h3a : ¬ (128 : Int) ≤ (c1 : Int) := by omega
        clear h2
        go_enter Tryd.func33, Tryd.ntmps33
        go_wp2
        go_ret
        exact ⟨ret_int (by rw [HQ.out]; rfl), rfl⟩
  · have HQ : Hid (r = 0) := HR.out.trans (if_neg (fun h => by omega))
    go_enter Tryd.func33, Tryd.ntmps33
    go_wp2
    go_ret
    exact ⟨ret_int (by rw [HQ.out]; rfl), rfl⟩
set_option maxRecDepth 100000 in
set_option maxHeartbeats 2000000 in
theorem size33_1 (s : ByteArray) (p b : Nat) (w : World) (hp : p < s.size) (hb : s[p].toNat = b) (h : b < 128) : Calls Tryd.prog 33 #[.string s, .int .i64 p] w fun e w' => e = .returned (.int .i64 1) ∧ w' = w := by
  go_enter Tryd.func33, Tryd.ntmps33
  go_wp2
  go_ret
  exact ⟨rfl, rfl⟩
set_option maxRecDepth 100000 in
set_option maxHeartbeats 2000000 in
theorem size33_0 (s : ByteArray) (p b : Nat) (w : World) (hp : p < s.size) (hb : s[p].toNat = b) (h : 128 ≤ b) (h' : b < 194 ∨ 244 < b) : Calls Tryd.prog 33 #[.string s, .int .i64 p] w fun e w' => e = .returned (.int .i64 0) ∧ w' = w := by
  rcases h' with h' | h'
  · go_enter Tryd.func33, Tryd.ntmps33
    go_wp2
    go_ret
    exact ⟨rfl, rfl⟩
  · go_enter Tryd.func33, Tryd.ntmps33
    go_wp2
    go_ret
    exact ⟨rfl, rfl⟩
def szP (s : ByteArray) (p : Nat) : Nat := if badB s p then 0 else (Utf8.decode s p).2
theorem szP_eq (s : ByteArray) (p : Nat) : szP s p = szN (s.size - p) (bt s.data.toList p) (bt s.data.toList (p + 1)) (bt s.data.toList (p + 2)) (bt s.data.toList (p + 3)) := by
  rw [szN_eq _ _ _ _ _ (bt_lt _ _) (bt_lt _ _) (bt_lt _ _) (bt_lt _ _)]
  unfold szP badB
  rw [Lib.decode_at, get_bt, get_bt, get_bt, get_bt]
  simp only [Bool.and_eq_true, decide_eq_true_eq]
theorem size33 (s : ByteArray) (p : Nat) (w : World) (hs : s.size ≤ 140737488355328) (hp : p < s.size) : Calls Tryd.prog 33 #[.string s, .int .i64 p] w fun e w' => e = .returned (.int .i64 (szP s p)) ∧ w' = w := by
  rw [szP_eq]
  have hA := at_bt s
  have hlt := bt_lt s.data.toList p
  generalize s.data.toList = l at *
  have hb := hA p hp
  unfold szN
  by_cases a1 : bt l p < 128
  · rw [if_pos a1]
    exact size33_1 s p _ w hp hb a1
  · rw [if_neg a1]
    by_cases a2 : bt l p < 194
    · rw [if_pos a2]
      exact size33_0 s p _ w hp hb (by omega) (.inl a2)
    · rw [if_neg a2]
      by_cases a3 : bt l p ≤ 223
      · rw [if_pos a3]
        exact size33_2 s l p _ w hs hp hA rfl (by omega) a3
      · rw [if_neg a3]
        by_cases e1 : bt l p = 224
        · rw [if_pos e1]
          exact size33_224 s l p _ w hs hp hA rfl e1
        · rw [if_neg e1]
          by_cases e2 : bt l p = 237
          · rw [if_pos e2]
            exact size33_237 s l p _ w hs hp hA rfl e2
          · rw [if_neg e2]
            by_cases a4 : bt l p ≤ 239
            · rw [if_pos a4]
              exact size33_3 s l p _ w hs hp hA rfl (by omega) a4 e2
            · rw [if_neg a4]
              by_cases e3 : bt l p = 240
              · rw [if_pos e3]
                exact size33_240 s l p _ w hs hp hA rfl e3
              · rw [if_neg e3]
                by_cases e4 : bt l p = 244
                · rw [if_pos e4]
                  exact size33_244 s l p _ w hs hp hA rfl e4
                · rw [if_neg e4]
                  by_cases a5 : bt l p ≤ 243
                  · rw [if_pos a5]
                    exact size33_4 s l p _ w hs hp hA rfl (by omega) a5
                  · rw [if_neg a5]
                    exact size33_0 s p _ w hp hb (by omega) (.inr (by omega))
end Go.Proofs.YtgdbfedagdlgkaaDoor
