/-
  Layer 1: the reference's next, walked: it tells what the model's own decoding of UTF-8 tells.
-/
import Derived.Test.YtbkjhdinlnpglaaScalC
namespace Go.Proofs.Ytbkjhdinlnpglaa
open Go.RowKit

set_option maxHeartbeats 400000 in
theorem is_any (r : Int) (w : World) :
    Calls Try.prog 34 #[.int .i32 r] w fun e w' => e = .returned (.bool (isB r)) ∧ w = w' := by
  by_cases h0 : 0 ≤ r
  · by_cases h1 : r ≤ 1114111
    · by_cases h2 : r < 55296
      · have hf : isB r = true := decide_eq_true ⟨h0, h1, .inl h2⟩
        have HF := Lib.hid hf
        clear hf
        go_enter Try.func34, Try.ntmps34
        go_wp2
        go_ret
        exact ⟨ret_bool HF.out.symm, rfl⟩
      · by_cases h3 : 57343 < r
        · have hf : isB r = true := decide_eq_true ⟨h0, h1, .inr h3⟩
          have HF := Lib.hid hf
          clear hf
          go_enter Try.func34, Try.ntmps34
          go_wp2
          go_ret
          exact ⟨ret_bool HF.out.symm, rfl⟩
        · have hf : isB r = false := decide_eq_false (by omega)
          have HF := Lib.hid hf
          clear hf
          go_enter Try.func34, Try.ntmps34
          go_wp2
          go_ret
          exact ⟨ret_bool HF.out.symm, rfl⟩
    · have hf : isB r = false := decide_eq_false (by omega)
      have HF := Lib.hid hf
      clear hf
      go_enter Try.func34, Try.ntmps34
      go_wp2
      go_ret
      exact ⟨ret_bool HF.out.symm, rfl⟩
  · have hf : isB r = false := decide_eq_false (by omega)
    have HF := Lib.hid hf
    clear hf
    go_enter Try.func34, Try.ntmps34
    go_wp2
    go_ret
    exact ⟨ret_bool HF.out.symm, rfl⟩

theorem ret_rn {a c : Int} {b d : Int} (h : a = c) (g : b = d) : Ending.returned (.tuple #[.int .i32 a, .int .i64 b]) = .returned (.tuple #[.int .i32 c, .int .i64 d]) := by rw [h, g]

def NextPost (s : ByteArray) (i : Nat) (w : World) (e : Ending) (w' : World) : Prop :=
  e = .returned (.tuple #[.int .i32 ((Utf8.decode s i).1 : Int), .int .i64 ((Utf8.decode s i).2 : Int)]) ∧ w = w'

theorem nextPost_of {s : ByteArray} {i : Nat} {w : World} {e : Ending} {a b : Int} (r n : Nat) (he : e = .returned (.tuple #[.int .i32 a, .int .i64 b])) (h : Utf8.decode s i = (r, n)) (ha : a = r) (hb : b = n) : NextPost s i w e w := by
  refine ⟨?_, rfl⟩
  rw [he, h, ha, hb]

theorem accN_le (s : ByteArray) (i r0 : Nat) (h : r0 < 32) : ∀ k, k ≤ 3 → accN s i r0 k < 8388608
  | 0, _ => by simp [accN]; omega
  | 1, _ => by simp only [accN]; omega
  | 2, _ => by simp only [accN]; omega
  | 3, _ => by simp only [accN]; omega
  | k + 4, h => by omega

set_option maxRecDepth 100000 in
set_option maxHeartbeats 1000000 in
theorem next_long2 (s : ByteArray) (i b : Nat) (w : World) (hi : i < s.size) (hs : s.size ≤ 1073741824) (hb : s[i].toNat = b) (hbn : byteN s i = b) (hlo : 192 ≤ b) (hhi : b < 224) :
    Calls Try.prog 50 #[.string s, .int .i64 i] w (NextPost s i w) := by
  have hbad := fun k hk0 hk h => decode_bad s i 2 k (.inl rfl) (by rw [hbn]; exact hlo) (by rw [hbn]; exact hhi) hk0 hk h
  have hall := fun hc => decode_all s i 2 (.inl rfl) (by rw [hbn]; exact hlo) (by rw [hbn]; exact hhi) hc
  rw [hbn, show baseN 2 = 192 from rfl] at hall
  have HBAD := Lib.hid hbad
  have HALL := Lib.hid hall
  clear hbad hall hbn
  by_cases hend : s.size < i + 2
  · have HD := Lib.hid (HBAD.out 1 (by omega) (by omega) (.inl (by omega)))
    go_enter Try.func50, Try.ntmps50
    go_wp2
    go_ret2
    exact nextPost_of 65533 1 rfl HD.out rfl rfl
  · go_enter Try.func50, Try.ntmps50
    go_wp2
    go_loop [9, 10] (fun r k => ∃ j A : Nat, 1 ≤ j ∧ j ≤ 2 ∧ k = .int .i64 j ∧ r = .int .i32 A ∧ A < 8388608 ∧ Hid (A = accN s i (b - 192) (j - 1)) ∧ Hid (∀ m, 1 ≤ m → m < j → i + m < s.size ∧ 128 ≤ byteN s (i + m) ∧ byteN s (i + m) < 192)) (fun _ k => 2 - (intOf k).toNat)
    case atStart => exact ⟨1, b - 192, by omega, by omega, rfl, by congr 1; omega, by omega, rfl, fun m h1 h2 => by omega⟩
    case round =>
      obtain ⟨j, A, hj1, hjn, rfl, rfl, hA, HA, HC⟩ := hrel
      by_cases hjlt : j < 2
      · have hij : i + j < s.size := by omega
        obtain ⟨c, hc⟩ : ∃ c, (s[i + j]'hij).toNat = c := ⟨_, rfl⟩
        have hcn : byteN s (i + j) = c := by rw [byteN_eq s (i + j) hij, hc]
        have hc256 : c < 256 := by rw [← hcn]; exact byteN_lt s (i + j)
        have HCN := Lib.hid hcn
        clear hcn
        by_cases hc1 : c < 128
        · have HD := Lib.hid (HBAD.out j hj1 hjlt (.inr (.inl (by rw [HCN.out]; exact hc1))))
          go_wp2
          go_ret2
          exact nextPost_of 65533 1 rfl HD.out rfl rfl
        · by_cases hc2 : 192 ≤ c
          · have HD := Lib.hid (HBAD.out j hj1 hjlt (.inr (.inr (by rw [HCN.out]; exact hc2))))
            go_wp2
            go_ret2
            exact nextPost_of 65533 1 rfl HD.out rfl rfl
          · have hA2 : A * 64 + (c - 128) = accN s i (b - 192) j := by
              obtain ⟨j', rfl⟩ : ∃ j', j = j' + 1 := ⟨j - 1, by omega⟩
              have h1 : accN s i (b - 192) (j' + 1) = accN s i (b - 192) j' * 64 + byteN s (i + j' + 1) % 64 := rfl
              have h2 := HA.out
              have h3 := HCN.out
              rw [show i + (j' + 1) = i + j' + 1 from rfl] at h3
              rw [h1, h3, h2, Nat.add_sub_cancel]
              omega
            have hA3 : A * 64 + (c - 128) < 8388608 := by
              rw [hA2]; exact accN_le s i _ (by omega) j (by omega)
            have HA2 := Lib.hid hA2
            clear hA2
            go_wp2
            go_round
            case rel =>
              refine ⟨j + 1, A * 64 + (c - 128), by omega, by omega, by go_num, by congr 1; omega, hA3, HA2.out, fun m hm1 hm2 => ?_⟩
              by_cases e : m = j
              · subst e; rw [HCN.out]; exact ⟨hij, by omega, by omega⟩
              · exact HC.out m hm1 (by omega)
            case measure => simp [intOf]; omega
      · obtain rfl : j = 2 := by omega
        have hd := HALL.out HC.out
        have h0 := HA.out
        rw [show 2 - 1 = 1 from rfl] at hd h0
        rw [← h0] at hd
        have HD := Lib.hid hd
        clear hd h0
        by_cases hl : A < 128
        · have HE := Lib.hid (HD.out.trans (if_neg (fun h => by have := h.1; rw [show leastN 2 = 128 from rfl] at this; omega)))
          go_wp2_with (go_at_call 34; refine (is_any _ _).mono ?_; rintro e w' ⟨rfl, rfl⟩)
          go_ret2
          exact nextPost_of 65533 1 rfl HE.out rfl rfl
        · by_cases hv : isB (A : Int) = true
          · have HE := Lib.hid (HD.out.trans (if_pos ⟨by rw [show leastN 2 = 128 from rfl]; omega, hv⟩))
            go_wp2_with (go_at_call 34; refine (is_any _ _).mono ?_; rintro e w' ⟨rfl, rfl⟩)
            go_ret2
            exact nextPost_of A 2 rfl HE.out rfl rfl
          · have hv' : isB (A : Int) = false := by simpa using hv
            have HE := Lib.hid (HD.out.trans (if_neg (fun h => hv h.2)))
            clear hv
            go_wp2_with (go_at_call 34; refine (is_any _ _).mono ?_; rintro e w' ⟨rfl, rfl⟩)
            go_ret2
            exact nextPost_of 65533 1 rfl HE.out rfl rfl

set_option maxRecDepth 100000 in
set_option maxHeartbeats 1000000 in
theorem next_long3 (s : ByteArray) (i b : Nat) (w : World) (hi : i < s.size) (hs : s.size ≤ 1073741824) (hb : s[i].toNat = b) (hbn : byteN s i = b) (hlo : 224 ≤ b) (hhi : b < 240) :
    Calls Try.prog 50 #[.string s, .int .i64 i] w (NextPost s i w) := by
  have hbad := fun k hk0 hk h => decode_bad s i 3 k (.inr (.inl rfl)) (by rw [hbn]; exact hlo) (by rw [hbn]; exact hhi) hk0 hk h
  have hall := fun hc => decode_all s i 3 (.inr (.inl rfl)) (by rw [hbn]; exact hlo) (by rw [hbn]; exact hhi) hc
  rw [hbn, show baseN 3 = 224 from rfl] at hall
  have HBAD := Lib.hid hbad
  have HALL := Lib.hid hall
  clear hbad hall hbn
  by_cases hend : s.size < i + 3
  · have HD := Lib.hid (HBAD.out 2 (by omega) (by omega) (.inl (by omega)))
    go_enter Try.func50, Try.ntmps50
    go_wp2
    go_ret2
    exact nextPost_of 65533 1 rfl HD.out rfl rfl
  · go_enter Try.func50, Try.ntmps50
    go_wp2
    go_loop [9, 10] (fun r k => ∃ j A : Nat, 1 ≤ j ∧ j ≤ 3 ∧ k = .int .i64 j ∧ r = .int .i32 A ∧ A < 8388608 ∧ Hid (A = accN s i (b - 224) (j - 1)) ∧ Hid (∀ m, 1 ≤ m → m < j → i + m < s.size ∧ 128 ≤ byteN s (i + m) ∧ byteN s (i + m) < 192)) (fun _ k => 3 - (intOf k).toNat)
    case atStart => exact ⟨1, b - 224, by omega, by omega, rfl, by congr 1; omega, by omega, rfl, fun m h1 h2 => by omega⟩
    case round =>
      obtain ⟨j, A, hj1, hjn, rfl, rfl, hA, HA, HC⟩ := hrel
      by_cases hjlt : j < 3
      · have hij : i + j < s.size := by omega
        obtain ⟨c, hc⟩ : ∃ c, (s[i + j]'hij).toNat = c := ⟨_, rfl⟩
        have hcn : byteN s (i + j) = c := by rw [byteN_eq s (i + j) hij, hc]
        have hc256 : c < 256 := by rw [← hcn]; exact byteN_lt s (i + j)
        have HCN := Lib.hid hcn
        clear hcn
        by_cases hc1 : c < 128
        · have HD := Lib.hid (HBAD.out j hj1 hjlt (.inr (.inl (by rw [HCN.out]; exact hc1))))
          go_wp2
          go_ret2
          exact nextPost_of 65533 1 rfl HD.out rfl rfl
        · by_cases hc2 : 192 ≤ c
          · have HD := Lib.hid (HBAD.out j hj1 hjlt (.inr (.inr (by rw [HCN.out]; exact hc2))))
            go_wp2
            go_ret2
            exact nextPost_of 65533 1 rfl HD.out rfl rfl
          · have hA2 : A * 64 + (c - 128) = accN s i (b - 224) j := by
              obtain ⟨j', rfl⟩ : ∃ j', j = j' + 1 := ⟨j - 1, by omega⟩
              have h1 : accN s i (b - 224) (j' + 1) = accN s i (b - 224) j' * 64 + byteN s (i + j' + 1) % 64 := rfl
              have h2 := HA.out
              have h3 := HCN.out
              rw [show i + (j' + 1) = i + j' + 1 from rfl] at h3
              rw [h1, h3, h2, Nat.add_sub_cancel]
              omega
            have hA3 : A * 64 + (c - 128) < 8388608 := by
              rw [hA2]; exact accN_le s i _ (by omega) j (by omega)
            have HA2 := Lib.hid hA2
            clear hA2
            go_wp2
            go_round
            case rel =>
              refine ⟨j + 1, A * 64 + (c - 128), by omega, by omega, by go_num, by congr 1; omega, hA3, HA2.out, fun m hm1 hm2 => ?_⟩
              by_cases e : m = j
              · subst e; rw [HCN.out]; exact ⟨hij, by omega, by omega⟩
              · exact HC.out m hm1 (by omega)
            case measure => simp [intOf]; omega
      · obtain rfl : j = 3 := by omega
        have hd := HALL.out HC.out
        have h0 := HA.out
        rw [show 3 - 1 = 2 from rfl] at hd h0
        rw [← h0] at hd
        have HD := Lib.hid hd
        clear hd h0
        by_cases hl : A < 2048
        · have HE := Lib.hid (HD.out.trans (if_neg (fun h => by have := h.1; rw [show leastN 3 = 2048 from rfl] at this; omega)))
          go_wp2_with (go_at_call 34; refine (is_any _ _).mono ?_; rintro e w' ⟨rfl, rfl⟩)
          go_ret2
          exact nextPost_of 65533 1 rfl HE.out rfl rfl
        · by_cases hv : isB (A : Int) = true
          · have HE := Lib.hid (HD.out.trans (if_pos ⟨by rw [show leastN 3 = 2048 from rfl]; omega, hv⟩))
            go_wp2_with (go_at_call 34; refine (is_any _ _).mono ?_; rintro e w' ⟨rfl, rfl⟩)
            go_ret2
            exact nextPost_of A 3 rfl HE.out rfl rfl
          · have hv' : isB (A : Int) = false := by simpa using hv
            have HE := Lib.hid (HD.out.trans (if_neg (fun h => hv h.2)))
            clear hv
            go_wp2_with (go_at_call 34; refine (is_any _ _).mono ?_; rintro e w' ⟨rfl, rfl⟩)
            go_ret2
            exact nextPost_of 65533 1 rfl HE.out rfl rfl

set_option maxRecDepth 100000 in
set_option maxHeartbeats 1000000 in
theorem next_long4 (s : ByteArray) (i b : Nat) (w : World) (hi : i < s.size) (hs : s.size ≤ 1073741824) (hb : s[i].toNat = b) (hbn : byteN s i = b) (hlo : 240 ≤ b) (hhi : b < 248) :
    Calls Try.prog 50 #[.string s, .int .i64 i] w (NextPost s i w) := by
  have hbad := fun k hk0 hk h => decode_bad s i 4 k (.inr (.inr rfl)) (by rw [hbn]; exact hlo) (by rw [hbn]; exact hhi) hk0 hk h
  have hall := fun hc => decode_all s i 4 (.inr (.inr rfl)) (by rw [hbn]; exact hlo) (by rw [hbn]; exact hhi) hc
  rw [hbn, show baseN 4 = 240 from rfl] at hall
  have HBAD := Lib.hid hbad
  have HALL := Lib.hid hall
  clear hbad hall hbn
  have d1 : decide ((b : Int) < 128) = false := decide_eq_false (by omega)
  have d2 : decide ((b : Int) < 224) = false := decide_eq_false (by omega)
  have d3 : decide ((b : Int) < 240) = false := decide_eq_false (by omega)
  have d4 : decide ((b : Int) < 248) = true := decide_eq_true (by omega)
  by_cases hend : s.size < i + 4
  · have HD := Lib.hid (HBAD.out 3 (by omega) (by omega) (.inl (by omega)))
    go_enter Try.func50, Try.ntmps50
    go_wp2
    go_ret2
    exact nextPost_of 65533 1 rfl HD.out rfl rfl
  · go_enter Try.func50, Try.ntmps50
    go_wp2
    go_loop [9, 10] (fun r k => ∃ j A : Nat, 1 ≤ j ∧ j ≤ 4 ∧ k = .int .i64 j ∧ r = .int .i32 A ∧ A < 8388608 ∧ Hid (A = accN s i (b - 240) (j - 1)) ∧ Hid (∀ m, 1 ≤ m → m < j → i + m < s.size ∧ 128 ≤ byteN s (i + m) ∧ byteN s (i + m) < 192)) (fun _ k => 4 - (intOf k).toNat)
    case atStart => exact ⟨1, b - 240, by omega, by omega, rfl, by congr 1; omega, by omega, rfl, fun m h1 h2 => by omega⟩
    case round =>
      obtain ⟨j, A, hj1, hjn, rfl, rfl, hA, HA, HC⟩ := hrel
      by_cases hjlt : j < 4
      · have hij : i + j < s.size := by omega
        obtain ⟨c, hc⟩ : ∃ c, (s[i + j]'hij).toNat = c := ⟨_, rfl⟩
        have hcn : byteN s (i + j) = c := by rw [byteN_eq s (i + j) hij, hc]
        have hc256 : c < 256 := by rw [← hcn]; exact byteN_lt s (i + j)
        have HCN := Lib.hid hcn
        clear hcn
        by_cases hc1 : c < 128
        · have HD := Lib.hid (HBAD.out j hj1 hjlt (.inr (.inl (by rw [HCN.out]; exact hc1))))
          go_wp2
          go_ret2
          exact nextPost_of 65533 1 rfl HD.out rfl rfl
        · by_cases hc2 : 192 ≤ c
          · have HD := Lib.hid (HBAD.out j hj1 hjlt (.inr (.inr (by rw [HCN.out]; exact hc2))))
            go_wp2
            go_ret2
            exact nextPost_of 65533 1 rfl HD.out rfl rfl
          · have hA2 : A * 64 + (c - 128) = accN s i (b - 240) j := by
              obtain ⟨j', rfl⟩ : ∃ j', j = j' + 1 := ⟨j - 1, by omega⟩
              have h1 : accN s i (b - 240) (j' + 1) = accN s i (b - 240) j' * 64 + byteN s (i + j' + 1) % 64 := rfl
              have h2 := HA.out
              have h3 := HCN.out
              rw [show i + (j' + 1) = i + j' + 1 from rfl] at h3
              rw [h1, h3, h2, Nat.add_sub_cancel]
              omega
            have hA3 : A * 64 + (c - 128) < 8388608 := by
              rw [hA2]; exact accN_le s i _ (by omega) j (by omega)
            have HA2 := Lib.hid hA2
            clear hA2
            go_wp2
            go_round
            case rel =>
              first
                | refine ⟨j + 1, A * 64 + (c - 128), by omega, by omega, by go_num, by congr 1; omega, hA3, HA2.out, fun m hm1 hm2 => ?_⟩
                | (refine ⟨trivial, ?_⟩; (repeat apply Exists.intro); refine And.intro ?_ rfl; refine ⟨j + 1, A * 64 + (c - 128), by omega, by omega, by go_num, by congr 1; omega, hA3, HA2.out, fun m hm1 hm2 => ?_⟩)
              by_cases e : m = j
              · subst e; rw [HCN.out]; exact ⟨hij, by omega, by omega⟩
              · exact HC.out m hm1 (by omega)
            case measure => simp [intOf]; omega
      · obtain rfl : j = 4 := by omega
        have hd := HALL.out HC.out
        have h0 := HA.out
        rw [show 4 - 1 = 3 from rfl] at hd h0
        rw [← h0] at hd
        have HD := Lib.hid hd
        clear hd h0
        by_cases hl : A < 65536
        · have HE := Lib.hid (HD.out.trans (if_neg (fun h => by have := h.1; rw [show leastN 4 = 65536 from rfl] at this; omega)))
          go_wp2_with (go_at_call 34; refine (is_any _ _).mono ?_; rintro e w' ⟨rfl, rfl⟩)
          go_ret2
          exact nextPost_of 65533 1 rfl HE.out rfl rfl
        · have hl' : decide ((A : Int) < 65536) = false := decide_eq_false (by omega)
          by_cases hv : isB (A : Int) = true
          · have HE := Lib.hid (HD.out.trans (if_pos ⟨by rw [show leastN 4 = 65536 from rfl]; omega, hv⟩))
            go_wp2_with (go_at_call 34; refine (is_any _ _).mono ?_; rintro e w' ⟨rfl, rfl⟩)
            go_ret2
            exact nextPost_of A 4 rfl HE.out rfl rfl
          · have hv' : isB (A : Int) = false := by simpa using hv
            have HE := Lib.hid (HD.out.trans (if_neg (fun h => hv h.2)))
            clear hv
            go_wp2_with (go_at_call 34; refine (is_any _ _).mono ?_; rintro e w' ⟨rfl, rfl⟩)
            go_ret2
            exact nextPost_of 65533 1 rfl HE.out rfl rfl

set_option maxRecDepth 100000 in
set_option maxHeartbeats 1000000 in
theorem next_any (s : ByteArray) (i : Nat) (w : World) (hi : i < s.size) (hs : s.size ≤ 1073741824) :
    Calls Try.prog 50 #[.string s, .int .i64 i] w (NextPost s i w) := by
  obtain ⟨b, hb⟩ : ∃ b, s[i].toNat = b := ⟨_, rfl⟩
  have hbn : byteN s i = b := by rw [byteN_eq s i hi, hb]
  have hb256 : b < 256 := by rw [← hbn]; exact byteN_lt s i
  by_cases h128 : b < 128
  · have hd : Utf8.decode s i = (b, 1) := by rw [decode_eq, hbn, if_pos h128]
    have HD := Lib.hid hd
    clear hd hbn
    go_enter Try.func50, Try.ntmps50
    go_wp2
    go_ret2
    exact nextPost_of b 1 rfl HD.out rfl rfl
  · by_cases hno : b < 192 ∨ 248 ≤ b
    · have hd : Utf8.decode s i = (65533, 1) := decode_none s i (by omega) (by omega)
      have HD := Lib.hid hd
      clear hd hbn
      rcases hno with hno | hno
      · go_enter Try.func50, Try.ntmps50
        go_wp2
        go_ret2
        exact nextPost_of 65533 1 rfl HD.out rfl rfl
      · go_enter Try.func50, Try.ntmps50
        go_wp2
        go_ret2
        exact nextPost_of 65533 1 rfl HD.out rfl rfl
    · have hcl : (192 ≤ b ∧ b < 224) ∨ (224 ≤ b ∧ b < 240) ∨ (240 ≤ b ∧ b < 248) := by omega
      rcases hcl with ⟨hlo, hhi⟩ | ⟨hlo, hhi⟩ | ⟨hlo, hhi⟩
      · exact next_long2 s i b w hi hs hb hbn hlo hhi
      · exact next_long3 s i b w hi hs hb hbn hlo hhi
      · exact next_long4 s i b w hi hs hb hbn hlo hhi
end Go.Proofs.Ytbkjhdinlnpglaa
