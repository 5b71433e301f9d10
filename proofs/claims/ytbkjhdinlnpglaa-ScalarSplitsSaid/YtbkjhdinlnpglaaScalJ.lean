/-
  Layer 1: the program's Lower, in place in the bytes of its text; Trim, the program's and the reference's.
-/
import Derived.Test.YtbkjhdinlnpglaaScalI
namespace Go.Proofs.Ytbkjhdinlnpglaa
open Go.RowKit

/-- the new row of []byte(s), the first k bytes made small -/
def LowRow (B : Nat) (s : ByteArray) (k cap : Nat) (w : World) : Prop :=
  ∃ cur : Array Value, w.heap[B]? = some (.cells cur 5 (cap, cap + 1)) ∧ cur.size = cap ∧ s.size ≤ cap ∧
    ∀ j (h : j < s.size), cur[j]? = some (.int .u8 ((if j < k then lowC s[j] else s[j]).toNat : Int))

theorem lowRow_start (w : World) (s : ByteArray) : LowRow w.heap.size s 0 (grownCap w s.size 0 5) (Lib.bytesWorld w 5 s) := by
  have hge : s.size ≤ grownCap w s.size 0 5 := grownCap_ge _ _ _ _
  have hsz : (Lib.bytesCells w 5 s).size = grownCap w s.size 0 5 := by
    unfold Lib.bytesCells
    have : s.data.size = s.size := rfl
    simp [this]; omega
  refine ⟨Lib.bytesCells w 5 s, ?_, hsz, hge, ?_⟩
  · rw [Lib.bytesWorld_at_new, hsz]
  · intro j h
    have hj : j < s.data.size := h
    rw [if_neg (by omega)]
    unfold Lib.bytesCells
    rw [Array.getElem?_append_left (by simpa using hj)]
    simp
    exact ⟨s.data[j], Array.getElem?_eq_getElem hj, rfl⟩

theorem LowRow.cell {B : Nat} {s : ByteArray} {k cap : Nat} {w : World} (h : LowRow B s k cap w) (hk : k < s.size) : w.cell? ⟨B, k, none⟩ = some (.int .u8 (s[k].toNat : Int)) := by
  obtain ⟨cur, h1, _, _, h4⟩ := h
  rw [cell_of_row w B k cur _ _ h1, h4 k hk, if_neg (by omega)]

theorem LowRow.frozen {B : Nat} {s : ByteArray} {k cap : Nat} {w : World} (h : LowRow B s k cap w) (hk : k < s.size) : w.frozen? ⟨B, k, none⟩ = false := by
  obtain ⟨cur, h1, _, h3, _⟩ := h
  simp [World.frozen?, h1]
  omega

theorem LowRow.same {B : Nat} {s : ByteArray} {k cap : Nat} {w : World} (h : LowRow B s k cap w) (hk : k < s.size) (he : lowC s[k] = s[k]) : LowRow B s (k + 1) cap w := by
  obtain ⟨cur, h1, h2, h3, h4⟩ := h
  refine ⟨cur, h1, h2, h3, fun j hj => ?_⟩
  rw [h4 j hj]
  by_cases e : j = k
  · subst e; rw [if_neg (by omega), if_pos (by omega), he]
  · by_cases e2 : j < k
    · rw [if_pos e2, if_pos (by omega)]
    · rw [if_neg e2, if_neg (by omega)]

theorem LowRow.put {B : Nat} {s : ByteArray} {k cap : Nat} {w : World} (h : LowRow B s k cap w) (hk : k < s.size) (n : Int) (hn : n = ((lowC s[k]).toNat : Int)) : LowRow B s (k + 1) cap (w.setCell ⟨B, k, none⟩ (.int .u8 n)) := by
  obtain ⟨cur, h1, h2, h3, h4⟩ := h
  refine ⟨cur.setIfInBounds k (.int .u8 n), ?_, by simpa using h2, h3, fun j hj => ?_⟩
  · simp [World.setCell, Array.getElem?_modify, h1]
  · rw [Array.getElem?_setIfInBounds]
    by_cases e : k = j
    · subst e; rw [if_pos rfl, if_pos (by omega), if_pos (by omega), hn]
    · rw [if_neg e, h4 j hj]
      by_cases e2 : j < k
      · rw [if_pos e2, if_pos (by omega)]
      · rw [if_neg e2, if_neg (by omega)]

theorem LowRow.conv {B : Nat} {s : ByteArray} {cap : Nat} {w : World} {k : Nat} (h : LowRow B s k cap w) (hk : ¬ k < s.size) :
    (convert 52 9 (.slice (some ⟨B, 0, none⟩) s.size cap)).run Try.prog w = .ok (.string ⟨(lowerB s.data.toList).toArray⟩) w := by
  refine conv_bytes w _ _ 5 _ _ ?_ Try.underlying52 Try.underlying5 Try.underlying9
  obtain ⟨cur, h1, h2, h3, h4⟩ := h
  have hl : (Lib.byteCells (lowerB s.data.toList)).length = s.size := by rw [Lib.byteCells_length, lower_len, size_list]
  refine ⟨_, cap, by rw [hl], fun j u hj => ⟨_, rfl, ?_⟩⟩
  have hlt : j < s.size := by rw [← hl]; exact (List.getElem?_eq_some_iff.1 hj).1
  rw [show (Addr.add ⟨B, 0, none⟩ j) = ⟨B, j, none⟩ from by unfold Addr.add; split <;> simp_all]
  rw [cell_of_row w B j cur _ _ h1, h4 j hlt, if_pos (by omega), ← hj]
  simp only [Lib.byteCells, lowerB, List.map_map, List.getElem?_map, bytes_at s j hlt]
  rfl

set_option maxRecDepth 100000 in
set_option maxHeartbeats 1000000 in
theorem lower_any (s : ByteArray) (w : World) (hs : s.size ≤ 1073741824) :
    Calls Try.prog 19 #[.string s] w fun e w' => e = .returned (.string ⟨(lowerB s.data.toList).toArray⟩) ∧ Below w.heap.size w w' := by
  have hcv0 := Lib.run_convert_string_bytes (P := Try.prog) w 9 52 5 s Try.underlying9 Try.underlying52 Try.underlying5
  have hst := lowRow_start w s
  have hb0 : Below w.heap.size w (Lib.bytesWorld w 5 s) := ⟨rfl, rfl, rfl, by rw [Lib.bytesWorld_size]; omega, fun k hk => Lib.bytesWorld_at_old w _ s k hk⟩
  have HST := Lib.hid hst
  clear hst
  generalize hcap : grownCap w s.size 0 5 = cap at *
  generalize Lib.bytesWorld w 5 s = wb at *
  clear hcap
  go_enter Try.func19, Try.ntmps19
  go_wp2
  clear hcv0
  go_loopw [10] (fun i wr => ∃ k : Nat, k ≤ s.size ∧ i = .int .i64 k ∧ LowRow w.heap.size s k cap wr ∧ Below w.heap.size w wr) (fun i _ => s.size - (intOf i).toNat)
  case atStart => exact ⟨0, Nat.zero_le _, rfl, HST.out, hb0⟩
  case round =>
    obtain ⟨k, hk, rfl, hr, hbw⟩ := hrel
    by_cases hlt : k < s.size
    · have hcell := hr.cell hlt
      have hfr := hr.frozen hlt
      obtain ⟨c, hc⟩ : ∃ c, (s[k]'hlt).toNat = c := ⟨_, rfl⟩
      have hc256 : c < 256 := by rw [← hc]; exact (s[k]'hlt).toNat_lt
      rw [hc] at hcell
      by_cases hu : 65 ≤ c ∧ c ≤ 90
      · have hdc : ((lowC s[k]).toNat : Int) = (c : Int) + 32 := by rw [lowC_up (by omega) (by omega), hc]; omega
        have hr2 := hr.put hlt ((c : Int) + 32) hdc.symm
        have HR2 := Lib.hid hr2
        have hbw2 := hbw.setCell (p := ⟨w.heap.size, k, none⟩) (Nat.le_refl _) (.int .u8 ((c : Int) + 32))
        have HC := Lib.hid hc
        obtain ⟨hu1, hu2⟩ := hu
        have ea : (c : Int) - 65 + 97 = (c : Int) + 32 := by omega
        clear hdc hr2 hc
        go_wp2
        go_roundw
        case rel => exact ⟨k + 1, by omega, by go_num, by first | exact HR2.out | (rw [ea]; exact HR2.out), by first | exact hbw2 | (rw [ea]; exact hbw2)⟩
        case measure => simp [intOf]; omega
      · have hr2 := hr.same hlt (lowC_id (by omega))
        have HR2 := Lib.hid hr2
        clear hr2 hc
        go_wp2
        all_goals
          go_roundw
          case rel => exact ⟨k + 1, by omega, by go_num, HR2.out, hbw⟩
          case measure => simp [intOf]; omega
    · have hcv := hr.conv hlt
      go_wp2
      go_ret
      exact ⟨rfl, hbw⟩

def blankC (c : UInt8) : Bool := decide (c.toNat ≤ 32)
theorem blankC_true {c : UInt8} (h : c.toNat ≤ 32) : blankC c = true := decide_eq_true h
theorem blankC_false {c : UInt8} (h : 32 < c.toNat) : blankC c = false := decide_eq_false (by omega)
def trimL (l : List UInt8) : List UInt8 := ((l.dropWhile blankC).reverse.dropWhile blankC).reverse

theorem dropWhile_drop (p : UInt8 → Bool) : ∀ (l : List UInt8) (n : Nat), n ≤ l.length → (∀ k x, l[k]? = some x → k < n → p x = true) → (n = l.length ∨ ∃ x, l[n]? = some x ∧ p x = false) → l.dropWhile p = l.drop n
  | [], n, h, _, _ => by simp
  | x :: l, 0, _, _, h2 => by
    rcases h2 with h2 | ⟨y, hy, hp⟩
    · simp at h2
    · simp at hy; subst hy; simp [hp]
  | x :: l, n + 1, h, h1, h2 => by
    have hx : p x = true := h1 0 x rfl (by omega)
    rw [List.dropWhile_cons, if_pos hx, List.drop_succ_cons]
    exact dropWhile_drop p l n (by simp at h; omega) (fun k y hk hkn => h1 (k + 1) y (by simpa using hk) (by omega)) (h2.imp (fun e => by simp at e; exact e) (fun ⟨y, hy, hp⟩ => ⟨y, by simpa using hy, hp⟩))

theorem trimL_cut (l : List UInt8) (i j : Nat) (hij : i ≤ j) (hj : j ≤ l.length) (h1 : ∀ k x, l[k]? = some x → k < i → blankC x = true) (h2 : i = l.length ∨ ∃ x, l[i]? = some x ∧ blankC x = false)
    (h3 : ∀ k x, l[k]? = some x → j ≤ k → blankC x = true) (h4 : i = j ∨ (i < j ∧ ∃ x, l[j - 1]? = some x ∧ blankC x = false)) : (l.drop i).take (j - i) = trimL l := by
  unfold trimL
  rw [dropWhile_drop blankC l i (by omega) h1 h2, dropWhile_drop blankC (l.drop i).reverse (l.length - j) (by simp; omega), List.drop_reverse, List.reverse_reverse]
  · congr 1
    simp
    omega
  · intro k x hk hkn
    have hlt : k < (l.drop i).reverse.length := (List.getElem?_eq_some_iff.1 hk).1
    simp at hlt
    rw [List.getElem?_reverse (by simpa using hlt), List.getElem?_drop] at hk
    exact h3 _ x hk (by simp; omega)
  · rcases h4 with h4 | ⟨hlt, x, hx, hp⟩
    · left; simp; omega
    · right
      refine ⟨x, ?_, hp⟩
      rw [List.getElem?_reverse (by simp; omega), List.getElem?_drop]
      rw [← hx]
      congr 1
      simp
      omega

theorem extract_none (s : ByteArray) (k : Nat) : s.extract k k = ByteArray.empty := by
  apply ByteArray.ext
  apply Array.ext'
  rw [Lib.extract_data]
  simp

theorem extract_trim (s : ByteArray) (k m : Nat) (h1 : k ≤ m) (h2 : m ≤ s.size) (H1 : ∀ j (h : j < s.size), j < k → blankC s[j] = true) (H2 : k = s.size ∨ ∃ h : k < s.size, blankC s[k] = false)
    (h3 : ∀ j (h : j < s.size), m ≤ j → blankC s[j] = true) (h4 : k = m ∨ ∃ h : m - 1 < s.size, k < m ∧ blankC s[m - 1] = false) : (s.extract k m) = ⟨(trimL s.data.toList).toArray⟩ := by
  have at_ : ∀ j x, s.data.toList[j]? = some x → ∃ h : j < s.size, x = s[j] := by
    intro j x hj
    have hlt : j < s.size := by have := (List.getElem?_eq_some_iff.1 hj).1; simpa using this
    rw [bytes_at s j hlt] at hj
    exact ⟨hlt, (Option.some.inj hj).symm⟩
  have e := trimL_cut s.data.toList k m h1 (by rw [size_list]; exact h2)
    (fun j x hj hjk => by obtain ⟨h, rfl⟩ := at_ j x hj; exact H1 j h hjk)
    (by rw [size_list]; exact H2.imp id (fun ⟨h, hp⟩ => ⟨_, bytes_at s k h, hp⟩))
    (fun j x hj hjk => by obtain ⟨h, rfl⟩ := at_ j x hj; exact h3 j h hjk)
    (h4.imp id (fun ⟨h, hlt, hp⟩ => ⟨hlt, _, bytes_at s (m - 1) h, hp⟩))
  rw [← e]
  apply ByteArray.ext
  apply Array.ext'
  rw [Lib.extract_data]

set_option maxRecDepth 100000 in
set_option maxHeartbeats 1000000 in
theorem trim_any (s : ByteArray) (w : World) (hs : s.size ≤ 1073741824) :
    Calls Try.prog 21 #[.string s] w fun e w' => e = .returned (.string ⟨(trimL s.data.toList).toArray⟩) ∧ w = w' := by
  go_enter Try.func21, Try.ntmps21
  go_wp2
  go_loop [3] (fun i => ∃ k : Nat, k ≤ s.size ∧ i = .int .i64 k ∧ Hid (∀ j (h : j < s.size), j < k → blankC s[j] = true)) (fun i => s.size - (intOf i).toNat)
  case atStart => exact ⟨0, Nat.zero_le _, rfl, fun j _ h => by omega⟩
  case round =>
    obtain ⟨k, hk, rfl, H1⟩ := hrel
    by_cases hgo : ∃ h : k < s.size, (s[k]'h).toNat ≤ 32
    · obtain ⟨hlt, hb⟩ := hgo
      obtain ⟨c, hc⟩ : ∃ c, (s[k]'hlt).toNat = c := ⟨_, rfl⟩
      rw [hc] at hb
      have HC := Lib.hid hc
      go_wp2
      go_round
      case rel =>
        refine ⟨k + 1, by omega, by go_num, fun j hj hjk => ?_⟩
        by_cases e : j = k
        · subst e; exact blankC_true (by rw [HC.out]; exact hb)
        · exact H1.out j hj (by omega)
      case measure => simp [intOf]; omega
    · have H2 : Hid (k = s.size ∨ ∃ h : k < s.size, blankC s[k] = false) := by
        by_cases hlt : k < s.size
        · refine .inr ⟨hlt, ?_⟩
          by_cases hb : (s[k]'hlt).toNat ≤ 32
          · exact absurd ⟨hlt, hb⟩ hgo
          · exact blankC_false (by omega)
        · exact .inl (by omega)
      have fin : ∀ m : Nat, k ≤ m → m ≤ s.size → (∀ j (h : j < s.size), m ≤ j → blankC s[j] = true) → (k = m ∨ ∃ h : m - 1 < s.size, k < m ∧ blankC s[m - 1] = false) → (s.extract k m) = ⟨(trimL s.data.toList).toArray⟩ :=
        fun m h1 h2 h3 h4 => extract_trim s k m h1 h2 H1.out H2.out h3 h4
      have FIN := Lib.hid fin
      clear fin
      by_cases hlt : k < s.size
      · obtain ⟨c, hc⟩ : ∃ c, (s[k]'hlt).toNat = c := ⟨_, rfl⟩
        have hbc : 32 < c := by
          by_cases hb : (s[k]'hlt).toNat ≤ 32
          · exact absurd ⟨hlt, hb⟩ hgo
          · omega
        clear hgo
        go_wp2
        go_loop [4] (fun i => ∃ m : Nat, k ≤ m ∧ m ≤ s.size ∧ i = .int .i64 m ∧ Hid (∀ j (h : j < s.size), m ≤ j → blankC s[j] = true)) (fun i => (intOf i).toNat)
        case atStart => exact ⟨s.size, by omega, Nat.le_refl _, rfl, fun j h1 h2 => by omega⟩
        case round =>
          obtain ⟨m, hkm, hms, rfl, H3⟩ := hrel
          by_cases hkm2 : k < m
          · have hm1 : m - 1 < s.size := by omega
            obtain ⟨d, hd⟩ : ∃ d, (s[m - 1]'hm1).toNat = d := ⟨_, rfl⟩
            have HD := Lib.hid hd
            have ei : ((m : Int) - 1).toNat = m - 1 := by omega
            have ej : (m : Int) - 1 = ((m - 1 : Nat) : Int) := by omega
            by_cases hb : d ≤ 32
            · go_wp2
              go_round
              case rel =>
                refine ⟨m - 1, by omega, by omega, by go_num, fun j hj hjm => ?_⟩
                by_cases e : j = m - 1
                · subst e; exact blankC_true (by rw [HD.out]; exact hb)
                · exact H3.out j hj (by omega)
              case measure => simp [intOf]; omega
            · have HF := Lib.hid (FIN.out m hkm hms H3.out (.inr ⟨hm1, hkm2, blankC_false (by rw [HD.out]; omega)⟩))
              go_wp2
              go_ret
              exact ⟨by rw [← HF.out]; rfl, rfl⟩
          · have hbad : False := by
              have hlt2 := hlt
              have := H3.out k hlt (by omega)
              rw [blankC_false (by omega)] at this
              cases this
            exact hbad.elim
      · obtain rfl : k = s.size := by omega
        have HF := Lib.hid (FIN.out s.size (Nat.le_refl _) (Nat.le_refl _) (fun j h1 h2 => by omega) (.inl rfl))
        clear hgo
        go_wp2
        refine wp_loop_rounds 1 ?_
        rw [rounds_succ]
        go_wp2
        go_ret
        exact ⟨congrArg (fun b => Ending.returned (Value.string b)) ((extract_none s s.size).symm.trans HF.out), rfl⟩

set_option maxRecDepth 100000 in
set_option maxHeartbeats 1000000 in
theorem refTrim_any (s : ByteArray) (w : World) (hs : s.size ≤ 1073741824) :
    Calls Try.prog 22 #[.string s] w fun e w' => e = .returned (.string ⟨(trimL s.data.toList).toArray⟩) ∧ w = w' := by
  go_enter Try.func22, Try.ntmps22
  go_wp2
  go_loop [3] (fun i => ∃ k : Nat, k ≤ s.size ∧ i = .int .i64 k ∧ Hid (∀ j (h : j < s.size), j < k → blankC s[j] = true)) (fun i => s.size - (intOf i).toNat)
  case atStart => exact ⟨0, Nat.zero_le _, rfl, fun j _ h => by omega⟩
  case round =>
    obtain ⟨k, hk, rfl, H1⟩ := hrel
    by_cases hgo : ∃ h : k < s.size, (s[k]'h).toNat ≤ 32
    · obtain ⟨hlt, hb⟩ := hgo
      obtain ⟨c, hc⟩ : ∃ c, (s[k]'hlt).toNat = c := ⟨_, rfl⟩
      rw [hc] at hb
      have HC := Lib.hid hc
      go_wp2
      go_round
      case rel =>
        refine ⟨k + 1, by omega, by go_num, fun j hj hjk => ?_⟩
        by_cases e : j = k
        · subst e; exact blankC_true (by rw [HC.out]; exact hb)
        · exact H1.out j hj (by omega)
      case measure => simp [intOf]; omega
    · have H2 : Hid (k = s.size ∨ ∃ h : k < s.size, blankC s[k] = false) := by
        by_cases hlt : k < s.size
        · refine .inr ⟨hlt, ?_⟩
          by_cases hb : (s[k]'hlt).toNat ≤ 32
          · exact absurd ⟨hlt, hb⟩ hgo
          · exact blankC_false (by omega)
        · exact .inl (by omega)
      have fin : ∀ m : Nat, k ≤ m → m ≤ s.size → (∀ j (h : j < s.size), m ≤ j → blankC s[j] = true) → (k = m ∨ ∃ h : m - 1 < s.size, k < m ∧ blankC s[m - 1] = false) → (s.extract k m) = ⟨(trimL s.data.toList).toArray⟩ :=
        fun m h1 h2 h3 h4 => extract_trim s k m h1 h2 H1.out H2.out h3 h4
      have FIN := Lib.hid fin
      clear fin
      by_cases hlt : k < s.size
      · obtain ⟨c, hc⟩ : ∃ c, (s[k]'hlt).toNat = c := ⟨_, rfl⟩
        have hbc : 32 < c := by
          by_cases hb : (s[k]'hlt).toNat ≤ 32
          · exact absurd ⟨hlt, hb⟩ hgo
          · omega
        clear hgo
        go_wp2
        go_loop [4] (fun i => ∃ m : Nat, k ≤ m ∧ m ≤ s.size ∧ i = .int .i64 m ∧ Hid (∀ j (h : j < s.size), m ≤ j → blankC s[j] = true)) (fun i => (intOf i).toNat)
        case atStart => exact ⟨s.size, by omega, Nat.le_refl _, rfl, fun j h1 h2 => by omega⟩
        case round =>
          obtain ⟨m, hkm, hms, rfl, H3⟩ := hrel
          by_cases hkm2 : k < m
          · have hm1 : m - 1 < s.size := by omega
            obtain ⟨d, hd⟩ : ∃ d, (s[m - 1]'hm1).toNat = d := ⟨_, rfl⟩
            have HD := Lib.hid hd
            have ei : ((m : Int) - 1).toNat = m - 1 := by omega
            have ej : (m : Int) - 1 = ((m - 1 : Nat) : Int) := by omega
            by_cases hb : d ≤ 32
            · go_wp2
              go_round
              case rel =>
                refine ⟨m - 1, by omega, by omega, by go_num, fun j hj hjm => ?_⟩
                by_cases e : j = m - 1
                · subst e; exact blankC_true (by rw [HD.out]; exact hb)
                · exact H3.out j hj (by omega)
              case measure => simp [intOf]; omega
            · have HF := Lib.hid (FIN.out m hkm hms H3.out (.inr ⟨hm1, hkm2, blankC_false (by rw [HD.out]; omega)⟩))
              go_wp2
              go_ret
              exact ⟨by rw [← HF.out]; rfl, rfl⟩
          · have hbad : False := by
              have hlt2 := hlt
              have := H3.out k hlt (by omega)
              rw [blankC_false (by omega)] at this
              cases this
            exact hbad.elim
      · obtain rfl : k = s.size := by omega
        have HF := Lib.hid (FIN.out s.size (Nat.le_refl _) (Nat.le_refl _) (fun j h1 h2 => by omega) (.inl rfl))
        clear hgo
        go_wp2
        refine wp_loop_rounds 1 ?_
        rw [rounds_succ]
        go_wp2
        go_ret
        exact ⟨congrArg (fun b => Ending.returned (Value.string b)) ((extract_none s s.size).symm.trans HF.out), rfl⟩

end Go.Proofs.Ytbkjhdinlnpglaa
