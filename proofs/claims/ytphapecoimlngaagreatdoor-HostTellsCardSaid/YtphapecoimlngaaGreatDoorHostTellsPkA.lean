/-
  What the law HostTells leans on, and its walk (1 of 18).
-/
import Derived.Test.YtphapecoimlngaaGreatDoorChecked
import Derived.WalkKit
import Derived.WalkLawsBesides
import Derived.BigQuiet
import Derived.Deep.QuietTactic
import Derived.Lib.Hide
import Derived.Lib.OthersKept
import Derived.Lib.RuneBytes
import Derived.Test.YtphapecoimlngaaGreatDoorHostTellsPkS
import Derived.OpenShut
import Derived.Lib.ConvBytes
import Derived.WalkSpells
import Derived.Lib.Join
namespace Go.Proofs.YtphapecoimlngaaGreatDoor
set_option maxRecDepth 100000
set_option maxHeartbeats 16000000
section
section
open Go.RowKit
theorem zaQ {a b : Bool} (h : a = b) : Ending.returned (.bool a) = .returned (.bool b) := by rw [h]
/-- all bytes below 128 -/
def ziD (s : ByteArray) : Bool := s.data.toList.all fun c => decide (c.toNat < 128)
theorem zkR (s : ByteArray) (k : Nat) (h : k < s.size) (hc : 128 ≤ (s[k]'h).toNat) : ziD s = false := by
 unfold ziD
 rw [List.all_eq_false]
 refine ⟨s[k]'h, ?_, by simp; omega⟩
 show s.data[k] ∈ _
 simp
theorem zlU (s : ByteArray) (h : ∀ k (h : k < s.size), (s[k]'h).toNat < 128) : ziD s = true := by
 unfold ziD
 rw [List.all_eq_true]
 intro c hc
 obtain ⟨k, hk, rfl⟩ := List.getElem_of_mem hc
 have := h k (by simpa using hk)
 simp only [decide_eq_true_eq]
 exact this
theorem zkP (s : ByteArray) (w : World) (hs : s.size ≤ 1073741824) :
  Calls Tryz.prog 42 #[.string s] w fun e w' => e = .returned (.bool (ziD s)) ∧ w = w' := by
 go_enter Tryz.func42, Tryz.ntmps42
 go_wp2
 go_loop [3] (fun i => ∃ k : Nat, k ≤ s.size ∧ i = .int .i64 k ∧ Hid (∀ j (h : j < s.size), j < k → (s[j]'h).toNat < 128)) (fun i => s.size - (intOf i).toNat)
 case atStart => exact ⟨0, Nat.zero_le _, rfl, fun j _ h => by omega⟩
 case round =>
  obtain ⟨k, hk, rfl, H⟩ := hrel
  by_cases hlt : k < s.size
  ·go_wp2
   ·have hc : (128 : Int) ≤ (s[k].toNat : Int) := by assumption
    go_ret
    exact ⟨zaQ (zkR s k hlt (by omega)).symm, rfl⟩
   ·have hc : (s[k].toNat : Int) < 128 := by first | assumption | omega
    go_round
    case rel =>
     refine ⟨k + 1, by omega, by go_num, fun j hj hjk => ?_⟩
     by_cases e : j = k
     ·subst e; omega
     ·exact H.out j hj (by omega)
    case measure => simp [intOf]; omega
  ·have hf := zlU s (fun j hj => H.out j hj (by omega))
   have HF := Lib.hid hf
   clear hf
   go_wp2
   go_ret
   exact ⟨zaQ HF.out.symm, rfl⟩
end
section
open Go.RowKit
/-- the slice value v holds the cells xs -/
def RowR (w : World) (v : Value) (xs : List Value) : Prop :=
 ∃ ao c, v = .slice ao xs.length c ∧ ∀ j u, xs[j]? = some u → ∃ ad, ao = some ad ∧ w.cell? (ad.add j) = some u
theorem RowR.of_own {w : World} {base : Nat} {e : TypeId} {v : Value} {xs : List Value} (h : w.ownsRow base e 1 v xs.length xs) : RowR w v xs := by
 rcases h.2 with ⟨rfl, h0⟩ | ⟨g, cap, cur, rfl, _, hg, hn, _, hs, ht⟩
 ·refine ⟨none, 0, by rw [h0], fun j u hj => ?_⟩
  have := List.length_eq_zero_iff.1 h0
  subst this
  simp at hj
 ·refine ⟨some ⟨g, 0, none⟩, cap, rfl, fun j u hj => ⟨_, rfl, ?_⟩⟩
  have hlt : j < xs.length := (List.getElem?_eq_some_iff.1 hj).1
  have e1 : (Addr.add ⟨g, 0, none⟩ j) = ⟨g, j, none⟩ := by
   unfold Addr.add; split <;> simp_all
  rw [e1, cell_of_row w g j cur e (0, 0) hg]
  rw [← ht, List.getElem?_take] at hj
  rw [if_pos (by omega)] at hj
  simpa using hj
theorem RowR.keep {w w' : World} {v : Value} {xs : List Value} (h : RowR w v xs) (hk : ∀ a u, w.cell? a = some u → w'.cell? a = some u) : RowR w' v xs := by
 obtain ⟨ao, c, hv, hc⟩ := h
 refine ⟨ao, c, hv, fun j u hj => ?_⟩
 obtain ⟨ad, ha, hx⟩ := hc j u hj
 exact ⟨ad, ha, hk _ _ hx⟩
theorem RowR.below {w w' : World} {v : Value} {xs : List Value} (h : RowR w v xs) (hb : Below w.heap.size w w') : RowR w' v xs :=
 h.keep fun a _ ha => (hb.cell (World.block_lt_of_cell? w a ha)).trans ha
theorem ztF {l1 l2 : List Int} {k : Nat} (h : l1.take k = l2.take k) (h1 : k < l1.length) (h2 : k < l2.length) (e : l1[k] = l2[k]) : l1.take (k + 1) = l2.take (k + 1) := by
 rw [List.take_succ_eq_append_getElem h1, List.take_succ_eq_append_getElem h2, h, e]
theorem zyX (v1 v2 : Value) (l1 l2 : List Int) (w : World) (h1 : RowR w v1 (l1.map (Value.int .i32))) (h2 : RowR w v2 (l2.map (Value.int .i32)))
  (hl1 : l1.length ≤ 1073741824) :
  Calls Tryz.prog 217 #[v1, v2] w fun e w' => e = .returned (.bool (decide (l1 = l2))) ∧ ∃ n, w' = w.drewN n := by
 obtain ⟨a1, c1, rfl, hc1⟩ := h1
 obtain ⟨a2, c2, rfl, hc2⟩ := h2
 simp only [List.length_map]
 have HC1 := Lib.hid hc1
 have HC2 := Lib.hid hc2
 clear hc1 hc2
 by_cases hne : l1.length = l2.length
 ·have HL := Lib.hid hne
  have hle1 : l1.length ≤ l2.length := by omega
  have hle2 : l2.length ≤ l1.length := by omega
  have hb : ((l1.length : Int) != (l2.length : Int)) = false := by simp [hne]
  clear hne
  go_enter Tryz.func217, Tryz.ntmps217
  go_wp2
  go_loopw [13] (fun i wr => ∃ k m : Nat, k ≤ l1.length ∧ i = .int .i64 k ∧ wr = w.drewN m ∧ Hid (l1.take k = l2.take k)) (fun i _ => l1.length - (intOf i).toNat)
  case atStart => exact ⟨0, 0, Nat.zero_le _, rfl, rfl, rfl⟩
  case round =>
   obtain ⟨k, m, hk, rfl, rfl, H⟩ := hrel
   by_cases hlt : k < l1.length
   ·have hlt2 : k < l2.length := by omega
    obtain ⟨x, hx⟩ : ∃ x, x = l1[k] := ⟨_, rfl⟩
    obtain ⟨y, hy⟩ : ∃ y, y = l2[k] := ⟨_, rfl⟩
    obtain ⟨d1, rfl, hd1⟩ := HC1.out k (.int .i32 x) (by simp [hx, hlt])
    obtain ⟨d2, rfl, hd2⟩ := HC2.out k (.int .i32 y) (by simp [hy, hlt2])
    have HX := Lib.hid hx
    have HY := Lib.hid hy
    clear hx hy
    by_cases hxy : x = y
    ·subst hxy
     go_wp2
     go_quiet (fail)
     go_wp2
     go_roundw
     case rel =>
      exact ⟨k + 1, _, by omega, by go_num, rfl, ztF H.out hlt hlt2 (HX.out.symm.trans HY.out)⟩
     case measure => simp [intOf]; omega
    ·have hb1 : (x != y) = true := by simp [hxy]
     have hfin : decide (l1 = l2) = false := by
      refine decide_eq_false fun e => hxy ?_
      rw [HX.out, HY.out]
      simp only [e]
     have HF := Lib.hid hfin
     clear hfin
     go_wp2
     go_quiet (fail)
     go_wp2
     go_ret
     exact ⟨zaQ HF.out.symm, _, World.drewN_drewN _ _ _⟩
   ·have hfin : decide (l1 = l2) = true := by
     refine decide_eq_true ?_
     have := H.out
     rwa [List.take_of_length_le (by omega), List.take_of_length_le (by omega)] at this
    have HF := Lib.hid hfin
    clear hfin
    go_wp2
    go_ret
    exact ⟨zaQ HF.out.symm, m, rfl⟩
 ·have hb : ((l1.length : Int) != (l2.length : Int)) = true := by simp; omega
  have hfin : decide (l1 = l2) = false := decide_eq_false fun e => hne (by rw [e])
  have HF := Lib.hid hfin
  clear hfin
  go_enter Tryz.func217, Tryz.ntmps217
  go_wp2
  go_ret
  exact ⟨zaQ HF.out.symm, 0, rfl⟩
end
section
open Go.RowKit
def zbE (s : ByteArray) (i : Nat) : Nat := (s.get! i).toNat
theorem zyN (s : ByteArray) (i : Nat) (h : i < s.size) : zbE s i = (s[i]'h).toNat := by
 unfold zbE
 rw [show s.get! i = s.get! (i + 0) from rfl, get_at s i h]
theorem z7E (s : ByteArray) (i : Nat) : zbE s i < 256 := (s.get! i).toNat_lt
def isB (r : Int) : Bool := decide (0 ≤ r ∧ r ≤ 1114111 ∧ (r < 55296 ∨ 57343 < r))
theorem zsA (r : Nat) : Utf8.valid (r : Int) = isB (r : Int) := by
 unfold Utf8.valid isB
 rw [Bool.eq_iff_iff]
 simp only [Bool.or_eq_true, Bool.and_eq_true, decide_eq_true_eq]
 omega
theorem zvP (s : ByteArray) (i : Nat) : Utf8.decode s i =
  if zbE s i < 128 then (zbE s i, 1)
  else if (zbE s i / 32 == 6 && (decide (i + 1 < s.size) && zbE s (i + 1) / 64 == 2)) = true then
   if 128 ≤ zbE s i % 32 * 64 + zbE s (i + 1) % 64 then (zbE s i % 32 * 64 + zbE s (i + 1) % 64, 2) else (65533, 1)
  else if (zbE s i / 16 == 14 && (decide (i + 1 < s.size) && zbE s (i + 1) / 64 == 2) && (decide (i + 2 < s.size) && zbE s (i + 2) / 64 == 2)) = true then
   if (decide (2048 ≤ zbE s i % 16 * 4096 + zbE s (i + 1) % 64 * 64 + zbE s (i + 2) % 64) && isB (zbE s i % 16 * 4096 + zbE s (i + 1) % 64 * 64 + zbE s (i + 2) % 64 : Nat)) = true
   then (zbE s i % 16 * 4096 + zbE s (i + 1) % 64 * 64 + zbE s (i + 2) % 64, 3) else (65533, 1)
  else if (zbE s i / 8 == 30 && (decide (i + 1 < s.size) && zbE s (i + 1) / 64 == 2) && (decide (i + 2 < s.size) && zbE s (i + 2) / 64 == 2) && (decide (i + 3 < s.size) && zbE s (i + 3) / 64 == 2)) = true then
   if (decide (65536 ≤ zbE s i % 8 * 262144 + zbE s (i + 1) % 64 * 4096 + zbE s (i + 2) % 64 * 64 + zbE s (i + 3) % 64) && isB (zbE s i % 8 * 262144 + zbE s (i + 1) % 64 * 4096 + zbE s (i + 2) % 64 * 64 + zbE s (i + 3) % 64 : Nat)) = true
   then (zbE s i % 8 * 262144 + zbE s (i + 1) % 64 * 4096 + zbE s (i + 2) % 64 * 64 + zbE s (i + 3) % 64, 4) else (65533, 1)
  else (65533, 1) := by
 rw [← zsA, ← zsA]
 rfl
theorem zgM (s : ByteArray) (i : Nat) : Utf8.decode s i =
  if zbE s i < 128 then (zbE s i, 1)
  else if zbE s i / 32 = 6 ∧ (i + 1 < s.size ∧ zbE s (i + 1) / 64 = 2) then
   if 128 ≤ zbE s i % 32 * 64 + zbE s (i + 1) % 64 then (zbE s i % 32 * 64 + zbE s (i + 1) % 64, 2) else (65533, 1)
  else if (zbE s i / 16 = 14 ∧ (i + 1 < s.size ∧ zbE s (i + 1) / 64 = 2)) ∧ (i + 2 < s.size ∧ zbE s (i + 2) / 64 = 2) then
   if 2048 ≤ zbE s i % 16 * 4096 + zbE s (i + 1) % 64 * 64 + zbE s (i + 2) % 64 ∧ isB (zbE s i % 16 * 4096 + zbE s (i + 1) % 64 * 64 + zbE s (i + 2) % 64 : Nat) = true
   then (zbE s i % 16 * 4096 + zbE s (i + 1) % 64 * 64 + zbE s (i + 2) % 64, 3) else (65533, 1)
  else if ((zbE s i / 8 = 30 ∧ (i + 1 < s.size ∧ zbE s (i + 1) / 64 = 2)) ∧ (i + 2 < s.size ∧ zbE s (i + 2) / 64 = 2)) ∧ (i + 3 < s.size ∧ zbE s (i + 3) / 64 = 2) then
   if 65536 ≤ zbE s i % 8 * 262144 + zbE s (i + 1) % 64 * 4096 + zbE s (i + 2) % 64 * 64 + zbE s (i + 3) % 64 ∧ isB (zbE s i % 8 * 262144 + zbE s (i + 1) % 64 * 4096 + zbE s (i + 2) % 64 * 64 + zbE s (i + 3) % 64 : Nat) = true
   then (zbE s i % 8 * 262144 + zbE s (i + 1) % 64 * 4096 + zbE s (i + 2) % 64 * 64 + zbE s (i + 3) % 64, 4) else (65533, 1)
  else (65533, 1) := by
 rw [zvP]
 simp only [beq_iff_eq, Bool.and_eq_true, decide_eq_true_eq]
end
section
open Go.RowKit
end
section
open Go.RowKit
theorem Tryz.infoRune : (Tryz.prog.info? 21).map (fun i => (i.zero, i.size, i.bytes)) = some (some (.int .i32 0), 1, 4) := by kernel_rfl
/-- the code points from a place on -/
def zqP (s : ByteArray) : Nat → Nat → List Int
 | 0, _ => []
 | f + 1, p => if p < s.size then ((Utf8.decode s p).1 : Int) :: zqP s f (p + (Utf8.decode s p).2) else []
def scal (s : ByteArray) : List Int := zqP s s.size 0
theorem znO (s : ByteArray) (p : Nat) (h : p < s.size) : 1 ≤ (Utf8.decode s p).2 := by
 by_cases ha : (s[p]'h).toNat < 128
 ·rw [decode_ascii s p h ha]; exact Nat.le_refl _
 ·exact (decode_high s p h (by omega)).2
theorem zyQ (s : ByteArray) (p : Nat) : (Utf8.decode s p).2 ≤ 4 := by
 rw [zgM]
 repeat' split
 all_goals simp
theorem zrG (s : ByteArray) (f p : Nat) (h : ¬ p < s.size) : zqP s f p = [] := by
 cases f with
 | zero => rfl
 | succ f => simp [zqP, h]
theorem zpA (s : ByteArray) (f p : Nat) (h : p < s.size) : zqP s (f + 1) p = ((Utf8.decode s p).1 : Int) :: zqP s f (p + (Utf8.decode s p).2) := by
 simp [zqP, h]
/-- a new row of the call's own -/
def RetRow (base : Nat) (t : TypeId) (xs : List Value) (w : World) (e : Ending) (w' : World) : Prop :=
 ∃ v, e = .returned v ∧ w'.ownsRow base t 1 v xs.length xs ∧ Below base w w'
theorem zpV {w : World} {B B' : Nat} {t : TypeId} {v : Value} {n : Nat} {xs : List Value} (h : w.ownsRow B t 1 v n xs) (hB : B' ≤ B) : w.ownsRow B' t 1 v n xs := by
 refine ⟨h.1, ?_⟩
 rcases h.2 with h2 | ⟨g, cap, cur, h1, h2, h3⟩
 ·exact .inl h2
 ·exact .inr ⟨g, cap, cur, h1, by omega, h3⟩
theorem zoL {w : World} {B k : Nat} {t : TypeId} {v : Value} {n : Nat} {xs : List Value} (h : w.ownsRow B t 1 v n xs) (hk : k < B) (s : ByteArray) (p : Nat) : (w.iterAt k s p).ownsRow B t 1 v n xs := by
 refine ⟨h.1, ?_⟩
 rcases h.2 with h2 | ⟨g, cap, cur, h1, h2, h3, h4⟩
 ·exact .inl h2
 ·exact .inr ⟨g, cap, cur, h1, h2, (Lib.iterAt_other w k g s p (by omega)).trans h3, h4⟩
theorem zwV (w : World) (u : Value) (t : TypeId) : ∀ j x, [u][j]? = some x → (w.alloc (.cells #[u] t)).cell? ((⟨w.heap.size, 0, none⟩ : Addr).add j) = some x := by
 intro j x hj
 match j, hj with
 | 0, hj => simp at hj; subst hj; simp [Addr.add]
theorem z3U {w w1 : World} {b k : Nat} {t : TypeId} {v : Value} {n : Nat} {xs : List Value} {o : Obj} (h : w.heap[b]? = some o) (hown : w.ownsRow k t 1 v n xs) (hg : w.grownBy w1 v.ownBlock) (hb : b < k) : w1.heap[b]? = some o := by
 have hlt : b < w.heap.size := (Array.getElem?_eq_some_iff.1 h).1
 rw [hg.block b hlt ?_]
 ·exact h
 ·intro e
  have := hown.lt b e.symm
  omega
theorem zuO (s : ByteArray) (w : World) (hs : s.size ≤ 1073741824) :
  Calls Tryz.prog 218 #[.string s] w (RetRow w.heap.size 21 ((scal s).map (Value.int .i32)) w) := by
 obtain ⟨i0, hi, hz0, hz1, hz2⟩ := info_parts Tryz.infoRune
 go_enter Tryz.func218, Tryz.ntmps218
 go_wp2
 go_loopw [3] (fun v wr => ∃ (pos fuel : Nat) (acc : List Int), wr.ownsRow (w.heap.size + 1) 21 1 v acc.length (acc.map (Value.int .i32)) ∧ wr.heap[w.heap.size]? = some (.stringIter s pos) ∧ Below w.heap.size w wr ∧ w.heap.size + 1 ≤ wr.heap.size ∧ Hid (acc ++ zqP s fuel pos = scal s) ∧ s.size ≤ pos + fuel ∧ acc.length ≤ pos ∧ pos ≤ s.size + 4) (fun _ wr => s.size - wr.iterPos w.heap.size)
 case atStart =>
  exact ⟨0, s.size, [], World.ownsRow_nil _ _ _ _, World.iter_heap w s 0, (Below.refl _ w).alloc (Nat.le_refl _) _, by simp [World.iter], rfl, by omega, by simp, by omega⟩
 case round =>
  obtain ⟨pos, fuel, acc, hown, hit, hbw, hsz, HA, hfu, hal, hpo⟩ := hrel
  by_cases hp : pos < s.size
  ·have hnx : ∀ ty, (Instr.next (.pointer (some ⟨w.heap.size, 0, none⟩)) true ty).run Tryz.prog wr = _ := fun ty => Lib.run_next_any_at wr w.heap.size s pos ty hit hp
   have hwd := znO s pos hp
   have hwl := zyQ s pos
   have hd1 := decode_le s pos
   obtain ⟨f, rfl⟩ : ∃ f, fuel = f + 1 := ⟨fuel - 1, by omega⟩
   have hA2 := HA.out
   rw [zpA s f pos hp] at hA2
   have HA2 := Lib.hid hA2
   clear hA2
   have hown2 := zoL hown (by omega : w.heap.size < w.heap.size + 1) s (pos + (Utf8.decode s pos).2)
   have hit2 := Lib.iterAt_heap wr w.heap.size s pos (pos + (Utf8.decode s pos).2) hit
   have hbw2 := Lib.below_iterAt hbw (k := w.heap.size) (Nat.le_refl _) s (pos + (Utf8.decode s pos).2)
   have hsz2 : w.heap.size + 1 ≤ (wr.iterAt w.heap.size s (pos + (Utf8.decode s pos).2)).heap.size := by rw [Lib.iterAt_size]; exact hsz
   generalize wr.iterAt w.heap.size s (pos + (Utf8.decode s pos).2) = wi at *
   go_wp2_with (at_builtin; refine wpList_append_own _ rfl _ _ 233 rfl (w.heap.size + 1) 21 i0 (.int .i32 0) 1 4 Tryz.underlying233 hi hz0 hz1 hz2 rfl (by decide) _ _ _ rfl (hown2.alloc _) ⟨wi.heap.size, 0, none⟩ 1 1 [.int .i32 ((Utf8.decode s pos).1 : Int)] rfl rfl ?c1 ?c2 ?c3 ?c4 ?c5 ?_)
   case c1 => exact zwV _ _ _
   case c2 => intro u hu; simp at hu; subst hu; rfl
   case c3 => unfold maxLen; omega
   case c4 => omega
   case c5 => simp; omega
   intro v' w1 hown' hgrow _
   have hit3 := z3U (b := w.heap.size) (o := .stringIter s (pos + (Utf8.decode s pos).2)) (by rw [Below.heap_alloc _ _ _ (by omega)]; exact hit2) (hown2.alloc _) hgrow (by omega)
   have hbw3 : Below w.heap.size w w1 := (hbw2.alloc (by omega) _).grown hgrow (by simp; omega) (fun k hk => by have := hown2.lt k hk; omega)
   have hsz3 : w.heap.size + 1 ≤ w1.heap.size := by have := hgrow.size; simp at this; omega
   clear hgrow hown2 hown hit2 hbw2
   go_wp2
   go_roundw
   case rel =>
    refine ⟨pos + (Utf8.decode s pos).2, f, acc ++ [((Utf8.decode s pos).1 : Int)], ?_, hit3, hbw3, hsz3, ?_, by omega, by simp; omega, by omega⟩
    ·simpa using hown'
    ·show (acc ++ [_]) ++ _ = _
     rw [List.append_assoc]; exact HA2.out
   case measure =>
    simp only [World.iterPos, hit3, hit]
    omega
  ·have hnx : ∀ ty, (Instr.next (.pointer (some ⟨w.heap.size, 0, none⟩)) true ty).run Tryz.prog wr = _ := fun ty => Lib.run_next_end_at wr w.heap.size s pos ty hit hp
   go_wp2
   go_ret
   have he := HA.out
   rw [zrG s fuel pos hp, List.append_nil] at he
   subst he
   exact ⟨_, rfl, by rw [List.length_map]; exact zpV hown (by omega), hbw⟩
end
section
open Go.RowKit
theorem zzC : scal ⟨#[97, 255, 98]⟩ = [97, 65533, 98] := by decide +kernel
theorem zbC {B : Nat} {a w : World} (h : Below B a w) (n : Nat) : Below B a (w.drewN n) := ⟨h.os, h.tape, h.output, h.size, h.block⟩
theorem zdW {w w' : World} {B : Nat} {t : TypeId} {v : Value} {n : Nat} {xs : List Value} (h : w.ownsRow B t 1 v n xs) (hb : Below w.heap.size w w') : w'.ownsRow B t 1 v n xs := by
 refine ⟨h.1, ?_⟩
 rcases h.2 with h2 | ⟨g, cap, cur, h1, h2, h3, h4⟩
 ·exact .inl h2
 ·exact .inr ⟨g, cap, cur, h1, h2, (hb.block g (Array.getElem?_eq_some_iff.1 h3).1).trans h3, h4⟩
/-- three new cells -/
theorem z6E (w : World) (a b c : Int) (t : TypeId) : RowR (w.alloc (.cells #[.int .i32 a, .int .i32 b, .int .i32 c] t)) (.slice (some ⟨w.heap.size, 0, none⟩) 3 3) ([a, b, c].map (Value.int .i32)) := by
 refine ⟨_, 3, rfl, fun j u hj => ⟨_, rfl, ?_⟩⟩
 match j, hj with
 | 0, hj => simp at hj; subst hj; simp [Addr.add]
 | 1, hj => simp at hj; subst hj; simp [Addr.add]
 | 2, hj => simp at hj; subst hj; simp [Addr.add]
theorem z3B (w : World) :
  Calls Tryz.prog 213 #[] w fun e w' => e = .returned (.bool true) ∧ Below w.heap.size w w' := by
 go_enter Tryz.func213, Tryz.ntmps213
 go_wp2_with fail
 refine (zuO _ _ (by decide)).mono ?_
 rintro e w1 ⟨v, rfl, hown, hb⟩
 rw [zzC] at hown
 have hr := RowR.of_own hown
 have hr1 := hr.below (w' := w1.alloc (.cells #[.int .i32 97, .int .i32 65533, .int .i32 98] 21)) ((Below.refl _ _).alloc (Nat.le_refl _) _)
 have hr2 := z6E w1 97 65533 98 21
 have hfin : Below w.heap.size w (w1.alloc (.cells #[.int .i32 97, .int .i32 65533, .int .i32 98] 21)) := hb.alloc hb.size _
 clear hr hown
 go_wp2_with fail
 refine (zyX _ _ [97, 65533, 98] [97, 65533, 98] _ hr1 hr2 (by decide)).mono ?_
 rintro e w2 ⟨rfl, n, rfl⟩
 go_wp2
 go_ret
 exact ⟨rfl, zbC hfin n⟩
end
section
open Go.RowKit
theorem zzB (l : List UInt8) : ∀ b : ByteArray, (l.map fun c => (c.toNat : Int)).foldl (fun r n => r.push (UInt8.ofNat n.toNat)) b = ⟨(b.data.toList ++ l).toArray⟩ := by
 induction l with
 | nil => intro b; simp
 | cons c l ih =>
  intro b
  simp only [List.map_cons, List.foldl_cons]
  rw [ih]
  simp [ByteArray.push]
/-- string(bytes), of a row that holds the bytes l -/
theorem zeU {P : Program} (w : World) (src dst e : TypeId) (v : Value) (l : List UInt8) (hr : RowR w v (Lib.byteCells l))
  (hs : P.underlying src = some (.slice e)) (he : P.underlying e = some (.int .u8)) (hd : P.underlying dst = some .string) :
  (convert src dst v).run P w = .ok (.string ⟨l.toArray⟩) w := by
 obtain ⟨ao, c, rfl, hc⟩ := hr
 rw [run_convert_bytes_string w src dst e ao _ c hs he hd]
 cases ao with
 | none =>
  have hl : l = [] := by
   cases l with
   | nil => rfl
   | cons x l =>
    obtain ⟨ad, h, _⟩ := hc 0 (.int .u8 x.toNat) rfl
    cases h
  subst hl
  rfl
 | some a =>
  have h1 := run_loadCells_list (P := P) (w := w) a (Lib.byteCells l) (fun j u hj => by
   obtain ⟨ad, h, hx⟩ := hc j u hj
   cases h
   exact hx)
  have h2 : Lib.byteCells l = (l.map fun c => (c.toNat : Int)).map (Value.int .u8) := by simp [Lib.byteCells]
  rw [run_bytesToString w a _ c (l.map fun c => (c.toNat : Int)) (by rw [h1, h2]), zzB]
  rfl
def zpG (l : List Int) : List UInt8 := l.map fun x => x.toNat.toUInt8
theorem z7K {P : Program} (W : World) (src dst e : TypeId) (l : List Int) (hl : ∀ x ∈ l, 0 ≤ x ∧ x < 256)
  (hs : P.underlying src = some (.slice e)) (he : P.underlying e = some (.int .u8)) (hd : P.underlying dst = some .string) :
  (convert src dst (.slice (some ⟨W.heap.size, 0, none⟩) l.length l.length)).run P (W.alloc (.cells (l.map (Value.int .u8)).toArray e)) = .ok (.string ⟨(zpG l).toArray⟩) (W.alloc (.cells (l.map (Value.int .u8)).toArray e)) := by
 have e1 : Lib.byteCells (zpG l) = l.map (Value.int .u8) := by
  simp only [Lib.byteCells, zpG, List.map_map]
  apply List.map_congr_left
  intro x hx
  obtain ⟨h0, h1⟩ := hl x hx
  simp only [Function.comp]
  congr 1
  have : x.toNat % 256 = x.toNat := Nat.mod_eq_of_lt (by omega)
  simp [Nat.toUInt8, this]
  omega
 refine zeU _ src dst e _ (zpG l) ?_ hs he hd
 rw [e1]
 refine ⟨_, l.length, by rw [List.length_map], fun j u hj => ⟨_, rfl, ?_⟩⟩
 rw [show (Addr.add ⟨W.heap.size, 0, none⟩ j) = ⟨W.heap.size, j, none⟩ from by unfold Addr.add; split <;> simp_all]
 rw [cell_of_row _ W.heap.size j _ e (0, 0) (heap_alloc_new W _)]
 simpa using hj
end
section
open Go.RowKit
def zjS (l : List Int) : List UInt8 := l.flatMap Lib.encodeRune
theorem zgR (r : Int) : (Lib.encodeRune r).length ≤ 4 := by
 simp only [Lib.encodeRune, List.length_map]; exact (Lib.encodeRuneZ_length r).2
theorem zoU (l : List Int) (k : Nat) (h : k < l.length) : zjS (l.take (k + 1)) = zjS (l.take k) ++ Lib.encodeRune l[k] := by
 unfold zjS
 rw [List.take_succ_eq_append_getElem h, List.flatMap_append]
 simp
theorem zjB (l : List Int) : ∀ k, (zjS (l.take k)).length ≤ 4 * k
 | 0 => by simp [zjS]
 | k + 1 => by
  have ih := zjB l k
  by_cases h : k < l.length
  ·rw [zoU l k h, List.length_append]; have := zgR l[k]; omega
  ·rw [List.take_of_length_le (by omega)]; rw [List.take_of_length_le (by omega)] at ih; omega
/-- each number is an int32 -/
def Runes (l : List Int) : Prop := ∀ x ∈ l, -2147483648 ≤ x ∧ x ≤ 2147483647
theorem z7T (v : Value) (l : List Int) (w : World) (h : RowR w v (l.map (Value.int .i32))) (hl : l.length ≤ 268435456) (hw : Runes l) :
  Calls Tryz.prog 216 #[v] w fun e w' => e = .returned (.string ⟨(zjS l).toArray⟩) ∧ Below w.heap.size w w' := by
 obtain ⟨ao, c, rfl, hc⟩ := h
 simp only [List.length_map]
 have HC := Lib.hid hc
 have HW := Lib.hid hw
 clear hc hw
 go_enter Tryz.func216, Tryz.ntmps216
 go_wp2
 go_loopw [3, 8] (fun v i wr => ∃ k : Nat, k ≤ l.length ∧ i = .int .i64 k ∧ wr.ownsRow w.heap.size 5 1 v (zjS (l.take k)).length (Lib.byteCells (zjS (l.take k))) ∧ Below w.heap.size w wr) (fun _ i _ => l.length - (intOf i).toNat)
 case atStart => exact ⟨0, Nat.zero_le _, rfl, World.ownsRow_nil _ _ _ _, Below.refl _ _⟩
 case round =>
  obtain ⟨k, hk, rfl, hown, hbw⟩ := hrel
  have hsz := hbw.size
  by_cases hlt : k < l.length
  ·have htl := zjB l k
   obtain ⟨x, hx⟩ : ∃ x, x = l[k] := ⟨_, rfl⟩
   obtain ⟨d1, rfl, hd1⟩ := HC.out k (.int .i32 x) (by simp [hx, hlt])
   have hd2 : wr.cell? (d1.add k) = some (.int .i32 x) := (hbw.cell (World.block_lt_of_cell? w _ hd1)).trans hd1
   have hxr := HW.out x (by rw [hx]; exact List.getElem_mem _)
   obtain ⟨hx0, hx1⟩ := hxr
   have hsn := zoU l k hlt
   rw [← hx] at hsn
   have HSN := Lib.hid hsn
   clear hsn hx
   generalize hT : zjS (l.take k) = T at *
   clear hT
   go_wp2_with (go_at_call 220; refine (Tryz.utf8_AppendRune_plain w.heap.size _ _ _ x hx0 hx1 wr hown (by omega) hsz).mono ?_)
   rintro e w1 ⟨v', rfl, hown1, o, hg⟩
   have hbw1 : Below w.heap.size w w1 := (hbw.alloc hsz o).grown hg (by simp; omega) (fun b hb => by have := hown.lt b hb; omega)
   clear hg hown
   go_wp2
   go_roundw
   case rel =>
    refine ⟨k + 1, by omega, by go_num, ?_, hbw1⟩
    rw [HSN.out, Lib.byteCells_append, Lib.byteCells_encodeRune, List.length_append]
    have e1 : (Lib.runeCells x).length = (Lib.encodeRune x).length := by rw [← Lib.byteCells_encodeRune, Lib.byteCells_length]
    rw [← e1]
    exact hown1
   case measure => simp [intOf]; omega
  ·have hcv := zeU (P := Tryz.prog) wr 30 9 5 _ (zjS (l.take k)) (RowR.of_own (by rw [Lib.byteCells_length]; exact hown)) Tryz.underlying30 Tryz.underlying5 Tryz.underlying9
   have hfin : zjS (l.take k) = zjS l := by rw [List.take_of_length_le (by omega)]
   rw [hfin] at hcv
   have HF := Lib.hid hfin
   clear hfin
   go_wp2
   go_ret
   exact ⟨rfl, hbw⟩
theorem zhN (x y : List UInt8) : (ByteArray.mk x.toArray ++ ByteArray.mk y.toArray) = ByteArray.mk (x ++ y).toArray := ByteArray.mk_append_mk x y
end
section
open Go.RowKit
theorem Tryz.infoByte : (Tryz.prog.info? 5).map (fun i => (i.zero, i.size, i.bytes)) = some (some (.int .u8 0), 1, 1) := by kernel_rfl
def lowC (c : UInt8) : UInt8 := if 65 ≤ c.toNat ∧ c.toNat ≤ 90 then c + 32 else c
def zbO (l : List UInt8) : List UInt8 := l.map lowC
theorem z4V {c : UInt8} (h1 : 65 ≤ c.toNat) (h2 : c.toNat ≤ 90) : (lowC c).toNat = c.toNat + 32 := by
 unfold lowC
 rw [if_pos ⟨h1, h2⟩, UInt8.toNat_add]
 simp
 omega
theorem z6C {c : UInt8} (h : c.toNat < 65 ∨ 90 < c.toNat) : lowC c = c := by
 unfold lowC
 rw [if_neg (by omega)]
theorem zlM (s : ByteArray) (k : Nat) (h : k < s.size) : s.data.toList[k]? = some s[k] := by
 rw [List.getElem?_eq_getElem (by simpa using h)]
 rfl
theorem zeC (s : ByteArray) (k : Nat) (h : k < s.size) : s.data.toList.take (k + 1) = s.data.toList.take k ++ [s[k]] := by
 rw [List.take_succ_eq_append_getElem (by simpa using h)]
 rfl
theorem zdH (s : ByteArray) (k : Nat) (h : ¬ k < s.size) : s.data.toList.take k = s.data.toList := List.take_of_length_le (by simpa using h)
theorem zaJ (s : ByteArray) : s.data.toList.length = s.size := by simp
theorem zzI (s : ByteArray) (k : Nat) (h : k < s.size) : zbO (s.data.toList.take (k + 1)) = zbO (s.data.toList.take k) ++ [lowC s[k]] := by
 rw [zeC s k h]; simp [zbO]
theorem zjM (l : List UInt8) : (zbO l).length = l.length := by simp [zbO]
theorem zjV (l : List UInt8) (c : UInt8) (n : Int) (h : (c.toNat : Int) = n) : Lib.byteCells (l ++ [c]) = Lib.byteCells l ++ [.int .u8 n] := by
 rw [Lib.byteCells_append, ← h]; rfl
/-- append of one value, which the call has laid in a new block of one cell, onto a row of the call's own -/
theorem zaU {P : Program} (w : World) {ops : Array Oper} {rest : List Oper} {o : Oper} {a : Act} {Q : Exit → Act → World → Prop} (hgd : o.guard = none) (s x : Operand) (t : TypeId)
  (ho : o.op = .call { callee := .builtin .append, args := #[s, x], argTypes := #[t, t] })
  (base : Nat) (e : TypeId) (i : TypeInfo) (z : Value) (bytes : Nat) (ht : P.underlying t = some (.slice e)) (hi : P.info? e = some i) (hz : i.zero = some z)
  (hsize : i.size = 1) (hby : i.bytes = bytes) (hzs : z.cells.size = 1)
  (v : Value) (n : Nat) (xs : List Value) (hs : a.eval s = v) (hown : w.ownsRow base e 1 v n xs) (u : Value) (hx : a.eval x = .slice (some ⟨w.heap.size, 0, none⟩) 1 1) (hu : u.oneCell' = true)
  (h63 : n + 1 ≤ 9223372036854775807) (hbytes : (n + 1) * bytes ≤ 140737488355328) (hbase : base ≤ w.heap.size)
  (h : ∀ v' w', w'.ownsRow base e 1 v' (n + 1) (xs ++ [u]) → Below base w w' → wpList P ops Q rest (a.put o.dst v') w') : wpList P ops Q (o :: rest) a (w.alloc (.cells #[u] e)) := by
 refine wpList_append_own (w.alloc (.cells #[u] e)) hgd s x t ho base e i z 1 bytes ht hi hz hsize hby hzs (by decide) v n xs hs (hown.alloc _) ⟨w.heap.size, 0, none⟩ 1 1 [u] hx rfl (zwV w u e) ?_ h63 hbytes (by simp; omega) ?_
 ·intro y hy; simp at hy; subst hy; exact hu
 ·intro v' w1 hown' hgrow _
  exact h v' w1 hown' (((Below.refl base w).alloc hbase _).grown hgrow (by simp; omega) (fun k hk => (hown.lt k hk).1))
/-- bytes gathered in a row of the call's own -/
def Gath (B : Nat) (w : World) (v : Value) (l : List UInt8) : Prop := w.ownsRow B 5 1 v l.length (Lib.byteCells l)
theorem Gath.conv {B : Nat} {w : World} {v : Value} {l : List UInt8} (h : Gath B w v l) : (convert 30 9 v).run Tryz.prog w = .ok (.string ⟨l.toArray⟩) w :=
 zeU w _ _ 5 _ l (RowR.of_own (by rw [Lib.byteCells_length]; exact h)) Tryz.underlying30 Tryz.underlying5 Tryz.underlying9
theorem Gath.nil (B : Nat) (w : World) : Gath B w (.slice none 0 0) [] := World.ownsRow_nil _ _ _ _
theorem Gath.snoc {B : Nat} {w : World} {v : Value} {l : List UInt8} {c : UInt8} {n : Int} (h : w.ownsRow B 5 1 v (l.length + 1) (Lib.byteCells l ++ [.int .u8 n])) (hn : (c.toNat : Int) = n) : Gath B w v (l ++ [c]) := by
 unfold Gath
 rw [zjV l c n hn, List.length_append]
 exact h
theorem ztL (s : ByteArray) (w : World) (hs : s.size ≤ 1073741824) :
  Calls Tryz.prog 43 #[.string s] w fun e w' => e = .returned (.string ⟨(zbO s.data.toList).toArray⟩) ∧ Below w.heap.size w w' := by
 obtain ⟨i0, hi, hz0, hz1, hz2⟩ := info_parts Tryz.infoByte
 go_enter Tryz.func43, Tryz.ntmps43
 go_wp2
 go_loopw [3, 4] (fun v i wr => ∃ (k : Nat) (T : List UInt8), k ≤ s.size ∧ i = .int .i64 k ∧ Gath w.heap.size wr v T ∧ T.length ≤ k ∧ Hid (T = zbO (s.data.toList.take k)) ∧ Below w.heap.size w wr) (fun _ i _ => s.size - (intOf i).toNat)
 case atStart => exact ⟨0, [], Nat.zero_le _, rfl, Gath.nil _ _, by simp, rfl, Below.refl _ _⟩
 case round =>
  obtain ⟨k, T, hk, rfl, hown, hTl, HT, hbw⟩ := hrel
  have hsz := hbw.size
  unfold Gath at hown
  by_cases hlt : k < s.size
  ·obtain ⟨c, hc⟩ : ∃ c, (s[k]'hlt).toNat = c := ⟨_, rfl⟩
   have hc256 : c < 256 := by rw [← hc]; exact (s[k]'hlt).toNat_lt
   have hsn := zzI s k hlt
   rw [← HT.out] at hsn
   obtain ⟨d, hd⟩ : ∃ d : UInt8, d = lowC s[k] := ⟨_, rfl⟩
   rw [← hd] at hsn
   have HSN := Lib.hid hsn
   by_cases hu : 65 ≤ c ∧ c ≤ 90
   ·have hdc : d.toNat = c + 32 := by rw [hd, z4V (by omega) (by omega), hc]
    have HDC := Lib.hid hdc
    obtain ⟨hu1, hu2⟩ := hu
    clear hd hdc hsn
    go_wp2_with (first | (at_builtin; refine zaU _ rfl _ _ 30 rfl w.heap.size 5 i0 (.int .u8 0) 1 Tryz.underlying30 hi hz0 hz1 hz2 rfl _ _ _ rfl hown (.int .u8 ((c : Int) + 32)) rfl rfl (by omega) (by omega) hsz ?_; intro v' w1 hown' hk'))
    go_roundw
    case rel => exact ⟨k + 1, T ++ [d], by omega, by go_num, Gath.snoc hown' (by rw [HDC.out]; omega), by simp; omega, HSN.out.symm, hbw.trans hk'⟩
    case measure => simp [intOf]; omega
   ·have hdc : d.toNat = c := by rw [hd, z6C (by omega), hc]
    have HDC := Lib.hid hdc
    clear hd hdc hsn
    go_wp2_with (first | (at_builtin; refine zaU _ rfl _ _ 30 rfl w.heap.size 5 i0 (.int .u8 0) 1 Tryz.underlying30 hi hz0 hz1 hz2 rfl _ _ _ rfl hown (.int .u8 (c : Int)) rfl rfl (by omega) (by omega) hsz ?_; intro v' w1 hown' hk'))
    all_goals
     go_roundw
     case rel => exact ⟨k + 1, T ++ [d], by omega, by go_num, Gath.snoc hown' (by rw [HDC.out]), by simp; omega, HSN.out.symm, hbw.trans hk'⟩
     case measure => simp [intOf]; omega
  ·have hcv := Gath.conv hown
   have hfin : zbO s.data.toList = T := by rw [HT.out, zdH s k hlt]
   have HF := Lib.hid hfin
   clear hfin
   go_wp2
   go_ret
   exact ⟨by rw [HF.out]; rfl, hbw⟩
end
section
open Go.RowKit
/-- the new row of []byte(s), the first k bytes made small -/
def zhB (B : Nat) (s : ByteArray) (k cap : Nat) (w : World) : Prop :=
 ∃ cur : Array Value, w.heap[B]? = some (.cells cur 5 (cap, cap + 1)) ∧ cur.size = cap ∧ s.size ≤ cap ∧
  ∀ j (h : j < s.size), cur[j]? = some (.int .u8 ((if j < k then lowC s[j] else s[j]).toNat : Int))
theorem zhB.cell {B : Nat} {s : ByteArray} {k cap : Nat} {w : World} (h : zhB B s k cap w) (hk : k < s.size) : w.cell? ⟨B, k, none⟩ = some (.int .u8 (s[k].toNat : Int)) := by
 obtain ⟨cur, h1, _, _, h4⟩ := h
 rw [cell_of_row w B k cur _ _ h1, h4 k hk, if_neg (by omega)]
theorem zhB.frozen {B : Nat} {s : ByteArray} {k cap : Nat} {w : World} (h : zhB B s k cap w) (hk : k < s.size) : w.frozen? ⟨B, k, none⟩ = false := by
 obtain ⟨cur, h1, _, h3, _⟩ := h
 simp [World.frozen?, h1]
 omega
theorem zhB.same {B : Nat} {s : ByteArray} {k cap : Nat} {w : World} (h : zhB B s k cap w) (hk : k < s.size) (he : lowC s[k] = s[k]) : zhB B s (k + 1) cap w := by
 obtain ⟨cur, h1, h2, h3, h4⟩ := h
 refine ⟨cur, h1, h2, h3, fun j hj => ?_⟩
 rw [h4 j hj]
 by_cases e : j = k
 ·subst e; rw [if_neg (by omega), if_pos (by omega), he]
 ·by_cases e2 : j < k
  ·rw [if_pos e2, if_pos (by omega)]
  ·rw [if_neg e2, if_neg (by omega)]
theorem zhB.put {B : Nat} {s : ByteArray} {k cap : Nat} {w : World} (h : zhB B s k cap w) (hk : k < s.size) (n : Int) (hn : n = ((lowC s[k]).toNat : Int)) : zhB B s (k + 1) cap (w.setCell ⟨B, k, none⟩ (.int .u8 n)) := by
 obtain ⟨cur, h1, h2, h3, h4⟩ := h
 refine ⟨cur.setIfInBounds k (.int .u8 n), ?_, by simpa using h2, h3, fun j hj => ?_⟩
 ·simp [World.setCell, Array.getElem?_modify, h1]
 ·rw [Array.getElem?_setIfInBounds]
  by_cases e : k = j
  ·subst e; rw [if_pos rfl, if_pos (by omega), if_pos (by omega), hn]
  ·rw [if_neg e, h4 j hj]
   by_cases e2 : j < k
   ·rw [if_pos e2, if_pos (by omega)]
   ·rw [if_neg e2, if_neg (by omega)]
theorem zhB.conv {B : Nat} {s : ByteArray} {cap : Nat} {w : World} {k : Nat} (h : zhB B s k cap w) (hk : ¬ k < s.size) :
  (convert 30 9 (.slice (some ⟨B, 0, none⟩) s.size cap)).run Tryz.prog w = .ok (.string ⟨(zbO s.data.toList).toArray⟩) w := by
 refine zeU w _ _ 5 _ _ ?_ Tryz.underlying30 Tryz.underlying5 Tryz.underlying9
 obtain ⟨cur, h1, h2, h3, h4⟩ := h
 have hl : (Lib.byteCells (zbO s.data.toList)).length = s.size := by rw [Lib.byteCells_length, zjM, zaJ]
 refine ⟨_, cap, by rw [hl], fun j u hj => ⟨_, rfl, ?_⟩⟩
 have hlt : j < s.size := by rw [← hl]; exact (List.getElem?_eq_some_iff.1 hj).1
 rw [show (Addr.add ⟨B, 0, none⟩ j) = ⟨B, j, none⟩ from by unfold Addr.add; split <;> simp_all]
 rw [cell_of_row w B j cur _ _ h1, h4 j hlt, if_pos (by omega), ← hj]
 simp only [Lib.byteCells, zbO, List.map_map, List.getElem?_map, zlM s j hlt]
 rfl
end
section
open Go.RowKit
theorem Tryz.infoStr : (Tryz.prog.info? 9).map (fun i => (i.zero, i.size, i.bytes)) = some (some (.string ⟨#[]⟩), 1, 16) := by kernel_rfl
def hasB (l : List UInt8) (c : UInt8) : Bool := l.any (· == c)
theorem zhW (l : List UInt8) (c : UInt8) : (hasB l c = true → 0 ≤ Lib.indexByte l c) ∧ (hasB l c = false → Lib.indexByte l c = -1) := by
 induction l with
 | nil => simp [hasB, Lib.indexByte]
 | cons b l ih =>
  have hge := Lib.indexByte_ge l c
  by_cases e : b == c
  ·simp [hasB, Lib.indexByte, e]
  ·have e' : (b == c) = false := by simpa using e
   have h1 : hasB (b :: l) c = hasB l c := by simp [hasB, e']
   simp only [Lib.indexByte, e', h1, Bool.false_eq_true, if_false]
   refine ⟨fun h => ?_, fun h => ?_⟩
   ·have h2 := ih.1 h
    rw [if_neg (by simp; omega)]
    omega
   ·have h2 := ih.2 h
    rw [if_pos (by simp [h2])]
theorem zpS (c : UInt8) : ((c.toNat : Int).toNat).toUInt8 = c := by
 simp
theorem ib_yes (s : ByteArray) (c : UInt8) (w : World) (h : hasB s.data.toList c = true) :
  Calls Tryz.prog 73 #[.string s, .int .u8 (c.toNat : Int)] w fun e w' => ∃ x : Int, e = .returned (.int .i64 x) ∧ 0 ≤ x ∧ w = w' := by
 refine (Tryz.strings_IndexByte s _ w).mono ?_
 rintro e w' ⟨rfl, rfl⟩
 rw [zpS]
 exact ⟨_, rfl, (zhW _ _).1 h, rfl⟩
theorem ib_no (s : ByteArray) (c : UInt8) (w : World) (h : hasB s.data.toList c = false) :
  Calls Tryz.prog 73 #[.string s, .int .u8 (c.toNat : Int)] w fun e w' => e = .returned (.int .i64 (-1)) ∧ w = w' := by
 refine (Tryz.strings_IndexByte s _ w).mono ?_
 rintro e w' ⟨rfl, rfl⟩
 rw [zpS, (zhW _ _).2 h]
 exact ⟨rfl, rfl⟩
theorem z7S (s : ByteArray) (c : UInt8) (k : Nat) (h : k < s.size) (e : s[k].toNat = c.toNat) : hasB s.data.toList c = true := by
 unfold hasB
 rw [List.any_eq_true]
 refine ⟨s[k], ?_, by simpa using UInt8.toNat_inj.1 e⟩
 show s.data[k] ∈ _
 simp
theorem ybZ (s : ByteArray) (c : UInt8) (h : ∀ k (h : k < s.size), s[k].toNat ≠ c.toNat) : hasB s.data.toList c = false := by
 unfold hasB
 rw [List.any_eq_false]
 intro x hx
 obtain ⟨k, hk, rfl⟩ := List.getElem_of_mem hx
 have := h k (by simpa using hk)
 intro e
 have e' : s.data[k] = c := by simpa using e
 exact this (congrArg UInt8.toNat e')
theorem zwQ (s : ByteArray) (c : UInt8) (w : World) (hs : s.size ≤ 1073741824) :
  Calls Tryz.prog 71 #[.string s, .int .u8 (c.toNat : Int)] w fun e w' => e = .returned (.bool (hasB s.data.toList c)) ∧ w = w' := by
 obtain ⟨n, hn⟩ : ∃ n, c.toNat = n := ⟨_, rfl⟩
 have HN := Lib.hid hn
 rw [hn]
 clear hn
 go_enter Tryz.func71, Tryz.ntmps71
 go_wp2
 go_loop [5] (fun i => ∃ k : Nat, k ≤ s.size ∧ i = .int .i64 k ∧ Hid (∀ j (h : j < s.size), j < k → s[j].toNat ≠ c.toNat)) (fun i => s.size - (intOf i).toNat)
 case atStart => exact ⟨0, Nat.zero_le _, rfl, fun j _ h => by omega⟩
 case round =>
  obtain ⟨k, hk, rfl, H⟩ := hrel
  by_cases hlt : k < s.size
  ·obtain ⟨m, hm⟩ : ∃ m, (s[k]'hlt).toNat = m := ⟨_, rfl⟩
   by_cases e : m = n
   ·subst e
    have HF := Lib.hid (z7S s c k hlt (by rw [hm, HN.out]))
    go_wp2
    go_ret
    exact ⟨zaQ HF.out.symm, rfl⟩
   ·have b1 : ((m : Int) == (n : Int)) = false := beq_eq_false_iff_ne.2 (by omega)
    have HM := Lib.hid hm
    go_wp2
    go_round
    case rel =>
     refine ⟨k + 1, by omega, by go_num, fun j hj hjk => ?_⟩
     by_cases e2 : j = k
     ·subst e2; rw [HM.out, HN.out]; exact e
     ·exact H.out j hj (by omega)
    case measure => simp [intOf]; omega
  ·have HF := Lib.hid (ybZ s c (fun j hj => H.out j hj (by omega)))
   go_wp2
   go_ret
   exact ⟨zaQ HF.out.symm, rfl⟩
theorem ztN {P : Program} (w : World) (t : TypeId) (s : ByteArray) (i j : Int) (a b : Nat) (hi : i = a) (hj : j = b) (hab : a ≤ b) (hb : b ≤ s.size) (h : P.underlying t = some .string) :
  (Instr.slice t (.string s) (some (.int .i64 i)) (some (.int .i64 j)) none).run P w = .ok (.string (s.extract a b)) w := by
 subst hi hj
 rw [run_slice_string_if w t s .i64 .i64 _ _ h, if_pos (by omega), if_pos (by omega)]
 simp
/-- the parts so far, and the part that is under way -/
def zaW (p : UInt8 → Bool) (st : List (List UInt8) × List UInt8) (c : UInt8) : List (List UInt8) × List UInt8 :=
 if p c then (st.1 ++ [st.2], []) else (st.1, st.2 ++ [c])
def spl (p : UInt8 → Bool) (l : List UInt8) : List (List UInt8) × List UInt8 := l.foldl (zaW p) ([], [])
def splitB (p : UInt8 → Bool) (l : List UInt8) : List (List UInt8) := (spl p l).1 ++ [(spl p l).2]
def strC (l : List UInt8) : Value := .string ⟨l.toArray⟩
def ziC (l : List (List UInt8)) : List Value := l.map strC
theorem zxC (p : UInt8 → Bool) (s : ByteArray) (k : Nat) (h : k < s.size) (hp : p s[k] = true) : spl p (s.data.toList.take (k + 1)) = ((spl p (s.data.toList.take k)).1 ++ [(spl p (s.data.toList.take k)).2], []) := by
 rw [zeC s k h]
 simp [spl, zaW, hp]
theorem z3K (p : UInt8 → Bool) (s : ByteArray) (k : Nat) (h : k < s.size) (hp : p s[k] = false) : spl p (s.data.toList.take (k + 1)) = ((spl p (s.data.toList.take k)).1, (spl p (s.data.toList.take k)).2 ++ [s[k]]) := by
 rw [zeC s k h]
 simp [spl, zaW, hp]
theorem zeS (s : ByteArray) (a b : Nat) (l : List UInt8) (h : (s.data.toList.drop a).take (b - a) = l) : s.extract a b = ⟨l.toArray⟩ := by
 apply ByteArray.ext
 apply Array.ext'
 rw [Lib.extract_data, h]
theorem zqJ (s : ByteArray) (a k : Nat) (ha : a ≤ k) (h : k < s.size) : (s.data.toList.drop a).take (k + 1 - a) = (s.data.toList.drop a).take (k - a) ++ [s[k]] := by
 rw [show k + 1 - a = (k - a) + 1 from by omega, List.take_succ_eq_append_getElem (by simp; omega)]
 congr 2
 rw [List.getElem_drop]
 have : a + (k - a) = k := by omega
 simp only [this]
 rfl
def zbZ (B : Nat) (w : World) (v : Value) (ps : List (List UInt8)) : Prop := w.ownsRow B 9 1 v ps.length (ziC ps)
theorem zbZ.nil (B : Nat) (w : World) : zbZ B w (.slice none 0 0) [] := World.ownsRow_nil _ _ _ _
theorem zbZ.snoc {B : Nat} {w : World} {v : Value} {ps : List (List UInt8)} {x : ByteArray} {l : List UInt8} (h : w.ownsRow B 9 1 v (ps.length + 1) (ziC ps ++ [.string x])) (hx : x = ⟨l.toArray⟩) : zbZ B w v (ps ++ [l]) := by
 unfold zbZ ziC
 rw [List.map_append, List.length_append]
 subst hx
 exact h
def zlQ (B : Nat) (ps : List (List UInt8)) (w : World) (e : Ending) (w' : World) : Prop := ∃ v, e = .returned v ∧ zbZ B w' v ps ∧ Below B w w'
theorem zcX (s at_ : ByteArray) (w : World) (hs : s.size ≤ 1073741824) :
  Calls Tryz.prog 49 #[.string s, .string at_] w (zlQ w.heap.size (splitB (hasB at_.data.toList) s.data.toList) w) := by
 obtain ⟨i0, hi, hz0, hz1, hz2⟩ := info_parts Tryz.infoStr
 go_enter Tryz.func49, Tryz.ntmps49
 go_wp2
 go_loopw [5, 6, 10] (fun v fr i wr => ∃ (k a : Nat) (ps : List (List UInt8)), k ≤ s.size ∧ a ≤ k ∧ i = .int .i64 k ∧ fr = .int .i64 a ∧ zbZ w.heap.size wr v ps ∧ ps.length ≤ k ∧ Hid (spl (hasB at_.data.toList) (s.data.toList.take k) = (ps, (s.data.toList.drop a).take (k - a))) ∧ Below w.heap.size w wr) (fun _ _ i _ => s.size - (intOf i).toNat)
 case atStart => exact ⟨0, 0, [], Nat.zero_le _, Nat.zero_le _, rfl, rfl, zbZ.nil _ _, by simp, rfl, Below.refl _ _⟩
 case round =>
  obtain ⟨k, a, ps, hk, ha, rfl, rfl, hown, hpl, HS, hbw⟩ := hrel
  have hsz := hbw.size
  unfold zbZ at hown
  by_cases hlt : k < s.size
  ·by_cases hp : hasB at_.data.toList s[k] = true
   ·have hsn := zxC (hasB at_.data.toList) s k hlt hp
    rw [HS.out] at hsn
    have HSN := Lib.hid hsn
    have HP := Lib.hid hp
    clear hsn hp
    go_wp2_with (first | (go_at_call 73; refine (ib_yes _ _ _ HP.out).mono ?_; rintro e w' ⟨x, rfl, hx, rfl⟩) | (at_builtin; refine zaU _ rfl _ _ 34 rfl w.heap.size 9 i0 (.string ⟨#[]⟩) 16 Tryz.underlying34 hi hz0 hz1 hz2 rfl _ _ _ rfl hown (.string (s.extract a k)) rfl rfl (by omega) (by omega) hsz ?_; intro v' w1 hown' hk'))
    go_roundw
    case rel =>
     refine ⟨k + 1, k + 1, ps ++ [(s.data.toList.drop a).take (k - a)], by omega, by omega, by go_num, by go_num, zbZ.snoc hown' (zeS s a k _ rfl), by simp; omega, ?_, hbw.trans hk'⟩
     show _ = _
     rw [HSN.out, Nat.sub_self, List.take_zero]
    case measure => simp [intOf]; omega
   ·have hp' : hasB at_.data.toList s[k] = false := by simpa using hp
    have hsn := z3K (hasB at_.data.toList) s k hlt hp'
    rw [HS.out] at hsn
    have HSN := Lib.hid hsn
    have HP := Lib.hid hp'
    clear hsn hp hp'
    go_wp2_with (go_at_call 73; refine (ib_no _ _ _ HP.out).mono ?_; rintro e w' ⟨rfl, rfl⟩)
    go_roundw
    case rel =>
     refine ⟨k + 1, a, ps, by omega, by omega, by go_num, rfl, hown, by omega, ?_, hbw⟩
     show _ = _
     rw [HSN.out, zqJ s a k ha hlt]
    case measure => simp [intOf]; omega
  ·obtain rfl : k = s.size := by omega
   have hfin : splitB (hasB at_.data.toList) s.data.toList = ps ++ [(s.data.toList.drop a).take (s.size - a)] := by
    have := HS.out
    rw [zdH s s.size hlt] at this
    unfold splitB
    rw [this]
   have HF := Lib.hid hfin
   clear hfin
   go_wp2_with (at_builtin; refine zaU _ rfl _ _ 34 rfl w.heap.size 9 i0 (.string ⟨#[]⟩) 16 Tryz.underlying34 hi hz0 hz1 hz2 rfl _ _ _ rfl hown (.string (s.extract a s.size)) rfl rfl (by omega) (by omega) hsz ?_; intro v' w1 hown' hk')
   go_ret
   exact ⟨v', rfl, by rw [HF.out]; exact zbZ.snoc hown' (zeS s a s.size _ rfl), hbw.trans hk'⟩
theorem z0B (T : List UInt8) (s : ByteArray) (k : Nat) (h : k < s.size) : (ByteArray.mk T.toArray ++ s.extract k (k + 1)) = ByteArray.mk (T ++ [s[k]]).toArray := by
 have e : s.extract k (k + 1) = ⟨[s[k]].toArray⟩ := by
  refine zeS s k (k + 1) [s[k]] ?_
  have := zqJ s k k (Nat.le_refl _) h
  rw [this]; simp
 rw [e, zhN]
theorem zfI (s at_ : ByteArray) (w : World) (hs : s.size ≤ 1073741824) (ha : at_.size ≤ 1073741824) :
  Calls Tryz.prog 72 #[.string s, .string at_] w (zlQ w.heap.size (splitB (hasB at_.data.toList) s.data.toList) w) := by
 obtain ⟨i0, hi, hz0, hz1, hz2⟩ := info_parts Tryz.infoStr
 go_enter Tryz.func72, Tryz.ntmps72
 go_wp2
 go_loopw [5, 6, 7] (fun v pa i wr => ∃ (k : Nat) (ps : List (List UInt8)) (T : List UInt8), k ≤ s.size ∧ i = .int .i64 k ∧ pa = .string ⟨T.toArray⟩ ∧ T.length ≤ k ∧ zbZ w.heap.size wr v ps ∧ ps.length ≤ k ∧ Hid (spl (hasB at_.data.toList) (s.data.toList.take k) = (ps, T)) ∧ Below w.heap.size w wr) (fun _ _ i _ => s.size - (intOf i).toNat)
 case atStart => exact ⟨0, [], [], Nat.zero_le _, rfl, rfl, by simp, zbZ.nil _ _, by simp, rfl, Below.refl _ _⟩
 case round =>
  obtain ⟨k, ps, T, hk, rfl, rfl, hTl, hown, hpl, HS, hbw⟩ := hrel
  have hsz := hbw.size
  unfold zbZ at hown
  by_cases hlt : k < s.size
  ·by_cases hp : hasB at_.data.toList s[k] = true
   ·have hsn := zxC (hasB at_.data.toList) s k hlt hp
    rw [HS.out] at hsn
    have HSN := Lib.hid hsn
    clear hsn
    go_wp2_with (first | (go_at_call 71; refine (zwQ _ _ _ ha).mono ?_; rintro e w' ⟨rfl, rfl⟩) | (at_builtin; refine zaU _ rfl _ _ 34 rfl w.heap.size 9 i0 (.string ⟨#[]⟩) 16 Tryz.underlying34 hi hz0 hz1 hz2 rfl _ _ _ rfl hown (.string ⟨T.toArray⟩) rfl rfl (by omega) (by omega) hsz ?_; intro v' w1 hown' hk'))
    go_roundw
    case rel =>
     exact ⟨k + 1, ps ++ [T], [], by omega, by go_num, rfl, by simp, zbZ.snoc hown' rfl, by simp; omega, HSN.out, hbw.trans hk'⟩
    case measure => simp [intOf]; omega
   ·have hp' : hasB at_.data.toList s[k] = false := by simpa using hp
    have hsn := z3K (hasB at_.data.toList) s k hlt hp'
    rw [HS.out] at hsn
    have HSN := Lib.hid hsn
    clear hsn hp
    have hsl := fun W : World => ztN (P := Tryz.prog) W 9 s (k : Int) ((k : Int) + 1) k (k + 1) rfl (by omega) (by omega) (by omega) Tryz.underlying9
    go_wp2_with (go_at_call 71; refine (zwQ _ _ _ ha).mono ?_; rintro e w' ⟨rfl, rfl⟩)
    go_roundw
    case rel =>
     refine ⟨k + 1, ps, T ++ [s[k]], by omega, by go_num, ?_, by simp; omega, hown, by omega, HSN.out, hbw⟩
     rw [← z0B T s k hlt]
    case measure => simp [intOf]; omega
  ·have hfin : splitB (hasB at_.data.toList) s.data.toList = ps ++ [T] := by
    have := HS.out
    rw [zdH s k hlt] at this
    unfold splitB
    rw [this]
   have HF := Lib.hid hfin
   clear hfin
   go_wp2_with (at_builtin; refine zaU _ rfl _ _ 34 rfl w.heap.size 9 i0 (.string ⟨#[]⟩) 16 Tryz.underlying34 hi hz0 hz1 hz2 rfl _ _ _ rfl hown (.string ⟨T.toArray⟩) rfl rfl (by omega) (by omega) hsz ?_; intro v' w1 hown' hk')
   go_ret
   exact ⟨v', rfl, by rw [HF.out]; exact zbZ.snoc hown' rfl, hbw.trans hk'⟩
end
section
open Go.RowKit
theorem zcH {k : IntKind} {a b : Int} (h : a = b) : Ending.returned (.int k a) = .returned (.int k b) := by rw [h]
def zdX (r : Int) : Bool := decide (48 ≤ r ∧ r ≤ 57)
def valZ (r : Int) : Int := if 48 ≤ r ∧ r ≤ 57 then r - 48 else if 65 ≤ r ∧ r ≤ 70 then r - 55 else if 97 ≤ r ∧ r ≤ 102 then r - 87 else -1
theorem zeI (r : Int) (w : World) :
  Calls Tryz.prog 111 #[.int .i32 r] w fun e w' => e = .returned (.bool (zdX r)) ∧ w = w' := by
 rcases (show r < 48 ∨ (48 ≤ r ∧ r ≤ 57) ∨ (57 < r ∧ r < 65) ∨ (65 ≤ r ∧ r ≤ 70) ∨ (70 < r ∧ r ≤ 90) ∨ (90 < r ∧ r < 97) ∨ (97 ≤ r ∧ r ≤ 102) ∨ (102 < r ∧ r ≤ 122) ∨ 122 < r from by omega) with hA | ⟨hA, hB⟩ | ⟨hA, hB⟩ | ⟨hA, hB⟩ | ⟨hA, hB⟩ | ⟨hA, hB⟩ | ⟨hA, hB⟩ | ⟨hA, hB⟩ | hA
 ·have HB := Lib.hid (show zdX r = false from decide_eq_false (by omega))
  go_enter Tryz.func111, Tryz.ntmps111
  go_wp2
  go_ret
  exact ⟨zaQ (by first | exact HB.out.symm | (rw [HB.out]; simp; omega)), rfl⟩
 ·have HB := Lib.hid (show zdX r = true from decide_eq_true (by omega))
  go_enter Tryz.func111, Tryz.ntmps111
  go_wp2
  go_ret
  exact ⟨zaQ (by first | exact HB.out.symm | (rw [HB.out]; simp; omega)), rfl⟩
 ·have HB := Lib.hid (show zdX r = false from decide_eq_false (by omega))
  go_enter Tryz.func111, Tryz.ntmps111
  go_wp2
  go_ret
  exact ⟨zaQ (by first | exact HB.out.symm | (rw [HB.out]; simp; omega)), rfl⟩
 ·have HB := Lib.hid (show zdX r = false from decide_eq_false (by omega))
  go_enter Tryz.func111, Tryz.ntmps111
  go_wp2
  go_ret
  exact ⟨zaQ (by first | exact HB.out.symm | (rw [HB.out]; simp; omega)), rfl⟩
 ·have HB := Lib.hid (show zdX r = false from decide_eq_false (by omega))
  go_enter Tryz.func111, Tryz.ntmps111
  go_wp2
  go_ret
  exact ⟨zaQ (by first | exact HB.out.symm | (rw [HB.out]; simp; omega)), rfl⟩
 ·have HB := Lib.hid (show zdX r = false from decide_eq_false (by omega))
  go_enter Tryz.func111, Tryz.ntmps111
  go_wp2
  go_ret
  exact ⟨zaQ (by first | exact HB.out.symm | (rw [HB.out]; simp; omega)), rfl⟩
 ·have HB := Lib.hid (show zdX r = false from decide_eq_false (by omega))
  go_enter Tryz.func111, Tryz.ntmps111
  go_wp2
  go_ret
  exact ⟨zaQ (by first | exact HB.out.symm | (rw [HB.out]; simp; omega)), rfl⟩
 ·have HB := Lib.hid (show zdX r = false from decide_eq_false (by omega))
  go_enter Tryz.func111, Tryz.ntmps111
  go_wp2
  go_ret
  exact ⟨zaQ (by first | exact HB.out.symm | (rw [HB.out]; simp; omega)), rfl⟩
 ·have HB := Lib.hid (show zdX r = false from decide_eq_false (by omega))
  go_enter Tryz.func111, Tryz.ntmps111
  go_wp2
  go_ret
  exact ⟨zaQ (by first | exact HB.out.symm | (rw [HB.out]; simp; omega)), rfl⟩
theorem zcQ (r : Int) (w : World) :
  Calls Tryz.prog 109 #[.int .i32 r] w fun e w' => e = .returned (.int .i64 (valZ r)) ∧ w = w' := by
 rcases (show r < 48 ∨ (48 ≤ r ∧ r ≤ 57) ∨ (57 < r ∧ r < 65) ∨ (65 ≤ r ∧ r ≤ 70) ∨ (70 < r ∧ r ≤ 90) ∨ (90 < r ∧ r < 97) ∨ (97 ≤ r ∧ r ≤ 102) ∨ (102 < r ∧ r ≤ 122) ∨ 122 < r from by omega) with hA | ⟨hA, hB⟩ | ⟨hA, hB⟩ | ⟨hA, hB⟩ | ⟨hA, hB⟩ | ⟨hA, hB⟩ | ⟨hA, hB⟩ | ⟨hA, hB⟩ | hA
 ·have HV := Lib.hid (show valZ r = -1 from by unfold valZ; (repeat' split) <;> omega)
  go_enter Tryz.func109, Tryz.ntmps109
  go_wp2
  go_ret
  exact ⟨zcH (by first | exact HV.out.symm | (rw [HV.out]; omega)), rfl⟩
 ·have HV := Lib.hid (show valZ r = r - 48 from by unfold valZ; (repeat' split) <;> omega)
  go_enter Tryz.func109, Tryz.ntmps109
  go_wp2
  go_ret
  exact ⟨zcH (by first | exact HV.out.symm | (rw [HV.out]; omega)), rfl⟩
 ·have HV := Lib.hid (show valZ r = -1 from by unfold valZ; (repeat' split) <;> omega)
  go_enter Tryz.func109, Tryz.ntmps109
  go_wp2
  go_ret
  exact ⟨zcH (by first | exact HV.out.symm | (rw [HV.out]; omega)), rfl⟩
 ·have HV := Lib.hid (show valZ r = r - 55 from by unfold valZ; (repeat' split) <;> omega)
  go_enter Tryz.func109, Tryz.ntmps109
  go_wp2
  go_ret
  exact ⟨zcH (by first | exact HV.out.symm | (rw [HV.out]; omega)), rfl⟩
 ·have HV := Lib.hid (show valZ r = -1 from by unfold valZ; (repeat' split) <;> omega)
  go_enter Tryz.func109, Tryz.ntmps109
  go_wp2
  go_ret
  exact ⟨zcH (by first | exact HV.out.symm | (rw [HV.out]; omega)), rfl⟩
 ·have HV := Lib.hid (show valZ r = -1 from by unfold valZ; (repeat' split) <;> omega)
  go_enter Tryz.func109, Tryz.ntmps109
  go_wp2
  go_ret
  exact ⟨zcH (by first | exact HV.out.symm | (rw [HV.out]; omega)), rfl⟩
 ·have HV := Lib.hid (show valZ r = r - 87 from by unfold valZ; (repeat' split) <;> omega)
  go_enter Tryz.func109, Tryz.ntmps109
  go_wp2
  go_ret
  exact ⟨zcH (by first | exact HV.out.symm | (rw [HV.out]; omega)), rfl⟩
 ·have HV := Lib.hid (show valZ r = -1 from by unfold valZ; (repeat' split) <;> omega)
  go_enter Tryz.func109, Tryz.ntmps109
  go_wp2
  go_ret
  exact ⟨zcH (by first | exact HV.out.symm | (rw [HV.out]; omega)), rfl⟩
 ·have HV := Lib.hid (show valZ r = -1 from by unfold valZ; (repeat' split) <;> omega)
  go_enter Tryz.func109, Tryz.ntmps109
  go_wp2
  go_ret
  exact ⟨zcH (by first | exact HV.out.symm | (rw [HV.out]; omega)), rfl⟩
theorem zeL (r : Int) (w : World) :
  Calls Tryz.prog 85 #[.int .i32 r] w fun e w' => e = .returned (.int .i64 (valZ r)) ∧ w = w' := by
 rcases (show r < 48 ∨ (48 ≤ r ∧ r ≤ 57) ∨ (57 < r ∧ r < 65) ∨ (65 ≤ r ∧ r ≤ 70) ∨ (70 < r ∧ r ≤ 90) ∨ (90 < r ∧ r < 97) ∨ (97 ≤ r ∧ r ≤ 102) ∨ (102 < r ∧ r ≤ 122) ∨ 122 < r from by omega) with hA | ⟨hA, hB⟩ | ⟨hA, hB⟩ | ⟨hA, hB⟩ | ⟨hA, hB⟩ | ⟨hA, hB⟩ | ⟨hA, hB⟩ | ⟨hA, hB⟩ | hA
 ·have HV := Lib.hid (show valZ r = -1 from by unfold valZ; (repeat' split) <;> omega)
  go_enter Tryz.func85, Tryz.ntmps85
  go_wp2
  go_ret
  exact ⟨zcH (by first | exact HV.out.symm | (rw [HV.out]; omega)), rfl⟩
 ·have HV := Lib.hid (show valZ r = r - 48 from by unfold valZ; (repeat' split) <;> omega)
  go_enter Tryz.func85, Tryz.ntmps85
  go_wp2
  go_ret
  exact ⟨zcH (by first | exact HV.out.symm | (rw [HV.out]; omega)), rfl⟩
 ·have HV := Lib.hid (show valZ r = -1 from by unfold valZ; (repeat' split) <;> omega)
  go_enter Tryz.func85, Tryz.ntmps85
  go_wp2
  go_ret
  exact ⟨zcH (by first | exact HV.out.symm | (rw [HV.out]; omega)), rfl⟩
 ·have HV := Lib.hid (show valZ r = r - 55 from by unfold valZ; (repeat' split) <;> omega)
  go_enter Tryz.func85, Tryz.ntmps85
  go_wp2
  go_ret
  exact ⟨zcH (by first | exact HV.out.symm | (rw [HV.out]; omega)), rfl⟩
 ·have HV := Lib.hid (show valZ r = -1 from by unfold valZ; (repeat' split) <;> omega)
  go_enter Tryz.func85, Tryz.ntmps85
  go_wp2
  go_ret
  exact ⟨zcH (by first | exact HV.out.symm | (rw [HV.out]; omega)), rfl⟩
 ·have HV := Lib.hid (show valZ r = -1 from by unfold valZ; (repeat' split) <;> omega)
  go_enter Tryz.func85, Tryz.ntmps85
  go_wp2
  go_ret
  exact ⟨zcH (by first | exact HV.out.symm | (rw [HV.out]; omega)), rfl⟩
 ·have HV := Lib.hid (show valZ r = r - 87 from by unfold valZ; (repeat' split) <;> omega)
  go_enter Tryz.func85, Tryz.ntmps85
  go_wp2
  go_ret
  exact ⟨zcH (by first | exact HV.out.symm | (rw [HV.out]; omega)), rfl⟩
 ·have HV := Lib.hid (show valZ r = -1 from by unfold valZ; (repeat' split) <;> omega)
  go_enter Tryz.func85, Tryz.ntmps85
  go_wp2
  go_ret
  exact ⟨zcH (by first | exact HV.out.symm | (rw [HV.out]; omega)), rfl⟩
 ·have HV := Lib.hid (show valZ r = -1 from by unfold valZ; (repeat' split) <;> omega)
  go_enter Tryz.func85, Tryz.ntmps85
  go_wp2
  go_ret
  exact ⟨zcH (by first | exact HV.out.symm | (rw [HV.out]; omega)), rfl⟩
end
section
open Go.RowKit
theorem zaD (l : List UInt8) : (ByteArray.mk l.toArray).size = l.length := by simp [ByteArray.size]
/-! ### parts, put together again -/
end
section
open Go.RowKit
theorem zhT (p : UInt8 → Bool) (l : List UInt8) : 0 < (splitB p l).length := by simp [splitB]
theorem zbZ.form {B : Nat} {w : World} {v : Value} {ps : List (List UInt8)} (h : zbZ B w v ps) (hn : 0 < ps.length) :
  ∃ g cap, v = .slice (some ⟨g, 0, none⟩) ps.length cap ∧ g < w.heap.size ∧ ∀ j, j < ps.length → w.cell? ⟨g, j, none⟩ = some (.string ⟨(ps.getD j []).toArray⟩) := by
 unfold zbZ at h
 rcases h.2 with ⟨_, h0⟩ | ⟨g, cap, cur, hv, _, hg, hc, _, hs, ht⟩
 ·omega
 ·refine ⟨g, cap, hv, (Array.getElem?_eq_some_iff.1 hg).1, fun j hj => ?_⟩
  rw [cell_of_row w g j cur _ _ hg]
  have h1 : (ziC ps)[j]? = some (strC (ps.getD j [])) := by
   simp [ziC, List.getD, List.getElem?_eq_getElem hj]
  rw [← ht, List.getElem?_take, if_pos (by omega)] at h1
  simpa [strC] using h1
theorem zbZ.below {B : Nat} {w w' : World} {v : Value} {ps : List (List UInt8)} (h : zbZ B w v ps) (hb : Below w.heap.size w w') : zbZ B w' v ps := zdW h hb
theorem zcR (p : UInt8 → Bool) (l : List UInt8) : (splitB p l).length ≤ l.length + 1 := by
 have key : ∀ (l : List UInt8) (st : List (List UInt8) × List UInt8), (l.foldl (zaW p) st).1.length ≤ st.1.length + l.length := by
  intro l
  induction l with
  | nil => intro st; simp
  | cons c l ih =>
   intro st
   rw [List.foldl_cons]
   have := ih (zaW p st c)
   have h2 : (zaW p st c).1.length ≤ st.1.length + 1 := by unfold zaW; split <;> simp
   simp; omega
 have := key l ([], [])
 simp [splitB, spl] at this ⊢
 omega
end
section
open Go.RowKit
theorem zmU (ps : List (List UInt8)) (c sep : List UInt8) : Lib.join (ps ++ [c]) sep = if ps = [] then c else Lib.join ps sep ++ sep ++ c := by
 cases ps with
 | nil => simp [Lib.join_one]
 | cons x r =>
  rw [if_neg (by simp), List.cons_append, Lib.join_cons, Lib.join_cons]
  simp [Lib.joinTail]
theorem z0X (l : List UInt8) (c : UInt8) : Lib.join (splitB (hasB [c]) l) [c] = l := by
 have key : ∀ (l : List UInt8) (st : List (List UInt8) × List UInt8), Lib.join ((l.foldl (zaW (hasB [c])) st).1 ++ [(l.foldl (zaW (hasB [c])) st).2]) [c] = Lib.join (st.1 ++ [st.2]) [c] ++ l := by
  intro l
  induction l with
  | nil => intro st; simp
  | cons x l ih =>
   intro st
   rw [List.foldl_cons, ih]
   have e : Lib.join ((zaW (hasB [c]) st x).1 ++ [(zaW (hasB [c]) st x).2]) [c] = Lib.join (st.1 ++ [st.2]) [c] ++ [x] := by
    unfold zaW
    by_cases h : hasB [c] x = true
    ·have hx : c = x := by simpa [hasB] using h
     rw [if_pos h, zmU (st.1 ++ [st.2]) [] [c], if_neg (by simp), List.append_nil, hx]
    ·rw [if_neg h, zmU, zmU]
     split
     ·rfl
     ·simp
   rw [e]; simp
 have := key l ([], [])
 unfold splitB spl
 rw [this]
 simp [Lib.join_one]
/-! ### a second time -/
end
end

section
open Go.RowKit
theorem zuI (s : ByteArray) (w : World) (hs : s.size ≤ 9223372036854775807) :
  Calls Tryz.prog 36 #[.string s] w fun e w' => e = .returned (.bool (ziD s)) ∧ w = w' := by
 go_enter Tryz.func36, Tryz.ntmps36
 go_wp2
 go_loop [6] (fun i => ∃ k : Nat, k ≤ s.size ∧ i = .int .i64 k ∧ Hid (∀ j (h : j < s.size), j < k → (s[j]'h).toNat < 128)) (fun i => s.size - (intOf i).toNat)
 case atStart => exact ⟨0, Nat.zero_le _, rfl, fun j _ h => by omega⟩
 case round =>
  obtain ⟨k, hk, rfl, H⟩ := hrel
  by_cases hlt : k < s.size
  ·go_wp2
   ·have hc : (128 : Int) ≤ (s[k].toNat : Int) := by assumption
    go_ret
    exact ⟨zaQ (zkR s k hlt (by omega)).symm, rfl⟩
   ·have hc : (s[k].toNat : Int) < 128 := by first | assumption | omega
    go_round
    case rel =>
     refine ⟨k + 1, by omega, by go_num, fun j hj hjk => ?_⟩
     by_cases e : j = k
     ·subst e; omega
     ·exact H.out j hj (by omega)
    case measure => simp [intOf]; omega
  ·have hf := zlU s (fun j hj => H.out j hj (by omega))
   have HF := Lib.hid hf
   clear hf
   go_wp2
   go_ret
   exact ⟨zaQ HF.out.symm, rfl⟩
/-- the new row of []byte(s), the first k bytes turned by f -/
def zeM (f : UInt8 → UInt8) (B : Nat) (s : ByteArray) (k cap : Nat) (w : World) : Prop :=
 ∃ cur : Array Value, w.heap[B]? = some (.cells cur 5 (cap, cap + 1)) ∧ cur.size = cap ∧ s.size ≤ cap ∧
  ∀ j (h : j < s.size), cur[j]? = some (.int .u8 ((if j < k then f s[j] else s[j]).toNat : Int))
theorem zrV (f : UInt8 → UInt8) (w : World) (s : ByteArray) : zeM f w.heap.size s 0 (grownCap w s.size 0 5) (Lib.bytesWorld w 5 s) := by
 have hge : s.size ≤ grownCap w s.size 0 5 := grownCap_ge _ _ _ _
 have hsz : (Lib.bytesCells w 5 s).size = grownCap w s.size 0 5 := by
  unfold Lib.bytesCells
  have : s.data.size = s.size := rfl
  simp [this]; omega
 refine ⟨Lib.bytesCells w 5 s, ?_, hsz, hge, ?_⟩
 ·rw [Lib.bytesWorld_at_new, hsz]
 ·intro j h
  have hj : j < s.data.size := h
  rw [if_neg (by omega)]
  unfold Lib.bytesCells
  rw [Array.getElem?_append_left (by simpa using hj)]
  simp
  exact ⟨s.data[j], Array.getElem?_eq_getElem hj, rfl⟩
theorem zeM.cell {f : UInt8 → UInt8} {B : Nat} {s : ByteArray} {k cap : Nat} {w : World} (h : zeM f B s k cap w) (hk : k < s.size) : w.cell? ⟨B, k, none⟩ = some (.int .u8 (s[k].toNat : Int)) := by
 obtain ⟨cur, h1, _, _, h4⟩ := h
 rw [cell_of_row w B k cur _ _ h1, h4 k hk, if_neg (by omega)]
theorem zeM.frozen {f : UInt8 → UInt8} {B : Nat} {s : ByteArray} {k cap : Nat} {w : World} (h : zeM f B s k cap w) (hk : k < s.size) : w.frozen? ⟨B, k, none⟩ = false := by
 obtain ⟨cur, h1, _, h3, _⟩ := h
 simp [World.frozen?, h1]
 omega
theorem zeM.keep {f : UInt8 → UInt8} {B : Nat} {s : ByteArray} {k cap : Nat} {w w' : World} (h : zeM f B s k cap w) (hb : Below w.heap.size w w') : zeM f B s k cap w' := by
 obtain ⟨cur, h1, h2, h3, h4⟩ := h
 exact ⟨cur, (hb.block B (Array.getElem?_eq_some_iff.1 h1).1).trans h1, h2, h3, h4⟩
theorem zeM.same {f : UInt8 → UInt8} {B : Nat} {s : ByteArray} {k cap : Nat} {w : World} (h : zeM f B s k cap w) (hk : k < s.size) (he : f s[k] = s[k]) : zeM f B s (k + 1) cap w := by
 obtain ⟨cur, h1, h2, h3, h4⟩ := h
 refine ⟨cur, h1, h2, h3, fun j hj => ?_⟩
 rw [h4 j hj]
 by_cases e : j = k
 ·subst e; rw [if_neg (by omega), if_pos (by omega), he]
 ·by_cases e2 : j < k
  ·rw [if_pos e2, if_pos (by omega)]
  ·rw [if_neg e2, if_neg (by omega)]
theorem zeM.put {f : UInt8 → UInt8} {B : Nat} {s : ByteArray} {k cap : Nat} {w : World} (h : zeM f B s k cap w) (hk : k < s.size) (n : Int) (hn : n = ((f s[k]).toNat : Int)) : zeM f B s (k + 1) cap (w.setCell ⟨B, k, none⟩ (.int .u8 n)) := by
 obtain ⟨cur, h1, h2, h3, h4⟩ := h
 refine ⟨cur.setIfInBounds k (.int .u8 n), ?_, by simpa using h2, h3, fun j hj => ?_⟩
 ·simp [World.setCell, Array.getElem?_modify, h1]
 ·rw [Array.getElem?_setIfInBounds]
  by_cases e : k = j
  ·subst e; rw [if_pos rfl, if_pos (by omega), if_pos (by omega), hn]
  ·rw [if_neg e, h4 j hj]
   by_cases e2 : j < k
   ·rw [if_pos e2, if_pos (by omega)]
   ·rw [if_neg e2, if_neg (by omega)]
theorem zeM.conv {f : UInt8 → UInt8} {B : Nat} {s : ByteArray} {cap : Nat} {w : World} {k : Nat} (h : zeM f B s k cap w) (hk : ¬ k < s.size) :
  (convert 30 9 (.slice (some ⟨B, 0, none⟩) s.size cap)).run Tryz.prog w = .ok (.string ⟨(s.data.toList.map f).toArray⟩) w := by
 refine zeU w _ _ 5 _ _ ?_ Tryz.underlying30 Tryz.underlying5 Tryz.underlying9
 obtain ⟨cur, h1, h2, h3, h4⟩ := h
 have hl : (Lib.byteCells (s.data.toList.map f)).length = s.size := by rw [Lib.byteCells_length, List.length_map, zaJ]
 refine ⟨_, cap, by rw [hl], fun j u hj => ⟨_, rfl, ?_⟩⟩
 have hlt : j < s.size := by rw [← hl]; exact (List.getElem?_eq_some_iff.1 hj).1
 rw [show (Addr.add ⟨B, 0, none⟩ j) = ⟨B, j, none⟩ from by unfold Addr.add; split <;> simp_all]
 rw [cell_of_row w B j cur _ _ h1, h4 j hlt, if_pos (by omega), ← hj]
 simp only [Lib.byteCells, List.map_map, List.getElem?_map, zlM s j hlt]
 rfl
theorem z3H (s : ByteArray) (w : World) (hs : s.size ≤ 9223372036854775807) :
  Calls Tryz.prog 37 #[.string s] w fun e w' => e = .returned (.string ⟨(zbO s.data.toList).toArray⟩) ∧ Below w.heap.size w w' := by
 have hcv0 := Lib.run_convert_string_bytes (P := Tryz.prog) w 9 30 5 s Tryz.underlying9 Tryz.underlying30 Tryz.underlying5
 have hst := zrV lowC w s
 have hb0 : Below w.heap.size w (Lib.bytesWorld w 5 s) := ⟨rfl, rfl, rfl, by rw [Lib.bytesWorld_size]; omega, fun k hk => Lib.bytesWorld_at_old w _ s k hk⟩
 have HST := Lib.hid hst
 clear hst
 generalize hcap : grownCap w s.size 0 5 = cap at *
 generalize Lib.bytesWorld w 5 s = wb at *
 clear hcap
 go_enter Tryz.func37, Tryz.ntmps37
 go_wp2
 clear hcv0
 go_loopw [10] (fun i wr => ∃ k : Nat, k ≤ s.size ∧ i = .int .i64 k ∧ zeM lowC w.heap.size s k cap wr ∧ Below w.heap.size w wr) (fun i _ => s.size - (intOf i).toNat)
 case atStart => exact ⟨0, Nat.zero_le _, rfl, HST.out, hb0⟩
 case round =>
  obtain ⟨k, hk, rfl, hr, hbw⟩ := hrel
  by_cases hlt : k < s.size
  ·have hcell := hr.cell hlt
   have hfr := hr.frozen hlt
   obtain ⟨c, hc⟩ : ∃ c, (s[k]'hlt).toNat = c := ⟨_, rfl⟩
   have hc256 : c < 256 := by rw [← hc]; exact (s[k]'hlt).toNat_lt
   rw [hc] at hcell
   by_cases hu : 65 ≤ c ∧ c ≤ 90
   ·have hdc : ((lowC s[k]).toNat : Int) = (c : Int) + 32 := by rw [z4V (by omega) (by omega), hc]; omega
    have hr2 := hr.put hlt ((c : Int) + 32) hdc.symm
    have HR2 := Lib.hid hr2
    have hbw2 := hbw.setCell (p := ⟨w.heap.size, k, none⟩) (Nat.le_refl _) (.int .u8 ((c : Int) + 32))
    have HC := Lib.hid hc
    obtain ⟨hu1, hu2⟩ := hu
    have ea : (c : Int) - 65 + 97 = (c : Int) + 32 := by omega
    clear hdc hr2 hc
    go_wp2
    go_roundw
    case rel => exact ⟨k + 1, by omega, by go_num, by first | exact HR2.out | (rw [ea]; exact HR2.out), by first | exact hbw2 | (rw [ea]; exact hbw2)⟩
    case measure => simp [intOf]; omega
   ·have hr2 := hr.same hlt (z6C (by omega))
    have HR2 := Lib.hid hr2
    clear hr2 hc
    go_wp2
    all_goals
     go_roundw
     case rel => exact ⟨k + 1, by omega, by go_num, HR2.out, hbw⟩
     case measure => simp [intOf]; omega
  ·have hcv := hr.conv hlt
   go_wp2
   go_ret
   exact ⟨rfl, hbw⟩
end

end Go.Proofs.YtphapecoimlngaaGreatDoor
