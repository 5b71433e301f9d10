/-
  Layer 4: FourShort's loop: worlds and tables.
-/
import Derived.Test.YtaojjkknmaldiaaDoorFourM
import Derived.Test.YtaojjkknmaldiaaDoorFourH
import Derived.Deep.RegionHeld3
namespace Go.Proofs.YtaojjkknmaldiaaDoor
open Go.RowKit


theorem bcell {W w1 : World} (hb : Below W.heap.size W w1) : (∀ b o, b < W.heap.size → w1.cell? ⟨b, o, none⟩ = W.cell? ⟨b, o, none⟩) :=
  fun b o h => hb.cell (p := ⟨b, o, none⟩) h
theorem bl1 {w w' : World} {o1 o2 : Obj} (h : Below ((w.drew.alloc o1).alloc o2).heap.size ((w.drew.alloc o1).alloc o2) w') : Below w.heap.size w w' := by
  have h1 : Below w.heap.size w ((w.drew.alloc o1).alloc o2) := (((Below.refl _ w).drew).alloc (Nat.le_refl _) o1).alloc (by simp) o2
  exact h1.trans (h.mono h1.size)
theorem bl2 {w w' : World} {o1 : Obj} (o2 : Obj) (h : Below (w.drew.alloc o1).heap.size (w.drew.alloc o1) w') : Below w.heap.size w (w'.alloc o2) := by
  have h1 : Below w.heap.size w (w.drew.alloc o1) := ((Below.refl _ w).drew).alloc (Nat.le_refl _) o1
  have h2 := h1.trans (h.mono h1.size)
  exact h2.alloc h2.size o2

theorem wpAnyH_weaken {P : Program} {md : Region.Mode} {ops : Array Oper} {Q : Exit → Act → World → Prop} {S S' : World → Prop} (h : ∀ w, S' w → S w) : ∀ (fuel : Nat) (listed : Array Bool) (a : Act) (w : World), wpAnyH P md ops Q S' fuel listed a w → wpAnyH P md ops Q S fuel listed a w
  | 0, _, _, _, H => H
  | fuel + 1, _, _, _, H => ⟨H.1, fun i hi => wpOp_mono (fun a' w' h' => ⟨h w' h'.1, wpAnyH_weaken h fuel _ a' w' h'.2⟩) (H.2 i hi)⟩

/-- a part of digits behind what tells their base -/
def RetPart (pre : List UInt8) (x : Int) (w : World) (e : Ending) (w' : World) : Prop := ∃ L, e = .returned (.string ⟨L.toArray⟩) ∧ IsPart x (pre ++ L) ∧ L.length ≤ 65 ∧ Below w.heap.size w w'
theorem fmtP0 (u : Nat) (hu : u ≤ 4294967295) (w : World) (hpow : PowTab w) (_hbru : BruTab w) : Calls Tryd.prog 8 #[.int .u64 u, .int .i64 10] w (RetPart [] u w) := by
  refine (fmt10_any u (by omega) w hpow).mono ?_
  rintro e w' ⟨rfl, hb⟩
  exact ⟨_, rfl, part_dec u (by omega), (isNum_dec u (by omega)).1.len, hb⟩
theorem fmtP1 (u : Nat) (hu : u ≤ 4294967295) (w : World) (_hpow : PowTab w) (hbru : BruTab w) : Calls Tryd.prog 8 #[.int .u64 u, .int .i64 8] w (RetPart [48] u w) := by
  refine (fmt8_any u (by omega) w hbru).mono ?_
  rintro e w' ⟨L, rfl, hn, hb⟩
  exact ⟨_, rfl, part_oct (by omega) hn, hn.len, hb⟩
theorem fmtP2 (u : Nat) (hu : u ≤ 4294967295) (w : World) (_hpow : PowTab w) (hbru : BruTab w) : Calls Tryd.prog 8 #[.int .u64 u, .int .i64 16] w (RetPart [48, 120] u w) := by
  refine (fmt16_any u (by omega) w hbru).mono ?_
  rintro e w' ⟨L, rfl, hn, hb⟩
  exact ⟨_, rfl, part_hex (by omega) hn, hn.len, hb⟩
theorem bl3 {w w' : World} {o1 : Obj} (h : Below (w.drew.alloc o1).heap.size (w.drew.alloc o1) w') : Below w.heap.size w w' := by
  have h1 : Below w.heap.size w (w.drew.alloc o1) := ((Below.refl _ w).drew).alloc (Nat.le_refl _) o1
  exact h1.trans (h.mono h1.size)

theorem cell_new0 (w : World) (cs : Array Value) (t : TypeId) (q : Nat) (v : Value) (h : cs[q]? = some v) : (w.alloc (.cells cs t)).cell? ⟨w.heap.size, q, none⟩ = some v := by
  rw [World.cell?_alloc_new]; exact h
theorem cell_new1 (w : World) (cs : Array Value) (t : TypeId) (q : Nat) (v : Value) (h : cs[q]? = some v) : (w.drew.alloc (.cells cs t)).cell? ⟨w.heap.size, q, none⟩ = some v :=
  cell_new0 w.drew cs t q v h
theorem cell_new2 (w : World) (o : Obj) (cs : Array Value) (t : TypeId) (q : Nat) (v : Value) (h : cs[q]? = some v) : ((w.drew.alloc o).alloc (.cells cs t)).cell? ⟨w.heap.size + 1, q, none⟩ = some v := by
  have e : (w.drew.alloc o).heap.size = w.heap.size + 1 := by simp
  rw [← e]
  exact cell_new0 _ cs t q v h

def nth4 (a b c d : Int) : Nat → Int
  | 0 => a
  | 1 => b
  | 2 => c
  | _ => d

def ShRel (L : Nat) (n : Int) (i r : Nat) (T : List UInt8) : Prop :=
  (i ≤ L → Short (L + 1) i n (r : Int) T ∧ r < 256 ^ (4 - i)) ∧ (i = L + 1 → ∀ e, (e = [] ∨ e = [46]) → fourZ (T ++ e) = (n, true)) ∧ T.length ≤ 300

set_option maxRecDepth 100000 in
theorem sh_last {L i r : Nat} {n : Int} {T p : List UInt8} (h : ShRel L n i r T) (hi : i = L) (hL : L ≤ 3) (hp : IsPart (r : Int) p) : ShRel L n (i + 1) r (T ++ p) := by
  obtain ⟨hs, hr⟩ := h.1 (by omega)
  refine ⟨fun h => by omega, fun _ e he => ?_, ?_⟩
  · refine short_four hs (by omega) (by omega) p hp ?_ e he
    unfold limZ
    rw [if_pos (by omega)]
    have e5 : 5 - (L + 1) = 4 - i := by omega
    rw [e5]
    exact_mod_cast hr
  · have h1 := hs.len
    have h2 := hp.len
    simp only [List.length_append]
    omega
set_option maxRecDepth 100000 in
theorem sh_next {L i r x : Nat} {n : Int} {T p : List UInt8} (h : ShRel L n i r T) (hi : i < L) (hL : L ≤ 3) (hx : x = r / 2 ^ (8 * (3 - i))) (hp : IsPart (x : Int) p) : ShRel L n (i + 1) (r - x * 2 ^ (8 * (3 - i))) (T ++ (p ++ [46])) := by
  obtain ⟨hs, hr⟩ := h.1 (by omega)
  have hlim : limZ (L + 1) i = 256 := by unfold limZ; rw [if_neg (by omega)]
  have hwt : wtZ (L + 1) i = ((2 ^ (8 * (3 - i)) : Nat) : Int) := by
    unfold wtZ
    rw [if_neg (by omega)]
    rcases (show i = 0 ∨ i = 1 ∨ i = 2 from by omega) with rfl | rfl | rfl <;> rfl
  have hle : x * 2 ^ (8 * (3 - i)) ≤ r := by rw [hx]; exact Nat.div_mul_le_self _ _
  have hx256 : x < 256 := by
    rcases (show i = 0 ∨ i = 1 ∨ i = 2 from by omega) with rfl | rfl | rfl <;> simp at hr hx <;> omega
  have hn := short_next hs (x : Int) p hp (by rw [hlim]; omega)
  rw [hwt] at hn
  have e : (r : Int) - (x : Int) * ((2 ^ (8 * (3 - i)) : Nat) : Int) = ((r - x * 2 ^ (8 * (3 - i)) : Nat) : Int) := by
    rw [Int.natCast_sub hle]; simp
  rw [e] at hn
  refine ⟨fun _ => ⟨hn, ?_⟩, fun h => by omega, ?_⟩
  · rcases (show i = 0 ∨ i = 1 ∨ i = 2 from by omega) with rfl | rfl | rfl <;> simp at hr hx ⊢ <;> omega
  · have h1 := hn.len
    omega
end Go.Proofs.YtaojjkknmaldiaaDoor
