/-
  Layer 6: what an address embeds.
-/
import Derived.Test.YtgmfgcpfpopboaaGreatDoorAddA
import Derived.Deep.DeepCutAuto
namespace Go.Proofs.YtgmfgcpfpopboaaGreatDoor
open Go.RowKit


def inA (hi th lw : Int) : List Int := if hi = 0 ∧ th = 65535 then [lw] else []
def inCo (hi th lw : Int) : List Int := if hi = 0 ∧ th = 0 ∧ 1 < lw then [lw] else []
def inC (hi th lw : Int) : List Int := if hi = 28428538856079360 ∧ th = 0 then [lw] else []
def inD (hi : Int) : List Int := if hi / 281474976710656 = 8194 then [hi / 65536 % 4294967296] else []
def inE (hi lw : Int) : List Int := if hi / 4294967296 = 536936448 then [hi % 4294967296, 4294967295 - lw] else []
def inF (th lw : Int) : List Int := if th = 24318 ∨ th = 33578750 then [lw] else []
def innerZ (hi lo : Int) : List Int :=
  inA hi (lo / 4294967296) (lo % 4294967296) ++ inCo hi (lo / 4294967296) (lo % 4294967296) ++ inC hi (lo / 4294967296) (lo % 4294967296) ++ inD hi ++ inE hi (lo % 4294967296) ++ inF (lo / 4294967296) (lo % 4294967296)

theorem Tryz.infoFour : (Tryz.prog.info? 31).map (fun i => (i.zero, i.size, i.bytes)) = some (some (.int .u32 0), 1, 4) := by kernel_rfl

theorem xor32 (n : Int) (h0 : 0 ≤ n) (h1 : n ≤ 4294967295) : bits .xor .u32 (if IntKind.u32.signed = true then -1 else IntKind.u32.max) n = 4294967295 - n := by
  obtain ⟨a, rfl⟩ := Int.eq_ofNat_of_zero_le h0
  have ha : a < 2 ^ 32 := by omega
  have e1 : BitVec.ofInt 32 4294967295 = BitVec.allOnes 32 := by decide
  show IntKind.u32.wrap (((BitVec.ofInt 32 4294967295) ^^^ (BitVec.ofInt 32 (a : Int))).toNat : Int) = _
  rw [e1, BitVec.allOnes_xor, BitVec.toNat_not, BitVec.ofInt_natCast, BitVec.toNat_ofNat, Nat.mod_eq_of_lt ha, IntKind.wrap_u32]
  omega

def RetFours (w : World) (l : List Int) (e : Ending) (w' : World) : Prop := ∃ v, e = .returned v ∧ Nums 31 .u32 w.heap.size w' v l ∧ Below w.heap.size w w'

set_option maxRecDepth 100000 in
set_option maxHeartbeats 1000000 in
theorem inner_four (n : Int) (w : World) :
    Calls Tryz.prog 6 #[.iface 31 (.int .u32 n)] w (RetFours w []) := by
  have hta := as46
  go_enter Tryz.func6, Tryz.ntmps6
  go_wp2
  go_ret
  exact ⟨_, rfl, Nums.nil _ _ _ _, (Below.refl _ _).alloc (Nat.le_refl _) _⟩
set_option maxRecDepth 100000 in
set_option maxHeartbeats 1000000 in
theorem inner_nil (w : World) :
    Calls Tryz.prog 6 #[.nilIface] w (RetFours w []) := by
  have hta := asN6
  go_enter Tryz.func6, Tryz.ntmps6
  go_wp2
  go_ret
  exact ⟨_, rfl, Nums.nil _ _ _ _, (Below.refl _ _).alloc (Nat.le_refl _) _⟩

end Go.Proofs.YtgmfgcpfpopboaaGreatDoor
