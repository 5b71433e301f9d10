/-
  The law FourShort: its Go text returns true at every address, number of parts, bases and point, where the library's two tables read as they are laid; nothing that lay in memory before is changed.
-/
import Derived.Test.YtaojjkknmaldiaaDoorFourQ
namespace Go.Proofs.YtaojjkknmaldiaaDoor
open Go.RowKit


theorem fourShort_walk (a0 a1 b0 b1 b2 b3 : Int) (a3 : Bool) (w0 : (Lit.int .u32 a0).wf = true) (w1 : (Lit.int .u8 a1).wf = true) (u0 : (Lit.int .u8 b0).wf = true) (u1 : (Lit.int .u8 b1).wf = true) (u2 : (Lit.int .u8 b2).wf = true) (u3 : (Lit.int .u8 b3).wf = true) (w : World) (hpow : PowTab w) (hbru : BruTab w) :
    Calls Tryd.prog 5 #[.int .u32 a0, .int .u8 a1, .agg #[.int .u8 b0, .int .u8 b1, .int .u8 b2, .int .u8 b3], .bool a3] w fun e w' => e = .returned (.bool true) ∧ Below w.heap.size w w' :=
  fourShort_in a0 a1 b0 b1 b2 b3 a3 w (bounds_u32 w0).1 (bounds_u32 w0).2 (bounds_u8 w1).1 (bounds_u8 w1).2 (bounds_u8 u0) (bounds_u8 u1) (bounds_u8 u2) (bounds_u8 u3) hpow hbru
end Go.Proofs.YtaojjkknmaldiaaDoor
