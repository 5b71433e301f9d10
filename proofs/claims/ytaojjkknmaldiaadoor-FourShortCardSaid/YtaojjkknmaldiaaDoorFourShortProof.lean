/-
  However an address is written, in one to four parts, to any of three bases, with a point behind or not, it is read. For every address, number of parts, bases and point; the tables of the library that the row lists read as the program text lays them (tied).
-/
import Derived.Test.YtaojjkknmaldiaaDoorRows
import Derived.Test.YtaojjkknmaldiaaDoorCards
import Derived.Test.YtaojjkknmaldiaaDoorTie
import Derived.LaidMore
import Derived.Lib.LaidTab
import Derived.Stop.LaidErr
import Derived.Lay
import Derived.SevenTiedAt
import Derived.Stop.Joined
import Derived.Test.YtaojjkknmaldiaaDoorFourShortWalk
import Derived.WalkKit
import Derived.ProofKit
import Derived.OpenShut
import Derived.Laws.IdiomArrays
import Derived.ShutString
namespace Go.Proofs.YtaojjkknmaldiaaDoor.fourShort
open Go.ChangeShapes Go.WideShapes Go.ChangeAt Go.RowKit
open Go.ChangeMaps (open_string shut_string)
set_option linter.unusedVariables false      -- a walk need not use every 'w<i>' (that an integer argument fits its kind)

theorem own : ownKnob Tryd.prog.godebug = none := by kernel_rfl

/-! ### the walk -/
theorem walk (a0 a1 b0 b1 b2 b3 : Int) (a3 : Bool) (w0 : (Lit.int .u32 a0).wf = true) (w1 : (Lit.int .u8 a1).wf = true) (u0 : (Lit.int .u8 b0).wf = true) (u1 : (Lit.int .u8 b1).wf = true) (u2 : (Lit.int .u8 b2).wf = true) (u3 : (Lit.int .u8 b3).wf = true) (w : World) (hpow : PowTab w) (hbru : BruTab w) :
    Calls Tryd.prog 5 #[.int .u32 a0, .int .u8 a1, .agg #[.int .u8 b0, .int .u8 b1, .int .u8 b2, .int .u8 b3], .bool a3] w fun e w' => e = .returned (.bool true) ∧ Below w.heap.size w w' :=
  fourShort_walk a0 a1 b0 b1 b2 b3 a3 w0 w1 u0 u1 u2 u3 w hpow hbru

theorem cells_arr : Tryd.prog.cellsOf 33 = 4 := by kernel_rfl
theorem cells_u8 : Tryd.prog.cellsOf 5 = 1 := by kernel_rfl
theorem list4 {α : Type} (l : List α) (h : (⟨l⟩ : Array α).size = 4) : ∃ a b c d, l = [a, b, c, d] := by
  match l, h with
  | [a, b, c, d], _ => exact ⟨a, b, c, d, rfl⟩

/-! ### the row's step -/
set_option maxRecDepth 100000 in
theorem lifted (os : Os) (started : os.Started) (H : Type) (enc : TypeId × Value → H) :
    ReturnsInHanded {} Tryd.checked os 5 .any (fun w args => (Rows.fourShortSpec.pre enc Tryd.prog Tryd.f5 Rows.fourShortRow.domain false w args ∧ laidMetH Tryd.prog Rows.fourShortRow.laid w) ∧ sizedMet enc Tryd.prog Tryd.f5 (OpenSpec.ofChange Rows.fourShortSpec) false w args) (Rows.fourShortSpec.post enc Tryd.prog Tryd.f5 false true false false) := by
  refine returnsInHanded_of_change_and (C := Tryd.checked) (X := fun w _ => laidMetH Tryd.prog Rows.fourShortRow.laid w) (fun _ _ _ hh h => h.of_heap hh) own started (by kernel_rfl) Tryd.func5
    (ChangeSpec.witness_shaped (enc := enc) (C := Tryd.checked) (os := os) (X := fun w _ => laidMetH Tryd.prog Rows.fourShortRow.laid w) false (World.laidAll Tryd.prog os Rows.fourShortRow.laid) #[.int .u32 0, .int .u8 0, .agg #[.int .u8 0, .int .u8 0, .int .u8 0, .int .u8 0], .bool false] 8 (World.laidAll_os _ _ _)
      (World.shaped_of_ZipB (by kernel_rfl) (by kernel_rfl)) (by kernel_rfl) (by kernel_rfl) (by kernel_rfl)
      (by rw [MakeChecks.laidMetH_plain _ _ _ (by kernel_rfl)]; exact laidMet_laidAll _ (by kernel_rfl) (by kernel_rfl))) ?_
  intro W base args ds gs before hval0 hW hcnd hx1 hx2 hx3
  have hX : laidMetH Tryd.prog Rows.fourShortRow.laid W := by first | exact hx1 | exact hx2 | exact hx3 | exact hx1.1 | exact hx2.1 | exact hx1.2 | exact hx2.2
  rw [MakeChecks.laidMetH_plain _ _ _ (by kernel_rfl)] at hX
  have hL0 : laidMet Tryd.prog [("math/bits.deBruijn32tab", Rows.laid_math_bits_deBruijn32tab), ("math/bits.deBruijn64tab", Rows.laid_math_bits_deBruijn64tab), ("internal/strconv.uint64pow10", Rows.laid_internal_strconv_uint64pow10)] W := hX
  have hL1 := hL0.tail
  have hL2 := hL1.tail
  have hQpow : laidMet Tryd.prog ((("internal/strconv.uint64pow10", Lib.tabData .u64 Lib.pow10Tab) : String × DataW Unit) :: []) W := by
    rw [← show (Rows.laid_internal_strconv_uint64pow10 : DataW Unit) = Lib.tabData .u64 Lib.pow10Tab from by kernel_rfl]; exact hL2
  have hpow := Lib.tabIs_of_head (g := 0) (t := 65) (e := 22) (n := 20) (by kernel_rfl) (by kernel_rfl) Tryd.underlying65 Tryd.underlying22 (by kernel_rfl) (by kernel_rfl) hQpow
  have hQbru : laidMet Tryd.prog ((("math/bits.deBruijn64tab", Lib.tabData .u8 bruTab) : String × DataW Unit) :: [("internal/strconv.uint64pow10", Rows.laid_internal_strconv_uint64pow10)]) W := by
    rw [← show (Rows.laid_math_bits_deBruijn64tab : DataW Unit) = Lib.tabData .u8 bruTab from by kernel_rfl]; exact hL1
  have hbru := Lib.tabIs_of_head (g := 2) (t := 93) (e := 5) (n := 64) (by kernel_rfl) (by kernel_rfl) Tryd.underlying93 Tryd.underlying5 (by kernel_rfl) (by kernel_rfl) hQbru
  have hval : ∀ (j : Nat) t v, Tryd.f5.params[j]? = some t → args[j]? = some v → Value.okWide Tryd.prog W .any base t v := hval0
  have hW' := hW
  obtain ⟨p, q, hA0, hV, rfl, hfz, hnd⟩ := hW
  have hA : DataW.TrodAll enc Tryd.prog W 0 (fun _ => true) true Tryd.f5.params.toList args.toList ds p := hA0
  rw [Tryd.params5] at hA hval
  obtain ⟨v0, vs0, d0, ds0, p0, q0, hargs, rfl, rfl, h0, r0⟩ := trodAll_cons hA
  obtain ⟨v1, vs1, d1, ds1, p1, q1, rfl, rfl, rfl, h1, r1⟩ := trodAll_cons r0
  obtain ⟨v2, vs2, d2, ds2, p2, q2, rfl, rfl, rfl, h2, r2⟩ := trodAll_cons r1
  obtain ⟨v3, vs3, d3, ds3, p3, q3, rfl, rfl, rfl, h3, r3⟩ := trodAll_cons r2
  obtain ⟨rfl, rfl, rfl⟩ := trodAll_nil r3
  obtain rfl : args = #[v0, v1, v2, v3] := by cases args; simp_all
  obtain ⟨rfl, rfl⟩ := trodVars_none hV
  obtain ⟨a0, rfl, rfl, rfl, w0⟩ := open_int Tryd.underlying31 (hval 0 31 v0 rfl rfl) h0
  obtain ⟨a1, rfl, rfl, rfl, w1⟩ := open_int Tryd.underlying5 (hval 1 5 v1 rfl rfl) h1
  obtain ⟨a3, rfl, rfl, rfl⟩ := open_bool Tryd.underlying4 (hval 3 4 v3 rfl rfl) h3
  obtain ⟨cs, rfl, hsz, _⟩ : ∃ cs, v2 = .agg cs ∧ cs.size = Tryd.prog.cellsOf 33 ∧ Row.okWide Tryd.prog W .any base 33 cs := by
    have := hval 2 33 v2 rfl rfl
    simpa [Value.okWide, Tryd.underlying33] using this
  rw [cells_arr] at hsz
  obtain ⟨l⟩ := cs
  obtain ⟨c0, c1, c2, c3, rfl⟩ := list4 l hsz
  obtain ⟨fuel, hf⟩ := h2
  obtain ⟨y0, y1, y2, y3, m, hx, hy0, hy1, hy2, hy3⟩ := trod_array4 Tryd.underlying33 cells_u8 hf
  obtain ⟨b0, e0, rfl, u0⟩ := DataW.trod_int Tryd.underlying5 hy0
  obtain ⟨b1, e1, rfl, u1⟩ := DataW.trod_int Tryd.underlying5 hy1
  obtain ⟨b2, e2, rfl, u2⟩ := DataW.trod_int Tryd.underlying5 hy2
  obtain ⟨b3, e3, rfl, u3⟩ := DataW.trod_int Tryd.underlying5 hy3
  simp at e0 e1 e2 e3
  subst e0 e1 e2 e3
  simp only [Prod.mk.injEq] at hx
  obtain ⟨rfl, rfl⟩ := hx
  clear hA0 hval0
  refine (walk a0 a1 b0 b1 b2 b3 a3 w0 w1 u0 u1 u2 u3 W hpow hbru).mono fun e W' ⟨he, hg⟩ => ?_
  subst he
  have rdA : ∀ sp : Nat → Bool, DataW.Trod enc Tryd.prog W' 0 sp true 33 (.agg #[.int .u8 b0, .int .u8 b1, .int .u8 b2, .int .u8 b3]) (DataW.agg [.lit (.int .u8 b0), .lit (.int .u8 b1), .lit (.int .u8 b2), .lit (.int .u8 b3)]) [] := fun sp => ⟨2, by simp [DataW.trod, Value.cells, Tryd.underlying33, Tryd.underlying5, cells_arr, cells_u8, u0, u1, u2, u3, show List.range 4 = [0, 1, 2, 3] from rfl]⟩
  exact ⟨_, rfl, _, _, _, [], _, [], hW', (trodAll_cons_mk (shut_bool Tryd.underlying4 _) trodAll_mk0), (trodAll_cons_mk (shut_int Tryd.underlying31 w0) (trodAll_cons_mk (shut_int Tryd.underlying5 w1) (trodAll_cons_mk (rdA _) (trodAll_cons_mk (shut_bool Tryd.underlying4 _) trodAll_mk0)))), rfl, hg.frame _, fun h => by cases h⟩

theorem over : Rows.fourShortRow.holds Tryd.pinned (OpenSpec.ofChange Rows.fourShortSpec) :=
  OpenClaim.holds_of_wide 5 Tryd.f5 rfl rfl rfl rfl rfl rfl rfl ⟨rfl, rfl, rfl, rfl, rfl⟩ rfl rfl rfl rfl rfl (by kernel_rfl) Tryd.func5 (by kernel_rfl)
    (of_decide_eq_true (by kernel_rfl)) (by unfold Func.isWrapper; first | (rw [if_pos (by decide +kernel)]; kernel_rfl) | (rw [if_neg (by decide +kernel)]; exact ⟨rfl, rfl⟩))
    (fun os started H enc _ => lifted os started H enc)

/-- the statement: the row, tied to the program's text -/
theorem proved : Rows.FourShortCardSaid :=
  Claim7.holds_tied_plain_at .later [] _ _ _ _ over (fun _ h => by cases h) (by kernel_rfl) (fun _ h => by cases h) fourShort_row_tie rfl ⟨rfl, rfl⟩ (by kernel_rfl) rfl
    (fun f fn hf hfn => by
      obtain rfl : f = 5 := Option.some.inj ((show Tryd.prog.funcNamed Rows.fourShortRow.func = some 5 by kernel_rfl).symm.trans hf) |>.symm
      obtain rfl : fn = Tryd.f5 := (Option.some.inj (Tryd.func5.symm.trans hfn)).symm
      exact ⟨by kernel_rfl, fun j t ht => by
        rw [Tryd.params5] at ht
        have hm : t ∈ [31, 5, 33, 4] := by simpa using Array.mem_of_getElem? ht
        have hall : ([31, 5, 33, 4].all fun u => !Tryd.prog.wantsStandIn u) = true := by kernel_rfl
        exact (show Tryd.prog.wantsStandIn t = false by simpa using List.all_eq_true.1 hall t hm)⟩)
    (by kernel_rfl)
#print axioms proved
end Go.Proofs.YtaojjkknmaldiaaDoor.fourShort
