/-
  What the law PinNone leans on, and its walk (3 of 12).
-/
import Derived.Laws.BitsLemmas
import Derived.Deep.DeepCutAuto
import Derived.Lib.ItoaNum
import Derived.Test.YtpmaemedpcgjaaaGreatDoorShelf
import Derived.Lib.AppendIntMem
import Derived.Lib.SmallJoins
import Derived.Test.YtpmaemedpcgjaaaGreatDoorPinNonePkB
import Derived.Test.YtpmaemedpcgjaaaGreatDoorPinNonePkA
namespace Go.Proofs.YtpmaemedpcgjaaaGreatDoor
set_option maxRecDepth 100000
set_option maxHeartbeats 16000000
section
section
open Go.RowKit
abbrev PowTab (w:World):Prop:=Lib.TabIs Tryz.prog w "internal/strconv.uint64pow10" .u64 Lib.pow10Tab
theorem zaC {w w':World} (h:PowTab w) (a:Below w.heap.size w w'):PowTab w':=
 Lib.tabBelow_of_tabIs h w' a
theorem zhA (i:Nat) (x y:Int) (d:0≤x) (e:x % 2^i=0) (a:x<18446744073709551616) (c:0≤y) (f:y<2^i) (b:y<18446744073709551616):bits .or .u64 x y=x+y:=
 bits_join .u64 64 (by decide) (fun n h g=>by rw [IntKind.wrap_u64];omega) i x y d e a c f b
end
section
open Go.RowKit Go.Sort Go.Lib
def bruTab:List Int:=[0,1,56,2,57,49,28,3,61,58,42,50,38,29,17,4,62,47,59,36,45,43,51,22,53,39,33,30,24,18,12,5,63,55,48,27,60,41,37,16,46,35,44,21,52,32,23,11,54,26,40,15,34,20,31,10,25,14,19,9,13,8,7,6]
abbrev BruTab (w:World):Prop:=Lib.TabIs Tryz.prog w "math/bits.deBruijn64tab" .u8 bruTab
theorem zaB {w w':World} (h:BruTab w) (a:Below w.heap.size w w'):BruTab w':=
 Lib.tabBelow_of_tabIs h w' a
theorem zhR (w:World) (h:BruTab w) (i:Nat) (hi:i<64):w.cell? ⟨5,i,none⟩=some (.int .u8 (bruTab.getD i 0)):=
 Lib.TabIs.cell h (by kernel_rfl) i (by simpa [bruTab] using hi)
theorem tz64_8 (w:World) (h:BruTab w):Calls Tryz.prog 319 #[.int .u64 8] w fun e w'=>e= .returned (.int .i64 3)∧w=w':=by
 have b:w.cell? ⟨5,7,none⟩=some (.int .u8 3):=zhR w h 7 (by decide)
 have c:IntKind.u64.wrap (-8)=18446744073709551608:=by decide
 have a:bits .and .u64 8 18446744073709551608=8:=by decide
 clear h
 go_enter Tryz.func319,Tryz.ntmps319
 go_wp2
 go_ret
 exact ⟨rfl,rfl⟩
theorem zhU (w:World) (h:BruTab w):Calls Tryz.prog 319 #[.int .u64 16] w fun e w'=>e= .returned (.int .i64 4)∧w=w':=by
 have b:w.cell? ⟨5,15,none⟩=some (.int .u8 4):=zhR w h 15 (by decide)
 have c:IntKind.u64.wrap (-16)=18446744073709551600:=by decide
 have a:bits .and .u64 16 18446744073709551600=16:=by decide
 clear h
 go_enter Tryz.func319,Tryz.ntmps319
 go_wp2
 go_ret
 exact ⟨rfl,rfl⟩
end
end
end Go.Proofs.YtpmaemedpcgjaaaGreatDoor
