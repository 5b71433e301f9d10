/-
  Layer 9: the table, row by row: the prefix that each text is.
-/
import Derived.Test.YtoobiaifogackaaGreatDoorTriX
import Derived.Test.YtoobiaifogackaaGreatDoorPreI
namespace Go.Proofs.YtoobiaifogackaaGreatDoor
open Go.RowKit


/-- a row of the table: a prefix as a wide number, its length, its name -/
structure R9 where
  W : Nat
  n : Nat
  s : List UInt8
  deriving DecidableEq

theorem a9_0 : addrZ [48, 46, 48, 46, 48, 46, 48] = some (.four 0) := by
  unfold addrZ
  rw [show strictZ [48, 46, 48, 46, 48, 46, 48] = (0, true) from by decide +kernel]; rfl
theorem p9_0 : parseP [48, 46, 48, 46, 48, 46, 48, 47, 56] = some (281470681743360, 104) := by
  unfold parseP
  rw [show ([48, 46, 48, 46, 48, 46, 48, 47, 56] : List UInt8) = [48, 46, 48, 46, 48, 46, 48] ++ 47 :: [56] from rfl, slc_some [56] (by decide)]
  unfold prefZ
  rw [a9_0]
  simp only []
  rw [show decZ [56] (128 - (AZ.four 0).ahead) = (8, true) from by decide +kernel, show (AZ.four 0).wd = 281470681743360 from by decide +kernel, show (AZ.four 0).ahead + (8, true).1 = 104 from rfl, show pRightB 281470681743360 104 = true from by decide +kernel]
  rfl
theorem a9_1 : addrZ [49, 48, 46, 48, 46, 48, 46, 48] = some (.four 167772160) := by
  unfold addrZ
  rw [show strictZ [49, 48, 46, 48, 46, 48, 46, 48] = (167772160, true) from by decide +kernel]; rfl
theorem p9_1 : parseP [49, 48, 46, 48, 46, 48, 46, 48, 47, 56] = some (281470849515520, 104) := by
  unfold parseP
  rw [show ([49, 48, 46, 48, 46, 48, 46, 48, 47, 56] : List UInt8) = [49, 48, 46, 48, 46, 48, 46, 48] ++ 47 :: [56] from rfl, slc_some [56] (by decide)]
  unfold prefZ
  rw [a9_1]
  simp only []
  rw [show decZ [56] (128 - (AZ.four 167772160).ahead) = (8, true) from by decide +kernel, show (AZ.four 167772160).wd = 281470849515520 from by decide +kernel, show (AZ.four 167772160).ahead + (8, true).1 = 104 from rfl, show pRightB 281470849515520 104 = true from by decide +kernel]
  rfl
theorem a9_2 : addrZ [49, 48, 48, 46, 54, 52, 46, 48, 46, 48] = some (.four 1681915904) := by
  unfold addrZ
  rw [show strictZ [49, 48, 48, 46, 54, 52, 46, 48, 46, 48] = (1681915904, true) from by decide +kernel]; rfl
theorem p9_2 : parseP [49, 48, 48, 46, 54, 52, 46, 48, 46, 48, 47, 49, 48] = some (281472363659264, 106) := by
  unfold parseP
  rw [show ([49, 48, 48, 46, 54, 52, 46, 48, 46, 48, 47, 49, 48] : List UInt8) = [49, 48, 48, 46, 54, 52, 46, 48, 46, 48] ++ 47 :: [49, 48] from rfl, slc_some [49, 48] (by decide)]
  unfold prefZ
  rw [a9_2]
  simp only []
  rw [show decZ [49, 48] (128 - (AZ.four 1681915904).ahead) = (10, true) from by decide +kernel, show (AZ.four 1681915904).wd = 281472363659264 from by decide +kernel, show (AZ.four 1681915904).ahead + (10, true).1 = 106 from rfl, show pRightB 281472363659264 106 = true from by decide +kernel]
  rfl
theorem a9_3 : addrZ [49, 50, 55, 46, 48, 46, 48, 46, 48] = some (.four 2130706432) := by
  unfold addrZ
  rw [show strictZ [49, 50, 55, 46, 48, 46, 48, 46, 48] = (2130706432, true) from by decide +kernel]; rfl
theorem p9_3 : parseP [49, 50, 55, 46, 48, 46, 48, 46, 48, 47, 56] = some (281472812449792, 104) := by
  unfold parseP
  rw [show ([49, 50, 55, 46, 48, 46, 48, 46, 48, 47, 56] : List UInt8) = [49, 50, 55, 46, 48, 46, 48, 46, 48] ++ 47 :: [56] from rfl, slc_some [56] (by decide)]
  unfold prefZ
  rw [a9_3]
  simp only []
  rw [show decZ [56] (128 - (AZ.four 2130706432).ahead) = (8, true) from by decide +kernel, show (AZ.four 2130706432).wd = 281472812449792 from by decide +kernel, show (AZ.four 2130706432).ahead + (8, true).1 = 104 from rfl, show pRightB 281472812449792 104 = true from by decide +kernel]
  rfl
theorem a9_4 : addrZ [49, 54, 57, 46, 50, 53, 52, 46, 48, 46, 48] = some (.four 2851995648) := by
  unfold addrZ
  rw [show strictZ [49, 54, 57, 46, 50, 53, 52, 46, 48, 46, 48] = (2851995648, true) from by decide +kernel]; rfl
theorem p9_4 : parseP [49, 54, 57, 46, 50, 53, 52, 46, 48, 46, 48, 47, 49, 54] = some (281473533739008, 112) := by
  unfold parseP
  rw [show ([49, 54, 57, 46, 50, 53, 52, 46, 48, 46, 48, 47, 49, 54] : List UInt8) = [49, 54, 57, 46, 50, 53, 52, 46, 48, 46, 48] ++ 47 :: [49, 54] from rfl, slc_some [49, 54] (by decide)]
  unfold prefZ
  rw [a9_4]
  simp only []
  rw [show decZ [49, 54] (128 - (AZ.four 2851995648).ahead) = (16, true) from by decide +kernel, show (AZ.four 2851995648).wd = 281473533739008 from by decide +kernel, show (AZ.four 2851995648).ahead + (16, true).1 = 112 from rfl, show pRightB 281473533739008 112 = true from by decide +kernel]
  rfl
theorem a9_5 : addrZ [49, 55, 50, 46, 49, 54, 46, 48, 46, 48] = some (.four 2886729728) := by
  unfold addrZ
  rw [show strictZ [49, 55, 50, 46, 49, 54, 46, 48, 46, 48] = (2886729728, true) from by decide +kernel]; rfl
theorem p9_5 : parseP [49, 55, 50, 46, 49, 54, 46, 48, 46, 48, 47, 49, 50] = some (281473568473088, 108) := by
  unfold parseP
  rw [show ([49, 55, 50, 46, 49, 54, 46, 48, 46, 48, 47, 49, 50] : List UInt8) = [49, 55, 50, 46, 49, 54, 46, 48, 46, 48] ++ 47 :: [49, 50] from rfl, slc_some [49, 50] (by decide)]
  unfold prefZ
  rw [a9_5]
  simp only []
  rw [show decZ [49, 50] (128 - (AZ.four 2886729728).ahead) = (12, true) from by decide +kernel, show (AZ.four 2886729728).wd = 281473568473088 from by decide +kernel, show (AZ.four 2886729728).ahead + (12, true).1 = 108 from rfl, show pRightB 281473568473088 108 = true from by decide +kernel]
  rfl
theorem a9_6 : addrZ [49, 57, 50, 46, 48, 46, 48, 46, 48] = some (.four 3221225472) := by
  unfold addrZ
  rw [show strictZ [49, 57, 50, 46, 48, 46, 48, 46, 48] = (3221225472, true) from by decide +kernel]; rfl
theorem p9_6 : parseP [49, 57, 50, 46, 48, 46, 48, 46, 48, 47, 50, 52] = some (281473902968832, 120) := by
  unfold parseP
  rw [show ([49, 57, 50, 46, 48, 46, 48, 46, 48, 47, 50, 52] : List UInt8) = [49, 57, 50, 46, 48, 46, 48, 46, 48] ++ 47 :: [50, 52] from rfl, slc_some [50, 52] (by decide)]
  unfold prefZ
  rw [a9_6]
  simp only []
  rw [show decZ [50, 52] (128 - (AZ.four 3221225472).ahead) = (24, true) from by decide +kernel, show (AZ.four 3221225472).wd = 281473902968832 from by decide +kernel, show (AZ.four 3221225472).ahead + (24, true).1 = 120 from rfl, show pRightB 281473902968832 120 = true from by decide +kernel]
  rfl
theorem a9_7 : addrZ [49, 57, 50, 46, 48, 46, 50, 46, 48] = some (.four 3221225984) := by
  unfold addrZ
  rw [show strictZ [49, 57, 50, 46, 48, 46, 50, 46, 48] = (3221225984, true) from by decide +kernel]; rfl
theorem p9_7 : parseP [49, 57, 50, 46, 48, 46, 50, 46, 48, 47, 50, 52] = some (281473902969344, 120) := by
  unfold parseP
  rw [show ([49, 57, 50, 46, 48, 46, 50, 46, 48, 47, 50, 52] : List UInt8) = [49, 57, 50, 46, 48, 46, 50, 46, 48] ++ 47 :: [50, 52] from rfl, slc_some [50, 52] (by decide)]
  unfold prefZ
  rw [a9_7]
  simp only []
  rw [show decZ [50, 52] (128 - (AZ.four 3221225984).ahead) = (24, true) from by decide +kernel, show (AZ.four 3221225984).wd = 281473902969344 from by decide +kernel, show (AZ.four 3221225984).ahead + (24, true).1 = 120 from rfl, show pRightB 281473902969344 120 = true from by decide +kernel]
  rfl
theorem a9_8 : addrZ [49, 57, 50, 46, 56, 56, 46, 57, 57, 46, 48] = some (.four 3227017984) := by
  unfold addrZ
  rw [show strictZ [49, 57, 50, 46, 56, 56, 46, 57, 57, 46, 48] = (3227017984, true) from by decide +kernel]; rfl
theorem p9_8 : parseP [49, 57, 50, 46, 56, 56, 46, 57, 57, 46, 48, 47, 50, 52] = some (281473908761344, 120) := by
  unfold parseP
  rw [show ([49, 57, 50, 46, 56, 56, 46, 57, 57, 46, 48, 47, 50, 52] : List UInt8) = [49, 57, 50, 46, 56, 56, 46, 57, 57, 46, 48] ++ 47 :: [50, 52] from rfl, slc_some [50, 52] (by decide)]
  unfold prefZ
  rw [a9_8]
  simp only []
  rw [show decZ [50, 52] (128 - (AZ.four 3227017984).ahead) = (24, true) from by decide +kernel, show (AZ.four 3227017984).wd = 281473908761344 from by decide +kernel, show (AZ.four 3227017984).ahead + (24, true).1 = 120 from rfl, show pRightB 281473908761344 120 = true from by decide +kernel]
  rfl
theorem a9_9 : addrZ [49, 57, 50, 46, 49, 54, 56, 46, 48, 46, 48] = some (.four 3232235520) := by
  unfold addrZ
  rw [show strictZ [49, 57, 50, 46, 49, 54, 56, 46, 48, 46, 48] = (3232235520, true) from by decide +kernel]; rfl
theorem p9_9 : parseP [49, 57, 50, 46, 49, 54, 56, 46, 48, 46, 48, 47, 49, 54] = some (281473913978880, 112) := by
  unfold parseP
  rw [show ([49, 57, 50, 46, 49, 54, 56, 46, 48, 46, 48, 47, 49, 54] : List UInt8) = [49, 57, 50, 46, 49, 54, 56, 46, 48, 46, 48] ++ 47 :: [49, 54] from rfl, slc_some [49, 54] (by decide)]
  unfold prefZ
  rw [a9_9]
  simp only []
  rw [show decZ [49, 54] (128 - (AZ.four 3232235520).ahead) = (16, true) from by decide +kernel, show (AZ.four 3232235520).wd = 281473913978880 from by decide +kernel, show (AZ.four 3232235520).ahead + (16, true).1 = 112 from rfl, show pRightB 281473913978880 112 = true from by decide +kernel]
  rfl
theorem a9_10 : addrZ [49, 57, 56, 46, 49, 56, 46, 48, 46, 48] = some (.four 3323068416) := by
  unfold addrZ
  rw [show strictZ [49, 57, 56, 46, 49, 56, 46, 48, 46, 48] = (3323068416, true) from by decide +kernel]; rfl
theorem p9_10 : parseP [49, 57, 56, 46, 49, 56, 46, 48, 46, 48, 47, 49, 53] = some (281474004811776, 111) := by
  unfold parseP
  rw [show ([49, 57, 56, 46, 49, 56, 46, 48, 46, 48, 47, 49, 53] : List UInt8) = [49, 57, 56, 46, 49, 56, 46, 48, 46, 48] ++ 47 :: [49, 53] from rfl, slc_some [49, 53] (by decide)]
  unfold prefZ
  rw [a9_10]
  simp only []
  rw [show decZ [49, 53] (128 - (AZ.four 3323068416).ahead) = (15, true) from by decide +kernel, show (AZ.four 3323068416).wd = 281474004811776 from by decide +kernel, show (AZ.four 3323068416).ahead + (15, true).1 = 111 from rfl, show pRightB 281474004811776 111 = true from by decide +kernel]
  rfl
theorem a9_11 : addrZ [49, 57, 56, 46, 53, 49, 46, 49, 48, 48, 46, 48] = some (.four 3325256704) := by
  unfold addrZ
  rw [show strictZ [49, 57, 56, 46, 53, 49, 46, 49, 48, 48, 46, 48] = (3325256704, true) from by decide +kernel]; rfl
theorem p9_11 : parseP [49, 57, 56, 46, 53, 49, 46, 49, 48, 48, 46, 48, 47, 50, 52] = some (281474007000064, 120) := by
  unfold parseP
  rw [show ([49, 57, 56, 46, 53, 49, 46, 49, 48, 48, 46, 48, 47, 50, 52] : List UInt8) = [49, 57, 56, 46, 53, 49, 46, 49, 48, 48, 46, 48] ++ 47 :: [50, 52] from rfl, slc_some [50, 52] (by decide)]
  unfold prefZ
  rw [a9_11]
  simp only []
  rw [show decZ [50, 52] (128 - (AZ.four 3325256704).ahead) = (24, true) from by decide +kernel, show (AZ.four 3325256704).wd = 281474007000064 from by decide +kernel, show (AZ.four 3325256704).ahead + (24, true).1 = 120 from rfl, show pRightB 281474007000064 120 = true from by decide +kernel]
  rfl
theorem a9_12 : addrZ [50, 48, 51, 46, 48, 46, 49, 49, 51, 46, 48] = some (.four 3405803776) := by
  unfold addrZ
  rw [show strictZ [50, 48, 51, 46, 48, 46, 49, 49, 51, 46, 48] = (3405803776, true) from by decide +kernel]; rfl
theorem p9_12 : parseP [50, 48, 51, 46, 48, 46, 49, 49, 51, 46, 48, 47, 50, 52] = some (281474087547136, 120) := by
  unfold parseP
  rw [show ([50, 48, 51, 46, 48, 46, 49, 49, 51, 46, 48, 47, 50, 52] : List UInt8) = [50, 48, 51, 46, 48, 46, 49, 49, 51, 46, 48] ++ 47 :: [50, 52] from rfl, slc_some [50, 52] (by decide)]
  unfold prefZ
  rw [a9_12]
  simp only []
  rw [show decZ [50, 52] (128 - (AZ.four 3405803776).ahead) = (24, true) from by decide +kernel, show (AZ.four 3405803776).wd = 281474087547136 from by decide +kernel, show (AZ.four 3405803776).ahead + (24, true).1 = 120 from rfl, show pRightB 281474087547136 120 = true from by decide +kernel]
  rfl
theorem a9_13 : addrZ [50, 50, 52, 46, 48, 46, 48, 46, 48] = some (.four 3758096384) := by
  unfold addrZ
  rw [show strictZ [50, 50, 52, 46, 48, 46, 48, 46, 48] = (3758096384, true) from by decide +kernel]; rfl
theorem p9_13 : parseP [50, 50, 52, 46, 48, 46, 48, 46, 48, 47, 52] = some (281474439839744, 100) := by
  unfold parseP
  rw [show ([50, 50, 52, 46, 48, 46, 48, 46, 48, 47, 52] : List UInt8) = [50, 50, 52, 46, 48, 46, 48, 46, 48] ++ 47 :: [52] from rfl, slc_some [52] (by decide)]
  unfold prefZ
  rw [a9_13]
  simp only []
  rw [show decZ [52] (128 - (AZ.four 3758096384).ahead) = (4, true) from by decide +kernel, show (AZ.four 3758096384).wd = 281474439839744 from by decide +kernel, show (AZ.four 3758096384).ahead + (4, true).1 = 100 from rfl, show pRightB 281474439839744 100 = true from by decide +kernel]
  rfl
theorem a9_14 : addrZ [50, 52, 48, 46, 48, 46, 48, 46, 48] = some (.four 4026531840) := by
  unfold addrZ
  rw [show strictZ [50, 52, 48, 46, 48, 46, 48, 46, 48] = (4026531840, true) from by decide +kernel]; rfl
theorem p9_14 : parseP [50, 52, 48, 46, 48, 46, 48, 46, 48, 47, 52] = some (281474708275200, 100) := by
  unfold parseP
  rw [show ([50, 52, 48, 46, 48, 46, 48, 46, 48, 47, 52] : List UInt8) = [50, 52, 48, 46, 48, 46, 48, 46, 48] ++ 47 :: [52] from rfl, slc_some [52] (by decide)]
  unfold prefZ
  rw [a9_14]
  simp only []
  rw [show decZ [52] (128 - (AZ.four 4026531840).ahead) = (4, true) from by decide +kernel, show (AZ.four 4026531840).wd = 281474708275200 from by decide +kernel, show (AZ.four 4026531840).ahead + (4, true).1 = 100 from rfl, show pRightB 281474708275200 100 = true from by decide +kernel]
  rfl
theorem a9_15 : addrZ [58, 58] = some (.six 0 0) := by
  unfold addrZ
  rw [show strictZ [58, 58] = (0, false) from by decide +kernel, show sixZ [58, 58] = ((0, 0), true) from by decide +kernel]; rfl
theorem p9_15 : parseP [58, 58, 47, 49, 50, 56] = some (0, 128) := by
  unfold parseP
  rw [show ([58, 58, 47, 49, 50, 56] : List UInt8) = [58, 58] ++ 47 :: [49, 50, 56] from rfl, slc_some [49, 50, 56] (by decide)]
  unfold prefZ
  rw [a9_15]
  simp only []
  rw [show decZ [49, 50, 56] (128 - (AZ.six 0 0).ahead) = (128, true) from by decide +kernel, show (AZ.six 0 0).wd = 0 from by decide +kernel, show (AZ.six 0 0).ahead + (128, true).1 = 128 from rfl, show pRightB 0 128 = true from by decide +kernel]
  rfl
theorem a9_16 : addrZ [58, 58, 49] = some (.six 0 1) := by
  unfold addrZ
  rw [show strictZ [58, 58, 49] = (0, false) from by decide +kernel, show sixZ [58, 58, 49] = ((0, 1), true) from by decide +kernel]; rfl
theorem p9_16 : parseP [58, 58, 49, 47, 49, 50, 56] = some (1, 128) := by
  unfold parseP
  rw [show ([58, 58, 49, 47, 49, 50, 56] : List UInt8) = [58, 58, 49] ++ 47 :: [49, 50, 56] from rfl, slc_some [49, 50, 56] (by decide)]
  unfold prefZ
  rw [a9_16]
  simp only []
  rw [show decZ [49, 50, 56] (128 - (AZ.six 0 1).ahead) = (128, true) from by decide +kernel, show (AZ.six 0 1).wd = 1 from by decide +kernel, show (AZ.six 0 1).ahead + (128, true).1 = 128 from rfl, show pRightB 1 128 = true from by decide +kernel]
  rfl
theorem a9_17 : addrZ [54, 52, 58, 102, 102, 57, 98, 58, 49, 58, 58] = some (.six 28428538856144896 0) := by
  unfold addrZ
  rw [show strictZ [54, 52, 58, 102, 102, 57, 98, 58, 49, 58, 58] = (0, false) from by decide +kernel, show sixZ [54, 52, 58, 102, 102, 57, 98, 58, 49, 58, 58] = ((28428538856144896, 0), true) from by decide +kernel]; rfl
theorem p9_17 : parseP [54, 52, 58, 102, 102, 57, 98, 58, 49, 58, 58, 47, 52, 56] = some (524413980668812575603097810486951936, 48) := by
  unfold parseP
  rw [show ([54, 52, 58, 102, 102, 57, 98, 58, 49, 58, 58, 47, 52, 56] : List UInt8) = [54, 52, 58, 102, 102, 57, 98, 58, 49, 58, 58] ++ 47 :: [52, 56] from rfl, slc_some [52, 56] (by decide)]
  unfold prefZ
  rw [a9_17]
  simp only []
  rw [show decZ [52, 56] (128 - (AZ.six 28428538856144896 0).ahead) = (48, true) from by decide +kernel, show (AZ.six 28428538856144896 0).wd = 524413980668812575603097810486951936 from by decide +kernel, show (AZ.six 28428538856144896 0).ahead + (48, true).1 = 48 from rfl, show pRightB 524413980668812575603097810486951936 48 = true from by decide +kernel]
  rfl
theorem a9_18 : addrZ [49, 48, 48, 58, 58] = some (.six 72057594037927936 0) := by
  unfold addrZ
  rw [show strictZ [49, 48, 48, 58, 58] = (0, false) from by decide +kernel, show sixZ [49, 48, 48, 58, 58] = ((72057594037927936, 0), true) from by decide +kernel]; rfl
theorem p9_18 : parseP [49, 48, 48, 58, 58, 47, 54, 52] = some (1329227995784915872903807060280344576, 64) := by
  unfold parseP
  rw [show ([49, 48, 48, 58, 58, 47, 54, 52] : List UInt8) = [49, 48, 48, 58, 58] ++ 47 :: [54, 52] from rfl, slc_some [54, 52] (by decide)]
  unfold prefZ
  rw [a9_18]
  simp only []
  rw [show decZ [54, 52] (128 - (AZ.six 72057594037927936 0).ahead) = (64, true) from by decide +kernel, show (AZ.six 72057594037927936 0).wd = 1329227995784915872903807060280344576 from by decide +kernel, show (AZ.six 72057594037927936 0).ahead + (64, true).1 = 64 from rfl, show pRightB 1329227995784915872903807060280344576 64 = true from by decide +kernel]
  rfl
theorem a9_19 : addrZ [50, 48, 48, 49, 58, 58] = some (.six 2306124484190404608 0) := by
  unfold addrZ
  rw [show strictZ [50, 48, 48, 49, 58, 58] = (0, false) from by decide +kernel, show sixZ [50, 48, 48, 49, 58, 58] = ((2306124484190404608, 0), true) from by decide +kernel]; rfl
theorem p9_19 : parseP [50, 48, 48, 49, 58, 58, 47, 50, 51] = some (42540488161975842760550356425300246528, 23) := by
  unfold parseP
  rw [show ([50, 48, 48, 49, 58, 58, 47, 50, 51] : List UInt8) = [50, 48, 48, 49, 58, 58] ++ 47 :: [50, 51] from rfl, slc_some [50, 51] (by decide)]
  unfold prefZ
  rw [a9_19]
  simp only []
  rw [show decZ [50, 51] (128 - (AZ.six 2306124484190404608 0).ahead) = (23, true) from by decide +kernel, show (AZ.six 2306124484190404608 0).wd = 42540488161975842760550356425300246528 from by decide +kernel, show (AZ.six 2306124484190404608 0).ahead + (23, true).1 = 23 from rfl, show pRightB 42540488161975842760550356425300246528 23 = true from by decide +kernel]
  rfl
theorem a9_20 : addrZ [50, 48, 48, 49, 58, 100, 98, 56, 58, 58] = some (.six 2306139568115548160 0) := by
  unfold addrZ
  rw [show strictZ [50, 48, 48, 49, 58, 100, 98, 56, 58, 58] = (0, false) from by decide +kernel, show sixZ [50, 48, 48, 49, 58, 100, 98, 56, 58, 58] = ((2306139568115548160, 0), true) from by decide +kernel]; rfl
theorem p9_20 : parseP [50, 48, 48, 49, 58, 100, 98, 56, 58, 58, 47, 51, 50] = some (42540766411282592856903984951653826560, 32) := by
  unfold parseP
  rw [show ([50, 48, 48, 49, 58, 100, 98, 56, 58, 58, 47, 51, 50] : List UInt8) = [50, 48, 48, 49, 58, 100, 98, 56, 58, 58] ++ 47 :: [51, 50] from rfl, slc_some [51, 50] (by decide)]
  unfold prefZ
  rw [a9_20]
  simp only []
  rw [show decZ [51, 50] (128 - (AZ.six 2306139568115548160 0).ahead) = (32, true) from by decide +kernel, show (AZ.six 2306139568115548160 0).wd = 42540766411282592856903984951653826560 from by decide +kernel, show (AZ.six 2306139568115548160 0).ahead + (32, true).1 = 32 from rfl, show pRightB 42540766411282592856903984951653826560 32 = true from by decide +kernel]
  rfl
theorem a9_21 : addrZ [51, 102, 102, 102, 58, 58] = some (.six 4611404543450677248 0) := by
  unfold addrZ
  rw [show strictZ [51, 102, 102, 102, 58, 58] = (0, false) from by decide +kernel, show sixZ [51, 102, 102, 102, 58, 58] = ((4611404543450677248, 0), true) from by decide +kernel]; rfl
theorem p9_21 : parseP [51, 102, 102, 102, 58, 58, 47, 50, 48] = some (85065399433376081038215121361612832768, 20) := by
  unfold parseP
  rw [show ([51, 102, 102, 102, 58, 58, 47, 50, 48] : List UInt8) = [51, 102, 102, 102, 58, 58] ++ 47 :: [50, 48] from rfl, slc_some [50, 48] (by decide)]
  unfold prefZ
  rw [a9_21]
  simp only []
  rw [show decZ [50, 48] (128 - (AZ.six 4611404543450677248 0).ahead) = (20, true) from by decide +kernel, show (AZ.six 4611404543450677248 0).wd = 85065399433376081038215121361612832768 from by decide +kernel, show (AZ.six 4611404543450677248 0).ahead + (20, true).1 = 20 from rfl, show pRightB 85065399433376081038215121361612832768 20 = true from by decide +kernel]
  rfl
theorem a9_22 : addrZ [53, 102, 48, 48, 58, 58] = some (.six 6845471433603153920 0) := by
  unfold addrZ
  rw [show strictZ [53, 102, 48, 48, 58, 58] = (0, false) from by decide +kernel, show sixZ [53, 102, 48, 48, 58, 58] = ((6845471433603153920, 0), true) from by decide +kernel]; rfl
theorem p9_22 : parseP [53, 102, 48, 48, 58, 58, 47, 49, 54] = some (126276659599567007925861670726632734720, 16) := by
  unfold parseP
  rw [show ([53, 102, 48, 48, 58, 58, 47, 49, 54] : List UInt8) = [53, 102, 48, 48, 58, 58] ++ 47 :: [49, 54] from rfl, slc_some [49, 54] (by decide)]
  unfold prefZ
  rw [a9_22]
  simp only []
  rw [show decZ [49, 54] (128 - (AZ.six 6845471433603153920 0).ahead) = (16, true) from by decide +kernel, show (AZ.six 6845471433603153920 0).wd = 126276659599567007925861670726632734720 from by decide +kernel, show (AZ.six 6845471433603153920 0).ahead + (16, true).1 = 16 from rfl, show pRightB 126276659599567007925861670726632734720 16 = true from by decide +kernel]
  rfl
theorem a9_23 : addrZ [102, 99, 48, 48, 58, 58] = some (.six 18158513697557839872 0) := by
  unfold addrZ
  rw [show strictZ [102, 99, 48, 48, 58, 58] = (0, false) from by decide +kernel, show sixZ [102, 99, 48, 48, 58, 58] = ((18158513697557839872, 0), true) from by decide +kernel]; rfl
theorem p9_23 : parseP [102, 99, 48, 48, 58, 58, 47, 55] = some (334965454937798799971759379190646833152, 7) := by
  unfold parseP
  rw [show ([102, 99, 48, 48, 58, 58, 47, 55] : List UInt8) = [102, 99, 48, 48, 58, 58] ++ 47 :: [55] from rfl, slc_some [55] (by decide)]
  unfold prefZ
  rw [a9_23]
  simp only []
  rw [show decZ [55] (128 - (AZ.six 18158513697557839872 0).ahead) = (7, true) from by decide +kernel, show (AZ.six 18158513697557839872 0).wd = 334965454937798799971759379190646833152 from by decide +kernel, show (AZ.six 18158513697557839872 0).ahead + (7, true).1 = 7 from rfl, show pRightB 334965454937798799971759379190646833152 7 = true from by decide +kernel]
  rfl
theorem a9_24 : addrZ [102, 101, 56, 48, 58, 58] = some (.six 18338657682652659712 0) := by
  unfold addrZ
  rw [show strictZ [102, 101, 56, 48, 58, 58] = (0, false) from by decide +kernel, show sixZ [102, 101, 56, 48, 58, 58] = ((18338657682652659712, 0), true) from by decide +kernel]; rfl
theorem p9_24 : parseP [102, 101, 56, 48, 58, 58, 47, 49, 48] = some (338288524927261089654018896841347694592, 10) := by
  unfold parseP
  rw [show ([102, 101, 56, 48, 58, 58, 47, 49, 48] : List UInt8) = [102, 101, 56, 48, 58, 58] ++ 47 :: [49, 48] from rfl, slc_some [49, 48] (by decide)]
  unfold prefZ
  rw [a9_24]
  simp only []
  rw [show decZ [49, 48] (128 - (AZ.six 18338657682652659712 0).ahead) = (10, true) from by decide +kernel, show (AZ.six 18338657682652659712 0).wd = 338288524927261089654018896841347694592 from by decide +kernel, show (AZ.six 18338657682652659712 0).ahead + (10, true).1 = 10 from rfl, show pRightB 338288524927261089654018896841347694592 10 = true from by decide +kernel]
  rfl
theorem a9_25 : addrZ [102, 101, 99, 48, 58, 58] = some (.six 18356672081162141696 0) := by
  unfold addrZ
  rw [show strictZ [102, 101, 99, 48, 58, 58] = (0, false) from by decide +kernel, show sixZ [102, 101, 99, 48, 58, 58] = ((18356672081162141696, 0), true) from by decide +kernel]; rfl
theorem p9_25 : parseP [102, 101, 99, 48, 58, 58, 47, 49, 48] = some (338620831926207318622244848606417780736, 10) := by
  unfold parseP
  rw [show ([102, 101, 99, 48, 58, 58, 47, 49, 48] : List UInt8) = [102, 101, 99, 48, 58, 58] ++ 47 :: [49, 48] from rfl, slc_some [49, 48] (by decide)]
  unfold prefZ
  rw [a9_25]
  simp only []
  rw [show decZ [49, 48] (128 - (AZ.six 18356672081162141696 0).ahead) = (10, true) from by decide +kernel, show (AZ.six 18356672081162141696 0).wd = 338620831926207318622244848606417780736 from by decide +kernel, show (AZ.six 18356672081162141696 0).ahead + (10, true).1 = 10 from rfl, show pRightB 338620831926207318622244848606417780736 10 = true from by decide +kernel]
  rfl
theorem a9_26 : addrZ [102, 102, 48, 48, 58, 58] = some (.six 18374686479671623680 0) := by
  unfold addrZ
  rw [show strictZ [102, 102, 48, 48, 58, 58] = (0, false) from by decide +kernel, show sixZ [102, 102, 48, 48, 58, 58] = ((18374686479671623680, 0), true) from by decide +kernel]; rfl
theorem p9_26 : parseP [102, 102, 48, 48, 58, 58, 47, 56] = some (338953138925153547590470800371487866880, 8) := by
  unfold parseP
  rw [show ([102, 102, 48, 48, 58, 58, 47, 56] : List UInt8) = [102, 102, 48, 48, 58, 58] ++ 47 :: [56] from rfl, slc_some [56] (by decide)]
  unfold prefZ
  rw [a9_26]
  simp only []
  rw [show decZ [56] (128 - (AZ.six 18374686479671623680 0).ahead) = (8, true) from by decide +kernel, show (AZ.six 18374686479671623680 0).wd = 338953138925153547590470800371487866880 from by decide +kernel, show (AZ.six 18374686479671623680 0).ahead + (8, true).1 = 8 from rfl, show pRightB 338953138925153547590470800371487866880 8 = true from by decide +kernel]
  rfl
/-- the table -/
def T9L : List R9 := [⟨281470681743360, 104, [116, 104, 105, 115]⟩, ⟨281470849515520, 104, [112, 114, 105, 118, 97, 116, 101]⟩, ⟨281472363659264, 106, [115, 104, 97, 114, 101, 100]⟩, ⟨281472812449792, 104, [108, 111, 111, 112, 98, 97, 99, 107]⟩, ⟨281473533739008, 112, [108, 105, 110, 107]⟩, ⟨281473568473088, 108, [112, 114, 105, 118, 97, 116, 101]⟩, ⟨281473902968832, 120, [112, 114, 111, 116, 111, 99, 111, 108]⟩, ⟨281473902969344, 120, [101, 120, 97, 109, 112, 108, 101]⟩, ⟨281473908761344, 120, [114, 101, 108, 97, 121]⟩, ⟨281473913978880, 112, [112, 114, 105, 118, 97, 116, 101]⟩, ⟨281474004811776, 111, [109, 101, 97, 115, 117, 114, 101]⟩, ⟨281474007000064, 120, [101, 120, 97, 109, 112, 108, 101]⟩, ⟨281474087547136, 120, [101, 120, 97, 109, 112, 108, 101]⟩, ⟨281474439839744, 100, [109, 117, 108, 116, 105, 99, 97, 115, 116]⟩, ⟨281474708275200, 100, [114, 101, 115, 101, 114, 118, 101, 100]⟩, ⟨0, 128, [110, 111, 110, 101]⟩, ⟨1, 128, [108, 111, 111, 112, 98, 97, 99, 107]⟩, ⟨524413980668812575603097810486951936, 48, [112, 114, 105, 118, 97, 116, 101]⟩, ⟨1329227995784915872903807060280344576, 64, [100, 105, 115, 99, 97, 114, 100]⟩, ⟨42540488161975842760550356425300246528, 23, [112, 114, 111, 116, 111, 99, 111, 108]⟩, ⟨42540766411282592856903984951653826560, 32, [101, 120, 97, 109, 112, 108, 101]⟩, ⟨85065399433376081038215121361612832768, 20, [101, 120, 97, 109, 112, 108, 101]⟩, ⟨126276659599567007925861670726632734720, 16, [115, 101, 103, 109, 101, 110, 116]⟩, ⟨334965454937798799971759379190646833152, 7, [112, 114, 105, 118, 97, 116, 101]⟩, ⟨338288524927261089654018896841347694592, 10, [108, 105, 110, 107]⟩, ⟨338620831926207318622244848606417780736, 10, [115, 105, 116, 101]⟩, ⟨338953138925153547590470800371487866880, 8, [109, 117, 108, 116, 105, 99, 97, 115, 116]⟩]
theorem T9_ex : ∃ l : List R9, l = T9L := ⟨T9L, rfl⟩
/-- the same, that nothing unfolds by itself -/
noncomputable def T9 : List R9 := Classical.choose T9_ex
theorem T9_is : T9 = T9L := Classical.choose_spec T9_ex
theorem T9_len : T9.length = 27 := by rw [T9_is]; decide
theorem T9L_right : ∀ r ∈ T9L, r.n ≤ 128 ∧ rt r.W r.n ∧ r.W < 2 ^ 128 := by unfold rt; decide +kernel
theorem T9_right : ∀ r ∈ T9, r.n ≤ 128 ∧ rt r.W r.n ∧ r.W < 2 ^ 128 := by rw [T9_is]; exact T9L_right

end Go.Proofs.YtoobiaifogackaaGreatDoor
