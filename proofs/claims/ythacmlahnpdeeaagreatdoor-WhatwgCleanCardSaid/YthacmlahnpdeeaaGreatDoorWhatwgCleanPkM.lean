/-
  What the law WhatwgClean leans on, and its walk (13 of 31).
-/
import Derived.Test.YthacmlahnpdeeaaGreatDoorWhatwgCleanPkF
import Derived.Test.YthacmlahnpdeeaaGreatDoorWhatwgCleanPkL
import Derived.Test.YthacmlahnpdeeaaGreatDoorWhatwgCleanPkK
namespace Go.Proofs.YthacmlahnpdeeaaGreatDoor
set_option maxRecDepth 100000
set_option maxHeartbeats 16000000
section
open Go.RowKit
theorem yiQ {A n:Nat} (h:A<2^128):ofW A n<2^128:=Nat.lt_of_le_of_lt (ofW_le A n) h
theorem row3 {W:World} {b:Nat} {x y z:Value} {t:TypeId} (h:W.heap[b]? =some (.cells #[x,y,z] t)):
  (W.cell? ⟨b,0,none⟩=some x∧W.cell? ⟨b,1,none⟩=some y∧W.cell? ⟨b,2,none⟩=some z)∧W.frozen? ⟨b,0,none⟩=false∧W.frozen? ⟨b,1,none⟩=false∧W.frozen? ⟨b,2,none⟩=false:=
 ⟨⟨zaD h 0,zaD h 1,zaD h 2⟩,zaK h 0,zaK h 1,zaK h 2⟩
end

section
open Go.RowKit
theorem z7G: ∀{a:List UInt8} (d:List UInt8),(47:UInt8)∉a→Lib.index (a++47::d) [47]=a.length
 |[],d,_=>by
  show Lib.index (47::d) [47]=_
  unfold Lib.index;simp [List.isPrefixOf]
 |c::a,d,h=>by
  have hc: ¬c=47:=fun e=>h (e▸List.mem_cons_self ..)
  have ih:=z7G (a:=a) d (fun g=>h (List.mem_cons_of_mem _ g))
  show Lib.index (c::(a++47::d)) [47]=_
  unfold Lib.index
  rw [ih]
  have h1:(([47]:List UInt8).isPrefixOf (c::(a++47::d)))=false:=by
   have hc': ¬(47:UInt8)=c:=fun e=>hc e.symm
   simp [List.isPrefixOf,hc']
  have h2:((a.length:Int)== -1)=false:=by rw [beq_eq_false_iff_ne];omega
  rw [h1,h2]
  simp
theorem zbO {a:List UInt8} (d:List UInt8) (h:(47:UInt8)∉a):Lib.cut (a++47::d) [47]=(a,d,true):=by
 unfold Lib.cut;rw [z7G d h,if_pos (by omega)]
 simp
theorem zsC (p:UInt8→Bool): ∀(l:List UInt8) (x s:List (List UInt8)) (y:List UInt8),l.foldl (zaR p) (x++s,y)=(x++(l.foldl (zaR p) (s,y)).1,(l.foldl (zaR p) (s,y)).2)
 |[],_,_,_=>rfl
 |c::l,x,s,y=>by
  rw [List.foldl_cons,List.foldl_cons]
  unfold zaR
  by_cases h:p c=true
  ·simp only [h,if_true]
   rw [List.append_assoc];exact zsC p l x _ _
  ·simp only [h];exact zsC p l x s _
theorem zoL (p:UInt8→Bool): ∀(l:List UInt8) (y:List UInt8),(∀c∈l,p c=false)→l.foldl (zaR p) (([]:List (List UInt8)),y)=([],y++l)
 |[],y,_=>by simp
 |c::l,y,h=>by
  rw [List.foldl_cons]
  have hc:=h c (List.mem_cons_self ..)
  have:zaR p ([],y) c=([],y++[c]):=by unfold zaR;simp [hc]
  rw [this,zoL p l _ (fun x hx=>h x (List.mem_cons_of_mem _ hx))]
  simp
def AZ.ahead:AZ→Int
 | .four _=>96
 | .six _ _=>0
/-- the prefix of an address and of digits -/
def zcH (a d:List UInt8):Option (Nat×Nat):=
 match zaY a with
 |none=>none
 |some z=>if (decZ d (128 - z.ahead)).2=true∧zaM z.wd (z.ahead+(decZ d (128 - z.ahead)).1)=true then some (z.wd,(z.ahead+(decZ d (128 - z.ahead)).1).toNat) else none
/-- the prefix that a text is -/
def zaV (l:List UInt8):Option (Nat×Nat):=zcH (Lib.cut l [47]).1 (Lib.cut l [47]).2.1
/-- what is returned of a text -/
def optP:Option (Nat×Nat)→Value
 |none=>pfW 0 0
 |some (W,k)=>pfW W k
def RetPf (w:World) (x:Option (Nat×Nat)) (e:Ending) (w':World):Prop:=e= .returned (.tuple #[optP x,.bool x.isSome])∧Below w.heap.size w w'
end

section
open Go.RowKit
/-- a row of the table:a prefix as a wide number,its length,its name -/
structure R9 where
 W:Nat
 n:Nat
 s:List UInt8
 deriving DecidableEq
theorem a9_0:zaY [48,46,48,46,48,46,48]=some (.four 0):=by
 unfold zaY
 rw [show zaN [48,46,48,46,48,46,48]=(0,true) from by decide+kernel];rfl
theorem p9_0:zaV [48,46,48,46,48,46,48,47,56]=some (281470681743360,104):=by
 unfold zaV
 rw [show ([48,46,48,46,48,46,48,47,56]:List UInt8)=[48,46,48,46,48,46,48]++47::[56] from rfl,zbO [56] (by decide)]
 unfold zcH
 rw [a9_0]
 simp only []
 rw [show decZ [56] (128 - (AZ.four 0).ahead)=(8,true) from by decide+kernel,show (AZ.four 0).wd=281470681743360 from by decide+kernel,show (AZ.four 0).ahead+(8,true).1=104 from rfl,show zaM 281470681743360 104=true from by decide+kernel]
 rfl
theorem a9_1:zaY [49,48,46,48,46,48,46,48]=some (.four 167772160):=by
 unfold zaY
 rw [show zaN [49,48,46,48,46,48,46,48]=(167772160,true) from by decide+kernel];rfl
theorem p9_1:zaV [49,48,46,48,46,48,46,48,47,56]=some (281470849515520,104):=by
 unfold zaV
 rw [show ([49,48,46,48,46,48,46,48,47,56]:List UInt8)=[49,48,46,48,46,48,46,48]++47::[56] from rfl,zbO [56] (by decide)]
 unfold zcH
 rw [a9_1]
 simp only []
 rw [show decZ [56] (128 - (AZ.four 167772160).ahead)=(8,true) from by decide+kernel,show (AZ.four 167772160).wd=281470849515520 from by decide+kernel,show (AZ.four 167772160).ahead+(8,true).1=104 from rfl,show zaM 281470849515520 104=true from by decide+kernel]
 rfl
theorem a9_2:zaY [49,48,48,46,54,52,46,48,46,48]=some (.four 1681915904):=by
 unfold zaY
 rw [show zaN [49,48,48,46,54,52,46,48,46,48]=(1681915904,true) from by decide+kernel];rfl
theorem p9_2:zaV [49,48,48,46,54,52,46,48,46,48,47,49,48]=some (281472363659264,106):=by
 unfold zaV
 rw [show ([49,48,48,46,54,52,46,48,46,48,47,49,48]:List UInt8)=[49,48,48,46,54,52,46,48,46,48]++47::[49,48] from rfl,zbO [49,48] (by decide)]
 unfold zcH
 rw [a9_2]
 simp only []
 rw [show decZ [49,48] (128 - (AZ.four 1681915904).ahead)=(10,true) from by decide+kernel,show (AZ.four 1681915904).wd=281472363659264 from by decide+kernel,show (AZ.four 1681915904).ahead+(10,true).1=106 from rfl,show zaM 281472363659264 106=true from by decide+kernel]
 rfl
theorem a9_3:zaY [49,50,55,46,48,46,48,46,48]=some (.four 2130706432):=by
 unfold zaY
 rw [show zaN [49,50,55,46,48,46,48,46,48]=(2130706432,true) from by decide+kernel];rfl
theorem p9_3:zaV [49,50,55,46,48,46,48,46,48,47,56]=some (281472812449792,104):=by
 unfold zaV
 rw [show ([49,50,55,46,48,46,48,46,48,47,56]:List UInt8)=[49,50,55,46,48,46,48,46,48]++47::[56] from rfl,zbO [56] (by decide)]
 unfold zcH
 rw [a9_3]
 simp only []
 rw [show decZ [56] (128 - (AZ.four 2130706432).ahead)=(8,true) from by decide+kernel,show (AZ.four 2130706432).wd=281472812449792 from by decide+kernel,show (AZ.four 2130706432).ahead+(8,true).1=104 from rfl,show zaM 281472812449792 104=true from by decide+kernel]
 rfl
theorem a9_4:zaY [49,54,57,46,50,53,52,46,48,46,48]=some (.four 2851995648):=by
 unfold zaY
 rw [show zaN [49,54,57,46,50,53,52,46,48,46,48]=(2851995648,true) from by decide+kernel];rfl
theorem p9_4:zaV [49,54,57,46,50,53,52,46,48,46,48,47,49,54]=some (281473533739008,112):=by
 unfold zaV
 rw [show ([49,54,57,46,50,53,52,46,48,46,48,47,49,54]:List UInt8)=[49,54,57,46,50,53,52,46,48,46,48]++47::[49,54] from rfl,zbO [49,54] (by decide)]
 unfold zcH
 rw [a9_4]
 simp only []
 rw [show decZ [49,54] (128 - (AZ.four 2851995648).ahead)=(16,true) from by decide+kernel,show (AZ.four 2851995648).wd=281473533739008 from by decide+kernel,show (AZ.four 2851995648).ahead+(16,true).1=112 from rfl,show zaM 281473533739008 112=true from by decide+kernel]
 rfl
theorem a9_5:zaY [49,55,50,46,49,54,46,48,46,48]=some (.four 2886729728):=by
 unfold zaY
 rw [show zaN [49,55,50,46,49,54,46,48,46,48]=(2886729728,true) from by decide+kernel];rfl
theorem p9_5:zaV [49,55,50,46,49,54,46,48,46,48,47,49,50]=some (281473568473088,108):=by
 unfold zaV
 rw [show ([49,55,50,46,49,54,46,48,46,48,47,49,50]:List UInt8)=[49,55,50,46,49,54,46,48,46,48]++47::[49,50] from rfl,zbO [49,50] (by decide)]
 unfold zcH
 rw [a9_5]
 simp only []
 rw [show decZ [49,50] (128 - (AZ.four 2886729728).ahead)=(12,true) from by decide+kernel,show (AZ.four 2886729728).wd=281473568473088 from by decide+kernel,show (AZ.four 2886729728).ahead+(12,true).1=108 from rfl,show zaM 281473568473088 108=true from by decide+kernel]
 rfl
theorem a9_6:zaY [49,57,50,46,48,46,48,46,48]=some (.four 3221225472):=by
 unfold zaY
 rw [show zaN [49,57,50,46,48,46,48,46,48]=(3221225472,true) from by decide+kernel];rfl
theorem p9_6:zaV [49,57,50,46,48,46,48,46,48,47,50,52]=some (281473902968832,120):=by
 unfold zaV
 rw [show ([49,57,50,46,48,46,48,46,48,47,50,52]:List UInt8)=[49,57,50,46,48,46,48,46,48]++47::[50,52] from rfl,zbO [50,52] (by decide)]
 unfold zcH
 rw [a9_6]
 simp only []
 rw [show decZ [50,52] (128 - (AZ.four 3221225472).ahead)=(24,true) from by decide+kernel,show (AZ.four 3221225472).wd=281473902968832 from by decide+kernel,show (AZ.four 3221225472).ahead+(24,true).1=120 from rfl,show zaM 281473902968832 120=true from by decide+kernel]
 rfl
theorem a9_7:zaY [49,57,50,46,48,46,50,46,48]=some (.four 3221225984):=by
 unfold zaY
 rw [show zaN [49,57,50,46,48,46,50,46,48]=(3221225984,true) from by decide+kernel];rfl
theorem p9_7:zaV [49,57,50,46,48,46,50,46,48,47,50,52]=some (281473902969344,120):=by
 unfold zaV
 rw [show ([49,57,50,46,48,46,50,46,48,47,50,52]:List UInt8)=[49,57,50,46,48,46,50,46,48]++47::[50,52] from rfl,zbO [50,52] (by decide)]
 unfold zcH
 rw [a9_7]
 simp only []
 rw [show decZ [50,52] (128 - (AZ.four 3221225984).ahead)=(24,true) from by decide+kernel,show (AZ.four 3221225984).wd=281473902969344 from by decide+kernel,show (AZ.four 3221225984).ahead+(24,true).1=120 from rfl,show zaM 281473902969344 120=true from by decide+kernel]
 rfl
theorem a9_8:zaY [49,57,50,46,56,56,46,57,57,46,48]=some (.four 3227017984):=by
 unfold zaY
 rw [show zaN [49,57,50,46,56,56,46,57,57,46,48]=(3227017984,true) from by decide+kernel];rfl
theorem p9_8:zaV [49,57,50,46,56,56,46,57,57,46,48,47,50,52]=some (281473908761344,120):=by
 unfold zaV
 rw [show ([49,57,50,46,56,56,46,57,57,46,48,47,50,52]:List UInt8)=[49,57,50,46,56,56,46,57,57,46,48]++47::[50,52] from rfl,zbO [50,52] (by decide)]
 unfold zcH
 rw [a9_8]
 simp only []
 rw [show decZ [50,52] (128 - (AZ.four 3227017984).ahead)=(24,true) from by decide+kernel,show (AZ.four 3227017984).wd=281473908761344 from by decide+kernel,show (AZ.four 3227017984).ahead+(24,true).1=120 from rfl,show zaM 281473908761344 120=true from by decide+kernel]
 rfl
theorem a9_9:zaY [49,57,50,46,49,54,56,46,48,46,48]=some (.four 3232235520):=by
 unfold zaY
 rw [show zaN [49,57,50,46,49,54,56,46,48,46,48]=(3232235520,true) from by decide+kernel];rfl
theorem p9_9:zaV [49,57,50,46,49,54,56,46,48,46,48,47,49,54]=some (281473913978880,112):=by
 unfold zaV
 rw [show ([49,57,50,46,49,54,56,46,48,46,48,47,49,54]:List UInt8)=[49,57,50,46,49,54,56,46,48,46,48]++47::[49,54] from rfl,zbO [49,54] (by decide)]
 unfold zcH
 rw [a9_9]
 simp only []
 rw [show decZ [49,54] (128 - (AZ.four 3232235520).ahead)=(16,true) from by decide+kernel,show (AZ.four 3232235520).wd=281473913978880 from by decide+kernel,show (AZ.four 3232235520).ahead+(16,true).1=112 from rfl,show zaM 281473913978880 112=true from by decide+kernel]
 rfl
theorem a9_10:zaY [49,57,56,46,49,56,46,48,46,48]=some (.four 3323068416):=by
 unfold zaY
 rw [show zaN [49,57,56,46,49,56,46,48,46,48]=(3323068416,true) from by decide+kernel];rfl
theorem p9_10:zaV [49,57,56,46,49,56,46,48,46,48,47,49,53]=some (281474004811776,111):=by
 unfold zaV
 rw [show ([49,57,56,46,49,56,46,48,46,48,47,49,53]:List UInt8)=[49,57,56,46,49,56,46,48,46,48]++47::[49,53] from rfl,zbO [49,53] (by decide)]
 unfold zcH
 rw [a9_10]
 simp only []
 rw [show decZ [49,53] (128 - (AZ.four 3323068416).ahead)=(15,true) from by decide+kernel,show (AZ.four 3323068416).wd=281474004811776 from by decide+kernel,show (AZ.four 3323068416).ahead+(15,true).1=111 from rfl,show zaM 281474004811776 111=true from by decide+kernel]
 rfl
theorem a9_11:zaY [49,57,56,46,53,49,46,49,48,48,46,48]=some (.four 3325256704):=by
 unfold zaY
 rw [show zaN [49,57,56,46,53,49,46,49,48,48,46,48]=(3325256704,true) from by decide+kernel];rfl
theorem p9_11:zaV [49,57,56,46,53,49,46,49,48,48,46,48,47,50,52]=some (281474007000064,120):=by
 unfold zaV
 rw [show ([49,57,56,46,53,49,46,49,48,48,46,48,47,50,52]:List UInt8)=[49,57,56,46,53,49,46,49,48,48,46,48]++47::[50,52] from rfl,zbO [50,52] (by decide)]
 unfold zcH
 rw [a9_11]
 simp only []
 rw [show decZ [50,52] (128 - (AZ.four 3325256704).ahead)=(24,true) from by decide+kernel,show (AZ.four 3325256704).wd=281474007000064 from by decide+kernel,show (AZ.four 3325256704).ahead+(24,true).1=120 from rfl,show zaM 281474007000064 120=true from by decide+kernel]
 rfl
theorem a9_12:zaY [50,48,51,46,48,46,49,49,51,46,48]=some (.four 3405803776):=by
 unfold zaY
 rw [show zaN [50,48,51,46,48,46,49,49,51,46,48]=(3405803776,true) from by decide+kernel];rfl
theorem p9_12:zaV [50,48,51,46,48,46,49,49,51,46,48,47,50,52]=some (281474087547136,120):=by
 unfold zaV
 rw [show ([50,48,51,46,48,46,49,49,51,46,48,47,50,52]:List UInt8)=[50,48,51,46,48,46,49,49,51,46,48]++47::[50,52] from rfl,zbO [50,52] (by decide)]
 unfold zcH
 rw [a9_12]
 simp only []
 rw [show decZ [50,52] (128 - (AZ.four 3405803776).ahead)=(24,true) from by decide+kernel,show (AZ.four 3405803776).wd=281474087547136 from by decide+kernel,show (AZ.four 3405803776).ahead+(24,true).1=120 from rfl,show zaM 281474087547136 120=true from by decide+kernel]
 rfl
theorem a9_13:zaY [50,50,52,46,48,46,48,46,48]=some (.four 3758096384):=by
 unfold zaY
 rw [show zaN [50,50,52,46,48,46,48,46,48]=(3758096384,true) from by decide+kernel];rfl
theorem p9_13:zaV [50,50,52,46,48,46,48,46,48,47,52]=some (281474439839744,100):=by
 unfold zaV
 rw [show ([50,50,52,46,48,46,48,46,48,47,52]:List UInt8)=[50,50,52,46,48,46,48,46,48]++47::[52] from rfl,zbO [52] (by decide)]
 unfold zcH
 rw [a9_13]
 simp only []
 rw [show decZ [52] (128 - (AZ.four 3758096384).ahead)=(4,true) from by decide+kernel,show (AZ.four 3758096384).wd=281474439839744 from by decide+kernel,show (AZ.four 3758096384).ahead+(4,true).1=100 from rfl,show zaM 281474439839744 100=true from by decide+kernel]
 rfl
theorem a9_14:zaY [50,52,48,46,48,46,48,46,48]=some (.four 4026531840):=by
 unfold zaY
 rw [show zaN [50,52,48,46,48,46,48,46,48]=(4026531840,true) from by decide+kernel];rfl
theorem p9_14:zaV [50,52,48,46,48,46,48,46,48,47,52]=some (281474708275200,100):=by
 unfold zaV
 rw [show ([50,52,48,46,48,46,48,46,48,47,52]:List UInt8)=[50,52,48,46,48,46,48,46,48]++47::[52] from rfl,zbO [52] (by decide)]
 unfold zcH
 rw [a9_14]
 simp only []
 rw [show decZ [52] (128 - (AZ.four 4026531840).ahead)=(4,true) from by decide+kernel,show (AZ.four 4026531840).wd=281474708275200 from by decide+kernel,show (AZ.four 4026531840).ahead+(4,true).1=100 from rfl,show zaM 281474708275200 100=true from by decide+kernel]
 rfl
theorem a9_15:zaY [58,58]=some (.six 0 0):=by
 unfold zaY
 rw [show zaN [58,58]=(0,false) from by decide+kernel,show sixZ [58,58]=((0,0),true) from by decide+kernel];rfl
theorem p9_15:zaV [58,58,47,49,50,56]=some (0,128):=by
 unfold zaV
 rw [show ([58,58,47,49,50,56]:List UInt8)=[58,58]++47::[49,50,56] from rfl,zbO [49,50,56] (by decide)]
 unfold zcH
 rw [a9_15]
 simp only []
 rw [show decZ [49,50,56] (128 - (AZ.six 0 0).ahead)=(128,true) from by decide+kernel,show (AZ.six 0 0).wd=0 from by decide+kernel,show (AZ.six 0 0).ahead+(128,true).1=128 from rfl,show zaM 0 128=true from by decide+kernel]
 rfl
theorem a9_16:zaY [58,58,49]=some (.six 0 1):=by
 unfold zaY
 rw [show zaN [58,58,49]=(0,false) from by decide+kernel,show sixZ [58,58,49]=((0,1),true) from by decide+kernel];rfl
theorem p9_16:zaV [58,58,49,47,49,50,56]=some (1,128):=by
 unfold zaV
 rw [show ([58,58,49,47,49,50,56]:List UInt8)=[58,58,49]++47::[49,50,56] from rfl,zbO [49,50,56] (by decide)]
 unfold zcH
 rw [a9_16]
 simp only []
 rw [show decZ [49,50,56] (128 - (AZ.six 0 1).ahead)=(128,true) from by decide+kernel,show (AZ.six 0 1).wd=1 from by decide+kernel,show (AZ.six 0 1).ahead+(128,true).1=128 from rfl,show zaM 1 128=true from by decide+kernel]
 rfl
theorem a9_17:zaY [54,52,58,102,102,57,98,58,49,58,58]=some (.six 28428538856144896 0):=by
 unfold zaY
 rw [show zaN [54,52,58,102,102,57,98,58,49,58,58]=(0,false) from by decide+kernel,show sixZ [54,52,58,102,102,57,98,58,49,58,58]=((28428538856144896,0),true) from by decide+kernel];rfl
theorem p9_17:zaV [54,52,58,102,102,57,98,58,49,58,58,47,52,56]=some (524413980668812575603097810486951936,48):=by
 unfold zaV
 rw [show ([54,52,58,102,102,57,98,58,49,58,58,47,52,56]:List UInt8)=[54,52,58,102,102,57,98,58,49,58,58]++47::[52,56] from rfl,zbO [52,56] (by decide)]
 unfold zcH
 rw [a9_17]
 simp only []
 rw [show decZ [52,56] (128 - (AZ.six 28428538856144896 0).ahead)=(48,true) from by decide+kernel,show (AZ.six 28428538856144896 0).wd=524413980668812575603097810486951936 from by decide+kernel,show (AZ.six 28428538856144896 0).ahead+(48,true).1=48 from rfl,show zaM 524413980668812575603097810486951936 48=true from by decide+kernel]
 rfl
theorem a9_18:zaY [49,48,48,58,58]=some (.six 72057594037927936 0):=by
 unfold zaY
 rw [show zaN [49,48,48,58,58]=(0,false) from by decide+kernel,show sixZ [49,48,48,58,58]=((72057594037927936,0),true) from by decide+kernel];rfl
theorem p9_18:zaV [49,48,48,58,58,47,54,52]=some (1329227995784915872903807060280344576,64):=by
 unfold zaV
 rw [show ([49,48,48,58,58,47,54,52]:List UInt8)=[49,48,48,58,58]++47::[54,52] from rfl,zbO [54,52] (by decide)]
 unfold zcH
 rw [a9_18]
 simp only []
 rw [show decZ [54,52] (128 - (AZ.six 72057594037927936 0).ahead)=(64,true) from by decide+kernel,show (AZ.six 72057594037927936 0).wd=1329227995784915872903807060280344576 from by decide+kernel,show (AZ.six 72057594037927936 0).ahead+(64,true).1=64 from rfl,show zaM 1329227995784915872903807060280344576 64=true from by decide+kernel]
 rfl
theorem a9_19:zaY [50,48,48,49,58,58]=some (.six 2306124484190404608 0):=by
 unfold zaY
 rw [show zaN [50,48,48,49,58,58]=(0,false) from by decide+kernel,show sixZ [50,48,48,49,58,58]=((2306124484190404608,0),true) from by decide+kernel];rfl
theorem p9_19:zaV [50,48,48,49,58,58,47,50,51]=some (42540488161975842760550356425300246528,23):=by
 unfold zaV
 rw [show ([50,48,48,49,58,58,47,50,51]:List UInt8)=[50,48,48,49,58,58]++47::[50,51] from rfl,zbO [50,51] (by decide)]
 unfold zcH
 rw [a9_19]
 simp only []
 rw [show decZ [50,51] (128 - (AZ.six 2306124484190404608 0).ahead)=(23,true) from by decide+kernel,show (AZ.six 2306124484190404608 0).wd=42540488161975842760550356425300246528 from by decide+kernel,show (AZ.six 2306124484190404608 0).ahead+(23,true).1=23 from rfl,show zaM 42540488161975842760550356425300246528 23=true from by decide+kernel]
 rfl
theorem a9_20:zaY [50,48,48,49,58,100,98,56,58,58]=some (.six 2306139568115548160 0):=by
 unfold zaY
 rw [show zaN [50,48,48,49,58,100,98,56,58,58]=(0,false) from by decide+kernel,show sixZ [50,48,48,49,58,100,98,56,58,58]=((2306139568115548160,0),true) from by decide+kernel];rfl
theorem p9_20:zaV [50,48,48,49,58,100,98,56,58,58,47,51,50]=some (42540766411282592856903984951653826560,32):=by
 unfold zaV
 rw [show ([50,48,48,49,58,100,98,56,58,58,47,51,50]:List UInt8)=[50,48,48,49,58,100,98,56,58,58]++47::[51,50] from rfl,zbO [51,50] (by decide)]
 unfold zcH
 rw [a9_20]
 simp only []
 rw [show decZ [51,50] (128 - (AZ.six 2306139568115548160 0).ahead)=(32,true) from by decide+kernel,show (AZ.six 2306139568115548160 0).wd=42540766411282592856903984951653826560 from by decide+kernel,show (AZ.six 2306139568115548160 0).ahead+(32,true).1=32 from rfl,show zaM 42540766411282592856903984951653826560 32=true from by decide+kernel]
 rfl
theorem a9_21:zaY [51,102,102,102,58,58]=some (.six 4611404543450677248 0):=by
 unfold zaY
 rw [show zaN [51,102,102,102,58,58]=(0,false) from by decide+kernel,show sixZ [51,102,102,102,58,58]=((4611404543450677248,0),true) from by decide+kernel];rfl
theorem p9_21:zaV [51,102,102,102,58,58,47,50,48]=some (85065399433376081038215121361612832768,20):=by
 unfold zaV
 rw [show ([51,102,102,102,58,58,47,50,48]:List UInt8)=[51,102,102,102,58,58]++47::[50,48] from rfl,zbO [50,48] (by decide)]
 unfold zcH
 rw [a9_21]
 simp only []
 rw [show decZ [50,48] (128 - (AZ.six 4611404543450677248 0).ahead)=(20,true) from by decide+kernel,show (AZ.six 4611404543450677248 0).wd=85065399433376081038215121361612832768 from by decide+kernel,show (AZ.six 4611404543450677248 0).ahead+(20,true).1=20 from rfl,show zaM 85065399433376081038215121361612832768 20=true from by decide+kernel]
 rfl
theorem a9_22:zaY [53,102,48,48,58,58]=some (.six 6845471433603153920 0):=by
 unfold zaY
 rw [show zaN [53,102,48,48,58,58]=(0,false) from by decide+kernel,show sixZ [53,102,48,48,58,58]=((6845471433603153920,0),true) from by decide+kernel];rfl
theorem p9_22:zaV [53,102,48,48,58,58,47,49,54]=some (126276659599567007925861670726632734720,16):=by
 unfold zaV
 rw [show ([53,102,48,48,58,58,47,49,54]:List UInt8)=[53,102,48,48,58,58]++47::[49,54] from rfl,zbO [49,54] (by decide)]
 unfold zcH
 rw [a9_22]
 simp only []
 rw [show decZ [49,54] (128 - (AZ.six 6845471433603153920 0).ahead)=(16,true) from by decide+kernel,show (AZ.six 6845471433603153920 0).wd=126276659599567007925861670726632734720 from by decide+kernel,show (AZ.six 6845471433603153920 0).ahead+(16,true).1=16 from rfl,show zaM 126276659599567007925861670726632734720 16=true from by decide+kernel]
 rfl
theorem a9_23:zaY [102,99,48,48,58,58]=some (.six 18158513697557839872 0):=by
 unfold zaY
 rw [show zaN [102,99,48,48,58,58]=(0,false) from by decide+kernel,show sixZ [102,99,48,48,58,58]=((18158513697557839872,0),true) from by decide+kernel];rfl
theorem p9_23:zaV [102,99,48,48,58,58,47,55]=some (334965454937798799971759379190646833152,7):=by
 unfold zaV
 rw [show ([102,99,48,48,58,58,47,55]:List UInt8)=[102,99,48,48,58,58]++47::[55] from rfl,zbO [55] (by decide)]
 unfold zcH
 rw [a9_23]
 simp only []
 rw [show decZ [55] (128 - (AZ.six 18158513697557839872 0).ahead)=(7,true) from by decide+kernel,show (AZ.six 18158513697557839872 0).wd=334965454937798799971759379190646833152 from by decide+kernel,show (AZ.six 18158513697557839872 0).ahead+(7,true).1=7 from rfl,show zaM 334965454937798799971759379190646833152 7=true from by decide+kernel]
 rfl
theorem a9_24:zaY [102,101,56,48,58,58]=some (.six 18338657682652659712 0):=by
 unfold zaY
 rw [show zaN [102,101,56,48,58,58]=(0,false) from by decide+kernel,show sixZ [102,101,56,48,58,58]=((18338657682652659712,0),true) from by decide+kernel];rfl
theorem p9_24:zaV [102,101,56,48,58,58,47,49,48]=some (338288524927261089654018896841347694592,10):=by
 unfold zaV
 rw [show ([102,101,56,48,58,58,47,49,48]:List UInt8)=[102,101,56,48,58,58]++47::[49,48] from rfl,zbO [49,48] (by decide)]
 unfold zcH
 rw [a9_24]
 simp only []
 rw [show decZ [49,48] (128 - (AZ.six 18338657682652659712 0).ahead)=(10,true) from by decide+kernel,show (AZ.six 18338657682652659712 0).wd=338288524927261089654018896841347694592 from by decide+kernel,show (AZ.six 18338657682652659712 0).ahead+(10,true).1=10 from rfl,show zaM 338288524927261089654018896841347694592 10=true from by decide+kernel]
 rfl
theorem a9_25:zaY [102,101,99,48,58,58]=some (.six 18356672081162141696 0):=by
 unfold zaY
 rw [show zaN [102,101,99,48,58,58]=(0,false) from by decide+kernel,show sixZ [102,101,99,48,58,58]=((18356672081162141696,0),true) from by decide+kernel];rfl
theorem p9_25:zaV [102,101,99,48,58,58,47,49,48]=some (338620831926207318622244848606417780736,10):=by
 unfold zaV
 rw [show ([102,101,99,48,58,58,47,49,48]:List UInt8)=[102,101,99,48,58,58]++47::[49,48] from rfl,zbO [49,48] (by decide)]
 unfold zcH
 rw [a9_25]
 simp only []
 rw [show decZ [49,48] (128 - (AZ.six 18356672081162141696 0).ahead)=(10,true) from by decide+kernel,show (AZ.six 18356672081162141696 0).wd=338620831926207318622244848606417780736 from by decide+kernel,show (AZ.six 18356672081162141696 0).ahead+(10,true).1=10 from rfl,show zaM 338620831926207318622244848606417780736 10=true from by decide+kernel]
 rfl
theorem a9_26:zaY [102,102,48,48,58,58]=some (.six 18374686479671623680 0):=by
 unfold zaY
 rw [show zaN [102,102,48,48,58,58]=(0,false) from by decide+kernel,show sixZ [102,102,48,48,58,58]=((18374686479671623680,0),true) from by decide+kernel];rfl
theorem p9_26:zaV [102,102,48,48,58,58,47,56]=some (338953138925153547590470800371487866880,8):=by
 unfold zaV
 rw [show ([102,102,48,48,58,58,47,56]:List UInt8)=[102,102,48,48,58,58]++47::[56] from rfl,zbO [56] (by decide)]
 unfold zcH
 rw [a9_26]
 simp only []
 rw [show decZ [56] (128 - (AZ.six 18374686479671623680 0).ahead)=(8,true) from by decide+kernel,show (AZ.six 18374686479671623680 0).wd=338953138925153547590470800371487866880 from by decide+kernel,show (AZ.six 18374686479671623680 0).ahead+(8,true).1=8 from rfl,show zaM 338953138925153547590470800371487866880 8=true from by decide+kernel]
 rfl
/-- the table -/
def T9L:List R9:=[⟨281470681743360,104,[116,104,105,115]⟩,⟨281470849515520,104,[112,114,105,118,97,116,101]⟩,⟨281472363659264,106,[115,104,97,114,101,100]⟩,⟨281472812449792,104,[108,111,111,112,98,97,99,107]⟩,⟨281473533739008,112,[108,105,110,107]⟩,⟨281473568473088,108,[112,114,105,118,97,116,101]⟩,⟨281473902968832,120,[112,114,111,116,111,99,111,108]⟩,⟨281473902969344,120,[101,120,97,109,112,108,101]⟩,⟨281473908761344,120,[114,101,108,97,121]⟩,⟨281473913978880,112,[112,114,105,118,97,116,101]⟩,⟨281474004811776,111,[109,101,97,115,117,114,101]⟩,⟨281474007000064,120,[101,120,97,109,112,108,101]⟩,⟨281474087547136,120,[101,120,97,109,112,108,101]⟩,⟨281474439839744,100,[109,117,108,116,105,99,97,115,116]⟩,⟨281474708275200,100,[114,101,115,101,114,118,101,100]⟩,⟨0,128,[110,111,110,101]⟩,⟨1,128,[108,111,111,112,98,97,99,107]⟩,⟨524413980668812575603097810486951936,48,[112,114,105,118,97,116,101]⟩,⟨1329227995784915872903807060280344576,64,[100,105,115,99,97,114,100]⟩,⟨42540488161975842760550356425300246528,23,[112,114,111,116,111,99,111,108]⟩,⟨42540766411282592856903984951653826560,32,[101,120,97,109,112,108,101]⟩,⟨85065399433376081038215121361612832768,20,[101,120,97,109,112,108,101]⟩,⟨126276659599567007925861670726632734720,16,[115,101,103,109,101,110,116]⟩,⟨334965454937798799971759379190646833152,7,[112,114,105,118,97,116,101]⟩,⟨338288524927261089654018896841347694592,10,[108,105,110,107]⟩,⟨338620831926207318622244848606417780736,10,[115,105,116,101]⟩,⟨338953138925153547590470800371487866880,8,[109,117,108,116,105,99,97,115,116]⟩]
theorem T9_ex: ∃l:List R9,l=T9L:=⟨T9L,rfl⟩
/-- the same,that nothing unfolds by itself -/
noncomputable def T9:List R9:=Classical.choose T9_ex
theorem z0F:T9=T9L:=Classical.choose_spec T9_ex
theorem z8O:T9.length=27:=by rw [z0F];decide
theorem ycG: ∀r∈T9L,r.n≤128∧rt r.W r.n∧r.W<2^128:=by unfold rt;decide+kernel
theorem yeJ: ∀r∈T9,r.n≤128∧rt r.W r.n∧r.W<2^128:=by rw [z0F];exact ycG
end

section
open Go.RowKit
theorem yjI (l s:List UInt8):(Lib.cut l s).1.length≤l.length∧(Lib.cut l s).2.1.length≤l.length:=by
 unfold Lib.cut
 split
 ·exact ⟨by rw [List.length_take];exact Nat.min_le_right _ _,by rw [List.length_drop];exact Nat.sub_le _ _⟩
 ·exact ⟨Nat.le_refl _,Nat.zero_le _⟩
theorem zfI {s:ByteArray} {N:Nat} {la ld:List UInt8} {fb:Bool} (hs:s.size≤N) (h:Lib.cut s.data.toList [47]=(la,ld,fb)):la.length≤N∧ld.length≤N:=by
 have h1:=yjI s.data.toList [47]
 rw [h] at h1
 have e:s.data.toList.length=s.size:=Array.length_toList
 exact ⟨Nat.le_trans h1.1 (e▸hs),Nat.le_trans h1.2 (e▸hs)⟩
theorem zdF (l:List UInt8):(ByteArray.mk l.toArray).size=l.length:=by simp [ByteArray.size]
theorem zdC (l:List UInt8):(ByteArray.mk l.toArray).data.toList=l:=by simp
theorem zcC {x y z:World} {n:Nat} (h:Below (n+1) x y) (k:Below y.heap.size y z) (hn:n+1≤x.heap.size:=by simp):Below (n+1) x z:=h.trans (k.mono (Nat.le_trans hn h.size))
theorem zyC (s:ByteArray) (la ld:List UInt8) (fb:Bool) (HZ:Hid (zaY la=none)) (w:World) (hs:s.size≤1073741824) (hmax:MaxVar w) (hcut:Lib.cut s.data.toList [47]=(la,ld,fb)):
  Calls Tryz.prog 259 #[.string s] w fun e w'=>e= .returned (.tuple #[.agg #[.int .u64 0,.int .u64 0,.int .i64 0],.bool false])∧Below w.heap.size w w':=by
 obtain ⟨hla,hld⟩:=zfI hs hcut
 have HCUT:=Lib.hid hcut
 have HX:=Lib.hid hmax
 obtain ⟨o,ho⟩: ∃o,o=Obj.cells #[.int .u64 0,.int .u64 0,.int .i64 0] 235:=⟨_,rfl⟩
 have HK:Hid (∀W,Below (w.heap.size+1) (w.alloc o) W→(W.cell? ⟨w.heap.size,0,none⟩=some (.int .u64 0)∧W.cell? ⟨w.heap.size,1,none⟩=some (.int .u64 0)∧W.cell? ⟨w.heap.size,2,none⟩=some (.int .i64 0))∧W.frozen? ⟨w.heap.size,0,none⟩=false∧W.frozen? ⟨w.heap.size,1,none⟩=false∧W.frozen? ⟨w.heap.size,2,none⟩=false):=fun W h=>by
  have hb:W.heap[w.heap.size]? =some (.cells #[.int .u64 0,.int .u64 0,.int .i64 0] 235):=by
   rw [h.block _ (Nat.lt_succ_self _),ho];exact Go.Deep.blk_alloc_new _ _
  exact row3 hb
 have hb0:Below (w.heap.size+1) (w.alloc o) (w.alloc o):=Below.refl _ _
 obtain ⟨m,hm⟩:=zaB HX.out ((Below.refl _ _).alloc (Nat.le_refl _) o)
 have HM:=Lib.hid hm
 clear hm hmax hcut
 rw [ho] at HM HK hb0
 clear ho o
 go_enter Tryz.func259,Tryz.ntmps259
 go_wp2_with fail
 refine (Tryz.strings_Cut s ⟨#[47]⟩ m _ (by omega) HM.out).mono ?_
 rw [show (ByteArray.mk #[47]).data.toList=[47] from rfl,HCUT.out]
 rintro e x1 ⟨rfl,k1,rfl⟩
 have hb1:=hb0.trans (zdI (x:=w.alloc (.cells #[.int .u64 0,.int .u64 0,.int .i64 0] 235)) (k:=k1))
 generalize (w.alloc (.cells #[.int .u64 0,.int .u64 0,.int .i64 0] 235)).drewN k1=x1 at*
 go_wp2_with fail
 refine (zbH ⟨la.toArray⟩ _ (by rw [zdF];exact hla) (zaB HX.out (zbL hb1))).mono ?_
 rw [zdC,HZ.out]
 rintro e x2 ⟨rfl,hb2'⟩
 have hb2:=zcC hb1 hb2'
 clear hb1 hb2'
 obtain ⟨⟨hc0,hc1,hc2⟩,hf0,hf1,hf2⟩:=HK.out _ hb2
 go_wp2
 refine bodyPost_ret (v:= .tuple #[.agg #[.int .u64 0,.int .u64 0,.int .i64 0],.bool false]) (by simp [results,Tryz.results259,go_sem,hc0,hc1,hc2]) rfl ⟨rfl,?_⟩
 exact (((zbL hb2).setCell (Nat.le_refl _) _).setCell (Nat.le_refl _) _).setCell (Nat.le_refl _) _
theorem znG (s:ByteArray) (la ld:List UInt8) (fb:Bool) (n:Int) (x:Int) (HZ:Hid (zaY la=some (.four n))) (HD:Hid (decZ ld 32=(x,false))) (w:World) (hs:s.size≤1073741824) (hmax:MaxVar w) (hcut:Lib.cut s.data.toList [47]=(la,ld,fb)):
  Calls Tryz.prog 259 #[.string s] w fun e w'=>e= .returned (.tuple #[.agg #[.int .u64 0,.int .u64 0,.int .i64 0],.bool false])∧Below w.heap.size w w':=by
 obtain ⟨hla,hld⟩:=zfI hs hcut
 have HCUT:=Lib.hid hcut
 have HX:=Lib.hid hmax
 obtain ⟨o,ho⟩: ∃o,o=Obj.cells #[.int .u64 0,.int .u64 0,.int .i64 0] 235:=⟨_,rfl⟩
 have HK:Hid (∀W,Below (w.heap.size+1) (w.alloc o) W→(W.cell? ⟨w.heap.size,0,none⟩=some (.int .u64 0)∧W.cell? ⟨w.heap.size,1,none⟩=some (.int .u64 0)∧W.cell? ⟨w.heap.size,2,none⟩=some (.int .i64 0))∧W.frozen? ⟨w.heap.size,0,none⟩=false∧W.frozen? ⟨w.heap.size,1,none⟩=false∧W.frozen? ⟨w.heap.size,2,none⟩=false):=fun W h=>by
  have hb:W.heap[w.heap.size]? =some (.cells #[.int .u64 0,.int .u64 0,.int .i64 0] 235):=by
   rw [h.block _ (Nat.lt_succ_self _),ho];exact Go.Deep.blk_alloc_new _ _
  exact row3 hb
 have hb0:Below (w.heap.size+1) (w.alloc o) (w.alloc o):=Below.refl _ _
 obtain ⟨m,hm⟩:=zaB HX.out ((Below.refl _ _).alloc (Nat.le_refl _) o)
 have HM:=Lib.hid hm
 clear hm hmax hcut
 rw [ho] at HM HK hb0
 clear ho o
 go_enter Tryz.func259,Tryz.ntmps259
 go_wp2_with fail
 refine (Tryz.strings_Cut s ⟨#[47]⟩ m _ (by omega) HM.out).mono ?_
 rw [show (ByteArray.mk #[47]).data.toList=[47] from rfl,HCUT.out]
 rintro e x1 ⟨rfl,k1,rfl⟩
 have hb1:=hb0.trans (zdI (x:=w.alloc (.cells #[.int .u64 0,.int .u64 0,.int .i64 0] 235)) (k:=k1))
 generalize (w.alloc (.cells #[.int .u64 0,.int .u64 0,.int .i64 0] 235)).drewN k1=x1 at*
 go_wp2_with fail
 refine (zbH ⟨la.toArray⟩ _ (by rw [zdF];exact hla) (zaB HX.out (zbL hb1))).mono ?_
 rw [zdC,HZ.out]
 rintro e x2 ⟨rfl,hb2'⟩
 have hb2:=zcC hb1 hb2'
 clear hb1 hb2'
 simp only [optV,AZ.val,Option.isSome]
 go_wp2_with fail
 refine (zlG n _).mono ?_
 rintro e x3 ⟨rfl,rfl⟩
 go_wp2_with fail
 refine (zcO ⟨ld.toArray⟩ 32 _ (by rw [zdF];exact hld) (by omega) (by omega)).mono ?_
 rw [zdC,HD.out]
 rintro e x4 ⟨rfl,hb4'⟩
 have hb4:=zcC hb2 hb4'
 clear hb2 hb4'
 obtain ⟨⟨hc0,hc1,hc2⟩,hf0,hf1,hf2⟩:=HK.out _ hb4
 go_wp2
 refine bodyPost_ret (v:= .tuple #[.agg #[.int .u64 0,.int .u64 0,.int .i64 0],.bool false]) (by simp [results,Tryz.results259,go_sem,hc0,hc1,hc2]) rfl ⟨rfl,?_⟩
 exact (((zbL hb4).setCell (Nat.le_refl _) _).setCell (Nat.le_refl _) _).setCell (Nat.le_refl _) _
theorem zlS (s:ByteArray) (la ld:List UInt8) (fb:Bool) (n:Int) (ho:(AZ.four n).Ok) (hi lo:Nat) (x:Int) (e1:(0:Int)=hi) (e2:281470681743360+n=(lo:Int)) (b1:hi<18446744073709551616) (b2:lo<18446744073709551616) (bx:0≤x∧x≤32) (HZ:Hid (zaY la=some (.four n))) (HD:Hid (decZ ld 32=(x,true))) (hr:zaM (zaH hi lo) (96+x)=false) (w:World) (hs:s.size≤1073741824) (hmax:MaxVar w) (hcut:Lib.cut s.data.toList [47]=(la,ld,fb)):
  Calls Tryz.prog 259 #[.string s] w fun e w'=>e= .returned (.tuple #[.agg #[.int .u64 0,.int .u64 0,.int .i64 0],.bool false])∧Below w.heap.size w w':=by
 obtain ⟨hla,hld⟩:=zfI hs hcut
 have hma: ∀w:World,(method 393 117 (.int .u32 n) "Wide").run Tryz.prog w= .ok (305,(.int .u32 n)) w:=fun _=>by kernel_rfl
 have HRT:Hid (∀W,Calls Tryz.prog 249 #[.agg #[.int .u64 (0),.int .u64 (281470681743360+n),.int .i64 (96+x)]] W fun e w'=>e= .returned (.bool false)∧Below W.heap.size W w'):=fun W=>by
  have:=zcA hi lo (96+x) W b1 b2;rw [hr,←e1,←e2] at this;exact this
 clear hr e1 e2
 have HCUT:=Lib.hid hcut
 have HX:=Lib.hid hmax
 obtain ⟨o,ho⟩: ∃o,o=Obj.cells #[.int .u64 0,.int .u64 0,.int .i64 0] 235:=⟨_,rfl⟩
 have HK:Hid (∀W,Below (w.heap.size+1) (w.alloc o) W→(W.cell? ⟨w.heap.size,0,none⟩=some (.int .u64 0)∧W.cell? ⟨w.heap.size,1,none⟩=some (.int .u64 0)∧W.cell? ⟨w.heap.size,2,none⟩=some (.int .i64 0))∧W.frozen? ⟨w.heap.size,0,none⟩=false∧W.frozen? ⟨w.heap.size,1,none⟩=false∧W.frozen? ⟨w.heap.size,2,none⟩=false):=fun W h=>by
  have hb:W.heap[w.heap.size]? =some (.cells #[.int .u64 0,.int .u64 0,.int .i64 0] 235):=by
   rw [h.block _ (Nat.lt_succ_self _),ho];exact Go.Deep.blk_alloc_new _ _
  exact row3 hb
 have hb0:Below (w.heap.size+1) (w.alloc o) (w.alloc o):=Below.refl _ _
 obtain ⟨m,hm⟩:=zaB HX.out ((Below.refl _ _).alloc (Nat.le_refl _) o)
 have HM:=Lib.hid hm
 clear hm hmax hcut
 rw [ho] at HM HK hb0
 clear ho o
 go_enter Tryz.func259,Tryz.ntmps259
 go_wp2_with fail
 refine (Tryz.strings_Cut s ⟨#[47]⟩ m _ (by omega) HM.out).mono ?_
 rw [show (ByteArray.mk #[47]).data.toList=[47] from rfl,HCUT.out]
 rintro e x1 ⟨rfl,k1,rfl⟩
 have hb1:=hb0.trans (zdI (x:=w.alloc (.cells #[.int .u64 0,.int .u64 0,.int .i64 0] 235)) (k:=k1))
 generalize (w.alloc (.cells #[.int .u64 0,.int .u64 0,.int .i64 0] 235)).drewN k1=x1 at*
 go_wp2_with fail
 refine (zbH ⟨la.toArray⟩ _ (by rw [zdF];exact hla) (zaB HX.out (zbL hb1))).mono ?_
 rw [zdC,HZ.out]
 rintro e x2 ⟨rfl,hb2'⟩
 have hb2:=zcC hb1 hb2'
 clear hb1 hb2'
 simp only [optV,AZ.val,Option.isSome]
 go_wp2_with fail
 refine (zlG n _).mono ?_
 rintro e x3 ⟨rfl,rfl⟩
 go_wp2_with fail
 refine (zcO ⟨ld.toArray⟩ 32 _ (by rw [zdF];exact hld) (by omega) (by omega)).mono ?_
 rw [zdC,HD.out]
 rintro e x4 ⟨rfl,hb4'⟩
 have hb4:=zcC hb2 hb4'
 clear hb2 hb4'
 go_wp2_with fail
 refine (ztI n _ ho.1 ho.2).mono ?_
 rintro e x5 ⟨rfl,rfl⟩
 have hb5:=hb4
 clear hb4
 have hs5:w.heap.size<x4.heap.size:=by have:=hb5.size;simp at this;omega
 have hb6:=hb5.alloc (by omega) (Obj.cells #[.int .u64 (0),.int .u64 (281470681743360+n),.int .i64 (96+x)] 235)
 go_wp2_with fail
 refine (HRT.out _).mono ?_
 rintro e x7 ⟨rfl,hb7'⟩
 obtain ⟨d0,d1,d2⟩:=zfR x4 _ _ _ _ x7 (hb7'.mono (by simp))
 have hb7:=zcC hb6 hb7'
 clear hb6 hb7' hb5
 obtain ⟨⟨hc0,hc1,hc2⟩,hf0,hf1,hf2⟩:=HK.out _ hb7
 go_wp2
 refine bodyPost_ret (v:= .tuple #[.agg #[.int .u64 0,.int .u64 0,.int .i64 0],.bool false]) (by simp [results,Tryz.results259,go_sem,hc0,hc1,hc2]) rfl ⟨rfl,?_⟩
 exact (((zbL hb7).setCell (Nat.le_refl _) _).setCell (Nat.le_refl _) _).setCell (Nat.le_refl _) _
theorem zmO (s:ByteArray) (la ld:List UInt8) (fb:Bool) (n:Int) (ho:(AZ.four n).Ok) (hi lo:Nat) (x:Int) (e1:(0:Int)=hi) (e2:281470681743360+n=(lo:Int)) (b1:hi<18446744073709551616) (b2:lo<18446744073709551616) (bx:0≤x∧x≤32) (HZ:Hid (zaY la=some (.four n))) (HD:Hid (decZ ld 32=(x,true))) (hr:zaM (zaH hi lo) (96+x)=true) (w:World) (hs:s.size≤1073741824) (hmax:MaxVar w) (hcut:Lib.cut s.data.toList [47]=(la,ld,fb)):
  Calls Tryz.prog 259 #[.string s] w fun e w'=>e= .returned (.tuple #[.agg #[.int .u64 (0),.int .u64 (281470681743360+n),.int .i64 (96+x)],.bool true])∧Below w.heap.size w w':=by
 obtain ⟨hla,hld⟩:=zfI hs hcut
 have hma: ∀w:World,(method 393 117 (.int .u32 n) "Wide").run Tryz.prog w= .ok (305,(.int .u32 n)) w:=fun _=>by kernel_rfl
 have HRT:Hid (∀W,Calls Tryz.prog 249 #[.agg #[.int .u64 (0),.int .u64 (281470681743360+n),.int .i64 (96+x)]] W fun e w'=>e= .returned (.bool true)∧Below W.heap.size W w'):=fun W=>by
  have:=zcA hi lo (96+x) W b1 b2;rw [hr,←e1,←e2] at this;exact this
 clear hr e1 e2
 have HCUT:=Lib.hid hcut
 have HX:=Lib.hid hmax
 obtain ⟨o,ho⟩: ∃o,o=Obj.cells #[.int .u64 0,.int .u64 0,.int .i64 0] 235:=⟨_,rfl⟩
 have HK:Hid (∀W,Below (w.heap.size+1) (w.alloc o) W→(W.cell? ⟨w.heap.size,0,none⟩=some (.int .u64 0)∧W.cell? ⟨w.heap.size,1,none⟩=some (.int .u64 0)∧W.cell? ⟨w.heap.size,2,none⟩=some (.int .i64 0))∧W.frozen? ⟨w.heap.size,0,none⟩=false∧W.frozen? ⟨w.heap.size,1,none⟩=false∧W.frozen? ⟨w.heap.size,2,none⟩=false):=fun W h=>by
  have hb:W.heap[w.heap.size]? =some (.cells #[.int .u64 0,.int .u64 0,.int .i64 0] 235):=by
   rw [h.block _ (Nat.lt_succ_self _),ho];exact Go.Deep.blk_alloc_new _ _
  exact row3 hb
 have hb0:Below (w.heap.size+1) (w.alloc o) (w.alloc o):=Below.refl _ _
 obtain ⟨m,hm⟩:=zaB HX.out ((Below.refl _ _).alloc (Nat.le_refl _) o)
 have HM:=Lib.hid hm
 clear hm hmax hcut
 rw [ho] at HM HK hb0
 clear ho o
 go_enter Tryz.func259,Tryz.ntmps259
 go_wp2_with fail
 refine (Tryz.strings_Cut s ⟨#[47]⟩ m _ (by omega) HM.out).mono ?_
 rw [show (ByteArray.mk #[47]).data.toList=[47] from rfl,HCUT.out]
 rintro e x1 ⟨rfl,k1,rfl⟩
 have hb1:=hb0.trans (zdI (x:=w.alloc (.cells #[.int .u64 0,.int .u64 0,.int .i64 0] 235)) (k:=k1))
 generalize (w.alloc (.cells #[.int .u64 0,.int .u64 0,.int .i64 0] 235)).drewN k1=x1 at*
 go_wp2_with fail
 refine (zbH ⟨la.toArray⟩ _ (by rw [zdF];exact hla) (zaB HX.out (zbL hb1))).mono ?_
 rw [zdC,HZ.out]
 rintro e x2 ⟨rfl,hb2'⟩
 have hb2:=zcC hb1 hb2'
 clear hb1 hb2'
 simp only [optV,AZ.val,Option.isSome]
 go_wp2_with fail
 refine (zlG n _).mono ?_
 rintro e x3 ⟨rfl,rfl⟩
 go_wp2_with fail
 refine (zcO ⟨ld.toArray⟩ 32 _ (by rw [zdF];exact hld) (by omega) (by omega)).mono ?_
 rw [zdC,HD.out]
 rintro e x4 ⟨rfl,hb4'⟩
 have hb4:=zcC hb2 hb4'
 clear hb2 hb4'
 go_wp2_with fail
 refine (ztI n _ ho.1 ho.2).mono ?_
 rintro e x5 ⟨rfl,rfl⟩
 have hb5:=hb4
 clear hb4
 have hs5:w.heap.size<x4.heap.size:=by have:=hb5.size;simp at this;omega
 have hb6:=hb5.alloc (by omega) (Obj.cells #[.int .u64 (0),.int .u64 (281470681743360+n),.int .i64 (96+x)] 235)
 go_wp2_with fail
 refine (HRT.out _).mono ?_
 rintro e x7 ⟨rfl,hb7'⟩
 obtain ⟨d0,d1,d2⟩:=zfR x4 _ _ _ _ x7 (hb7'.mono (by simp))
 have hb7:=zcC hb6 hb7'
 clear hb6 hb7' hb5
 obtain ⟨⟨hc0,hc1,hc2⟩,hf0,hf1,hf2⟩:=HK.out _ hb7
 go_wp2
 refine bodyPost_ret (v:= .tuple #[.agg #[.int .u64 (0),.int .u64 (281470681743360+n),.int .i64 (96+x)],.bool true]) (by simp [results,Tryz.results259,go_sem,hc0,hc1,hc2]) rfl ⟨rfl,?_⟩
 exact (((zbL hb7).setCell (Nat.le_refl _) _).setCell (Nat.le_refl _) _).setCell (Nat.le_refl _) _
theorem zpZ (s:ByteArray) (la ld:List UInt8) (fb:Bool) (ah al:Int) (x:Int) (HZ:Hid (zaY la=some (.six ah al))) (HD:Hid (decZ ld 128=(x,false))) (w:World) (hs:s.size≤1073741824) (hmax:MaxVar w) (hcut:Lib.cut s.data.toList [47]=(la,ld,fb)):
  Calls Tryz.prog 259 #[.string s] w fun e w'=>e= .returned (.tuple #[.agg #[.int .u64 0,.int .u64 0,.int .i64 0],.bool false])∧Below w.heap.size w w':=by
 obtain ⟨hla,hld⟩:=zfI hs hcut
 have HCUT:=Lib.hid hcut
 have HX:=Lib.hid hmax
 obtain ⟨o,ho⟩: ∃o,o=Obj.cells #[.int .u64 0,.int .u64 0,.int .i64 0] 235:=⟨_,rfl⟩
 have HK:Hid (∀W,Below (w.heap.size+1) (w.alloc o) W→(W.cell? ⟨w.heap.size,0,none⟩=some (.int .u64 0)∧W.cell? ⟨w.heap.size,1,none⟩=some (.int .u64 0)∧W.cell? ⟨w.heap.size,2,none⟩=some (.int .i64 0))∧W.frozen? ⟨w.heap.size,0,none⟩=false∧W.frozen? ⟨w.heap.size,1,none⟩=false∧W.frozen? ⟨w.heap.size,2,none⟩=false):=fun W h=>by
  have hb:W.heap[w.heap.size]? =some (.cells #[.int .u64 0,.int .u64 0,.int .i64 0] 235):=by
   rw [h.block _ (Nat.lt_succ_self _),ho];exact Go.Deep.blk_alloc_new _ _
  exact row3 hb
 have hb0:Below (w.heap.size+1) (w.alloc o) (w.alloc o):=Below.refl _ _
 obtain ⟨m,hm⟩:=zaB HX.out ((Below.refl _ _).alloc (Nat.le_refl _) o)
 have HM:=Lib.hid hm
 clear hm hmax hcut
 rw [ho] at HM HK hb0
 clear ho o
 go_enter Tryz.func259,Tryz.ntmps259
 go_wp2_with fail
 refine (Tryz.strings_Cut s ⟨#[47]⟩ m _ (by omega) HM.out).mono ?_
 rw [show (ByteArray.mk #[47]).data.toList=[47] from rfl,HCUT.out]
 rintro e x1 ⟨rfl,k1,rfl⟩
 have hb1:=hb0.trans (zdI (x:=w.alloc (.cells #[.int .u64 0,.int .u64 0,.int .i64 0] 235)) (k:=k1))
 generalize (w.alloc (.cells #[.int .u64 0,.int .u64 0,.int .i64 0] 235)).drewN k1=x1 at*
 go_wp2_with fail
 refine (zbH ⟨la.toArray⟩ _ (by rw [zdF];exact hla) (zaB HX.out (zbL hb1))).mono ?_
 rw [zdC,HZ.out]
 rintro e x2 ⟨rfl,hb2'⟩
 have hb2:=zcC hb1 hb2'
 clear hb1 hb2'
 simp only [optV,AZ.val,Option.isSome]
 go_wp2_with fail
 refine (zoZ ah al _).mono ?_
 rintro e x3 ⟨rfl,rfl⟩
 go_wp2_with fail
 refine (zcO ⟨ld.toArray⟩ 128 _ (by rw [zdF];exact hld) (by omega) (by omega)).mono ?_
 rw [zdC,HD.out]
 rintro e x4 ⟨rfl,hb4'⟩
 have hb4:=zcC hb2 hb4'
 clear hb2 hb4'
 obtain ⟨⟨hc0,hc1,hc2⟩,hf0,hf1,hf2⟩:=HK.out _ hb4
 go_wp2
 refine bodyPost_ret (v:= .tuple #[.agg #[.int .u64 0,.int .u64 0,.int .i64 0],.bool false]) (by simp [results,Tryz.results259,go_sem,hc0,hc1,hc2]) rfl ⟨rfl,?_⟩
 exact (((zbL hb4).setCell (Nat.le_refl _) _).setCell (Nat.le_refl _) _).setCell (Nat.le_refl _) _
theorem zmN (s:ByteArray) (la ld:List UInt8) (fb:Bool) (ah al:Int) (_:(AZ.six ah al).Ok) (hi lo:Nat) (x:Int) (e1:(ah:Int)=hi) (e2:al=(lo:Int)) (b1:hi<18446744073709551616) (b2:lo<18446744073709551616) (bx:0≤x∧x≤128) (HZ:Hid (zaY la=some (.six ah al))) (HD:Hid (decZ ld 128=(x,true))) (hr:zaM (zaH hi lo) (0+x)=false) (w:World) (hs:s.size≤1073741824) (hmax:MaxVar w) (hcut:Lib.cut s.data.toList [47]=(la,ld,fb)):
  Calls Tryz.prog 259 #[.string s] w fun e w'=>e= .returned (.tuple #[.agg #[.int .u64 0,.int .u64 0,.int .i64 0],.bool false])∧Below w.heap.size w w':=by
 obtain ⟨hla,hld⟩:=zfI hs hcut
 have hma: ∀w:World,(method 393 120 (.agg #[.int .u64 ah,.int .u64 al]) "Wide").run Tryz.prog w= .ok (257,(.agg #[.int .u64 ah,.int .u64 al])) w:=fun _=>by kernel_rfl
 have HRT:Hid (∀W,Calls Tryz.prog 249 #[.agg #[.int .u64 (ah),.int .u64 (al),.int .i64 (x)]] W fun e w'=>e= .returned (.bool false)∧Below W.heap.size W w'):=fun W=>by
  have:=zcA hi lo (0+x) W b1 b2;rw [hr,←e1,←e2] at this;rw [Int.zero_add] at this;exact this
 clear hr e1 e2
 have HCUT:=Lib.hid hcut
 have HX:=Lib.hid hmax
 obtain ⟨o,ho⟩: ∃o,o=Obj.cells #[.int .u64 0,.int .u64 0,.int .i64 0] 235:=⟨_,rfl⟩
 have HK:Hid (∀W,Below (w.heap.size+1) (w.alloc o) W→(W.cell? ⟨w.heap.size,0,none⟩=some (.int .u64 0)∧W.cell? ⟨w.heap.size,1,none⟩=some (.int .u64 0)∧W.cell? ⟨w.heap.size,2,none⟩=some (.int .i64 0))∧W.frozen? ⟨w.heap.size,0,none⟩=false∧W.frozen? ⟨w.heap.size,1,none⟩=false∧W.frozen? ⟨w.heap.size,2,none⟩=false):=fun W h=>by
  have hb:W.heap[w.heap.size]? =some (.cells #[.int .u64 0,.int .u64 0,.int .i64 0] 235):=by
   rw [h.block _ (Nat.lt_succ_self _),ho];exact Go.Deep.blk_alloc_new _ _
  exact row3 hb
 have hb0:Below (w.heap.size+1) (w.alloc o) (w.alloc o):=Below.refl _ _
 obtain ⟨m,hm⟩:=zaB HX.out ((Below.refl _ _).alloc (Nat.le_refl _) o)
 have HM:=Lib.hid hm
 clear hm hmax hcut
 rw [ho] at HM HK hb0
 clear ho o
 go_enter Tryz.func259,Tryz.ntmps259
 go_wp2_with fail
 refine (Tryz.strings_Cut s ⟨#[47]⟩ m _ (by omega) HM.out).mono ?_
 rw [show (ByteArray.mk #[47]).data.toList=[47] from rfl,HCUT.out]
 rintro e x1 ⟨rfl,k1,rfl⟩
 have hb1:=hb0.trans (zdI (x:=w.alloc (.cells #[.int .u64 0,.int .u64 0,.int .i64 0] 235)) (k:=k1))
 generalize (w.alloc (.cells #[.int .u64 0,.int .u64 0,.int .i64 0] 235)).drewN k1=x1 at*
 go_wp2_with fail
 refine (zbH ⟨la.toArray⟩ _ (by rw [zdF];exact hla) (zaB HX.out (zbL hb1))).mono ?_
 rw [zdC,HZ.out]
 rintro e x2 ⟨rfl,hb2'⟩
 have hb2:=zcC hb1 hb2'
 clear hb1 hb2'
 simp only [optV,AZ.val,Option.isSome]
 go_wp2_with fail
 refine (zoZ ah al _).mono ?_
 rintro e x3 ⟨rfl,rfl⟩
 go_wp2_with fail
 refine (zcO ⟨ld.toArray⟩ 128 _ (by rw [zdF];exact hld) (by omega) (by omega)).mono ?_
 rw [zdC,HD.out]
 rintro e x4 ⟨rfl,hb4'⟩
 have hb4:=zcC hb2 hb4'
 clear hb2 hb4'
 go_wp2_with fail
 refine (zbC ah al _).mono ?_
 rintro e x5 ⟨rfl,hb5'⟩
 have hb5:=zcC hb4 hb5'
 clear hb4 hb5'
 have hs5:w.heap.size<x5.heap.size:=by have:=hb5.size;simp at this;omega
 have hb6:=hb5.alloc (by omega) (Obj.cells #[.int .u64 (ah),.int .u64 (al),.int .i64 (x)] 235)
 go_wp2_with fail
 refine (HRT.out _).mono ?_
 rintro e x7 ⟨rfl,hb7'⟩
 obtain ⟨d0,d1,d2⟩:=zfR x5 _ _ _ _ x7 (hb7'.mono (by simp))
 have hb7:=zcC hb6 hb7'
 clear hb6 hb7' hb5
 obtain ⟨⟨hc0,hc1,hc2⟩,hf0,hf1,hf2⟩:=HK.out _ hb7
 go_wp2
 refine bodyPost_ret (v:= .tuple #[.agg #[.int .u64 0,.int .u64 0,.int .i64 0],.bool false]) (by simp [results,Tryz.results259,go_sem,hc0,hc1,hc2]) rfl ⟨rfl,?_⟩
 exact (((zbL hb7).setCell (Nat.le_refl _) _).setCell (Nat.le_refl _) _).setCell (Nat.le_refl _) _
theorem zoE (s:ByteArray) (la ld:List UInt8) (fb:Bool) (ah al:Int) (_:(AZ.six ah al).Ok) (hi lo:Nat) (x:Int) (e1:(ah:Int)=hi) (e2:al=(lo:Int)) (b1:hi<18446744073709551616) (b2:lo<18446744073709551616) (bx:0≤x∧x≤128) (HZ:Hid (zaY la=some (.six ah al))) (HD:Hid (decZ ld 128=(x,true))) (hr:zaM (zaH hi lo) (0+x)=true) (w:World) (hs:s.size≤1073741824) (hmax:MaxVar w) (hcut:Lib.cut s.data.toList [47]=(la,ld,fb)):
  Calls Tryz.prog 259 #[.string s] w fun e w'=>e= .returned (.tuple #[.agg #[.int .u64 (ah),.int .u64 (al),.int .i64 (x)],.bool true])∧Below w.heap.size w w':=by
 obtain ⟨hla,hld⟩:=zfI hs hcut
 have hma: ∀w:World,(method 393 120 (.agg #[.int .u64 ah,.int .u64 al]) "Wide").run Tryz.prog w= .ok (257,(.agg #[.int .u64 ah,.int .u64 al])) w:=fun _=>by kernel_rfl
 have HRT:Hid (∀W,Calls Tryz.prog 249 #[.agg #[.int .u64 (ah),.int .u64 (al),.int .i64 (x)]] W fun e w'=>e= .returned (.bool true)∧Below W.heap.size W w'):=fun W=>by
  have:=zcA hi lo (0+x) W b1 b2;rw [hr,←e1,←e2] at this;rw [Int.zero_add] at this;exact this
 clear hr e1 e2
 have HCUT:=Lib.hid hcut
 have HX:=Lib.hid hmax
 obtain ⟨o,ho⟩: ∃o,o=Obj.cells #[.int .u64 0,.int .u64 0,.int .i64 0] 235:=⟨_,rfl⟩
 have HK:Hid (∀W,Below (w.heap.size+1) (w.alloc o) W→(W.cell? ⟨w.heap.size,0,none⟩=some (.int .u64 0)∧W.cell? ⟨w.heap.size,1,none⟩=some (.int .u64 0)∧W.cell? ⟨w.heap.size,2,none⟩=some (.int .i64 0))∧W.frozen? ⟨w.heap.size,0,none⟩=false∧W.frozen? ⟨w.heap.size,1,none⟩=false∧W.frozen? ⟨w.heap.size,2,none⟩=false):=fun W h=>by
  have hb:W.heap[w.heap.size]? =some (.cells #[.int .u64 0,.int .u64 0,.int .i64 0] 235):=by
   rw [h.block _ (Nat.lt_succ_self _),ho];exact Go.Deep.blk_alloc_new _ _
  exact row3 hb
 have hb0:Below (w.heap.size+1) (w.alloc o) (w.alloc o):=Below.refl _ _
 obtain ⟨m,hm⟩:=zaB HX.out ((Below.refl _ _).alloc (Nat.le_refl _) o)
 have HM:=Lib.hid hm
 clear hm hmax hcut
 rw [ho] at HM HK hb0
 clear ho o
 go_enter Tryz.func259,Tryz.ntmps259
 go_wp2_with fail
 refine (Tryz.strings_Cut s ⟨#[47]⟩ m _ (by omega) HM.out).mono ?_
 rw [show (ByteArray.mk #[47]).data.toList=[47] from rfl,HCUT.out]
 rintro e x1 ⟨rfl,k1,rfl⟩
 have hb1:=hb0.trans (zdI (x:=w.alloc (.cells #[.int .u64 0,.int .u64 0,.int .i64 0] 235)) (k:=k1))
 generalize (w.alloc (.cells #[.int .u64 0,.int .u64 0,.int .i64 0] 235)).drewN k1=x1 at*
 go_wp2_with fail
 refine (zbH ⟨la.toArray⟩ _ (by rw [zdF];exact hla) (zaB HX.out (zbL hb1))).mono ?_
 rw [zdC,HZ.out]
 rintro e x2 ⟨rfl,hb2'⟩
 have hb2:=zcC hb1 hb2'
 clear hb1 hb2'
 simp only [optV,AZ.val,Option.isSome]
 go_wp2_with fail
 refine (zoZ ah al _).mono ?_
 rintro e x3 ⟨rfl,rfl⟩
 go_wp2_with fail
 refine (zcO ⟨ld.toArray⟩ 128 _ (by rw [zdF];exact hld) (by omega) (by omega)).mono ?_
 rw [zdC,HD.out]
 rintro e x4 ⟨rfl,hb4'⟩
 have hb4:=zcC hb2 hb4'
 clear hb2 hb4'
 go_wp2_with fail
 refine (zbC ah al _).mono ?_
 rintro e x5 ⟨rfl,hb5'⟩
 have hb5:=zcC hb4 hb5'
 clear hb4 hb5'
 have hs5:w.heap.size<x5.heap.size:=by have:=hb5.size;simp at this;omega
 have hb6:=hb5.alloc (by omega) (Obj.cells #[.int .u64 (ah),.int .u64 (al),.int .i64 (x)] 235)
 go_wp2_with fail
 refine (HRT.out _).mono ?_
 rintro e x7 ⟨rfl,hb7'⟩
 obtain ⟨d0,d1,d2⟩:=zfR x5 _ _ _ _ x7 (hb7'.mono (by simp))
 have hb7:=zcC hb6 hb7'
 clear hb6 hb7' hb5
 obtain ⟨⟨hc0,hc1,hc2⟩,hf0,hf1,hf2⟩:=HK.out _ hb7
 go_wp2
 refine bodyPost_ret (v:= .tuple #[.agg #[.int .u64 (ah),.int .u64 (al),.int .i64 (x)],.bool true]) (by simp [results,Tryz.results259,go_sem,hc0,hc1,hc2]) rfl ⟨rfl,?_⟩
 exact (((zbL hb7).setCell (Nat.le_refl _) _).setCell (Nat.le_refl _) _).setCell (Nat.le_refl _) _
theorem zfC (s:ByteArray) (w:World) (hs:s.size≤1073741824) (hmax:MaxVar w):
  Calls Tryz.prog 259 #[.string s] w (RetPf w (zaV s.data.toList)):=by
 obtain ⟨la,ld,fb,hcut⟩: ∃a d b,Lib.cut s.data.toList [47]=(a,d,b):=⟨_,_,_,rfl⟩
 have hp:zaV s.data.toList=zcH la ld:=by unfold zaV;rw [hcut]
 unfold RetPf
 rw [hp]
 cases hz:zaY la with
 |none=>
  rw [show zcH la ld=none from by unfold zcH;rw [hz]]
  exact zyC s la ld fb hz w hs hmax hcut
 |some z=>
  have ho:=yeS hz
  cases z with
  |four n=>
   obtain ⟨x,bd,hd⟩: ∃x b,decZ ld 32=(x,b):=⟨_,_,rfl⟩
   have bx:=zhM ld 32 (by omega)
   rw [hd] at bx
   have hd':decZ ld (128 - (AZ.four n).ahead)=(x,bd):=hd
   cases bd with
   |false=>
    rw [show zcH la ld=none from by unfold zcH;rw [hz];simp only [hd'];rw [if_neg (by simp)]]
    exact znG s la ld fb n x hz hd w hs hmax hcut
   |true=>
    obtain ⟨hi,lo,e1,e2,b1,b2,e3⟩:=AZ.ok_hl ho
    cases hr:zaM (AZ.four n).wd (96+x) with
    |false=>
     rw [show zcH la ld=none from by unfold zcH;rw [hz];simp only [hd'];rw [if_neg (by rw [show (AZ.four n).ahead=96 from rfl,hr];simp)]]
     rw [e3] at hr
     exact zlS s la ld fb n ho hi lo x e1 e2 b1 b2 bx hz hd hr w hs hmax hcut
    |true=>
     rw [show zcH la ld=some ((AZ.four n).wd,(96+x).toNat) from by unfold zcH;rw [hz];simp only [hd'];rw [if_pos ⟨trivial,by rw [show (AZ.four n).ahead=96 from rfl,hr]⟩];rfl]
     rw [e3] at hr ⊢
     have:=zmO s la ld fb n ho hi lo x e1 e2 b1 b2 bx hz hd hr w hs hmax hcut
     rw [show (0:Int)=hi from e1,show 281470681743360+n=(lo:Int) from e2] at this
     have h3:optP (some (zaH hi lo,(96+x).toNat))= .agg #[.int .u64 hi,.int .u64 lo,.int .i64 (96+x)]:=by
      show pfW _ _=_
      rw [zkL b2,show ((96+x).toNat:Int)=96+x from by omega];rfl
     rw [h3]
     exact this
  |six ah al=>
   obtain ⟨x,bd,hd⟩: ∃x b,decZ ld 128=(x,b):=⟨_,_,rfl⟩
   have bx:=zhM ld 128 (by omega)
   rw [hd] at bx
   have hd':decZ ld (128 - (AZ.six ah al).ahead)=(x,bd):=hd
   cases bd with
   |false=>
    rw [show zcH la ld=none from by unfold zcH;rw [hz];simp only [hd'];rw [if_neg (by simp)]]
    exact zpZ s la ld fb ah al x hz hd w hs hmax hcut
   |true=>
    obtain ⟨hi,lo,e1,e2,b1,b2,e3⟩:=AZ.ok_hl ho
    cases hr:zaM (AZ.six ah al).wd (0+x) with
    |false=>
     rw [show zcH la ld=none from by unfold zcH;rw [hz];simp only [hd'];rw [if_neg (by rw [show (AZ.six ah al).ahead=0 from rfl,hr];simp)]]
     rw [e3] at hr
     exact zmN s la ld fb ah al ho hi lo x e1 e2 b1 b2 bx hz hd hr w hs hmax hcut
    |true=>
     rw [show zcH la ld=some ((AZ.six ah al).wd,(0+x).toNat) from by unfold zcH;rw [hz];simp only [hd'];rw [if_pos ⟨trivial,by rw [show (AZ.six ah al).ahead=0 from rfl,hr]⟩];rfl]
     rw [e3] at hr ⊢
     have:=zoE s la ld fb ah al ho hi lo x e1 e2 b1 b2 bx hz hd hr w hs hmax hcut
     rw [show ah=(hi:Int) from e1,show al=(lo:Int) from e2] at this
     have h3:optP (some (zaH hi lo,(0+x).toNat))= .agg #[.int .u64 hi,.int .u64 lo,.int .i64 x]:=by
      show pfW _ _=_
      rw [zkL b2,show ((0+x).toNat:Int)=x from by omega];rfl
     rw [h3]
     exact this
end

section
open Go.RowKit
theorem a7_a:zaY [49,48,46,48,46,48,46,48]=some (.four 167772160):=by
 unfold zaY
 rw [show zaN [49,48,46,48,46,48,46,48]=(167772160,true) from by decide+kernel];rfl
theorem a7_b:zaY [49,48,46,49,46,50,46,51]=some (.four 167838211):=by
 unfold zaY
 rw [show zaN [49,48,46,49,46,50,46,51]=(167838211,true) from by decide+kernel];rfl
theorem a7_c:zaY [58,58,102,102,102,102,58,49,48,46,49,46,50,46,51]=some (.six 0 281470849581571):=by
 unfold zaY
 rw [show zaN [58,58,102,102,102,102,58,49,48,46,49,46,50,46,51]=(0,false) from by decide+kernel,show sixZ [58,58,102,102,102,102,58,49,48,46,49,46,50,46,51]=((0,281470849581571),true) from by decide+kernel];rfl
theorem a7_d:zaY [49,49,46,49,46,50,46,51]=some (.four 184615427):=by
 unfold zaY
 rw [show zaN [49,49,46,49,46,50,46,51]=(184615427,true) from by decide+kernel];rfl
theorem p7_a:zaV [49,48,46,48,46,48,46,48,47,56]=some (281470849515520,104):=by
 unfold zaV
 rw [show ([49,48,46,48,46,48,46,48,47,56]:List UInt8)=[49,48,46,48,46,48,46,48]++47::[56] from rfl,zbO [56] (by decide)]
 unfold zcH
 rw [a7_a]
 simp only []
 rw [show decZ [56] (128 - (AZ.four 167772160).ahead)=(8,true) from by decide+kernel,show (AZ.four 167772160).wd=281470849515520 from by decide+kernel,show (AZ.four 167772160).ahead+(8,true).1=104 from rfl,show zaM 281470849515520 104=true from by decide+kernel]
 rfl
theorem o7_a:optP (some (281470849515520,104))= .agg #[.int .u64 0,.int .u64 281470849515520,.int .i64 104]:=rfl
theorem z5C (w:World) (hbru:BruTab w) (hmax:MaxVar w):
  Calls Tryz.prog 274 #[] w fun e w'=>e= .returned (.bool true)∧Below w.heap.size w w':=by
 have HT:=Lib.hid hbru
 have HX:=Lib.hid hmax
 clear hbru hmax
 go_enter Tryz.func274,Tryz.ntmps274
 go_wp2_with fail
 refine (zzB _ HT.out HX.out).mono ?_
 rintro e w1 ⟨rfl,hb1⟩
 go_wp2
 go_ret
 exact ⟨rfl,hb1⟩
theorem h7_b:zfP (zaH 0 281470849515520) (104:Nat) (AZ.four 167838211).wd=true:=by decide+kernel
theorem h7_c:zfP (zaH 0 281470849515520) (104:Nat) (AZ.six 0 281470849581571).wd=true:=by decide+kernel
theorem h7_d:zfP (zaH 0 281470849515520) (104:Nat) (AZ.four 184615427).wd=false:=by decide+kernel
theorem zyV (w:World) (hbru:BruTab w) (hmax:MaxVar w):
  Calls Tryz.prog 273 #[] w fun e w'=>e= .returned (.bool true)∧Below w.heap.size w w':=by
 have HT:=Lib.hid hbru
 have HX:=Lib.hid hmax
 have HB:Hid (∀W,Calls Tryz.prog 265 #[.agg #[.int .u64 0,.int .u64 281470849515520,.int .i64 104],.iface 117 (.int .u32 167838211)] W fun e w'=>e= .returned (.bool true)∧Below W.heap.size W w'):=fun W=>by
  have:=zkE 0 281470849515520 (104:Nat) (.four 167838211) W (by decide) (by decide) ⟨by decide,by decide⟩;rw [h7_b] at this;exact this
 have HC:Hid (∀W,Calls Tryz.prog 265 #[.agg #[.int .u64 0,.int .u64 281470849515520,.int .i64 104],.iface 120 (.agg #[.int .u64 0,.int .u64 281470849581571])] W fun e w'=>e= .returned (.bool true)∧Below W.heap.size W w'):=fun W=>by
  have:=zkE 0 281470849515520 (104:Nat) (.six 0 281470849581571) W (by decide) (by decide) ⟨⟨by decide,by decide⟩,by decide,by decide⟩;rw [h7_c] at this;exact this
 have HD:Hid (∀W,Calls Tryz.prog 265 #[.agg #[.int .u64 0,.int .u64 281470849515520,.int .i64 104],.iface 117 (.int .u32 184615427)] W fun e w'=>e= .returned (.bool false)∧Below W.heap.size W w'):=fun W=>by
  have:=zkE 0 281470849515520 (104:Nat) (.four 184615427) W (by decide) (by decide) ⟨by decide,by decide⟩;rw [h7_d] at this;exact this
 clear hbru hmax
 go_enter Tryz.func273,Tryz.ntmps273
 go_wp2_with fail
 refine (zfC _ _ (by decide) HX.out).mono ?_
 rw [show zaV (ByteArray.mk #[49,48,46,48,46,48,46,48,47,56]).data.toList=some (281470849515520,104) from p7_a]
 rintro e x1 ⟨rfl,hb1⟩
 rw [o7_a]
 simp only [Option.isSome]
 have hA:Below w.heap.size w (x1.alloc (.cells #[.int .u64 0,.int .u64 281470849515520,.int .i64 104] 235)):=hb1.alloc hb1.size _
 have HK:=Lib.hid (zfR x1 (.int .u64 0) (.int .u64 281470849515520) (.int .i64 104) 235)
 have hk1:Below (x1.heap.size+1) (x1.alloc (.cells #[.int .u64 0,.int .u64 281470849515520,.int .i64 104] 235)) (x1.alloc (.cells #[.int .u64 0,.int .u64 281470849515520,.int .i64 104] 235)):=Below.refl _ _
 go_wp2_with fail
 refine (zbH _ _ (by decide) (zaB HX.out hA)).mono ?_
 rw [show zaY (ByteArray.mk #[49,48,46,49,46,50,46,51]).data.toList=some (.four 167838211) from a7_b]
 rintro e x2 ⟨rfl,hb2'⟩
 have hk2:=zcC hk1 hb2'
 have hA2:=zaA hA hb2'
 simp only [optV,AZ.val,Option.isSome]
 clear hb2' hk1 hA hb1
 go_wp2_with fail
 refine (zbH _ _ (by decide) (zaB HX.out hA2)).mono ?_
 rw [show zaY (ByteArray.mk #[58,58,102,102,102,102,58,49,48,46,49,46,50,46,51]).data.toList=some (.six 0 281470849581571) from a7_c]
 rintro e x3 ⟨rfl,hb3'⟩
 have hk3:=zcC hk2 hb3'
 have hA3:=zaA hA2 hb3'
 simp only [optV,AZ.val,Option.isSome]
 clear hb3' hk2 hA2
 go_wp2_with fail
 refine (zbH _ _ (by decide) (zaB HX.out hA3)).mono ?_
 rw [show zaY (ByteArray.mk #[49,49,46,49,46,50,46,51]).data.toList=some (.four 184615427) from a7_d]
 rintro e x4 ⟨rfl,hb4'⟩
 have hk4:=zcC hk3 hb4'
 have hA4:=zaA hA3 hb4'
 simp only [optV,AZ.val,Option.isSome]
 clear hb4' hk3 hA3
 go_wp2_with fail
 refine (z5C _ (zaL HT.out hA4) (zaB HX.out hA4)).mono ?_
 rintro e x5 ⟨rfl,hb5'⟩
 have hk5:=zcC hk4 hb5'
 have hA5:=zaA hA4 hb5'
 clear hb5' hk4 hA4
 obtain ⟨c0,c1,c2⟩:=HK.out _ hk5
 go_wp2_with fail
 refine (HB.out _).mono ?_
 rintro e x6 ⟨rfl,hb6'⟩
 have hk6:=zcC hk5 hb6'
 have hA6:=zaA hA5 hb6'
 clear hb6' hk5 hA5 c0 c1 c2
 obtain ⟨c0,c1,c2⟩:=HK.out _ hk6
 go_wp2_with fail
 refine (HC.out _).mono ?_
 rintro e x7 ⟨rfl,hb7'⟩
 have hk7:=zcC hk6 hb7'
 have hA7:=zaA hA6 hb7'
 clear hb7' hk6 hA6 c0 c1 c2
 obtain ⟨c0,c1,c2⟩:=HK.out _ hk7
 go_wp2_with fail
 refine (HD.out _).mono ?_
 rintro e x8 ⟨rfl,hb8'⟩
 have hA8:=zaA hA7 hb8'
 go_wp2
 go_ret
 exact ⟨rfl,hA8⟩
theorem z6A (w:World) (hbru:BruTab w) (hmax:MaxVar w):
  Calls Tryz.prog 272 #[] w fun e w'=>e= .returned (.bool true)∧Below w.heap.size w w':=by
 have HT:=Lib.hid hbru
 have HX:=Lib.hid hmax
 clear hbru hmax
 go_enter Tryz.func272,Tryz.ntmps272
 go_wp2_with fail
 refine (zyV _ HT.out HX.out).mono ?_
 rintro e w1 ⟨rfl,hb1⟩
 go_wp2
 go_ret
 exact ⟨rfl,hb1⟩
end

end Go.Proofs.YthacmlahnpdeeaaGreatDoor
