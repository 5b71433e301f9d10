/-
  What the law DotsGo leans on, and its walk (1 of 33).
-/
import Derived.Test.YtppgdppmheiocaaGreatDoorChecked
import Derived.WalkKit
import Derived.WalkLawsBesides
import Derived.BigQuiet
import Derived.Deep.QuietTactic
import Derived.Lib.Hide
import Derived.Lib.OthersKept
import Derived.Lib.RuneBytes
import Derived.Test.YtppgdppmheiocaaGreatDoorShelf
import Derived.OpenShut
import Derived.Lib.ConvBytes
import Derived.WalkSpells
import Derived.Lib.Join
namespace Go.Proofs.YtppgdppmheiocaaGreatDoor
set_option maxRecDepth 100000
set_option maxHeartbeats 16000000
section
section
open Go.RowKit
theorem zbQ {a b:Bool} (h:a=b):Ending.returned (.bool a)= .returned (.bool b):=by rw [h]
theorem zhF (w:World) (u:Value) (t:TypeId): ∀j x,[u][j]? =some x→(w.alloc (.cells #[u] t)).cell? ((⟨w.heap.size,0,none⟩:Addr).add j)=some x:=by
 intro j x hj
 match j,hj with
 |0,hj=>simp at hj;subst hj;simp [Addr.add]
theorem zgX {w w':World} {B:Nat} {t:TypeId} {v:Value} {n:Nat} {xs:List Value} (h:w.ownsRow B t 1 v n xs) (hb:Below w.heap.size w w'):w'.ownsRow B t 1 v n xs:=by
 refine ⟨h.1,?_⟩
 rcases h.2 with h2|⟨g,cap,cur,h1,h2,h3,h4⟩
 ·exact .inl h2
 ·exact .inr ⟨g,cap,cur,h1,h2,(hb.block g (Array.getElem?_eq_some_iff.1 h3).1).trans h3,h4⟩
theorem zdV (x y:List UInt8):(ByteArray.mk x.toArray++ByteArray.mk y.toArray)=ByteArray.mk (x++y).toArray:=ByteArray.mk_append_mk x y
theorem zcG (s:ByteArray) (k:Nat) (h:k<s.size):s.data.toList.take (k+1)=s.data.toList.take k++[s[k]]:=by
 rw [List.take_succ_eq_append_getElem (by simpa using h)]
 rfl
theorem zjD (s:ByteArray) (k:Nat) (h: ¬k<s.size):s.data.toList.take k=s.data.toList:=List.take_of_length_le (by simpa using h)
theorem zcF {P:Program} (w:World) {ops:Array Oper} {rest:List Oper} {o:Oper} {a:Act} {Q:Exit→Act→World→Prop} (hgd:o.guard=none) (s x:Operand) (t:TypeId)
  (ho:o.op= .call {callee:= .builtin .append,args:= #[s,x],argTypes:= #[t,t]})
  (base:Nat) (e:TypeId) (i:TypeInfo) (z:Value) (bytes:Nat) (ht:P.underlying t=some (.slice e)) (hi:P.info? e=some i) (hz:i.zero=some z)
  (hsize:i.size=1) (hby:i.bytes=bytes) (hzs:z.cells.size=1)
  (v:Value) (n:Nat) (xs:List Value) (hs:a.eval s=v) (hown:w.ownsRow base e 1 v n xs) (u:Value) (hx:a.eval x= .slice (some ⟨w.heap.size,0,none⟩) 1 1) (hu:u.oneCell'=true)
  (h63:n+1≤9223372036854775807) (hbytes:(n+1)*bytes≤140737488355328) (hbase:base≤w.heap.size)
  (h: ∀v' w',w'.ownsRow base e 1 v' (n+1) (xs++[u])→Below base w w'→wpList P ops Q rest (a.put o.dst v') w'):wpList P ops Q (o::rest) a (w.alloc (.cells #[u] e)):=by
 refine wpList_append_own (w.alloc (.cells #[u] e)) hgd s x t ho base e i z 1 bytes ht hi hz hsize hby hzs (by decide) v n xs hs (hown.alloc _) ⟨w.heap.size,0,none⟩ 1 1 [u] hx rfl (zhF w u e) ?_ h63 hbytes (by simp;omega) ?_
 ·intro y hy;simp at hy;subst hy;exact hu
 ·intro v' w1 hown' hgrow _
  exact h v' w1 hown' (((Below.refl base w).alloc hbase _).grown hgrow (by simp;omega) (fun k hk=>(hown.lt k hk).1))
theorem Tryz.infoStr:(Tryz.prog.info? 9).map (fun i=>(i.zero,i.size,i.bytes))=some (some (.string ⟨#[]⟩),1,16):=by kernel_rfl
def hasB (l:List UInt8) (c:UInt8):Bool:=l.any (· ==c)
theorem zjY (s:ByteArray) (c:UInt8) (k:Nat) (h:k<s.size) (e:s[k].toNat=c.toNat):hasB s.data.toList c=true:=by
 unfold hasB
 rw [List.any_eq_true]
 refine ⟨s[k],?_,by simpa using UInt8.toNat_inj.1 e⟩
 show s.data[k]∈_
 simp
theorem zkM (s:ByteArray) (c:UInt8) (h: ∀k (h:k<s.size),s[k].toNat≠c.toNat):hasB s.data.toList c=false:=by
 unfold hasB
 rw [List.any_eq_false]
 intro x hx
 obtain ⟨k,hk,rfl⟩:=List.getElem_of_mem hx
 have:=h k (by simpa using hk)
 intro e
 have e':s.data[k]=c:=by simpa using e
 exact this (congrArg UInt8.toNat e')
theorem zgN (s:ByteArray) (c:UInt8) (w:World) (hs:s.size≤1073741824):
  Calls Tryz.prog 53 #[.string s,.int .u8 (c.toNat:Int)] w fun e w'=>e= .returned (.bool (hasB s.data.toList c))∧w=w':=by
 obtain ⟨n,hn⟩: ∃n,c.toNat=n:=⟨_,rfl⟩
 have HN:=Lib.hid hn
 rw [hn]
 clear hn
 go_enter Tryz.func53,Tryz.ntmps53
 go_wp2
 go_loop [5] (fun i=> ∃k:Nat,k≤s.size∧i= .int .i64 k∧Hid (∀j (h:j<s.size),j<k→s[j].toNat≠c.toNat)) (fun i=>s.size - (intOf i).toNat)
 case atStart=>exact ⟨0,Nat.zero_le _,rfl,fun j _ h=>by omega⟩
 case round=>
  obtain ⟨k,hk,rfl,H⟩:=hrel
  by_cases hlt:k<s.size
  ·obtain ⟨m,hm⟩: ∃m,(s[k]'hlt).toNat=m:=⟨_,rfl⟩
   by_cases e:m=n
   ·subst e
    have HF:=Lib.hid (zjY s c k hlt (by rw [hm,HN.out]))
    go_wp2
    go_ret
    exact ⟨zbQ HF.out.symm,rfl⟩
   ·have b1:((m:Int)==(n:Int))=false:=beq_eq_false_iff_ne.2 (by omega)
    have HM:=Lib.hid hm
    go_wp2
    go_round
    case rel=>
     refine ⟨k+1,by omega,by go_num,fun j hj hjk=> ?_⟩
     by_cases e2:j=k
     ·subst e2;rw [HM.out,HN.out];exact e
     ·exact H.out j hj (by omega)
    case measure=>simp [intOf];omega
  ·have HF:=Lib.hid (zkM s c (fun j hj=>H.out j hj (by omega)))
   go_wp2
   go_ret
   exact ⟨zbQ HF.out.symm,rfl⟩
theorem ziI {P:Program} (w:World) (t:TypeId) (s:ByteArray) (i j:Int) (a b:Nat) (hi:i=a) (hj:j=b) (hab:a≤b) (hb:b≤s.size) (h:P.underlying t=some .string):
  (Instr.slice t (.string s) (some (.int .i64 i)) (some (.int .i64 j)) none).run P w= .ok (.string (s.extract a b)) w:=by
 subst hi hj
 rw [run_slice_string_if w t s .i64 .i64 _ _ h,if_pos (by omega),if_pos (by omega)]
 simp
def zaJ (p:UInt8→Bool) (st:List (List UInt8)×List UInt8) (c:UInt8):List (List UInt8)×List UInt8:=
 if p c then (st.1++[st.2],[]) else (st.1,st.2++[c])
def spl (p:UInt8→Bool) (l:List UInt8):List (List UInt8)×List UInt8:=l.foldl (zaJ p) ([],[])
def splitB (p:UInt8→Bool) (l:List UInt8):List (List UInt8):=(spl p l).1++[(spl p l).2]
def strC (l:List UInt8):Value:= .string ⟨l.toArray⟩
def zbD (l:List (List UInt8)):List Value:=l.map strC
theorem zkS (p:UInt8→Bool) (s:ByteArray) (k:Nat) (h:k<s.size) (hp:p s[k]=true):spl p (s.data.toList.take (k+1))=((spl p (s.data.toList.take k)).1++[(spl p (s.data.toList.take k)).2],[]):=by
 rw [zcG s k h]
 simp [spl,zaJ,hp]
theorem spl_no (p:UInt8→Bool) (s:ByteArray) (k:Nat) (h:k<s.size) (hp:p s[k]=false):spl p (s.data.toList.take (k+1))=((spl p (s.data.toList.take k)).1,(spl p (s.data.toList.take k)).2++[s[k]]):=by
 rw [zcG s k h]
 simp [spl,zaJ,hp]
theorem zfU (s:ByteArray) (a b:Nat) (l:List UInt8) (h:(s.data.toList.drop a).take (b - a)=l):s.extract a b=⟨l.toArray⟩:=by
 apply ByteArray.ext
 apply Array.ext'
 rw [Lib.extract_data,h]
theorem ziS (s:ByteArray) (a k:Nat) (ha:a≤k) (h:k<s.size):(s.data.toList.drop a).take (k+1 - a)=(s.data.toList.drop a).take (k - a)++[s[k]]:=by
 rw [show k+1 - a=(k - a)+1 from by omega,List.take_succ_eq_append_getElem (by simp;omega)]
 congr 2
 rw [List.getElem_drop]
 have:a+(k - a)=k:=by omega
 simp only [this]
 rfl
def zaI (B:Nat) (w:World) (v:Value) (ps:List (List UInt8)):Prop:=w.ownsRow B 9 1 v ps.length (zbD ps)
theorem zaI.nil (B:Nat) (w:World):zaI B w (.slice none 0 0) []:=World.ownsRow_nil _ _ _ _
theorem zaI.snoc {B:Nat} {w:World} {v:Value} {ps:List (List UInt8)} {x:ByteArray} {l:List UInt8} (h:w.ownsRow B 9 1 v (ps.length+1) (zbD ps++[.string x])) (hx:x=⟨l.toArray⟩):zaI B w v (ps++[l]):=by
 unfold zaI zbD
 rw [List.map_append,List.length_append]
 subst hx
 exact h
def zjX (B:Nat) (ps:List (List UInt8)) (w:World) (e:Ending) (w':World):Prop:= ∃v,e= .returned v∧zaI B w' v ps∧Below B w w'
theorem zfQ (T:List UInt8) (s:ByteArray) (k:Nat) (h:k<s.size):(ByteArray.mk T.toArray++s.extract k (k+1))=ByteArray.mk (T++[s[k]]).toArray:=by
 have e:s.extract k (k+1)=⟨[s[k]].toArray⟩:=by
  refine zfU s k (k+1) [s[k]] ?_
  have:=ziS s k k (Nat.le_refl _) h
  rw [this];simp
 rw [e,zdV]
theorem zdT (s at_:ByteArray) (w:World) (hs:s.size≤1073741824) (ha:at_.size≤1073741824):
  Calls Tryz.prog 62 #[.string s,.string at_] w (zjX w.heap.size (splitB (hasB at_.data.toList) s.data.toList) w):=by
 obtain ⟨i0,hi,hz0,hz1,hz2⟩:=info_parts Tryz.infoStr
 go_enter Tryz.func62,Tryz.ntmps62
 go_wp2
 go_loopw [5,6,7] (fun v pa i wr=> ∃(k:Nat) (ps:List (List UInt8)) (T:List UInt8),k≤s.size∧i= .int .i64 k∧pa= .string ⟨T.toArray⟩∧T.length≤k∧zaI w.heap.size wr v ps∧ps.length≤k∧Hid (spl (hasB at_.data.toList) (s.data.toList.take k)=(ps,T))∧Below w.heap.size w wr) (fun _ _ i _=>s.size - (intOf i).toNat)
 case atStart=>exact ⟨0,[],[],Nat.zero_le _,rfl,rfl,by simp,zaI.nil _ _,by simp,rfl,Below.refl _ _⟩
 case round=>
  obtain ⟨k,ps,T,hk,rfl,rfl,hTl,hown,hpl,HS,hbw⟩:=hrel
  have hsz:=hbw.size
  unfold zaI at hown
  by_cases hlt:k<s.size
  ·by_cases hp:hasB at_.data.toList s[k]=true
   ·have hsn:=zkS (hasB at_.data.toList) s k hlt hp
    rw [HS.out] at hsn
    have HSN:=Lib.hid hsn
    clear hsn
    go_wp2_with (first|(go_at_call 53;refine (zgN _ _ _ ha).mono ?_;rintro e w' ⟨rfl,rfl⟩)|(at_builtin;refine zcF _ rfl _ _ 40 rfl w.heap.size 9 i0 (.string ⟨#[]⟩) 16 Tryz.underlying40 hi hz0 hz1 hz2 rfl _ _ _ rfl hown (.string ⟨T.toArray⟩) rfl rfl (by omega) (by omega) hsz ?_;intro v' w1 hown' hk'))
    go_roundw
    case rel=>
     exact ⟨k+1,ps++[T],[],by omega,by go_num,rfl,by simp,zaI.snoc hown' rfl,by simp;omega,HSN.out,hbw.trans hk'⟩
    case measure=>simp [intOf];omega
   ·have hp':hasB at_.data.toList s[k]=false:=by simpa using hp
    have hsn:=spl_no (hasB at_.data.toList) s k hlt hp'
    rw [HS.out] at hsn
    have HSN:=Lib.hid hsn
    clear hsn hp
    have hsl:=fun W:World=>ziI (P:=Tryz.prog) W 9 s (k:Int) ((k:Int)+1) k (k+1) rfl (by omega) (by omega) (by omega) Tryz.underlying9
    go_wp2_with (go_at_call 53;refine (zgN _ _ _ ha).mono ?_;rintro e w' ⟨rfl,rfl⟩)
    go_roundw
    case rel=>
     refine ⟨k+1,ps,T++[s[k]],by omega,by go_num,?_,by simp;omega,hown,by omega,HSN.out,hbw⟩
     rw [←zfQ T s k hlt]
    case measure=>simp [intOf];omega
  ·have hfin:splitB (hasB at_.data.toList) s.data.toList=ps++[T]:=by
    have:=HS.out
    rw [zjD s k hlt] at this
    unfold splitB
    rw [this]
   have HF:=Lib.hid hfin
   clear hfin
   go_wp2_with (at_builtin;refine zcF _ rfl _ _ 40 rfl w.heap.size 9 i0 (.string ⟨#[]⟩) 16 Tryz.underlying40 hi hz0 hz1 hz2 rfl _ _ _ rfl hown (.string ⟨T.toArray⟩) rfl rfl (by omega) (by omega) hsz ?_;intro v' w1 hown' hk')
   go_ret
   exact ⟨v',rfl,by rw [HF.out];exact zaI.snoc hown' rfl,hbw.trans hk'⟩
theorem zaE (l:List UInt8):(ByteArray.mk l.toArray).size=l.length:=by simp [ByteArray.size]
/-! ### parts,put together again -/
def bas (ps:List (List UInt8)):List ByteArray:=ps.map fun l=>⟨l.toArray⟩
theorem zjI (ps:List (List UInt8)) (j:Nat) (h:j<ps.length):(bas ps).getD j ByteArray.empty=⟨(ps.getD j []).toArray⟩:=by
 simp [bas,List.getD,List.getElem?_eq_getElem h]
theorem zaI.below {B:Nat} {w w':World} {v:Value} {ps:List (List UInt8)} (h:zaI B w v ps) (hb:Below w.heap.size w w'):zaI B w' v ps:=zgX h hb
theorem zcE (p:UInt8→Bool) (l:List UInt8):(splitB p l).length≤l.length+1:=by
 have key: ∀(l:List UInt8) (st:List (List UInt8)×List UInt8),(l.foldl (zaJ p) st).1.length≤st.1.length+l.length:=by
  intro l
  induction l with
  |nil=>intro st;simp
  |cons c l ih=>
   intro st
   rw [List.foldl_cons]
   have:=ih (zaJ p st c)
   have h2:(zaJ p st c).1.length≤st.1.length+1:=by unfold zaJ;split<;>simp
   simp;omega
 have:=key l ([],[])
 simp [splitB,spl] at this ⊢
 omega
/-! ### a second time -/
end
end
end Go.Proofs.YtppgdppmheiocaaGreatDoor
