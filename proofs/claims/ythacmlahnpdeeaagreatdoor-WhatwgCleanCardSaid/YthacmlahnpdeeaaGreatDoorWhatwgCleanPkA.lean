/-
  What the law WhatwgClean leans on, and its walk (1 of 31).
-/
import Derived.Test.YthacmlahnpdeeaaGreatDoorChecked
import Derived.WalkKit
import Derived.WalkLawsBesides
import Derived.BigQuiet
import Derived.Deep.QuietTactic
import Derived.Lib.Hide
import Derived.Lib.OthersKept
import Derived.Lib.RuneBytes
import Derived.Test.YthacmlahnpdeeaaGreatDoorWhatwgCleanPkS
import Derived.OpenShut
import Derived.Lib.ConvBytes
import Derived.WalkSpells
import Derived.Lib.Join
namespace Go.Proofs.YthacmlahnpdeeaaGreatDoor
set_option maxRecDepth 100000
set_option maxHeartbeats 16000000
section
section
open Go.RowKit
theorem zaT {a b:Bool} (h:a=b):Ending.returned (.bool a)= .returned (.bool b):=by rw [h]
/-- all bytes below 128 -/
def zoN (s:ByteArray):Bool:=s.data.toList.all fun c=>decide (c.toNat<128)
theorem zvQ (s:ByteArray) (k:Nat) (h:k<s.size) (hc:128≤(s[k]'h).toNat):zoN s=false:=by
 unfold zoN
 rw [List.all_eq_false]
 refine ⟨s[k]'h,?_,by simp;omega⟩
 show s.data[k]∈_
 simp
theorem zyP (s:ByteArray) (h: ∀k (h:k<s.size),(s[k]'h).toNat<128):zoN s=true:=by
 unfold zoN
 rw [List.all_eq_true]
 intro c hc
 obtain ⟨k,hk,rfl⟩:=List.getElem_of_mem hc
 have:=h k (by simpa using hk)
 simp only [decide_eq_true_eq]
 exact this
end
section
open Go.RowKit
/-- the slice value v holds the cells xs -/
def RowR (w:World) (v:Value) (xs:List Value):Prop:=
 ∃ao c,v= .slice ao xs.length c∧ ∀j u,xs[j]? =some u→ ∃ad,ao=some ad∧w.cell? (ad.add j)=some u
theorem RowR.of_own {w:World} {base:Nat} {e:TypeId} {v:Value} {xs:List Value} (h:w.ownsRow base e 1 v xs.length xs):RowR w v xs:=by
 rcases h.2 with ⟨rfl,h0⟩|⟨g,cap,cur,rfl,_,hg,hn,_,hs,ht⟩
 ·refine ⟨none,0,by rw [h0],fun j u hj=> ?_⟩
  have:=List.length_eq_zero_iff.1 h0
  subst this
  simp at hj
 ·refine ⟨some ⟨g,0,none⟩,cap,rfl,fun j u hj=>⟨_,rfl,?_⟩⟩
  have hlt:j<xs.length:=(List.getElem?_eq_some_iff.1 hj).1
  have e1:(Addr.add ⟨g,0,none⟩ j)=⟨g,j,none⟩:=by
   unfold Addr.add;split<;>simp_all
  rw [e1,cell_of_row w g j cur e (0,0) hg]
  rw [←ht,List.getElem?_take] at hj
  rw [if_pos (by omega)] at hj
  simpa using hj
theorem RowR.keep {w w':World} {v:Value} {xs:List Value} (h:RowR w v xs) (hk: ∀a u,w.cell? a=some u→w'.cell? a=some u):RowR w' v xs:=by
 obtain ⟨ao,c,hv,hc⟩:=h
 refine ⟨ao,c,hv,fun j u hj=> ?_⟩
 obtain ⟨ad,ha,hx⟩:=hc j u hj
 exact ⟨ad,ha,hk _ _ hx⟩
theorem RowR.below {w w':World} {v:Value} {xs:List Value} (h:RowR w v xs) (hb:Below w.heap.size w w'):RowR w' v xs:=
 h.keep fun a _ ha=>(hb.cell (World.block_lt_of_cell? w a ha)).trans ha
theorem zuJ {l1 l2:List Int} {k:Nat} (h:l1.take k=l2.take k) (h1:k<l1.length) (h2:k<l2.length) (e:l1[k]=l2[k]):l1.take (k+1)=l2.take (k+1):=by
 rw [List.take_succ_eq_append_getElem h1,List.take_succ_eq_append_getElem h2,h,e]
theorem z3A (v1 v2:Value) (l1 l2:List Int) (w:World) (h1:RowR w v1 (l1.map (Value.int .i32))) (h2:RowR w v2 (l2.map (Value.int .i32)))
  (hl1:l1.length≤1073741824):
  Calls Tryz.prog 287 #[v1,v2] w fun e w'=>e= .returned (.bool (decide (l1=l2)))∧ ∃n,w'=w.drewN n:=by
 obtain ⟨a1,c1,rfl,hc1⟩:=h1
 obtain ⟨a2,c2,rfl,hc2⟩:=h2
 simp only [List.length_map]
 have HC1:=Lib.hid hc1
 have HC2:=Lib.hid hc2
 clear hc1 hc2
 by_cases hne:l1.length=l2.length
 ·have HL:=Lib.hid hne
  have hle1:l1.length≤l2.length:=by omega
  have hle2:l2.length≤l1.length:=by omega
  have hb:((l1.length:Int) !=(l2.length:Int))=false:=by simp [hne]
  clear hne
  go_enter Tryz.func287,Tryz.ntmps287
  go_wp2
  go_loopw [13] (fun i wr=> ∃k m:Nat,k≤l1.length∧i= .int .i64 k∧wr=w.drewN m∧Hid (l1.take k=l2.take k)) (fun i _=>l1.length - (intOf i).toNat)
  case atStart=>exact ⟨0,0,Nat.zero_le _,rfl,rfl,rfl⟩
  case round=>
   obtain ⟨k,m,hk,rfl,rfl,H⟩:=hrel
   by_cases hlt:k<l1.length
   ·have hlt2:k<l2.length:=by omega
    obtain ⟨x,hx⟩: ∃x,x=l1[k]:=⟨_,rfl⟩
    obtain ⟨y,hy⟩: ∃y,y=l2[k]:=⟨_,rfl⟩
    obtain ⟨d1,rfl,hd1⟩:=HC1.out k (.int .i32 x) (by simp [hx,hlt])
    obtain ⟨d2,rfl,hd2⟩:=HC2.out k (.int .i32 y) (by simp [hy,hlt2])
    have HX:=Lib.hid hx
    have HY:=Lib.hid hy
    clear hx hy
    by_cases hxy:x=y
    ·subst hxy
     go_wp2
     go_quiet (fail)
     go_wp2
     go_roundw
     case rel=>
      exact ⟨k+1,_,by omega,by go_num,rfl,zuJ H.out hlt hlt2 (HX.out.symm.trans HY.out)⟩
     case measure=>simp [intOf];omega
    ·have hb1:(x !=y)=true:=by simp [hxy]
     have hfin:decide (l1=l2)=false:=by
      refine decide_eq_false fun e=>hxy ?_
      rw [HX.out,HY.out]
      simp only [e]
     have HF:=Lib.hid hfin
     clear hfin
     go_wp2
     go_quiet (fail)
     go_wp2
     go_ret
     exact ⟨zaT HF.out.symm,_,World.drewN_drewN _ _ _⟩
   ·have hfin:decide (l1=l2)=true:=by
     refine decide_eq_true ?_
     have:=H.out
     rwa [List.take_of_length_le (by omega),List.take_of_length_le (by omega)] at this
    have HF:=Lib.hid hfin
    clear hfin
    go_wp2
    go_ret
    exact ⟨zaT HF.out.symm,m,rfl⟩
 ·have hb:((l1.length:Int) !=(l2.length:Int))=true:=by simp;omega
  have hfin:decide (l1=l2)=false:=decide_eq_false fun e=>hne (by rw [e])
  have HF:=Lib.hid hfin
  clear hfin
  go_enter Tryz.func287,Tryz.ntmps287
  go_wp2
  go_ret
  exact ⟨zaT HF.out.symm,0,rfl⟩
end
section
open Go.RowKit
def zbE (s:ByteArray) (i:Nat):Nat:=(s.get! i).toNat
theorem zmZ (s:ByteArray) (i:Nat) (h:i<s.size):zbE s i=(s[i]'h).toNat:=by
 unfold zbE
 rw [show s.get! i=s.get! (i+0) from rfl,get_at s i h]
theorem ztG (s:ByteArray) (i:Nat):zbE s i<256:=(s.get! i).toNat_lt
def isB (r:Int):Bool:=decide (0≤r∧r≤1114111∧(r<55296∨57343<r))
theorem zoO (r:Nat):Utf8.valid (r:Int)=isB (r:Int):=by
 unfold Utf8.valid isB
 rw [Bool.eq_iff_iff]
 simp only [Bool.or_eq_true,Bool.and_eq_true,decide_eq_true_eq]
 omega
theorem zyU (s:ByteArray) (i:Nat):Utf8.decode s i=
  if zbE s i<128 then (zbE s i,1)
  else if (zbE s i/32==6&&(decide (i+1<s.size)&&zbE s (i+1)/64==2))=true then
   if 128≤zbE s i % 32*64+zbE s (i+1) % 64 then (zbE s i % 32*64+zbE s (i+1) % 64,2) else (65533,1)
  else if (zbE s i/16==14&&(decide (i+1<s.size)&&zbE s (i+1)/64==2)&&(decide (i+2<s.size)&&zbE s (i+2)/64==2))=true then
   if (decide (2048≤zbE s i % 16*4096+zbE s (i+1) % 64*64+zbE s (i+2) % 64)&&isB (zbE s i % 16*4096+zbE s (i+1) % 64*64+zbE s (i+2) % 64:Nat))=true
   then (zbE s i % 16*4096+zbE s (i+1) % 64*64+zbE s (i+2) % 64,3) else (65533,1)
  else if (zbE s i/8==30&&(decide (i+1<s.size)&&zbE s (i+1)/64==2)&&(decide (i+2<s.size)&&zbE s (i+2)/64==2)&&(decide (i+3<s.size)&&zbE s (i+3)/64==2))=true then
   if (decide (65536≤zbE s i % 8*262144+zbE s (i+1) % 64*4096+zbE s (i+2) % 64*64+zbE s (i+3) % 64)&&isB (zbE s i % 8*262144+zbE s (i+1) % 64*4096+zbE s (i+2) % 64*64+zbE s (i+3) % 64:Nat))=true
   then (zbE s i % 8*262144+zbE s (i+1) % 64*4096+zbE s (i+2) % 64*64+zbE s (i+3) % 64,4) else (65533,1)
  else (65533,1):=by
 rw [←zoO,←zoO]
 rfl
theorem zcQ (s:ByteArray) (i:Nat):Utf8.decode s i=
  if zbE s i<128 then (zbE s i,1)
  else if zbE s i/32=6∧(i+1<s.size∧zbE s (i+1)/64=2) then
   if 128≤zbE s i % 32*64+zbE s (i+1) % 64 then (zbE s i % 32*64+zbE s (i+1) % 64,2) else (65533,1)
  else if (zbE s i/16=14∧(i+1<s.size∧zbE s (i+1)/64=2))∧(i+2<s.size∧zbE s (i+2)/64=2) then
   if 2048≤zbE s i % 16*4096+zbE s (i+1) % 64*64+zbE s (i+2) % 64∧isB (zbE s i % 16*4096+zbE s (i+1) % 64*64+zbE s (i+2) % 64:Nat)=true
   then (zbE s i % 16*4096+zbE s (i+1) % 64*64+zbE s (i+2) % 64,3) else (65533,1)
  else if ((zbE s i/8=30∧(i+1<s.size∧zbE s (i+1)/64=2))∧(i+2<s.size∧zbE s (i+2)/64=2))∧(i+3<s.size∧zbE s (i+3)/64=2) then
   if 65536≤zbE s i % 8*262144+zbE s (i+1) % 64*4096+zbE s (i+2) % 64*64+zbE s (i+3) % 64∧isB (zbE s i % 8*262144+zbE s (i+1) % 64*4096+zbE s (i+2) % 64*64+zbE s (i+3) % 64:Nat)=true
   then (zbE s i % 8*262144+zbE s (i+1) % 64*4096+zbE s (i+2) % 64*64+zbE s (i+3) % 64,4) else (65533,1)
  else (65533,1):=by
 rw [zyU]
 simp only [beq_iff_eq,Bool.and_eq_true,decide_eq_true_eq]
end
section
open Go.RowKit
end
section
open Go.RowKit
theorem Tryz.infoRune:(Tryz.prog.info? 21).map (fun i=>(i.zero,i.size,i.bytes))=some (some (.int .i32 0),1,4):=by kernel_rfl
/-- the code points from a place on -/
def zlB (s:ByteArray):Nat→Nat→List Int
 |0,_=>[]
 |f+1,p=>if p<s.size then ((Utf8.decode s p).1:Int)::zlB s f (p+(Utf8.decode s p).2) else []
def scal (s:ByteArray):List Int:=zlB s s.size 0
theorem zkU (s:ByteArray) (p:Nat) (h:p<s.size):1≤(Utf8.decode s p).2:=by
 by_cases ha:(s[p]'h).toNat<128
 ·rw [decode_ascii s p h ha];exact Nat.le_refl _
 ·exact (decode_high s p h (by omega)).2
theorem z0Z (s:ByteArray) (p:Nat):(Utf8.decode s p).2≤4:=by
 rw [zcQ]
 repeat' split
 all_goals simp
theorem ziG (s:ByteArray) (f p:Nat) (h: ¬p<s.size):zlB s f p=[]:=by
 cases f with
 |zero=>rfl
 |succ f=>simp [zlB,h]
theorem zgO (s:ByteArray) (f p:Nat) (h:p<s.size):zlB s (f+1) p=((Utf8.decode s p).1:Int)::zlB s f (p+(Utf8.decode s p).2):=by
 simp [zlB,h]
theorem zxD (s:ByteArray): ∀f p,(zlB s f p).length≤f
 |0,_=>by simp [zlB]
 |f+1,p=>by
  by_cases h:p<s.size
  ·rw [zgO s f p h];have:=zxD s f (p+(Utf8.decode s p).2);simp;omega
  ·rw [ziG s _ p h];simp
theorem yhF (s:ByteArray):(scal s).length≤s.size:=zxD s _ _
/-- a new row of the call's own -/
def RetRow (base:Nat) (t:TypeId) (xs:List Value) (w:World) (e:Ending) (w':World):Prop:=
 ∃v,e= .returned v∧w'.ownsRow base t 1 v xs.length xs∧Below base w w'
theorem zrY {w:World} {B B':Nat} {t:TypeId} {v:Value} {n:Nat} {xs:List Value} (h:w.ownsRow B t 1 v n xs) (hB:B'≤B):w.ownsRow B' t 1 v n xs:=by
 refine ⟨h.1,?_⟩
 rcases h.2 with h2|⟨g,cap,cur,h1,h2,h3⟩
 ·exact .inl h2
 ·exact .inr ⟨g,cap,cur,h1,by omega,h3⟩
theorem zqI {w:World} {B k:Nat} {t:TypeId} {v:Value} {n:Nat} {xs:List Value} (h:w.ownsRow B t 1 v n xs) (hk:k<B) (s:ByteArray) (p:Nat):(w.iterAt k s p).ownsRow B t 1 v n xs:=by
 refine ⟨h.1,?_⟩
 rcases h.2 with h2|⟨g,cap,cur,h1,h2,h3,h4⟩
 ·exact .inl h2
 ·exact .inr ⟨g,cap,cur,h1,h2,(Lib.iterAt_other w k g s p (by omega)).trans h3,h4⟩
theorem zsR (w:World) (u:Value) (t:TypeId): ∀j x,[u][j]? =some x→(w.alloc (.cells #[u] t)).cell? ((⟨w.heap.size,0,none⟩:Addr).add j)=some x:=by
 intro j x hj
 match j,hj with
 |0,hj=>simp at hj;subst hj;simp [Addr.add]
theorem z9O {w w1:World} {b k:Nat} {t:TypeId} {v:Value} {n:Nat} {xs:List Value} {o:Obj} (h:w.heap[b]? =some o) (hown:w.ownsRow k t 1 v n xs) (hg:w.grownBy w1 v.ownBlock) (hb:b<k):w1.heap[b]? =some o:=by
 have hlt:b<w.heap.size:=(Array.getElem?_eq_some_iff.1 h).1
 rw [hg.block b hlt ?_]
 ·exact h
 ·intro e
  have:=hown.lt b e.symm
  omega
theorem zyM (s:ByteArray) (w:World) (hs:s.size≤1073741824):
  Calls Tryz.prog 288 #[.string s] w (RetRow w.heap.size 21 ((scal s).map (Value.int .i32)) w):=by
 obtain ⟨i0,hi,hz0,hz1,hz2⟩:=info_parts Tryz.infoRune
 go_enter Tryz.func288,Tryz.ntmps288
 go_wp2
 go_loopw [3] (fun v wr=> ∃(pos fuel:Nat) (acc:List Int),wr.ownsRow (w.heap.size+1) 21 1 v acc.length (acc.map (Value.int .i32))∧wr.heap[w.heap.size]? =some (.stringIter s pos)∧Below w.heap.size w wr∧w.heap.size+1≤wr.heap.size∧Hid (acc++zlB s fuel pos=scal s)∧s.size≤pos+fuel∧acc.length≤pos∧pos≤s.size+4) (fun _ wr=>s.size - wr.iterPos w.heap.size)
 case atStart=>
  exact ⟨0,s.size,[],World.ownsRow_nil _ _ _ _,World.iter_heap w s 0,(Below.refl _ w).alloc (Nat.le_refl _) _,by simp [World.iter],rfl,by omega,by simp,by omega⟩
 case round=>
  obtain ⟨pos,fuel,acc,hown,hit,hbw,hsz,HA,hfu,hal,hpo⟩:=hrel
  by_cases hp:pos<s.size
  ·have hnx: ∀ty,(Instr.next (.pointer (some ⟨w.heap.size,0,none⟩)) true ty).run Tryz.prog wr=_:=fun ty=>Lib.run_next_any_at wr w.heap.size s pos ty hit hp
   have hwd:=zkU s pos hp
   have hwl:=z0Z s pos
   have hd1:=decode_le s pos
   obtain ⟨f,rfl⟩: ∃f,fuel=f+1:=⟨fuel - 1,by omega⟩
   have hA2:=HA.out
   rw [zgO s f pos hp] at hA2
   have HA2:=Lib.hid hA2
   clear hA2
   have hown2:=zqI hown (by omega:w.heap.size<w.heap.size+1) s (pos+(Utf8.decode s pos).2)
   have hit2:=Lib.iterAt_heap wr w.heap.size s pos (pos+(Utf8.decode s pos).2) hit
   have hbw2:=Lib.below_iterAt hbw (k:=w.heap.size) (Nat.le_refl _) s (pos+(Utf8.decode s pos).2)
   have hsz2:w.heap.size+1≤(wr.iterAt w.heap.size s (pos+(Utf8.decode s pos).2)).heap.size:=by rw [Lib.iterAt_size];exact hsz
   generalize wr.iterAt w.heap.size s (pos+(Utf8.decode s pos).2)=wi at*
   go_wp2_with (at_builtin;refine wpList_append_own _ rfl _ _ 103 rfl (w.heap.size+1) 21 i0 (.int .i32 0) 1 4 Tryz.underlying103 hi hz0 hz1 hz2 rfl (by decide) _ _ _ rfl (hown2.alloc _) ⟨wi.heap.size,0,none⟩ 1 1 [.int .i32 ((Utf8.decode s pos).1:Int)] rfl rfl ?c1 ?c2 ?c3 ?c4 ?c5 ?_)
   case c1=>exact zsR _ _ _
   case c2=>intro u hu;simp at hu;subst hu;rfl
   case c3=>unfold maxLen;omega
   case c4=>omega
   case c5=>simp;omega
   intro v' w1 hown' hgrow _
   have hit3:=z9O (b:=w.heap.size) (o:= .stringIter s (pos+(Utf8.decode s pos).2)) (by rw [Below.heap_alloc _ _ _ (by omega)];exact hit2) (hown2.alloc _) hgrow (by omega)
   have hbw3:Below w.heap.size w w1:=(hbw2.alloc (by omega) _).grown hgrow (by simp;omega) (fun k hk=>by have:=hown2.lt k hk;omega)
   have hsz3:w.heap.size+1≤w1.heap.size:=by have:=hgrow.size;simp at this;omega
   clear hgrow hown2 hown hit2 hbw2
   go_wp2
   go_roundw
   case rel=>
    refine ⟨pos+(Utf8.decode s pos).2,f,acc++[((Utf8.decode s pos).1:Int)],?_,hit3,hbw3,hsz3,?_,by omega,by simp;omega,by omega⟩
    ·simpa using hown'
    ·show (acc++[_])++_=_
     rw [List.append_assoc];exact HA2.out
   case measure=>
    simp only [World.iterPos,hit3,hit]
    omega
  ·have hnx: ∀ty,(Instr.next (.pointer (some ⟨w.heap.size,0,none⟩)) true ty).run Tryz.prog wr=_:=fun ty=>Lib.run_next_end_at wr w.heap.size s pos ty hit hp
   go_wp2
   go_ret
   have he:=HA.out
   rw [ziG s fuel pos hp,List.append_nil] at he
   subst he
   exact ⟨_,rfl,by rw [List.length_map];exact zrY hown (by omega),hbw⟩
end
section
open Go.RowKit
theorem z6K:scal ⟨#[97,255,98]⟩=[97,65533,98]:=by decide+kernel
theorem zbY {B:Nat} {a w:World} (h:Below B a w) (n:Nat):Below B a (w.drewN n):=⟨h.os,h.tape,h.output,h.size,h.block⟩
theorem zdW {w w':World} {B:Nat} {t:TypeId} {v:Value} {n:Nat} {xs:List Value} (h:w.ownsRow B t 1 v n xs) (hb:Below w.heap.size w w'):w'.ownsRow B t 1 v n xs:=by
 refine ⟨h.1,?_⟩
 rcases h.2 with h2|⟨g,cap,cur,h1,h2,h3,h4⟩
 ·exact .inl h2
 ·exact .inr ⟨g,cap,cur,h1,h2,(hb.block g (Array.getElem?_eq_some_iff.1 h3).1).trans h3,h4⟩
/-- three new cells -/
theorem z6S (w:World) (a b c:Int) (t:TypeId):RowR (w.alloc (.cells #[.int .i32 a,.int .i32 b,.int .i32 c] t)) (.slice (some ⟨w.heap.size,0,none⟩) 3 3) ([a,b,c].map (Value.int .i32)):=by
 refine ⟨_,3,rfl,fun j u hj=>⟨_,rfl,?_⟩⟩
 match j,hj with
 |0,hj=>simp at hj;subst hj;simp [Addr.add]
 |1,hj=>simp at hj;subst hj;simp [Addr.add]
 |2,hj=>simp at hj;subst hj;simp [Addr.add]
theorem z8W (w:World):
  Calls Tryz.prog 286 #[] w fun e w'=>e= .returned (.bool true)∧Below w.heap.size w w':=by
 go_enter Tryz.func286,Tryz.ntmps286
 go_wp2_with fail
 refine (zyM _ _ (by decide)).mono ?_
 rintro e w1 ⟨v,rfl,hown,hb⟩
 rw [z6K] at hown
 have hr:=RowR.of_own hown
 have hr1:=hr.below (w':=w1.alloc (.cells #[.int .i32 97,.int .i32 65533,.int .i32 98] 21)) ((Below.refl _ _).alloc (Nat.le_refl _) _)
 have hr2:=z6S w1 97 65533 98 21
 have hfin:Below w.heap.size w (w1.alloc (.cells #[.int .i32 97,.int .i32 65533,.int .i32 98] 21)):=hb.alloc hb.size _
 clear hr hown
 go_wp2_with fail
 refine (z3A _ _ [97,65533,98] [97,65533,98] _ hr1 hr2 (by decide)).mono ?_
 rintro e w2 ⟨rfl,n,rfl⟩
 go_wp2
 go_ret
 exact ⟨rfl,zbY hfin n⟩
end
section
open Go.RowKit
theorem z5P (l:List UInt8): ∀b:ByteArray,(l.map fun c=>(c.toNat:Int)).foldl (fun r n=>r.push (UInt8.ofNat n.toNat)) b=⟨(b.data.toList++l).toArray⟩:=by
 induction l with
 |nil=>intro b;simp
 |cons c l ih=>
  intro b
  simp only [List.map_cons,List.foldl_cons]
  rw [ih]
  simp [ByteArray.push]
/-- string(bytes),of a row that holds the bytes l -/
theorem zeZ {P:Program} (w:World) (src dst e:TypeId) (v:Value) (l:List UInt8) (hr:RowR w v (Lib.byteCells l))
  (hs:P.underlying src=some (.slice e)) (he:P.underlying e=some (.int .u8)) (hd:P.underlying dst=some .string):
  (convert src dst v).run P w= .ok (.string ⟨l.toArray⟩) w:=by
 obtain ⟨ao,c,rfl,hc⟩:=hr
 rw [run_convert_bytes_string w src dst e ao _ c hs he hd]
 cases ao with
 |none=>
  have hl:l=[]:=by
   cases l with
   |nil=>rfl
   |cons x l=>
    obtain ⟨ad,h,_⟩:=hc 0 (.int .u8 x.toNat) rfl
    cases h
  subst hl
  rfl
 |some a=>
  have h1:=run_loadCells_list (P:=P) (w:=w) a (Lib.byteCells l) (fun j u hj=>by
   obtain ⟨ad,h,hx⟩:=hc j u hj
   cases h
   exact hx)
  have h2:Lib.byteCells l=(l.map fun c=>(c.toNat:Int)).map (Value.int .u8):=by simp [Lib.byteCells]
  rw [run_bytesToString w a _ c (l.map fun c=>(c.toNat:Int)) (by rw [h1,h2]),z5P]
  rfl
def zqV (l:List Int):List UInt8:=l.map fun x=>x.toNat.toUInt8
theorem yfS {P:Program} (W:World) (src dst e:TypeId) (l:List Int) (hl: ∀x∈l,0≤x∧x<256)
  (hs:P.underlying src=some (.slice e)) (he:P.underlying e=some (.int .u8)) (hd:P.underlying dst=some .string):
  (convert src dst (.slice (some ⟨W.heap.size,0,none⟩) l.length l.length)).run P (W.alloc (.cells (l.map (Value.int .u8)).toArray e))= .ok (.string ⟨(zqV l).toArray⟩) (W.alloc (.cells (l.map (Value.int .u8)).toArray e)):=by
 have e1:Lib.byteCells (zqV l)=l.map (Value.int .u8):=by
  simp only [Lib.byteCells,zqV,List.map_map]
  apply List.map_congr_left
  intro x hx
  obtain ⟨h0,h1⟩:=hl x hx
  simp only [Function.comp]
  congr 1
  have:x.toNat % 256=x.toNat:=Nat.mod_eq_of_lt (by omega)
  simp [Nat.toUInt8,this]
  omega
 refine zeZ _ src dst e _ (zqV l) ?_ hs he hd
 rw [e1]
 refine ⟨_,l.length,by rw [List.length_map],fun j u hj=>⟨_,rfl,?_⟩⟩
 rw [show (Addr.add ⟨W.heap.size,0,none⟩ j)=⟨W.heap.size,j,none⟩ from by unfold Addr.add;split<;>simp_all]
 rw [cell_of_row _ W.heap.size j _ e (0,0) (heap_alloc_new W _)]
 simpa using hj
end
section
open Go.RowKit
def zeK (l:List Int):List UInt8:=l.flatMap Lib.encodeRune
theorem zhH (r:Int):(Lib.encodeRune r).length≤4:=by
 simp only [Lib.encodeRune,List.length_map];exact (Lib.encodeRuneZ_length r).2
theorem zqN (l:List Int) (k:Nat) (h:k<l.length):zeK (l.take (k+1))=zeK (l.take k)++Lib.encodeRune l[k]:=by
 unfold zeK
 rw [List.take_succ_eq_append_getElem h,List.flatMap_append]
 simp
theorem zkJ (l:List Int): ∀k,(zeK (l.take k)).length≤4*k
 |0=>by simp [zeK]
 |k+1=>by
  have ih:=zkJ l k
  by_cases h:k<l.length
  ·rw [zqN l k h,List.length_append];have:=zhH l[k];omega
  ·rw [List.take_of_length_le (by omega)];rw [List.take_of_length_le (by omega)] at ih;omega
/-- each number is an int32 -/
def Runes (l:List Int):Prop:= ∀x∈l,-2147483648≤x∧x≤2147483647
theorem yeV (v:Value) (l:List Int) (w:World) (h:RowR w v (l.map (Value.int .i32))) (hl:l.length≤268435456) (hw:Runes l):
  Calls Tryz.prog 169 #[v] w fun e w'=>e= .returned (.string ⟨(zeK l).toArray⟩)∧Below w.heap.size w w':=by
 obtain ⟨ao,c,rfl,hc⟩:=h
 simp only [List.length_map]
 have HC:=Lib.hid hc
 have HW:=Lib.hid hw
 clear hc hw
 go_enter Tryz.func169,Tryz.ntmps169
 go_wp2
 go_loopw [3,8] (fun v i wr=> ∃k:Nat,k≤l.length∧i= .int .i64 k∧wr.ownsRow w.heap.size 5 1 v (zeK (l.take k)).length (Lib.byteCells (zeK (l.take k)))∧Below w.heap.size w wr) (fun _ i _=>l.length - (intOf i).toNat)
 case atStart=>exact ⟨0,Nat.zero_le _,rfl,World.ownsRow_nil _ _ _ _,Below.refl _ _⟩
 case round=>
  obtain ⟨k,hk,rfl,hown,hbw⟩:=hrel
  have hsz:=hbw.size
  by_cases hlt:k<l.length
  ·have htl:=zkJ l k
   obtain ⟨x,hx⟩: ∃x,x=l[k]:=⟨_,rfl⟩
   obtain ⟨d1,rfl,hd1⟩:=HC.out k (.int .i32 x) (by simp [hx,hlt])
   have hd2:wr.cell? (d1.add k)=some (.int .i32 x):=(hbw.cell (World.block_lt_of_cell? w _ hd1)).trans hd1
   have hxr:=HW.out x (by rw [hx];exact List.getElem_mem _)
   obtain ⟨hx0,hx1⟩:=hxr
   have hsn:=zqN l k hlt
   rw [←hx] at hsn
   have HSN:=Lib.hid hsn
   clear hsn hx
   generalize hT:zeK (l.take k)=T at*
   clear hT
   go_wp2_with (go_at_call 193;refine (Tryz.utf8_AppendRune_plain w.heap.size _ _ _ x hx0 hx1 wr hown (by omega) hsz).mono ?_)
   rintro e w1 ⟨v',rfl,hown1,o,hg⟩
   have hbw1:Below w.heap.size w w1:=(hbw.alloc hsz o).grown hg (by simp;omega) (fun b hb=>by have:=hown.lt b hb;omega)
   clear hg hown
   go_wp2
   go_roundw
   case rel=>
    refine ⟨k+1,by omega,by go_num,?_,hbw1⟩
    rw [HSN.out,Lib.byteCells_append,Lib.byteCells_encodeRune,List.length_append]
    have e1:(Lib.runeCells x).length=(Lib.encodeRune x).length:=by rw [←Lib.byteCells_encodeRune,Lib.byteCells_length]
    rw [←e1]
    exact hown1
   case measure=>simp [intOf];omega
  ·have hcv:=zeZ (P:=Tryz.prog) wr 73 9 5 _ (zeK (l.take k)) (RowR.of_own (by rw [Lib.byteCells_length];exact hown)) Tryz.underlying73 Tryz.underlying5 Tryz.underlying9
   have hfin:zeK (l.take k)=zeK l:=by rw [List.take_of_length_le (by omega)]
   rw [hfin] at hcv
   have HF:=Lib.hid hfin
   clear hfin
   go_wp2
   go_ret
   exact ⟨rfl,hbw⟩
theorem zkD (x y:List UInt8):(ByteArray.mk x.toArray++ByteArray.mk y.toArray)=ByteArray.mk (x++y).toArray:=ByteArray.mk_append_mk x y
/-- a slice of integers that came in -/
def IsRow (k:IntKind) (w:World) (a:Option Addr) (len cap:Nat) (zs:List Int):Prop:=
 (a=none∧len=0∧cap=0∧zs=[])∨
 ∃x,a=some x∧len≤cap∧cap≤maxLen∧zs.length=cap∧(∀i,i<zs.length→w.cell? (x.add i)=some (.int k (zs.getD i 0)))∧ ∀n∈zs,(Lit.int k n).wf=true
theorem IsRow.runes {w:World} {a:Option Addr} {len cap:Nat} {zs:List Int} (h:IsRow .i32 w a len cap zs):Runes (zs.take len):=by
 rcases h with ⟨_,rfl,_,rfl⟩|⟨x,_,_,_,_,_,h4⟩
 ·intro x hx;simp at hx
 ·intro y hy
  exact bounds_i32 (h4 y (List.mem_of_mem_take hy))
end
section
open Go.RowKit
theorem Tryz.infoByte:(Tryz.prog.info? 5).map (fun i=>(i.zero,i.size,i.bytes))=some (some (.int .u8 0),1,1):=by kernel_rfl
def lowC (c:UInt8):UInt8:=if 65≤c.toNat∧c.toNat≤90 then c+32 else c
def zbF (l:List UInt8):List UInt8:=l.map lowC
def z6E (c:UInt8):Bool:= !(c==9||c==10||c==13)
def zcZ (l:List UInt8):List UInt8:=l.filter z6E
theorem z6Y {c:UInt8} (h1:65≤c.toNat) (h2:c.toNat≤90):(lowC c).toNat=c.toNat+32:=by
 unfold lowC
 rw [if_pos ⟨h1,h2⟩,UInt8.toNat_add]
 simp
 omega
theorem ybG {c:UInt8} (h:c.toNat<65∨90<c.toNat):lowC c=c:=by
 unfold lowC
 rw [if_neg (by omega)]
theorem zeT (s:ByteArray) (k:Nat) (h:k<s.size):s.data.toList[k]? =some s[k]:=by
 rw [List.getElem?_eq_getElem (by simpa using h)]
 rfl
theorem zdS (s:ByteArray) (k:Nat) (h:k<s.size):s.data.toList.take (k+1)=s.data.toList.take k++[s[k]]:=by
 rw [List.take_succ_eq_append_getElem (by simpa using h)]
 rfl
theorem zeG (s:ByteArray) (k:Nat) (h: ¬k<s.size):s.data.toList.take k=s.data.toList:=List.take_of_length_le (by simpa using h)
theorem zaU (s:ByteArray):s.data.toList.length=s.size:=by simp
theorem zkO (l:List UInt8):(zbF l).length=l.length:=by simp [zbF]
theorem z9Y (s:ByteArray) (k:Nat) (h:k<s.size) (hk:z6E s[k]=true):zcZ (s.data.toList.take (k+1))=zcZ (s.data.toList.take k)++[s[k]]:=by
 rw [zdS s k h];simp [zcZ,hk]
theorem z8F (s:ByteArray) (k:Nat) (h:k<s.size) (hk:z6E s[k]=false):zcZ (s.data.toList.take (k+1))=zcZ (s.data.toList.take k):=by
 rw [zdS s k h];simp [zcZ,hk]
theorem yfR (l:List UInt8):(zcZ l).length≤l.length:=List.length_filter_le _ _
theorem z4I {c:UInt8} (h1:c.toNat≠9) (h2:c.toNat≠10) (h3:c.toNat≠13):z6E c=true:=by
 unfold z6E
 have e1:(c==9)=false:=beq_eq_false_iff_ne.2 fun e=>h1 (by rw [e];rfl)
 have e2:(c==10)=false:=beq_eq_false_iff_ne.2 fun e=>h2 (by rw [e];rfl)
 have e3:(c==13)=false:=beq_eq_false_iff_ne.2 fun e=>h3 (by rw [e];rfl)
 rw [e1,e2,e3];rfl
theorem zyA {c:UInt8} (h:c.toNat=9∨c.toNat=10∨c.toNat=13):z6E c=false:=by
 rcases h with h|h|h
 ·rw [show c=9 from UInt8.toNat_inj.1 h];rfl
 ·rw [show c=10 from UInt8.toNat_inj.1 h];rfl
 ·rw [show c=13 from UInt8.toNat_inj.1 h];rfl
theorem zlU (l:List UInt8) (c:UInt8) (n:Int) (h:(c.toNat:Int)=n):Lib.byteCells (l++[c])=Lib.byteCells l++[.int .u8 n]:=by
 rw [Lib.byteCells_append,←h];rfl
/-- append of one value,which the call has laid in a new block of one cell,onto a row of the call's own -/
theorem zaX {P:Program} (w:World) {ops:Array Oper} {rest:List Oper} {o:Oper} {a:Act} {Q:Exit→Act→World→Prop} (hgd:o.guard=none) (s x:Operand) (t:TypeId)
  (ho:o.op= .call {callee:= .builtin .append,args:= #[s,x],argTypes:= #[t,t]})
  (base:Nat) (e:TypeId) (i:TypeInfo) (z:Value) (bytes:Nat) (ht:P.underlying t=some (.slice e)) (hi:P.info? e=some i) (hz:i.zero=some z)
  (hsize:i.size=1) (hby:i.bytes=bytes) (hzs:z.cells.size=1)
  (v:Value) (n:Nat) (xs:List Value) (hs:a.eval s=v) (hown:w.ownsRow base e 1 v n xs) (u:Value) (hx:a.eval x= .slice (some ⟨w.heap.size,0,none⟩) 1 1) (hu:u.oneCell'=true)
  (h63:n+1≤9223372036854775807) (hbytes:(n+1)*bytes≤140737488355328) (hbase:base≤w.heap.size)
  (h: ∀v' w',w'.ownsRow base e 1 v' (n+1) (xs++[u])→Below base w w'→wpList P ops Q rest (a.put o.dst v') w'):wpList P ops Q (o::rest) a (w.alloc (.cells #[u] e)):=by
 refine wpList_append_own (w.alloc (.cells #[u] e)) hgd s x t ho base e i z 1 bytes ht hi hz hsize hby hzs (by decide) v n xs hs (hown.alloc _) ⟨w.heap.size,0,none⟩ 1 1 [u] hx rfl (zsR w u e) ?_ h63 hbytes (by simp;omega) ?_
 ·intro y hy;simp at hy;subst hy;exact hu
 ·intro v' w1 hown' hgrow _
  exact h v' w1 hown' (((Below.refl base w).alloc hbase _).grown hgrow (by simp;omega) (fun k hk=>(hown.lt k hk).1))
/-- bytes gathered in a row of the call's own -/
def Gath (B:Nat) (w:World) (v:Value) (l:List UInt8):Prop:=w.ownsRow B 5 1 v l.length (Lib.byteCells l)
theorem Gath.conv {B:Nat} {w:World} {v:Value} {l:List UInt8} (h:Gath B w v l):(convert 73 9 v).run Tryz.prog w= .ok (.string ⟨l.toArray⟩) w:=
 zeZ w _ _ 5 _ l (RowR.of_own (by rw [Lib.byteCells_length];exact h)) Tryz.underlying73 Tryz.underlying5 Tryz.underlying9
theorem Gath.nil (B:Nat) (w:World):Gath B w (.slice none 0 0) []:=World.ownsRow_nil _ _ _ _
theorem Gath.snoc {B:Nat} {w:World} {v:Value} {l:List UInt8} {c:UInt8} {n:Int} (h:w.ownsRow B 5 1 v (l.length+1) (Lib.byteCells l++[.int .u8 n])) (hn:(c.toNat:Int)=n):Gath B w v (l++[c]):=by
 unfold Gath
 rw [zlU l c n hn,List.length_append]
 exact h
theorem z2S (s:ByteArray) (w:World) (hs:s.size≤1073741824):
  Calls Tryz.prog 34 #[.string s] w fun e w'=>e= .returned (.string ⟨(zcZ s.data.toList).toArray⟩)∧Below w.heap.size w w':=by
 obtain ⟨i0,hi,hz0,hz1,hz2⟩:=info_parts Tryz.infoByte
 go_enter Tryz.func34,Tryz.ntmps34
 go_wp2
 go_loopw [3,8] (fun v i wr=> ∃(k:Nat) (T:List UInt8),k≤s.size∧i= .int .i64 k∧Gath w.heap.size wr v T∧T.length≤k∧Hid (T=zcZ (s.data.toList.take k))∧Below w.heap.size w wr) (fun _ i _=>s.size - (intOf i).toNat)
 case atStart=>exact ⟨0,[],Nat.zero_le _,rfl,Gath.nil _ _,by simp,rfl,Below.refl _ _⟩
 case round=>
  obtain ⟨k,T,hk,rfl,hown,hTl,HT,hbw⟩:=hrel
  have hsz:=hbw.size
  unfold Gath at hown
  by_cases hlt:k<s.size
  ·obtain ⟨c,hc⟩: ∃c,(s[k]'hlt).toNat=c:=⟨_,rfl⟩
   have hc256:c<256:=by rw [←hc];exact (s[k]'hlt).toNat_lt
   by_cases hu:c=9∨c=10∨c=13
   ·have hsn:=z8F s k hlt (zyA (by omega))
    rw [←HT.out] at hsn
    have HSN:=Lib.hid hsn
    clear hsn
    rcases hu with rfl|rfl|rfl
    all_goals
     go_wp2
     go_roundw
     case rel=>exact ⟨k+1,T,by omega,by go_num,hown,by omega,HSN.out.symm,hbw⟩
     case measure=>simp [intOf];omega
   ·have hsn:=z9Y s k hlt (z4I (by omega) (by omega) (by omega))
    rw [←HT.out] at hsn
    have HSN:=Lib.hid hsn
    have HDC:=Lib.hid hc
    have b1:((c:Int) !=9)=true:=by rw [bne_iff_ne];omega
    have b2:((c:Int) !=10)=true:=by rw [bne_iff_ne];omega
    have b3:((c:Int) !=13)=true:=by rw [bne_iff_ne];omega
    clear hsn hu
    go_wp2_with (first|(at_builtin;refine zaX _ rfl _ _ 73 rfl w.heap.size 5 i0 (.int .u8 0) 1 Tryz.underlying73 hi hz0 hz1 hz2 rfl _ _ _ rfl hown (.int .u8 (c:Int)) rfl rfl (by omega) (by omega) hsz ?_;intro v' w1 hown' hk'))
    go_roundw
    case rel=>exact ⟨k+1,T++[s[k]],by omega,by go_num,Gath.snoc hown' (by rw [HDC.out]),by simp;omega,HSN.out.symm,hbw.trans hk'⟩
    case measure=>simp [intOf];omega
  ·have hcv:=Gath.conv hown
   have hfin:zcZ s.data.toList=T:=by rw [HT.out,zeG s k hlt]
   have HF:=Lib.hid hfin
   clear hfin
   go_wp2
   go_ret
   exact ⟨by rw [HF.out];rfl,hbw⟩
end
section
open Go.RowKit
/-- the new row of []byte(s),the first k bytes made small -/
def zgC (B:Nat) (s:ByteArray) (k cap:Nat) (w:World):Prop:=
 ∃cur:Array Value,w.heap[B]? =some (.cells cur 5 (cap,cap+1))∧cur.size=cap∧s.size≤cap∧
  ∀j (h:j<s.size),cur[j]? =some (.int .u8 ((if j<k then lowC s[j] else s[j]).toNat:Int))
theorem zvK (w:World) (s:ByteArray):zgC w.heap.size s 0 (grownCap w s.size 0 5) (Lib.bytesWorld w 5 s):=by
 have hge:s.size≤grownCap w s.size 0 5:=grownCap_ge _ _ _ _
 have hsz:(Lib.bytesCells w 5 s).size=grownCap w s.size 0 5:=by
  unfold Lib.bytesCells
  have:s.data.size=s.size:=rfl
  simp [this];omega
 refine ⟨Lib.bytesCells w 5 s,?_,hsz,hge,?_⟩
 ·rw [Lib.bytesWorld_at_new,hsz]
 ·intro j h
  have hj:j<s.data.size:=h
  rw [if_neg (by omega)]
  unfold Lib.bytesCells
  rw [Array.getElem?_append_left (by simpa using hj)]
  simp
  exact ⟨s.data[j],Array.getElem?_eq_getElem hj,rfl⟩
theorem zgC.cell {B:Nat} {s:ByteArray} {k cap:Nat} {w:World} (h:zgC B s k cap w) (hk:k<s.size):w.cell? ⟨B,k,none⟩=some (.int .u8 (s[k].toNat:Int)):=by
 obtain ⟨cur,h1,_,_,h4⟩:=h
 rw [cell_of_row w B k cur _ _ h1,h4 k hk,if_neg (by omega)]
theorem zgC.frozen {B:Nat} {s:ByteArray} {k cap:Nat} {w:World} (h:zgC B s k cap w) (hk:k<s.size):w.frozen? ⟨B,k,none⟩=false:=by
 obtain ⟨cur,h1,_,h3,_⟩:=h
 simp [World.frozen?,h1]
 omega
theorem zgC.same {B:Nat} {s:ByteArray} {k cap:Nat} {w:World} (h:zgC B s k cap w) (hk:k<s.size) (he:lowC s[k]=s[k]):zgC B s (k+1) cap w:=by
 obtain ⟨cur,h1,h2,h3,h4⟩:=h
 refine ⟨cur,h1,h2,h3,fun j hj=> ?_⟩
 rw [h4 j hj]
 by_cases e:j=k
 ·subst e;rw [if_neg (by omega),if_pos (by omega),he]
 ·by_cases e2:j<k
  ·rw [if_pos e2,if_pos (by omega)]
  ·rw [if_neg e2,if_neg (by omega)]
theorem zgC.put {B:Nat} {s:ByteArray} {k cap:Nat} {w:World} (h:zgC B s k cap w) (hk:k<s.size) (n:Int) (hn:n=((lowC s[k]).toNat:Int)):zgC B s (k+1) cap (w.setCell ⟨B,k,none⟩ (.int .u8 n)):=by
 obtain ⟨cur,h1,h2,h3,h4⟩:=h
 refine ⟨cur.setIfInBounds k (.int .u8 n),?_,by simpa using h2,h3,fun j hj=> ?_⟩
 ·simp [World.setCell,Array.getElem?_modify,h1]
 ·rw [Array.getElem?_setIfInBounds]
  by_cases e:k=j
  ·subst e;rw [if_pos rfl,if_pos (by omega),if_pos (by omega),hn]
  ·rw [if_neg e,h4 j hj]
   by_cases e2:j<k
   ·rw [if_pos e2,if_pos (by omega)]
   ·rw [if_neg e2,if_neg (by omega)]
theorem zgC.conv {B:Nat} {s:ByteArray} {cap:Nat} {w:World} {k:Nat} (h:zgC B s k cap w) (hk: ¬k<s.size):
  (convert 73 9 (.slice (some ⟨B,0,none⟩) s.size cap)).run Tryz.prog w= .ok (.string ⟨(zbF s.data.toList).toArray⟩) w:=by
 refine zeZ w _ _ 5 _ _ ?_ Tryz.underlying73 Tryz.underlying5 Tryz.underlying9
 obtain ⟨cur,h1,h2,h3,h4⟩:=h
 have hl:(Lib.byteCells (zbF s.data.toList)).length=s.size:=by rw [Lib.byteCells_length,zkO,zaU]
 refine ⟨_,cap,by rw [hl],fun j u hj=>⟨_,rfl,?_⟩⟩
 have hlt:j<s.size:=by rw [←hl];exact (List.getElem?_eq_some_iff.1 hj).1
 rw [show (Addr.add ⟨B,0,none⟩ j)=⟨B,j,none⟩ from by unfold Addr.add;split<;>simp_all]
 rw [cell_of_row w B j cur _ _ h1,h4 j hlt,if_pos (by omega),←hj]
 simp only [Lib.byteCells,zbF,List.map_map,List.getElem?_map,zeT s j hlt]
 rfl
theorem zvW (s:ByteArray) (w:World) (hs:s.size≤1073741824):
  Calls Tryz.prog 72 #[.string s] w fun e w'=>e= .returned (.string ⟨(zbF s.data.toList).toArray⟩)∧Below w.heap.size w w':=by
 have hcv0:=Lib.run_convert_string_bytes (P:=Tryz.prog) w 9 73 5 s Tryz.underlying9 Tryz.underlying73 Tryz.underlying5
 have hst:=zvK w s
 have hb0:Below w.heap.size w (Lib.bytesWorld w 5 s):=⟨rfl,rfl,rfl,by rw [Lib.bytesWorld_size];omega,fun k hk=>Lib.bytesWorld_at_old w _ s k hk⟩
 have HST:=Lib.hid hst
 clear hst
 generalize hcap:grownCap w s.size 0 5=cap at*
 generalize Lib.bytesWorld w 5 s=wb at*
 clear hcap
 go_enter Tryz.func72,Tryz.ntmps72
 go_wp2
 clear hcv0
 go_loopw [10] (fun i wr=> ∃k:Nat,k≤s.size∧i= .int .i64 k∧zgC w.heap.size s k cap wr∧Below w.heap.size w wr) (fun i _=>s.size - (intOf i).toNat)
 case atStart=>exact ⟨0,Nat.zero_le _,rfl,HST.out,hb0⟩
 case round=>
  obtain ⟨k,hk,rfl,hr,hbw⟩:=hrel
  by_cases hlt:k<s.size
  ·have hcell:=hr.cell hlt
   have hfr:=hr.frozen hlt
   obtain ⟨c,hc⟩: ∃c,(s[k]'hlt).toNat=c:=⟨_,rfl⟩
   have hc256:c<256:=by rw [←hc];exact (s[k]'hlt).toNat_lt
   rw [hc] at hcell
   by_cases hu:65≤c∧c≤90
   ·have hdc:((lowC s[k]).toNat:Int)=(c:Int)+32:=by rw [z6Y (by omega) (by omega),hc];omega
    have hr2:=hr.put hlt ((c:Int)+32) hdc.symm
    have HR2:=Lib.hid hr2
    have hbw2:=hbw.setCell (p:=⟨w.heap.size,k,none⟩) (Nat.le_refl _) (.int .u8 ((c:Int)+32))
    have HC:=Lib.hid hc
    obtain ⟨hu1,hu2⟩:=hu
    have ea:(c:Int) - 65+97=(c:Int)+32:=by omega
    clear hdc hr2 hc
    go_wp2
    go_roundw
    case rel=>exact ⟨k+1,by omega,by go_num,by first|exact HR2.out|(rw [ea];exact HR2.out),by first|exact hbw2|(rw [ea];exact hbw2)⟩
    case measure=>simp [intOf];omega
   ·have hr2:=hr.same hlt (ybG (by omega))
    have HR2:=Lib.hid hr2
    clear hr2 hc
    go_wp2
    all_goals
     go_roundw
     case rel=>exact ⟨k+1,by omega,by go_num,HR2.out,hbw⟩
     case measure=>simp [intOf];omega
  ·have hcv:=hr.conv hlt
   go_wp2
   go_ret
   exact ⟨rfl,hbw⟩
def zbN (c:UInt8):Bool:=decide (c.toNat≤32)
theorem zoR {c:UInt8} (h:c.toNat≤32):zbN c=true:=decide_eq_true h
theorem ziL {c:UInt8} (h:32<c.toNat):zbN c=false:=decide_eq_false (by omega)
def zcK (l:List UInt8):List UInt8:=((l.dropWhile zbN).reverse.dropWhile zbN).reverse
theorem zgG (p:UInt8→Bool): ∀(l:List UInt8) (n:Nat),n≤l.length→(∀k x,l[k]? =some x→k<n→p x=true)→(n=l.length∨ ∃x,l[n]? =some x∧p x=false)→l.dropWhile p=l.drop n
 |[],n,h,_,_=>by simp
 |x::l,0,_,_,h2=>by
  rcases h2 with h2|⟨y,hy,hp⟩
  ·simp at h2
  ·simp at hy;subst hy;simp [hp]
 |x::l,n+1,h,h1,h2=>by
  have hx:p x=true:=h1 0 x rfl (by omega)
  rw [List.dropWhile_cons,if_pos hx,List.drop_succ_cons]
  exact zgG p l n (by simp at h;omega) (fun k y hk hkn=>h1 (k+1) y (by simpa using hk) (by omega)) (h2.imp (fun e=>by simp at e;exact e) (fun ⟨y,hy,hp⟩=>⟨y,by simpa using hy,hp⟩))
theorem ydO (l:List UInt8) (i j:Nat) (hij:i≤j) (hj:j≤l.length) (h1: ∀k x,l[k]? =some x→k<i→zbN x=true) (h2:i=l.length∨ ∃x,l[i]? =some x∧zbN x=false)
  (h3: ∀k x,l[k]? =some x→j≤k→zbN x=true) (h4:i=j∨(i<j∧ ∃x,l[j - 1]? =some x∧zbN x=false)):(l.drop i).take (j - i)=zcK l:=by
 unfold zcK
 rw [zgG zbN l i (by omega) h1 h2,zgG zbN (l.drop i).reverse (l.length - j) (by simp;omega),List.drop_reverse,List.reverse_reverse]
 ·congr 1
  simp
  omega
 ·intro k x hk hkn
  have hlt:k<(l.drop i).reverse.length:=(List.getElem?_eq_some_iff.1 hk).1
  simp at hlt
  rw [List.getElem?_reverse (by simpa using hlt),List.getElem?_drop] at hk
  exact h3 _ x hk (by simp;omega)
 ·rcases h4 with h4|⟨hlt,x,hx,hp⟩
  ·left;simp;omega
  ·right
   refine ⟨x,?_,hp⟩
   rw [List.getElem?_reverse (by simp;omega),List.getElem?_drop]
   rw [←hx]
   congr 1
   simp
   omega
theorem zuF (s:ByteArray) (k:Nat):s.extract k k=ByteArray.empty:=by
 apply ByteArray.ext
 apply Array.ext'
 rw [Lib.extract_data]
 simp
theorem ztV (s:ByteArray) (k m:Nat) (h1:k≤m) (h2:m≤s.size) (H1: ∀j (h:j<s.size),j<k→zbN s[j]=true) (H2:k=s.size∨ ∃h:k<s.size,zbN s[k]=false)
  (h3: ∀j (h:j<s.size),m≤j→zbN s[j]=true) (h4:k=m∨ ∃h:m - 1<s.size,k<m∧zbN s[m - 1]=false):(s.extract k m)=⟨(zcK s.data.toList).toArray⟩:=by
 have at_: ∀j x,s.data.toList[j]? =some x→ ∃h:j<s.size,x=s[j]:=by
  intro j x hj
  have hlt:j<s.size:=by have:=(List.getElem?_eq_some_iff.1 hj).1;simpa using this
  rw [zeT s j hlt] at hj
  exact ⟨hlt,(Option.some.inj hj).symm⟩
 have e:=ydO s.data.toList k m h1 (by rw [zaU];exact h2)
  (fun j x hj hjk=>by obtain ⟨h,rfl⟩:=at_ j x hj;exact H1 j h hjk)
  (by rw [zaU];exact H2.imp id (fun ⟨h,hp⟩=>⟨_,zeT s k h,hp⟩))
  (fun j x hj hjk=>by obtain ⟨h,rfl⟩:=at_ j x hj;exact h3 j h hjk)
  (h4.imp id (fun ⟨h,hlt,hp⟩=>⟨hlt,_,zeT s (m - 1) h,hp⟩))
 rw [←e]
 apply ByteArray.ext
 apply Array.ext'
 rw [Lib.extract_data]
theorem z1I (s:ByteArray) (w:World) (hs:s.size≤1073741824):
  Calls Tryz.prog 35 #[.string s] w fun e w'=>e= .returned (.string ⟨(zcK s.data.toList).toArray⟩)∧w=w':=by
 go_enter Tryz.func35,Tryz.ntmps35
 go_wp2
 go_loop [3] (fun i=> ∃k:Nat,k≤s.size∧i= .int .i64 k∧Hid (∀j (h:j<s.size),j<k→zbN s[j]=true)) (fun i=>s.size - (intOf i).toNat)
 case atStart=>exact ⟨0,Nat.zero_le _,rfl,fun j _ h=>by omega⟩
 case round=>
  obtain ⟨k,hk,rfl,H1⟩:=hrel
  by_cases hgo: ∃h:k<s.size,(s[k]'h).toNat≤32
  ·obtain ⟨hlt,hb⟩:=hgo
   obtain ⟨c,hc⟩: ∃c,(s[k]'hlt).toNat=c:=⟨_,rfl⟩
   rw [hc] at hb
   have HC:=Lib.hid hc
   go_wp2
   go_round
   case rel=>
    refine ⟨k+1,by omega,by go_num,fun j hj hjk=> ?_⟩
    by_cases e:j=k
    ·subst e;exact zoR (by rw [HC.out];exact hb)
    ·exact H1.out j hj (by omega)
   case measure=>simp [intOf];omega
  ·have H2:Hid (k=s.size∨ ∃h:k<s.size,zbN s[k]=false):=by
    by_cases hlt:k<s.size
    ·refine .inr ⟨hlt,?_⟩
     by_cases hb:(s[k]'hlt).toNat≤32
     ·exact absurd ⟨hlt,hb⟩ hgo
     ·exact ziL (by omega)
    ·exact .inl (by omega)
   have fin: ∀m:Nat,k≤m→m≤s.size→(∀j (h:j<s.size),m≤j→zbN s[j]=true)→(k=m∨ ∃h:m - 1<s.size,k<m∧zbN s[m - 1]=false)→(s.extract k m)=⟨(zcK s.data.toList).toArray⟩:=
    fun m h1 h2 h3 h4=>ztV s k m h1 h2 H1.out H2.out h3 h4
   have FIN:=Lib.hid fin
   clear fin
   by_cases hlt:k<s.size
   ·obtain ⟨c,hc⟩: ∃c,(s[k]'hlt).toNat=c:=⟨_,rfl⟩
    have hbc:32<c:=by
     by_cases hb:(s[k]'hlt).toNat≤32
     ·exact absurd ⟨hlt,hb⟩ hgo
     ·omega
    clear hgo
    go_wp2
    go_loop [4] (fun i=> ∃m:Nat,k≤m∧m≤s.size∧i= .int .i64 m∧Hid (∀j (h:j<s.size),m≤j→zbN s[j]=true)) (fun i=>(intOf i).toNat)
    case atStart=>exact ⟨s.size,by omega,Nat.le_refl _,rfl,fun j h1 h2=>by omega⟩
    case round=>
     obtain ⟨m,hkm,hms,rfl,H3⟩:=hrel
     by_cases hkm2:k<m
     ·have hm1:m - 1<s.size:=by omega
      obtain ⟨d,hd⟩: ∃d,(s[m - 1]'hm1).toNat=d:=⟨_,rfl⟩
      have HD:=Lib.hid hd
      have ei:((m:Int) - 1).toNat=m - 1:=by omega
      have ej:(m:Int) - 1=((m - 1:Nat):Int):=by omega
      by_cases hb:d≤32
      ·go_wp2
       go_round
       case rel=>
        refine ⟨m - 1,by omega,by omega,by go_num,fun j hj hjm=> ?_⟩
        by_cases e:j=m - 1
        ·subst e;exact zoR (by rw [HD.out];exact hb)
        ·exact H3.out j hj (by omega)
       case measure=>simp [intOf];omega
      ·have HF:=Lib.hid (FIN.out m hkm hms H3.out (.inr ⟨hm1,hkm2,ziL (by rw [HD.out];omega)⟩))
       go_wp2
       go_ret
       exact ⟨by rw [←HF.out];rfl,rfl⟩
     ·have hbad:False:=by
       have hlt2:=hlt
       have:=H3.out k hlt (by omega)
       rw [ziL (by omega)] at this
       cases this
      exact hbad.elim
   ·obtain rfl:k=s.size:=by omega
    have HF:=Lib.hid (FIN.out s.size (Nat.le_refl _) (Nat.le_refl _) (fun j h1 h2=>by omega) (.inl rfl))
    clear hgo
    go_wp2
    refine wp_loop_rounds 1 ?_
    rw [rounds_succ]
    go_wp2
    go_ret
    exact ⟨congrArg (fun b=>Ending.returned (Value.string b)) ((zuF s s.size).symm.trans HF.out),rfl⟩
end
section
open Go.RowKit
theorem Tryz.infoStr:(Tryz.prog.info? 9).map (fun i=>(i.zero,i.size,i.bytes))=some (some (.string ⟨#[]⟩),1,16):=by kernel_rfl
def hasB (l:List UInt8) (c:UInt8):Bool:=l.any (· ==c)
theorem zdQ (l:List UInt8) (c:UInt8):(hasB l c=true→0≤Lib.indexByte l c)∧(hasB l c=false→Lib.indexByte l c= -1):=by
 induction l with
 |nil=>simp [hasB,Lib.indexByte]
 |cons b l ih=>
  have hge:=Lib.indexByte_ge l c
  by_cases e:b==c
  ·simp [hasB,Lib.indexByte,e]
  ·have e':(b==c)=false:=by simpa using e
   have h1:hasB (b::l) c=hasB l c:=by simp [hasB,e']
   simp only [Lib.indexByte,e',h1,Bool.false_eq_true,if_false]
   refine ⟨fun h=> ?_,fun h=> ?_⟩
   ·have h2:=ih.1 h
    rw [if_neg (by simp;omega)]
    omega
   ·have h2:=ih.2 h
    rw [if_pos (by simp [h2])]
theorem zjS (c:UInt8):((c.toNat:Int).toNat).toUInt8=c:=by
 simp
theorem ib_yes (s:ByteArray) (c:UInt8) (w:World) (h:hasB s.data.toList c=true):
  Calls Tryz.prog 111 #[.string s,.int .u8 (c.toNat:Int)] w fun e w'=> ∃x:Int,e= .returned (.int .i64 x)∧0≤x∧w=w':=by
 refine (Tryz.strings_IndexByte s _ w).mono ?_
 rintro e w' ⟨rfl,rfl⟩
 rw [zjS]
 exact ⟨_,rfl,(zdQ _ _).1 h,rfl⟩
theorem ib_no (s:ByteArray) (c:UInt8) (w:World) (h:hasB s.data.toList c=false):
  Calls Tryz.prog 111 #[.string s,.int .u8 (c.toNat:Int)] w fun e w'=>e= .returned (.int .i64 (-1))∧w=w':=by
 refine (Tryz.strings_IndexByte s _ w).mono ?_
 rintro e w' ⟨rfl,rfl⟩
 rw [zjS,(zdQ _ _).2 h]
 exact ⟨rfl,rfl⟩
theorem yjQ (s:ByteArray) (c:UInt8) (h: ∀k (h:k<s.size),s[k].toNat≠c.toNat):hasB s.data.toList c=false:=by
 unfold hasB
 rw [List.any_eq_false]
 intro x hx
 obtain ⟨k,hk,rfl⟩:=List.getElem_of_mem hx
 have:=h k (by simpa using hk)
 intro e
 have e':s.data[k]=c:=by simpa using e
 exact this (congrArg UInt8.toNat e')
/-- the parts so far,and the part that is under way -/
def zaR (p:UInt8→Bool) (st:List (List UInt8)×List UInt8) (c:UInt8):List (List UInt8)×List UInt8:=
 if p c then (st.1++[st.2],[]) else (st.1,st.2++[c])
def spl (p:UInt8→Bool) (l:List UInt8):List (List UInt8)×List UInt8:=l.foldl (zaR p) ([],[])
def splitB (p:UInt8→Bool) (l:List UInt8):List (List UInt8):=(spl p l).1++[(spl p l).2]
def strC (l:List UInt8):Value:= .string ⟨l.toArray⟩
def zeL (l:List (List UInt8)):List Value:=l.map strC
theorem ycI (p:UInt8→Bool) (s:ByteArray) (k:Nat) (h:k<s.size) (hp:p s[k]=true):spl p (s.data.toList.take (k+1))=((spl p (s.data.toList.take k)).1++[(spl p (s.data.toList.take k)).2],[]):=by
 rw [zdS s k h]
 simp [spl,zaR,hp]
theorem yiP (p:UInt8→Bool) (s:ByteArray) (k:Nat) (h:k<s.size) (hp:p s[k]=false):spl p (s.data.toList.take (k+1))=((spl p (s.data.toList.take k)).1,(spl p (s.data.toList.take k)).2++[s[k]]):=by
 rw [zdS s k h]
 simp [spl,zaR,hp]
theorem zgX (s:ByteArray) (a b:Nat) (l:List UInt8) (h:(s.data.toList.drop a).take (b - a)=l):s.extract a b=⟨l.toArray⟩:=by
 apply ByteArray.ext
 apply Array.ext'
 rw [Lib.extract_data,h]
theorem z1X (s:ByteArray) (a k:Nat) (ha:a≤k) (h:k<s.size):(s.data.toList.drop a).take (k+1 - a)=(s.data.toList.drop a).take (k - a)++[s[k]]:=by
 rw [show k+1 - a=(k - a)+1 from by omega,List.take_succ_eq_append_getElem (by simp;omega)]
 congr 2
 rw [List.getElem_drop]
 have:a+(k - a)=k:=by omega
 simp only [this]
 rfl
def zbA (B:Nat) (w:World) (v:Value) (ps:List (List UInt8)):Prop:=w.ownsRow B 9 1 v ps.length (zeL ps)
theorem zbA.nil (B:Nat) (w:World):zbA B w (.slice none 0 0) []:=World.ownsRow_nil _ _ _ _
theorem zbA.snoc {B:Nat} {w:World} {v:Value} {ps:List (List UInt8)} {x:ByteArray} {l:List UInt8} (h:w.ownsRow B 9 1 v (ps.length+1) (zeL ps++[.string x])) (hx:x=⟨l.toArray⟩):zbA B w v (ps++[l]):=by
 unfold zbA zeL
 rw [List.map_append,List.length_append]
 subst hx
 exact h
def ztL (B:Nat) (ps:List (List UInt8)) (w:World) (e:Ending) (w':World):Prop:= ∃v,e= .returned v∧zbA B w' v ps∧Below B w w'
theorem zdV (s at_:ByteArray) (w:World) (hs:s.size≤1073741824):
  Calls Tryz.prog 121 #[.string s,.string at_] w (ztL w.heap.size (splitB (hasB at_.data.toList) s.data.toList) w):=by
 obtain ⟨i0,hi,hz0,hz1,hz2⟩:=info_parts Tryz.infoStr
 go_enter Tryz.func121,Tryz.ntmps121
 go_wp2
 go_loopw [5,6,10] (fun v fr i wr=> ∃(k a:Nat) (ps:List (List UInt8)),k≤s.size∧a≤k∧i= .int .i64 k∧fr= .int .i64 a∧zbA w.heap.size wr v ps∧ps.length≤k∧Hid (spl (hasB at_.data.toList) (s.data.toList.take k)=(ps,(s.data.toList.drop a).take (k - a)))∧Below w.heap.size w wr) (fun _ _ i _=>s.size - (intOf i).toNat)
 case atStart=>exact ⟨0,0,[],Nat.zero_le _,Nat.zero_le _,rfl,rfl,zbA.nil _ _,by simp,rfl,Below.refl _ _⟩
 case round=>
  obtain ⟨k,a,ps,hk,ha,rfl,rfl,hown,hpl,HS,hbw⟩:=hrel
  have hsz:=hbw.size
  unfold zbA at hown
  by_cases hlt:k<s.size
  ·by_cases hp:hasB at_.data.toList s[k]=true
   ·have hsn:=ycI (hasB at_.data.toList) s k hlt hp
    rw [HS.out] at hsn
    have HSN:=Lib.hid hsn
    have HP:=Lib.hid hp
    clear hsn hp
    go_wp2_with (first|(go_at_call 111;refine (ib_yes _ _ _ HP.out).mono ?_;rintro e w' ⟨x,rfl,hx,rfl⟩)|(at_builtin;refine zaX _ rfl _ _ 25 rfl w.heap.size 9 i0 (.string ⟨#[]⟩) 16 Tryz.underlying25 hi hz0 hz1 hz2 rfl _ _ _ rfl hown (.string (s.extract a k)) rfl rfl (by omega) (by omega) hsz ?_;intro v' w1 hown' hk'))
    go_roundw
    case rel=>
     refine ⟨k+1,k+1,ps++[(s.data.toList.drop a).take (k - a)],by omega,by omega,by go_num,by go_num,zbA.snoc hown' (zgX s a k _ rfl),by simp;omega,?_,hbw.trans hk'⟩
     show _=_
     rw [HSN.out,Nat.sub_self,List.take_zero]
    case measure=>simp [intOf];omega
   ·have hp':hasB at_.data.toList s[k]=false:=by simpa using hp
    have hsn:=yiP (hasB at_.data.toList) s k hlt hp'
    rw [HS.out] at hsn
    have HSN:=Lib.hid hsn
    have HP:=Lib.hid hp'
    clear hsn hp hp'
    go_wp2_with (go_at_call 111;refine (ib_no _ _ _ HP.out).mono ?_;rintro e w' ⟨rfl,rfl⟩)
    go_roundw
    case rel=>
     refine ⟨k+1,a,ps,by omega,by omega,by go_num,rfl,hown,by omega,?_,hbw⟩
     show _=_
     rw [HSN.out,z1X s a k ha hlt]
    case measure=>simp [intOf];omega
  ·obtain rfl:k=s.size:=by omega
   have hfin:splitB (hasB at_.data.toList) s.data.toList=ps++[(s.data.toList.drop a).take (s.size - a)]:=by
    have:=HS.out
    rw [zeG s s.size hlt] at this
    unfold splitB
    rw [this]
   have HF:=Lib.hid hfin
   clear hfin
   go_wp2_with (at_builtin;refine zaX _ rfl _ _ 25 rfl w.heap.size 9 i0 (.string ⟨#[]⟩) 16 Tryz.underlying25 hi hz0 hz1 hz2 rfl _ _ _ rfl hown (.string (s.extract a s.size)) rfl rfl (by omega) (by omega) hsz ?_;intro v' w1 hown' hk')
   go_ret
   exact ⟨v',rfl,by rw [HF.out];exact zbA.snoc hown' (zgX s a s.size _ rfl),hbw.trans hk'⟩
end
section
open Go.RowKit
theorem zgH {k:IntKind} {a b:Int} (h:a=b):Ending.returned (.int k a)= .returned (.int k b):=by rw [h]
def zbV (r:Int):Bool:=decide (48≤r∧r≤57)
def zdH (r:Int):Bool:=decide ((97≤r∧r≤122)∨(65≤r∧r≤90))
def valZ (r:Int):Int:=if 48≤r∧r≤57 then r - 48 else if 65≤r∧r≤70 then r - 55 else if 97≤r∧r≤102 then r - 87 else -1
theorem zdA (r:Int) (w:World):
  Calls Tryz.prog 70 #[.int .i32 r] w fun e w'=>e= .returned (.bool (zbV r))∧w=w':=by
 rcases (show r<48∨(48≤r∧r≤57)∨(57<r∧r<65)∨(65≤r∧r≤70)∨(70<r∧r≤90)∨(90<r∧r<97)∨(97≤r∧r≤102)∨(102<r∧r≤122)∨122<r from by omega) with hA|⟨hA,hB⟩|⟨hA,hB⟩|⟨hA,hB⟩|⟨hA,hB⟩|⟨hA,hB⟩|⟨hA,hB⟩|⟨hA,hB⟩|hA
 ·have HB:=Lib.hid (show zbV r=false from decide_eq_false (by omega))
  go_enter Tryz.func70,Tryz.ntmps70
  go_wp2
  go_ret
  exact ⟨zaT (by first|exact HB.out.symm|(rw [HB.out];simp;omega)),rfl⟩
 ·have HB:=Lib.hid (show zbV r=true from decide_eq_true (by omega))
  go_enter Tryz.func70,Tryz.ntmps70
  go_wp2
  go_ret
  exact ⟨zaT (by first|exact HB.out.symm|(rw [HB.out];simp;omega)),rfl⟩
 ·have HB:=Lib.hid (show zbV r=false from decide_eq_false (by omega))
  go_enter Tryz.func70,Tryz.ntmps70
  go_wp2
  go_ret
  exact ⟨zaT (by first|exact HB.out.symm|(rw [HB.out];simp;omega)),rfl⟩
 ·have HB:=Lib.hid (show zbV r=false from decide_eq_false (by omega))
  go_enter Tryz.func70,Tryz.ntmps70
  go_wp2
  go_ret
  exact ⟨zaT (by first|exact HB.out.symm|(rw [HB.out];simp;omega)),rfl⟩
 ·have HB:=Lib.hid (show zbV r=false from decide_eq_false (by omega))
  go_enter Tryz.func70,Tryz.ntmps70
  go_wp2
  go_ret
  exact ⟨zaT (by first|exact HB.out.symm|(rw [HB.out];simp;omega)),rfl⟩
 ·have HB:=Lib.hid (show zbV r=false from decide_eq_false (by omega))
  go_enter Tryz.func70,Tryz.ntmps70
  go_wp2
  go_ret
  exact ⟨zaT (by first|exact HB.out.symm|(rw [HB.out];simp;omega)),rfl⟩
 ·have HB:=Lib.hid (show zbV r=false from decide_eq_false (by omega))
  go_enter Tryz.func70,Tryz.ntmps70
  go_wp2
  go_ret
  exact ⟨zaT (by first|exact HB.out.symm|(rw [HB.out];simp;omega)),rfl⟩
 ·have HB:=Lib.hid (show zbV r=false from decide_eq_false (by omega))
  go_enter Tryz.func70,Tryz.ntmps70
  go_wp2
  go_ret
  exact ⟨zaT (by first|exact HB.out.symm|(rw [HB.out];simp;omega)),rfl⟩
 ·have HB:=Lib.hid (show zbV r=false from decide_eq_false (by omega))
  go_enter Tryz.func70,Tryz.ntmps70
  go_wp2
  go_ret
  exact ⟨zaT (by first|exact HB.out.symm|(rw [HB.out];simp;omega)),rfl⟩
theorem ybR (r:Int) (w:World):
  Calls Tryz.prog 69 #[.int .i32 r] w fun e w'=>e= .returned (.bool (zdH r))∧w=w':=by
 rcases (show r<48∨(48≤r∧r≤57)∨(57<r∧r<65)∨(65≤r∧r≤70)∨(70<r∧r≤90)∨(90<r∧r<97)∨(97≤r∧r≤102)∨(102<r∧r≤122)∨122<r from by omega) with hA|⟨hA,hB⟩|⟨hA,hB⟩|⟨hA,hB⟩|⟨hA,hB⟩|⟨hA,hB⟩|⟨hA,hB⟩|⟨hA,hB⟩|hA
 ·have HB:=Lib.hid (show zdH r=false from decide_eq_false (by omega))
  go_enter Tryz.func69,Tryz.ntmps69
  go_wp2
  go_ret
  exact ⟨zaT (by first|exact HB.out.symm|(rw [HB.out];simp;omega)),rfl⟩
 ·have HB:=Lib.hid (show zdH r=false from decide_eq_false (by omega))
  go_enter Tryz.func69,Tryz.ntmps69
  go_wp2
  go_ret
  exact ⟨zaT (by first|exact HB.out.symm|(rw [HB.out];simp;omega)),rfl⟩
 ·have HB:=Lib.hid (show zdH r=false from decide_eq_false (by omega))
  go_enter Tryz.func69,Tryz.ntmps69
  go_wp2
  go_ret
  exact ⟨zaT (by first|exact HB.out.symm|(rw [HB.out];simp;omega)),rfl⟩
 ·have HB:=Lib.hid (show zdH r=true from decide_eq_true (by omega))
  go_enter Tryz.func69,Tryz.ntmps69
  go_wp2
  go_ret
  exact ⟨zaT (by first|exact HB.out.symm|(rw [HB.out];simp;omega)),rfl⟩
 ·have HB:=Lib.hid (show zdH r=true from decide_eq_true (by omega))
  go_enter Tryz.func69,Tryz.ntmps69
  go_wp2
  go_ret
  exact ⟨zaT (by first|exact HB.out.symm|(rw [HB.out];simp;omega)),rfl⟩
 ·have HB:=Lib.hid (show zdH r=false from decide_eq_false (by omega))
  go_enter Tryz.func69,Tryz.ntmps69
  go_wp2
  go_ret
  exact ⟨zaT (by first|exact HB.out.symm|(rw [HB.out];simp;omega)),rfl⟩
 ·have HB:=Lib.hid (show zdH r=true from decide_eq_true (by omega))
  go_enter Tryz.func69,Tryz.ntmps69
  go_wp2
  go_ret
  exact ⟨zaT (by first|exact HB.out.symm|(rw [HB.out];simp;omega)),rfl⟩
 ·have HB:=Lib.hid (show zdH r=true from decide_eq_true (by omega))
  go_enter Tryz.func69,Tryz.ntmps69
  go_wp2
  go_ret
  exact ⟨zaT (by first|exact HB.out.symm|(rw [HB.out];simp;omega)),rfl⟩
 ·have HB:=Lib.hid (show zdH r=false from decide_eq_false (by omega))
  go_enter Tryz.func69,Tryz.ntmps69
  go_wp2
  go_ret
  exact ⟨zaT (by first|exact HB.out.symm|(rw [HB.out];simp;omega)),rfl⟩
theorem zcJ (r:Int) (w:World):
  Calls Tryz.prog 166 #[.int .i32 r] w fun e w'=>e= .returned (.int .i64 (valZ r))∧w=w':=by
 rcases (show r<48∨(48≤r∧r≤57)∨(57<r∧r<65)∨(65≤r∧r≤70)∨(70<r∧r≤90)∨(90<r∧r<97)∨(97≤r∧r≤102)∨(102<r∧r≤122)∨122<r from by omega) with hA|⟨hA,hB⟩|⟨hA,hB⟩|⟨hA,hB⟩|⟨hA,hB⟩|⟨hA,hB⟩|⟨hA,hB⟩|⟨hA,hB⟩|hA
 ·have HV:=Lib.hid (show valZ r= -1 from by unfold valZ;(repeat' split)<;>omega)
  go_enter Tryz.func166,Tryz.ntmps166
  go_wp2
  go_ret
  exact ⟨zgH (by first|exact HV.out.symm|(rw [HV.out];omega)),rfl⟩
 ·have HV:=Lib.hid (show valZ r=r - 48 from by unfold valZ;(repeat' split)<;>omega)
  go_enter Tryz.func166,Tryz.ntmps166
  go_wp2
  go_ret
  exact ⟨zgH (by first|exact HV.out.symm|(rw [HV.out];omega)),rfl⟩
 ·have HV:=Lib.hid (show valZ r= -1 from by unfold valZ;(repeat' split)<;>omega)
  go_enter Tryz.func166,Tryz.ntmps166
  go_wp2
  go_ret
  exact ⟨zgH (by first|exact HV.out.symm|(rw [HV.out];omega)),rfl⟩
 ·have HV:=Lib.hid (show valZ r=r - 55 from by unfold valZ;(repeat' split)<;>omega)
  go_enter Tryz.func166,Tryz.ntmps166
  go_wp2
  go_ret
  exact ⟨zgH (by first|exact HV.out.symm|(rw [HV.out];omega)),rfl⟩
 ·have HV:=Lib.hid (show valZ r= -1 from by unfold valZ;(repeat' split)<;>omega)
  go_enter Tryz.func166,Tryz.ntmps166
  go_wp2
  go_ret
  exact ⟨zgH (by first|exact HV.out.symm|(rw [HV.out];omega)),rfl⟩
 ·have HV:=Lib.hid (show valZ r= -1 from by unfold valZ;(repeat' split)<;>omega)
  go_enter Tryz.func166,Tryz.ntmps166
  go_wp2
  go_ret
  exact ⟨zgH (by first|exact HV.out.symm|(rw [HV.out];omega)),rfl⟩
 ·have HV:=Lib.hid (show valZ r=r - 87 from by unfold valZ;(repeat' split)<;>omega)
  go_enter Tryz.func166,Tryz.ntmps166
  go_wp2
  go_ret
  exact ⟨zgH (by first|exact HV.out.symm|(rw [HV.out];omega)),rfl⟩
 ·have HV:=Lib.hid (show valZ r= -1 from by unfold valZ;(repeat' split)<;>omega)
  go_enter Tryz.func166,Tryz.ntmps166
  go_wp2
  go_ret
  exact ⟨zgH (by first|exact HV.out.symm|(rw [HV.out];omega)),rfl⟩
 ·have HV:=Lib.hid (show valZ r= -1 from by unfold valZ;(repeat' split)<;>omega)
  go_enter Tryz.func166,Tryz.ntmps166
  go_wp2
  go_ret
  exact ⟨zgH (by first|exact HV.out.symm|(rw [HV.out];omega)),rfl⟩
end
section
open Go.RowKit
def fixZ (r:Int):Int:=if isB r=true then r else 65533
theorem z5N (l:List UInt8) (i:Nat):zbE ⟨l.toArray⟩ i=(l.getD i 0).toNat:=by
 unfold zbE
 congr 1
 by_cases h:i<l.length
 ·rw [show (ByteArray.mk l.toArray).get! i=(ByteArray.mk l.toArray).get! (i+0) from rfl,get_at _ i (by simpa [ByteArray.size] using h)]
  simp [List.getD,List.getElem?_eq_getElem h]
  rfl
 ·have: ¬i<(ByteArray.mk l.toArray).size:=by simpa [ByteArray.size] using h
  simp only [List.getD,List.getElem?_eq_none (Nat.le_of_not_lt h),Option.getD_none]
  show (l.toArray)[i]! =_
  rw [getElem!_neg _ _ (by simpa using h)]
  rfl
theorem zaJ (l:List UInt8):(ByteArray.mk l.toArray).size=l.length:=by simp [ByteArray.size]
theorem ygE (pre e post:List UInt8) (k:Nat) (h:k<e.length):(pre++e++post).getD (pre.length+k) 0=e.getD k 0:=by
 simp only [List.getD]
 rw [List.append_assoc,List.getElem?_append_right (by omega),List.getElem?_append_left (by omega)]
 congr 2
 omega
theorem z5L (x:Int) (h0:0≤x) (h1:x<256):(x.toNat.toUInt8).toNat=x.toNat:=by
 have:x.toNat % 256=x.toNat:=Nat.mod_eq_of_lt (by omega)
 simp [Nat.toUInt8,this]
/-- the bytes of a code point,anywhere in a text,are decoded as that code point -/
theorem ztD (pre post:List UInt8) (r:Int):
  Utf8.decode ⟨(pre++Lib.encodeRune r++post).toArray⟩ pre.length=((fixZ r).toNat,(Lib.encodeRune r).length):=by
 obtain ⟨e,he⟩: ∃e,Lib.encodeRune r=e:=⟨_,rfl⟩
 have hb: ∀k,k<e.length→zbE ⟨(pre++e++post).toArray⟩ (pre.length+k)=(e.getD k 0).toNat:=fun k hk=>by
  rw [z5N,ygE pre e post k hk]
 have hsz:(ByteArray.mk (pre++e++post).toArray).size=pre.length+e.length+post.length:=by rw [zaJ];simp;omega
 rw [he]
 generalize ByteArray.mk (pre++e++post).toArray=t at*
 have hv:isB r=true∨isB r=false:=by cases isB r<;>simp
 rcases hv with hv|hv
 ·have hr:=of_decide_eq_true hv
  have hf:fixZ r=r:=if_pos hv
  rw [hf]
  by_cases a:r<128
  ·have hz:=Lib.encodeRuneZ_one hr.1 (by omega)
   have hE:e=[r.toNat.toUInt8]:=by rw [←he];unfold Lib.encodeRune;rw [hz];rfl
   subst hE
   have h0:=hb 0 (by simp)
   simp only [List.getD_cons_zero,Nat.add_zero] at h0
   rw [z5L r hr.1 (by omega)] at h0
   rw [zcQ,h0,if_pos (by omega)]
   rfl
  ·by_cases b:r<2048
   ·have hz:=Lib.encodeRuneZ_two (r:=r) (by omega) (by omega)
    have hE:e=[(192+r/64).toNat.toUInt8,(128+r % 64).toNat.toUInt8]:=by rw [←he];unfold Lib.encodeRune;rw [hz];rfl
    subst hE
    have h0:=hb 0 (by simp)
    have h1:=hb 1 (by simp)
    simp only [List.getD_cons_zero,List.getD_cons_succ,Nat.add_zero] at h0 h1
    rw [z5L _ (by omega) (by omega)] at h0 h1
    simp only [List.length_cons,List.length_nil] at hsz ⊢
    rw [zcQ,h0,h1,if_neg (by omega),if_pos (by omega),if_pos (by omega)]
    congr 1
    omega
   ·by_cases c:r<65536
    ·have hz:=Lib.encodeRuneZ_three (r:=r) (by omega)
     have hE:e=[(224+r/4096).toNat.toUInt8,(128+r/64 % 64).toNat.toUInt8,(128+r % 64).toNat.toUInt8]:=by rw [←he];unfold Lib.encodeRune;rw [hz];rfl
     subst hE
     have h0:=hb 0 (by simp)
     have h1:=hb 1 (by simp)
     have h2:=hb 2 (by simp)
     simp only [List.getD_cons_zero,List.getD_cons_succ,Nat.add_zero] at h0 h1 h2
     rw [z5L _ (by omega) (by omega)] at h0 h1 h2
     simp only [List.length_cons,List.length_nil] at hsz ⊢
     have hsum:(224+r/4096).toNat % 16*4096+(128+r/64 % 64).toNat % 64*64+(128+r % 64).toNat % 64=r.toNat:=by omega
     have hvv:isB ((r.toNat:Nat):Int)=true:=by rw [Int.toNat_of_nonneg hr.1];exact hv
     rw [zcQ,h0,h1,h2,if_neg (by omega),if_neg (by omega),if_pos (by omega),hsum,if_pos ⟨by omega,hvv⟩]
    ·have hz:=Lib.encodeRuneZ_four (r:=r) (by omega) (by omega)
     have hE:e=[(240+r/262144).toNat.toUInt8,(128+r/4096 % 64).toNat.toUInt8,(128+r/64 % 64).toNat.toUInt8,(128+r % 64).toNat.toUInt8]:=by rw [←he];unfold Lib.encodeRune;rw [hz];rfl
     subst hE
     have h0:=hb 0 (by simp)
     have h1:=hb 1 (by simp)
     have h2:=hb 2 (by simp)
     have h3:=hb 3 (by simp)
     simp only [List.getD_cons_zero,List.getD_cons_succ,Nat.add_zero] at h0 h1 h2 h3
     rw [z5L _ (by omega) (by omega)] at h0 h1 h2 h3
     simp only [List.length_cons,List.length_nil] at hsz ⊢
     have hsum:(240+r/262144).toNat % 8*262144+(128+r/4096 % 64).toNat % 64*4096+(128+r/64 % 64).toNat % 64*64+(128+r % 64).toNat % 64=r.toNat:=by omega
     have hvv:isB ((r.toNat:Nat):Int)=true:=by rw [Int.toNat_of_nonneg hr.1];exact hv
     rw [zcQ,h0,h1,h2,h3,if_neg (by omega),if_neg (by omega),if_neg (by omega),if_pos (by omega),hsum,if_pos ⟨by omega,hvv⟩]
 ·have hr:=of_decide_eq_false hv
  have hf:fixZ r=65533:=if_neg (by rw [hv];simp)
  rw [hf]
  have hz:=Lib.encodeRuneZ_bad (r:=r) (by omega)
  have hE:e=[239,191,189]:=by rw [←he];unfold Lib.encodeRune;rw [hz];rfl
  subst hE
  have h0:=hb 0 (by simp)
  have h1:=hb 1 (by simp)
  have h2:=hb 2 (by simp)
  simp only [List.getD_cons_zero,List.getD_cons_succ,Nat.add_zero] at h0 h1 h2
  simp only [List.length_cons,List.length_nil] at hsz ⊢
  have k0:(239:UInt8).toNat=239:=rfl
  have k1:(191:UInt8).toNat=191:=rfl
  have k2:(189:UInt8).toNat=189:=rfl
  have hvv:isB ((65533:Nat):Int)=true:=by decide
  rw [zcQ,h0,h1,h2,k0,k1,k2,if_neg (by omega),if_neg (by omega),if_pos (by omega)]
  rw [if_pos ⟨by omega,by decide⟩]
  rfl
theorem zjG (r:Int):1≤(Lib.encodeRune r).length:=by
 simp only [Lib.encodeRune,List.length_map];exact (Lib.encodeRuneZ_length r).1
theorem ziP (r:Int) (l:List Int):zeK (r::l)=Lib.encodeRune r++zeK l:=by simp [zeK]
theorem ybV (l:List Int):l.length≤(zeK l).length:=by
 induction l with
 |nil=>simp [zeK]
 |cons r l ih=>rw [ziP,List.length_append,List.length_cons];have:=zjG r;omega
theorem zzJ (r:Int):0≤fixZ r:=by
 unfold fixZ
 split
 ·rename_i h;exact (of_decide_eq_true h).1
 ·omega
theorem z4U (l:List Int): ∀(pre:List UInt8) (f:Nat),l.length≤f→zlB ⟨(pre++zeK l).toArray⟩ f pre.length=l.map fixZ:=by
 induction l with
 |nil=>
  intro pre f _
  rw [ziG _ _ _ (by rw [zaJ];simp [zeK])]
  rfl
 |cons r l ih=>
  intro pre f hf
  obtain ⟨f',rfl⟩: ∃f',f=f'+1:=⟨f - 1,by simp at hf;omega⟩
  have hlt:pre.length<(ByteArray.mk (pre++zeK (r::l)).toArray).size:=by
   rw [zaJ,ziP];have:=zjG r;simp;omega
  rw [zgO _ _ _ hlt,ziP,←List.append_assoc,ztD pre (zeK l) r]
  have h2:=ih (pre++Lib.encodeRune r) f' (by simp at hf;omega)
  rw [List.length_append] at h2
  rw [h2,List.map_cons,Int.toNat_of_nonneg (zzJ r)]
theorem ybP (l:List Int):scal ⟨(zeK l).toArray⟩=l.map fixZ:=by
 unfold scal
 rw [zaJ]
 exact z4U l [] _ (ybV l)
/-! ### parts,put together again -/
end
section
open Go.RowKit
theorem zkB (p:UInt8→Bool) (l:List UInt8):0<(splitB p l).length:=by simp [splitB]
theorem zbA.form {B:Nat} {w:World} {v:Value} {ps:List (List UInt8)} (h:zbA B w v ps) (hn:0<ps.length):
  ∃g cap,v= .slice (some ⟨g,0,none⟩) ps.length cap∧g<w.heap.size∧ ∀j,j<ps.length→w.cell? ⟨g,j,none⟩=some (.string ⟨(ps.getD j []).toArray⟩):=by
 unfold zbA at h
 rcases h.2 with ⟨_,h0⟩|⟨g,cap,cur,hv,_,hg,hc,_,hs,ht⟩
 ·omega
 ·refine ⟨g,cap,hv,(Array.getElem?_eq_some_iff.1 hg).1,fun j hj=> ?_⟩
  rw [cell_of_row w g j cur _ _ hg]
  have h1:(zeL ps)[j]? =some (strC (ps.getD j [])):=by
   simp [zeL,List.getD,List.getElem?_eq_getElem hj]
  rw [←ht,List.getElem?_take,if_pos (by omega)] at h1
  simpa [strC] using h1
theorem zbA.below {B:Nat} {w w':World} {v:Value} {ps:List (List UInt8)} (h:zbA B w v ps) (hb:Below w.heap.size w w'):zbA B w' v ps:=zdW h hb
theorem zdE (p:UInt8→Bool) (l:List UInt8):(splitB p l).length≤l.length+1:=by
 have key: ∀(l:List UInt8) (st:List (List UInt8)×List UInt8),(l.foldl (zaR p) st).1.length≤st.1.length+l.length:=by
  intro l
  induction l with
  |nil=>intro st;simp
  |cons c l ih=>
   intro st
   rw [List.foldl_cons]
   have:=ih (zaR p st c)
   have h2:(zaR p st c).1.length≤st.1.length+1:=by unfold zaR;split<;>simp
   simp;omega
 have:=key l ([],[])
 simp [splitB,spl] at this ⊢
 omega
end
section
open Go.RowKit
theorem zoB (ps:List (List UInt8)) (c sep:List UInt8):Lib.join (ps++[c]) sep=if ps=[] then c else Lib.join ps sep++sep++c:=by
 cases ps with
 |nil=>simp [Lib.join_one]
 |cons x r=>
  rw [if_neg (by simp),List.cons_append,Lib.join_cons,Lib.join_cons]
  simp [Lib.joinTail]
theorem z3S (l:List UInt8) (c:UInt8):Lib.join (splitB (hasB [c]) l) [c]=l:=by
 have key: ∀(l:List UInt8) (st:List (List UInt8)×List UInt8),Lib.join ((l.foldl (zaR (hasB [c])) st).1++[(l.foldl (zaR (hasB [c])) st).2]) [c]=Lib.join (st.1++[st.2]) [c]++l:=by
  intro l
  induction l with
  |nil=>intro st;simp
  |cons x l ih=>
   intro st
   rw [List.foldl_cons,ih]
   have e:Lib.join ((zaR (hasB [c]) st x).1++[(zaR (hasB [c]) st x).2]) [c]=Lib.join (st.1++[st.2]) [c]++[x]:=by
    unfold zaR
    by_cases h:hasB [c] x=true
    ·have hx:c=x:=by simpa [hasB] using h
     rw [if_pos h,zoB (st.1++[st.2]) [] [c],if_neg (by simp),List.append_nil,hx]
    ·rw [if_neg h,zoB,zoB]
     split
     ·rfl
     ·simp
   rw [e];simp
 have:=key l ([],[])
 unfold splitB spl
 rw [this]
 simp [Lib.join_one]
/-! ### a second time -/
end
end

section
open Go.RowKit
theorem zuW (s:ByteArray) (w:World) (hs:s.size≤9223372036854775807):
  Calls Tryz.prog 143 #[.string s] w fun e w'=>e= .returned (.bool (zoN s))∧w=w':=by
 go_enter Tryz.func143,Tryz.ntmps143
 go_wp2
 go_loop [6] (fun i=> ∃k:Nat,k≤s.size∧i= .int .i64 k∧Hid (∀j (h:j<s.size),j<k→(s[j]'h).toNat<128)) (fun i=>s.size - (intOf i).toNat)
 case atStart=>exact ⟨0,Nat.zero_le _,rfl,fun j _ h=>by omega⟩
 case round=>
  obtain ⟨k,hk,rfl,H⟩:=hrel
  by_cases hlt:k<s.size
  ·go_wp2
   ·have hc:(128:Int)≤(s[k].toNat:Int):=by assumption
    go_ret
    exact ⟨zaT (zvQ s k hlt (by omega)).symm,rfl⟩
   ·have hc:(s[k].toNat:Int)<128:=by first|assumption|omega
    go_round
    case rel=>
     refine ⟨k+1,by omega,by go_num,fun j hj hjk=> ?_⟩
     by_cases e:j=k
     ·subst e;omega
     ·exact H.out j hj (by omega)
    case measure=>simp [intOf];omega
  ·have hf:=zyP s (fun j hj=>H.out j hj (by omega))
   have HF:=Lib.hid hf
   clear hf
   go_wp2
   go_ret
   exact ⟨zaT HF.out.symm,rfl⟩
/-- the new row of []byte(s),the first k bytes turned by f -/
def zeJ (f:UInt8→UInt8) (B:Nat) (s:ByteArray) (k cap:Nat) (w:World):Prop:=
 ∃cur:Array Value,w.heap[B]? =some (.cells cur 5 (cap,cap+1))∧cur.size=cap∧s.size≤cap∧
  ∀j (h:j<s.size),cur[j]? =some (.int .u8 ((if j<k then f s[j] else s[j]).toNat:Int))
theorem zvZ (f:UInt8→UInt8) (w:World) (s:ByteArray):zeJ f w.heap.size s 0 (grownCap w s.size 0 5) (Lib.bytesWorld w 5 s):=by
 have hge:s.size≤grownCap w s.size 0 5:=grownCap_ge _ _ _ _
 have hsz:(Lib.bytesCells w 5 s).size=grownCap w s.size 0 5:=by
  unfold Lib.bytesCells
  have:s.data.size=s.size:=rfl
  simp [this];omega
 refine ⟨Lib.bytesCells w 5 s,?_,hsz,hge,?_⟩
 ·rw [Lib.bytesWorld_at_new,hsz]
 ·intro j h
  have hj:j<s.data.size:=h
  rw [if_neg (by omega)]
  unfold Lib.bytesCells
  rw [Array.getElem?_append_left (by simpa using hj)]
  simp
  exact ⟨s.data[j],Array.getElem?_eq_getElem hj,rfl⟩
theorem zeJ.cell {f:UInt8→UInt8} {B:Nat} {s:ByteArray} {k cap:Nat} {w:World} (h:zeJ f B s k cap w) (hk:k<s.size):w.cell? ⟨B,k,none⟩=some (.int .u8 (s[k].toNat:Int)):=by
 obtain ⟨cur,h1,_,_,h4⟩:=h
 rw [cell_of_row w B k cur _ _ h1,h4 k hk,if_neg (by omega)]
theorem zeJ.frozen {f:UInt8→UInt8} {B:Nat} {s:ByteArray} {k cap:Nat} {w:World} (h:zeJ f B s k cap w) (hk:k<s.size):w.frozen? ⟨B,k,none⟩=false:=by
 obtain ⟨cur,h1,_,h3,_⟩:=h
 simp [World.frozen?,h1]
 omega
theorem zeJ.keep {f:UInt8→UInt8} {B:Nat} {s:ByteArray} {k cap:Nat} {w w':World} (h:zeJ f B s k cap w) (hb:Below w.heap.size w w'):zeJ f B s k cap w':=by
 obtain ⟨cur,h1,h2,h3,h4⟩:=h
 exact ⟨cur,(hb.block B (Array.getElem?_eq_some_iff.1 h1).1).trans h1,h2,h3,h4⟩
theorem zeJ.same {f:UInt8→UInt8} {B:Nat} {s:ByteArray} {k cap:Nat} {w:World} (h:zeJ f B s k cap w) (hk:k<s.size) (he:f s[k]=s[k]):zeJ f B s (k+1) cap w:=by
 obtain ⟨cur,h1,h2,h3,h4⟩:=h
 refine ⟨cur,h1,h2,h3,fun j hj=> ?_⟩
 rw [h4 j hj]
 by_cases e:j=k
 ·subst e;rw [if_neg (by omega),if_pos (by omega),he]
 ·by_cases e2:j<k
  ·rw [if_pos e2,if_pos (by omega)]
  ·rw [if_neg e2,if_neg (by omega)]
theorem zeJ.put {f:UInt8→UInt8} {B:Nat} {s:ByteArray} {k cap:Nat} {w:World} (h:zeJ f B s k cap w) (hk:k<s.size) (n:Int) (hn:n=((f s[k]).toNat:Int)):zeJ f B s (k+1) cap (w.setCell ⟨B,k,none⟩ (.int .u8 n)):=by
 obtain ⟨cur,h1,h2,h3,h4⟩:=h
 refine ⟨cur.setIfInBounds k (.int .u8 n),?_,by simpa using h2,h3,fun j hj=> ?_⟩
 ·simp [World.setCell,Array.getElem?_modify,h1]
 ·rw [Array.getElem?_setIfInBounds]
  by_cases e:k=j
  ·subst e;rw [if_pos rfl,if_pos (by omega),if_pos (by omega),hn]
  ·rw [if_neg e,h4 j hj]
   by_cases e2:j<k
   ·rw [if_pos e2,if_pos (by omega)]
   ·rw [if_neg e2,if_neg (by omega)]
theorem zeJ.conv {f:UInt8→UInt8} {B:Nat} {s:ByteArray} {cap:Nat} {w:World} {k:Nat} (h:zeJ f B s k cap w) (hk: ¬k<s.size):
  (convert 73 9 (.slice (some ⟨B,0,none⟩) s.size cap)).run Tryz.prog w= .ok (.string ⟨(s.data.toList.map f).toArray⟩) w:=by
 refine zeZ w _ _ 5 _ _ ?_ Tryz.underlying73 Tryz.underlying5 Tryz.underlying9
 obtain ⟨cur,h1,h2,h3,h4⟩:=h
 have hl:(Lib.byteCells (s.data.toList.map f)).length=s.size:=by rw [Lib.byteCells_length,List.length_map,zaU]
 refine ⟨_,cap,by rw [hl],fun j u hj=>⟨_,rfl,?_⟩⟩
 have hlt:j<s.size:=by rw [←hl];exact (List.getElem?_eq_some_iff.1 hj).1
 rw [show (Addr.add ⟨B,0,none⟩ j)=⟨B,j,none⟩ from by unfold Addr.add;split<;>simp_all]
 rw [cell_of_row w B j cur _ _ h1,h4 j hlt,if_pos (by omega),←hj]
 simp only [Lib.byteCells,List.map_map,List.getElem?_map,zeT s j hlt]
 rfl
theorem z9S (s:ByteArray) (w:World) (hs:s.size≤9223372036854775807):
  Calls Tryz.prog 72 #[.string s] w fun e w'=>e= .returned (.string ⟨(zbF s.data.toList).toArray⟩)∧Below w.heap.size w w':=by
 have hcv0:=Lib.run_convert_string_bytes (P:=Tryz.prog) w 9 73 5 s Tryz.underlying9 Tryz.underlying73 Tryz.underlying5
 have hst:=zvZ lowC w s
 have hb0:Below w.heap.size w (Lib.bytesWorld w 5 s):=⟨rfl,rfl,rfl,by rw [Lib.bytesWorld_size];omega,fun k hk=>Lib.bytesWorld_at_old w _ s k hk⟩
 have HST:=Lib.hid hst
 clear hst
 generalize hcap:grownCap w s.size 0 5=cap at*
 generalize Lib.bytesWorld w 5 s=wb at*
 clear hcap
 go_enter Tryz.func72,Tryz.ntmps72
 go_wp2
 clear hcv0
 go_loopw [10] (fun i wr=> ∃k:Nat,k≤s.size∧i= .int .i64 k∧zeJ lowC w.heap.size s k cap wr∧Below w.heap.size w wr) (fun i _=>s.size - (intOf i).toNat)
 case atStart=>exact ⟨0,Nat.zero_le _,rfl,HST.out,hb0⟩
 case round=>
  obtain ⟨k,hk,rfl,hr,hbw⟩:=hrel
  by_cases hlt:k<s.size
  ·have hcell:=hr.cell hlt
   have hfr:=hr.frozen hlt
   obtain ⟨c,hc⟩: ∃c,(s[k]'hlt).toNat=c:=⟨_,rfl⟩
   have hc256:c<256:=by rw [←hc];exact (s[k]'hlt).toNat_lt
   rw [hc] at hcell
   by_cases hu:65≤c∧c≤90
   ·have hdc:((lowC s[k]).toNat:Int)=(c:Int)+32:=by rw [z6Y (by omega) (by omega),hc];omega
    have hr2:=hr.put hlt ((c:Int)+32) hdc.symm
    have HR2:=Lib.hid hr2
    have hbw2:=hbw.setCell (p:=⟨w.heap.size,k,none⟩) (Nat.le_refl _) (.int .u8 ((c:Int)+32))
    have HC:=Lib.hid hc
    obtain ⟨hu1,hu2⟩:=hu
    have ea:(c:Int) - 65+97=(c:Int)+32:=by omega
    clear hdc hr2 hc
    go_wp2
    go_roundw
    case rel=>exact ⟨k+1,by omega,by go_num,by first|exact HR2.out|(rw [ea];exact HR2.out),by first|exact hbw2|(rw [ea];exact hbw2)⟩
    case measure=>simp [intOf];omega
   ·have hr2:=hr.same hlt (ybG (by omega))
    have HR2:=Lib.hid hr2
    clear hr2 hc
    go_wp2
    all_goals
     go_roundw
     case rel=>exact ⟨k+1,by omega,by go_num,HR2.out,hbw⟩
     case measure=>simp [intOf];omega
  ·have hcv:=hr.conv hlt
   go_wp2
   go_ret
   exact ⟨rfl,hbw⟩
end

end Go.Proofs.YthacmlahnpdeeaaGreatDoor
