/-
  What the law AgreeNever leans on, and its walk (24 of 42).
-/
import Derived.Shelf.Strings.MapAny
import Derived.Shelf.Unicode.DecodeLastEight
import Derived.Deep.RegionHeld3
import Derived.Test.YtegmcmgndllmaaaGreatDoorAgreeNeverPkW
import Derived.Test.YtegmcmgndllmaaaGreatDoorAgreeNeverPkX
import Derived.Test.YtegmcmgndllmaaaGreatDoorAgreeNeverPkB
import Derived.Test.YtegmcmgndllmaaaGreatDoorAgreeNeverPkU
import Derived.Test.YtegmcmgndllmaaaGreatDoorAgreeNeverPkD
import Derived.Test.YtegmcmgndllmaaaGreatDoorAgreeNeverPkG
namespace Go.Proofs.YtegmcmgndllmaaaGreatDoor
set_option maxRecDepth 100000
set_option maxHeartbeats 16000000
theorem tkY {P : Program} {m : Region.Mode} {f : Array Oper} {Q : Exit → Act → World → Prop} {S : World → Prop} (i : Nat) (s : Option Nat) {o : Op} {B : TypeId} {j : String} {A : _} {C : _} {v : Value} {fuel : Nat} {d : Array Bool} {a : Act} {w : World} (hi : f[i]? = some ⟨s, o, B, j, A, C⟩)
 (J : YieldsIf P f S ⟨s, o, B, j, A, C⟩ v a) (E : S w)
 (h : wpAnyH P m f Q S fuel (d.setIfInBounds i true) (a.put s v) w)
 (G : Region.noSelect f = true := by kernel_rfl) (D : Region.free m f d i = true := by kernel_rfl) (I : (Region.ready m f d).contains i = true := by kernel_rfl)
 (H : ∀ c a w, Q (.panic c) (a.put s v) w → Q (.panic c) a w := by exact fun _ _ _ h => h) : wpAnyH P m f Q S (fuel + 1) d a w :=
 wpAnyH_take hi G D I H J E h
theorem tkYa {d : Type _} (l : List d) (i : Nat) (a : d) : l.toArray.setIfInBounds i a = (l.set i a).toArray := List.setIfInBounds_toArray ..
theorem tkYb {d : Type _} (x y : d) (l : List d) : (x :: l).set 0 y = y :: l := rfl
theorem tkYc {d : Type _} (x y : d) (l : List d) (n : Nat) : (x :: l).set (n + 1) y = x :: l.set n y := rfl
abbrev ylG := @Lib.hid
abbrev ylH := @Nat.le_refl
abbrev ylI := @decide_eq_false
abbrev ylJ := @decide_eq_true
abbrev ylK := @Go.RowKit.Below.refl
section
open Go.RowKit
theorem zeU {g f:Nat} {w w':World} (h:Lib.Utf8Tabs g f w) (j:Below w.heap.size w w'):Lib.Utf8Tabs g f w':=by
 have k: ∀{a:Addr} {v:Value},w.cell? a=some v→w'.cell? a=some v:=fun {a v} d=>(j.cell (World.block_lt_of_cell? w a d)).trans d
 exact ⟨fun c d=>k (h.1 c d),fun i hi=>⟨k (h.2 i hi).1,k (h.2 i hi).2⟩⟩
theorem zeD (d:List UInt8) (c:UInt8):d.contains c=hasB d c:=by
 unfold hasB
 rw [Bool.eq_iff_iff]
 simp
def zqR:List UInt8:=[45,46,95,126,33,36,38,39,40,41,42,43,44,59,61]
def zoH (r:Nat):Bool:=decide (r<128)&&ziJ (UInt8.ofNat r)
theorem ygC (r:Nat):zoH r=(zcF (r:Int)||(zaX (r:Int)||zfP zqR r)):=by
 unfold zoH zfP
 by_cases h:r<128
 ·have key: ∀d:Fin 128,ziJ (UInt8.ofNat d.val)=(zcF (d.val:Int)||(zaX (d.val:Int)||(true&&hasB zqR (UInt8.ofNat d.val)))):=by decide+kernel
  rw [ylJ h]
  exact key ⟨r,h⟩
 ·have f:zcF (r:Int)=false:=ylI (by omega)
  have i:zaX (r:Int)=false:=ylI (by omega)
  rw [ylI h,f,i];rfl
theorem zlC (r:Nat) (w:World) (i:isB (r:Int)=true):
  Calls Tryz.prog 164 #[.int .i32 (r:Int)] w (zbN w (zoH r)):=by
 have d:=ylG (ygC r)
 have A:=ylG (znF (r:Int))
 have m:=ylG (zbT (r:Int))
 have B:=ylG (zcK zqR (by decide) r i)
 generalize zoH r=res at*
 generalize zcF (r:Int)=o at*
 generalize zaX (r:Int)=j at*
 generalize zfP zqR r=C at*
 generalize (r:Int)=E at*
 clear i
 go_enter Tryz.func164,Tryz.ntmps164
 go_wp2_with fail
 refine (A.out _).mono ?_
 rintro e w' ⟨rfl,rfl⟩
 cases o with
 |true=>
  go_wp2
  go_ret
  exact zaE d.out (ylK _ _)
 |false=>
  go_wp2_with fail
  refine (m.out _).mono ?_
  rintro e w' ⟨rfl,rfl⟩
  cases j with
  |true=>
   go_wp2
   go_ret
   exact zaE d.out (ylK _ _)
  |false=>
   go_wp2_with fail
   refine (B.out _).mono ?_
   rintro e D ⟨rfl,f⟩
   go_wp2
   go_ret
   exact zaE d.out f
def hexR (r:Int):Bool:=decide (0≤valZ r)
theorem zmE (r:Int) (w:World):Calls Tryz.prog 227 #[.int .i32 r] w fun e w'=>e= .returned (.bool (hexR r))∧w=w':=by
 have f:=ylG (zbS r w)
 have d:Hid (hexR r=decide (0≤valZ r)):=rfl
 generalize valZ r=z at*
 go_enter Tryz.func227,Tryz.ntmps227
 go_wp2_with fail
 refine f.out.mono ?_
 rintro e w' ⟨rfl,rfl⟩
 go_wp2
 go_ret
 exact ⟨zaY d.out.symm,rfl⟩
theorem yiJ: ∀d:Fin 256,hexR (d.val:Int)=hexA (UInt8.ofNat d.val):=by decide+kernel
theorem ztQ (c:UInt8):hexR (c.toNat:Int)=hexA c:=by
 have:=yiJ ⟨c.toNat,c.toNat_lt⟩
 simpa using this
theorem z1R (q:List UInt8) (c d e:UInt8) (w:World) (O:q.length≤1000000) (I:2<q.length) (M: ∀h:0<(ByteArray.mk q.toArray).size,(ByteArray.mk q.toArray)[0]'h=c) (N: ∀h:1<(ByteArray.mk q.toArray).size,(ByteArray.mk q.toArray)[1]'h=d) (H: ∀h:2<(ByteArray.mk q.toArray).size,(ByteArray.mk q.toArray)[2]'h=e) (o:pctA q=(c==37&&hexA d&&hexA e)):
  Calls Tryz.prog 165 #[.string ⟨q.toArray⟩] w fun e w'=>e= .returned (.bool (pctA q))∧w=w':=by
 have K:=zaI q
 have i:=ylG o
 have A:=ylG (zmE (d.toNat:Int) w)
 have m:=ylG (zmE (e.toNat:Int) w)
 rw [ztQ] at A m
 have B:=d.toNat_lt
 have E:=e.toNat_lt
 have f:(c==37)=((c.toNat:Int)==37):=by
  rw [Bool.eq_iff_iff,beq_iff_eq,beq_iff_eq]
  exact ⟨fun h=>by rw [h];rfl,fun h=>UInt8.toNat_inj.1 (by show c.toNat=37;omega)⟩
 rw [f] at i
 have Q:IntKind.i32.wrap (d.toNat:Int)=(d.toNat:Int):=IntWalk.i32_in _ (by omega)
 have J:IntKind.i32.wrap (e.toNat:Int)=(e.toNat:Int):=IntWalk.i32_in _ (by omega)
 clear o
 generalize pctA q=res at*
 generalize hexA d=C at*
 generalize hexA e=G at*
 obtain ⟨D,j⟩: ∃b,((c.toNat:Int)==37)=b:=⟨_,rfl⟩
 rw [j] at i
 clear f
 cases D with
 |false=>
  go_enter Tryz.func165,Tryz.ntmps165
  go_wp2
  go_ret
  exact ⟨zaY i.out.symm,rfl⟩
 |true=>
  go_enter Tryz.func165,Tryz.ntmps165
  go_wp2_with fail
  refine A.out.mono ?_
  rintro e w' ⟨rfl,rfl⟩
  cases C with
  |false=>
   go_wp2
   go_ret
   exact ⟨zaY i.out.symm,rfl⟩
  |true=>
   go_wp2_with fail
   refine m.out.mono ?_
   rintro e w' ⟨rfl,rfl⟩
   go_wp2
   go_ret
   exact ⟨zaY i.out.symm,rfl⟩
theorem ybF (l:List UInt8) (w:World) (i:l.length≤1000000):
  Calls Tryz.prog 165 #[.string ⟨l.toArray⟩] w fun e w'=>e= .returned (.bool (pctA l))∧w=w':=by
 have f:=zaI l
 match l,f,i with
 |[],f,_=>
  go_enter Tryz.func165,Tryz.ntmps165
  go_wp2
  go_ret
  exact ⟨rfl,rfl⟩
 |[_],f,_=>
  go_enter Tryz.func165,Tryz.ntmps165
  go_wp2
  go_ret
  exact ⟨rfl,rfl⟩
 |[_,_],f,_=>
  go_enter Tryz.func165,Tryz.ntmps165
  go_wp2
  go_ret
  exact ⟨rfl,rfl⟩
 |c::d::e::r,f,i=>exact z1R (c::d::e::r) c d e w i (by simp) (fun _=>rfl) (fun _=>rfl) (fun _=>rfl) rfl
theorem ycL {d l:List UInt8} {k i:Nat} (h:i<k) (hi:i<l.length) (f:hasB d l[i]=false):zfG d l k=false:=by
 unfold zfG
 rw [List.all_eq_false]
 refine ⟨l[i],?_,by rw [zeD,f];decide⟩
 exact List.mem_take_iff_getElem.2 ⟨i,by omega,rfl⟩
theorem yaY {d l:List UInt8} {k:Nat} (h: ∀i (hi:i<l.length),i<k→hasB d l[i]=true):zfG d l k=true:=by
 unfold zfG
 rw [List.all_eq_true]
 intro x f
 obtain ⟨i,hi,rfl⟩:=List.mem_take_iff_getElem.1 f
 rw [zeD]
 exact h i (by omega) (by omega)
theorem zwI (d l:List UInt8) (w:World) (hl:l.length≤1000000) (m:Lib.Utf8Tabs 1 2 w):
  Calls Tryz.prog 166 #[.string ⟨d.toArray⟩,.string ⟨l.toArray⟩] w (zbN w (zfG d l (Lib.decodeGo ⟨l.toArray⟩).2)):=by
 have hz:=zaI l
 have D:=ylG (Tryz.utf8_DecodeRuneInString ⟨l.toArray⟩ w m)
 have X:=Lib.decodeGo_le_size ⟨l.toArray⟩
 rw [hz] at X
 have M:Hid (∀i,i<(Lib.decodeGo ⟨l.toArray⟩).2→ ∀hi:i<l.length,hasB d l[i]=false→zfG d l (Lib.decodeGo ⟨l.toArray⟩).2=false):=fun i h hi Y=>ycL h hi Y
 have J:Hid ((∀i (hi:i<l.length),i<(Lib.decodeGo ⟨l.toArray⟩).2→hasB d l[i]=true)→zfG d l (Lib.decodeGo ⟨l.toArray⟩).2=true):=fun h=>yaY h
 have Q:Hid (∀j (h:j<l.length),(ByteArray.mk l.toArray)[j]'(by rw [zaI];exact h)=l[j]):=fun j h=>rfl
 have N:Hid (∀(c:UInt8) W,Calls Tryz.prog 184 #[.string ⟨d.toArray⟩,.int .u8 (c.toNat:Int)] W fun e w'=>e= .returned (.int .i64 (Lib.indexByte d c))∧W=w'):=fun c W=>(Tryz.strings_IndexByte ⟨d.toArray⟩ (c.toNat:Int) W).mono (fun e w' h=>⟨by rw [h.1,zjD],h.2.symm⟩)
 have O:=ylG (fun c=>zcL d c)
 generalize (Lib.decodeGo ⟨l.toArray⟩).1=R at*
 generalize (Lib.decodeGo ⟨l.toArray⟩).2=K at*
 clear m
 go_enter Tryz.func166,Tryz.ntmps166
 go_wp2_with fail
 refine D.out.mono ?_
 rintro e x1 ⟨rfl,G⟩
 have H:=ylG G
 clear G D
 go_wp2
 go_loop [14] (fun i=> ∃k:Nat,k≤K∧i= .int .i64 k∧Hid (∀j (h:j<l.length),j<k→hasB d l[j]=true)) (fun i=>K - (intOf i).toNat)
 case atStart=>exact ⟨0,Nat.zero_le _,rfl,fun j _ h=>by omega⟩
 case round=>
  obtain ⟨k,hk,rfl,E⟩:=hrel
  by_cases V:k<K
  ·have f:k<l.length:=by omega
   obtain ⟨c,I⟩: ∃c,l[k]=c:=⟨_,rfl⟩
   have hb:(ByteArray.mk l.toArray)[k]'(by rw [zaI];exact f)=c:=by rw [Q.out k f,I]
   have B:=ylG (N.out c)
   obtain ⟨A,o⟩:=O.out c
   cases C:hasB d c with
   |false=>
    have e:=o C
    have U:=ylG (M.out k V f (by rw [I];exact C))
    rw [e] at B
    clear M J Q N O E A o I C
    go_wp2_with fail
    refine (B.out _).mono ?_
    rintro e w' ⟨rfl,rfl⟩
    go_wp2
    go_ret
    exact zaE U.out H.out
   |true=>
    have e:=A C
    have S:Hid (∀j (h:j<l.length),j<k+1→hasB d l[j]=true):=fun j h h1=>by
     by_cases q:j=k
     ·subst q;rw [I];exact C
     ·exact E.out j h (by omega)
    generalize Lib.indexByte d c=Z at*
    have hd:decide (Z<0)=false:=ylI (by omega)
    clear M J Q N O E A o I C
    go_wp2_with fail
    refine (B.out _).mono ?_
    rintro e w' ⟨rfl,rfl⟩
    go_wp2
    exact ⟨⟨k+1,by omega,by go_num,S.out⟩,by simp [intOf];omega⟩
  ·have U:=ylG (J.out (fun i hi h=>E.out i hi (by omega)))
   clear M J Q N O E
   go_wp2
   go_ret
   exact zaE U.out H.out
theorem zhF (s:ByteArray) (o:Nat→Nat→Bool) (f:FuncId) (lb:Array Value) (ef: ∀args w,(callFunc f args).run Tryz.prog w= .ok (.enter f args) w) (w:World)
  (hF: ∀W p,p<s.size→Below w.heap.size w W→Calls Tryz.prog f (#[.int .i64 (p:Nat),.int .i32 ((Utf8.decode s p).1:Nat)]++lb) W (zbN W (o p (Utf8.decode s p).1))) (_hs:s.size≤1000000):
  Calls Tryz.prog 94 #[.string s,.func (.func f) #[] lb] w (zbN w (allP s o 0)):=by
 have HF:=ylG hF
 have Y:=ylG (fun p (h: ¬p<s.size)=>zgN s o h)
 have HT:=ylG (fun p (h:p<s.size)=>zhK s o h)
 clear hF
 go_enter Tryz.func94,Tryz.ntmps94
 go_wp2
 go_loopw [] (fun wr=> ∃d:Nat,wr.heap[w.heap.size]? =some (.stringIter s d)∧Below w.heap.size w wr∧Hid (allP s o 0=allP s o d)) (fun wr=>s.size - wr.iterPos w.heap.size)
 case atStart=>exact ⟨0,World.iter_heap w s 0,(ylK _ _).alloc (ylH _) _,rfl⟩
 case round=>
  obtain ⟨d,j,O,G⟩:=hrel
  have V:w.heap.size<wr.heap.size:=(Array.getElem?_eq_some_iff.1 j).1
  have Z:Hid (wr.iterPos w.heap.size=d):=by
   show wr.iterPos w.heap.size=d
   simp only [World.iterPos,j]
  by_cases H:d<s.size
  ·have qa:=zeN s d H
   have U: ∀E,(Instr.next (.pointer (some ⟨w.heap.size,0,none⟩)) true E).run Tryz.prog wr=_:=fun E=>Lib.run_next_any_at wr w.heap.size s d E j H
   have N:=Lib.iterAt_heap wr w.heap.size s d (d+(Utf8.decode s d).2) j
   have m:=Lib.below_iterAt O (k:=w.heap.size) (ylH _) s (d+(Utf8.decode s d).2)
   have Q:w.heap.size<(wr.iterAt w.heap.size s (d+(Utf8.decode s d).2)).heap.size:=by rw [Lib.iterAt_size];exact V
   have I:=HT.out d H
   have J:=fun W (hW:Below w.heap.size w W)=>HF.out W d H hW
   generalize wr.iterAt w.heap.size s (d+(Utf8.decode s d).2)=wi at*
   generalize (Utf8.decode s d).1=R at*
   generalize (Utf8.decode s d).2=K at*
   have B:=ylG (J wi m)
   have i:=ylG I
   clear J I HF Y HT
   cases S:o d R with
   |false=>
    rw [S] at B i
    have D:Hid (allP s o 0=false):=by show _=_;rw [G.out,i.out];rfl
    clear G i S
    go_wp2_with (go_at_fn f;refine B.out.mono ?_;rintro e w3 ⟨rfl,A⟩)
    go_ret
    exact zaE D.out (m.trans (A.mono (by omega)))
   |true=>
    rw [S] at B i
    have X:Hid (allP s o 0=allP s o (d+K)):=by show _=_;rw [G.out,i.out];rfl
    clear G i S
    go_wp2_with (go_at_fn f;refine B.out.mono ?_;rintro e w3 ⟨rfl,A⟩)
    have C:=(A.block w.heap.size Q).trans N
    have M:Below w.heap.size w w3:=m.trans (A.mono (by omega))
    go_roundw
    case rel=>exact ⟨d+K,C,M,X.out⟩
    case measure=>
     rw [Z.out]
     simp only [World.iterPos,C]
     omega
  ·have U: ∀E,(Instr.next (.pointer (some ⟨w.heap.size,0,none⟩)) true E).run Tryz.prog wr=_:=fun E=>Lib.run_next_end_at wr w.heap.size s d E j H
   have D:Hid (allP s o 0=true):=by show _=_;rw [G.out,Y.out d H]
   clear HF Y HT G
   go_wp2
   go_ret
   exact zaE D.out O
theorem yjM (l G:List UInt8) (V U:Nat) (p r:Nat) (W:World) (J:W.cell? ⟨V,0,none⟩=some (.string ⟨l.toArray⟩)) (N:W.cell? ⟨U,0,none⟩=some (.string ⟨G.toArray⟩)) (hp:p<l.length) (hv:isB (r:Int)=true) (hl:l.length≤1000000)
  (I:Lib.Utf8Tabs 1 2 W):
  Calls Tryz.prog 163 #[.int .i64 (p:Nat),.int .i32 (r:Nat),.pointer (some ⟨V,0,none⟩),.pointer (some ⟨U,0,none⟩)] W (zbN W (isPr ⟨l.toArray⟩ G p r)):=by
 have m:Hid (∀X,Below W.heap.size W X→X.cell? ⟨V,0,none⟩=some (.string ⟨l.toArray⟩)∧X.cell? ⟨U,0,none⟩=some (.string ⟨G.toArray⟩)):=fun X hX=>
  ⟨(hX.cell (World.block_lt_of_cell? W _ J)).trans J,(hX.cell (World.block_lt_of_cell? W _ N)).trans N⟩
 have hs:=zfA l p (by omega)
 have Q:(l.drop p).length≤1000000:=by rw [List.length_drop];omega
 have M:=ylG (fun X=>zlC r X hv)
 have O:=ylG (fun X=>ybF (l.drop p) X Q)
 have H:=ylG (fun X (h:Below W.heap.size W X)=>zwI G (l.drop p) X Q (zeU I h))
 have Z:(Lib.decodeGo ⟨(l.drop p).toArray⟩)=Utf8.decode ⟨l.toArray⟩ p:=by
  have:=Lib.decodeGo_extract ⟨l.toArray⟩ p (by rw [zaI];exact hp)
  rw [←this]
  congr 1
  apply ByteArray.ext
  rw [zaI]
  simp [List.take_of_length_le]
 rw [Z] at H
 have Y:Hid (isPr ⟨l.toArray⟩ G p r=(zoH r||pctA (l.drop p)||zfG G (l.drop p) (Utf8.decode ⟨l.toArray⟩ p).2)):=rfl
 clear J N I hv Z Q
 generalize isPr ⟨l.toArray⟩ G p r=res at*
 generalize zfG G (l.drop p) (Utf8.decode ⟨l.toArray⟩ p).2=b3 at*
 generalize pctA (l.drop p)=b2 at*
 generalize zoH r=b1 at*
 generalize l.drop p=q at*
 generalize (r:Int)=rr at*
 cases b1 with
 |true=>
  have C:Hid (res=true):=Y.out
  clear Y O H hs
  go_enter Tryz.func163,Tryz.ntmps163
  go_wp2_with fail
  refine wp_region_held_drew (S:=fun W=>W.cell? ⟨V,0,none⟩=some (.string ⟨l.toArray⟩)∧W.cell? ⟨U,0,none⟩=some (.string ⟨G.toArray⟩)) (by kernel_rfl) ?_ (fun j=> ?_)
  ·exact m.out _ (zaW _)
  refine tkY 0 (some 7) (v:= ?_) rfl (.inl ⟨by rfl,?_⟩) j ?_;rotate_left;·intro w f;(try dsimp only at f);go_simp;try with_reducible rfl
  try simp only [Act.put,tkYa,tkYb,tkYc]
  refine wpAnyH_ready (rs:=[1]) (by kernel_rfl) (by simp) ?_
  refine AllReadyH.cons (o:=⟨some 8,_,_,_,_,_⟩) rfl (fun K A=> ?_) AllReadyH.nil
  go_simp
  go_at_call 164
  refine (M.out _).mono ?_
  rintro e x1 ⟨rfl,D⟩
  have E:Below W.heap.size W x1:=zaJ (zaW _) D
  (try go_wp2_with fail)
  refine A.out _ _ ?_ (fun d=> ?_)
  ·exact m.out _ E
  clear A K
  try simp only [Act.put,tkYa,tkYb,tkYc]
  refine tkY 2 (some 9) (v:= ?_) rfl (.inl ⟨by rfl,?_⟩) d ?_;rotate_left;·intro w f;(try dsimp only at f);go_simp;try with_reducible rfl
  try simp only [Act.put,tkYa,tkYb,tkYc]
  refine tkY 3 (some 10) (v:=undef) rfl (.inr ⟨by rfl,rfl⟩) d ?_
  try simp only [Act.put,tkYa,tkYb,tkYc]
  refine tkY 4 (some 11) (v:=undef) rfl (.inr ⟨by rfl,rfl⟩) d ?_
  try simp only [Act.put,tkYa,tkYb,tkYc]
  refine tkY 5 (some 12) (v:=undef) rfl (.inr ⟨by rfl,rfl⟩) d ?_
  try simp only [Act.put,tkYa,tkYb,tkYc]
  refine tkY 6 (some 13) (v:=undef) rfl (.inr ⟨by rfl,rfl⟩) d ?_
  try simp only [Act.put,tkYa,tkYb,tkYc]
  refine tkY 7 (some 14) (v:= ?_) rfl (.inl ⟨by rfl,?_⟩) d ?_;rotate_left;·intro w f;(try dsimp only at f);go_simp;try with_reducible rfl
  try simp only [Act.put,tkYa,tkYb,tkYc]
  refine tkY 8 (some 15) (v:= ?_) rfl (.inl ⟨by rfl,?_⟩) d ?_;rotate_left;·intro w f;(try dsimp only at f);go_simp;try with_reducible rfl
  try simp only [Act.put,tkYa,tkYb,tkYc]
  refine tkY 9 (some 16) (v:=undef) rfl (.inr ⟨by rfl,rfl⟩) d ?_
  try simp only [Act.put,tkYa,tkYb,tkYc]
  refine tkY 10 (some 17) (v:=undef) rfl (.inr ⟨by rfl,rfl⟩) d ?_
  try simp only [Act.put,tkYa,tkYb,tkYc]
  refine tkY 11 (some 18) (v:=undef) rfl (.inr ⟨by rfl,rfl⟩) d ?_
  try simp only [Act.put,tkYa,tkYb,tkYc]
  refine tkY 12 (some 19) (v:=undef) rfl (.inr ⟨by rfl,rfl⟩) d ?_
  try simp only [Act.put,tkYa,tkYb,tkYc]
  refine tkY 13 (some 20) (v:=undef) rfl (.inr ⟨by rfl,rfl⟩) d ?_
  try simp only [Act.put,tkYa,tkYb,tkYc]
  refine tkY 14 (some 21) (v:= ?_) rfl (.inl ⟨by rfl,?_⟩) d ?_;rotate_left;·intro w f;(try dsimp only at f);go_simp;try with_reducible rfl
  try simp only [Act.put,tkYa,tkYb,tkYc]
  refine tkY 15 (some 6) (v:= ?_) rfl (.inl ⟨by rfl,?_⟩) d ?_;rotate_left;·intro w f;(try dsimp only at f);go_simp;try with_reducible rfl
  try simp only [Act.put,tkYa,tkYb,tkYc]
  refine wpAnyH_done (by kernel_rfl) ?_ _
  go_wp2
  go_ret
  exact zaE C.out E
 |false=>
 cases b2 with
 |true=>
  have C:Hid (res=true):=Y.out
  clear Y H
  go_enter Tryz.func163,Tryz.ntmps163
  go_wp2_with fail
  refine wp_region_held_drew (S:=fun W=>W.cell? ⟨V,0,none⟩=some (.string ⟨l.toArray⟩)∧W.cell? ⟨U,0,none⟩=some (.string ⟨G.toArray⟩)) (by kernel_rfl) ?_ (fun j=> ?_)
  ·exact m.out _ (zaW _)
  refine tkY 0 (some 7) (v:= ?_) rfl (.inl ⟨by rfl,?_⟩) j ?_;rotate_left;·intro w f;(try dsimp only at f);go_simp;try with_reducible rfl
  try simp only [Act.put,tkYa,tkYb,tkYc]
  refine wpAnyH_ready (rs:=[1]) (by kernel_rfl) (by simp) ?_
  refine AllReadyH.cons (o:=⟨some 8,_,_,_,_,_⟩) rfl (fun K A=> ?_) AllReadyH.nil
  go_simp
  go_at_call 164
  refine (M.out _).mono ?_
  rintro e x1 ⟨rfl,D⟩
  have E:Below W.heap.size W x1:=zaJ (zaW _) D
  (try go_wp2_with fail)
  refine A.out _ _ ?_ (fun d=> ?_)
  ·exact m.out _ E
  clear A K
  try simp only [Act.put,tkYa,tkYb,tkYc]
  refine tkY 2 (some 9) (v:= ?_) rfl (.inl ⟨by rfl,?_⟩) d ?_;rotate_left;·intro w f;(try dsimp only at f);go_simp;try with_reducible rfl
  try simp only [Act.put,tkYa,tkYb,tkYc]
  refine tkY 3 (some 10) (v:= ?_) rfl (.inl ⟨by rfl,?_⟩) d ?_;rotate_left;·intro w f;(try dsimp only at f);go_simp;try with_reducible rfl
  try simp only [Act.put,tkYa,tkYb,tkYc]
  refine tkY 4 (some 11) (v:= ?_) rfl (.inl ⟨by rfl,?_⟩) d ?_;rotate_left;·intro w f;(try dsimp only at f);go_simp;try with_reducible rfl
  try simp only [Act.put,tkYa,tkYb,tkYc]
  refine tkY 5 (some 12) (v:= ?_) rfl (.inl ⟨by rfl,?_⟩) d ?_;rotate_left;·intro w f;(try dsimp only at f);go_simp;try with_reducible rfl
  try simp only [Act.put,tkYa,tkYb,tkYc]
  refine wpAnyH_ready (rs:=[6]) (by kernel_rfl) (by simp) ?_
  refine AllReadyH.cons (o:=⟨some 13,_,_,_,_,_⟩) rfl (fun K A=> ?_) AllReadyH.nil
  go_simp
  go_at_call 165
  refine (O.out _).mono ?_
  rintro e x2 ⟨rfl,rfl⟩
  (try go_wp2_with fail)
  refine A.out _ _ ?_ (fun i=> ?_)
  ·exact m.out _ E
  clear A K
  try simp only [Act.put,tkYa,tkYb,tkYc]
  refine tkY 7 (some 14) (v:= ?_) rfl (.inl ⟨by rfl,?_⟩) i ?_;rotate_left;·intro w f;(try dsimp only at f);go_simp;try with_reducible rfl
  try simp only [Act.put,tkYa,tkYb,tkYc]
  refine tkY 8 (some 15) (v:= ?_) rfl (.inl ⟨by rfl,?_⟩) i ?_;rotate_left;·intro w f;(try dsimp only at f);go_simp;try with_reducible rfl
  try simp only [Act.put,tkYa,tkYb,tkYc]
  refine tkY 9 (some 16) (v:=undef) rfl (.inr ⟨by rfl,rfl⟩) i ?_
  try simp only [Act.put,tkYa,tkYb,tkYc]
  refine tkY 10 (some 17) (v:=undef) rfl (.inr ⟨by rfl,rfl⟩) i ?_
  try simp only [Act.put,tkYa,tkYb,tkYc]
  refine tkY 11 (some 18) (v:=undef) rfl (.inr ⟨by rfl,rfl⟩) i ?_
  try simp only [Act.put,tkYa,tkYb,tkYc]
  refine tkY 12 (some 19) (v:=undef) rfl (.inr ⟨by rfl,rfl⟩) i ?_
  try simp only [Act.put,tkYa,tkYb,tkYc]
  refine tkY 13 (some 20) (v:=undef) rfl (.inr ⟨by rfl,rfl⟩) i ?_
  try simp only [Act.put,tkYa,tkYb,tkYc]
  refine tkY 14 (some 21) (v:= ?_) rfl (.inl ⟨by rfl,?_⟩) i ?_;rotate_left;·intro w f;(try dsimp only at f);go_simp;try with_reducible rfl
  try simp only [Act.put,tkYa,tkYb,tkYc]
  refine tkY 15 (some 6) (v:= ?_) rfl (.inl ⟨by rfl,?_⟩) i ?_;rotate_left;·intro w f;(try dsimp only at f);go_simp;try with_reducible rfl
  try simp only [Act.put,tkYa,tkYb,tkYc]
  refine wpAnyH_done (by kernel_rfl) ?_ _
  go_wp2
  go_ret
  exact zaE C.out E
 |false=>
  have C:Hid (res=b3):=Y.out
  clear Y
  go_enter Tryz.func163,Tryz.ntmps163
  go_wp2_with fail
  refine wp_region_held_drew (S:=fun W=>W.cell? ⟨V,0,none⟩=some (.string ⟨l.toArray⟩)∧W.cell? ⟨U,0,none⟩=some (.string ⟨G.toArray⟩)) (by kernel_rfl) ?_ (fun j=> ?_)
  ·exact m.out _ (zaW _)
  refine tkY 0 (some 7) (v:= ?_) rfl (.inl ⟨by rfl,?_⟩) j ?_;rotate_left;·intro w f;(try dsimp only at f);go_simp;try with_reducible rfl
  try simp only [Act.put,tkYa,tkYb,tkYc]
  refine wpAnyH_ready (rs:=[1]) (by kernel_rfl) (by simp) ?_
  refine AllReadyH.cons (o:=⟨some 8,_,_,_,_,_⟩) rfl (fun K A=> ?_) AllReadyH.nil
  go_simp
  go_at_call 164
  refine (M.out _).mono ?_
  rintro e x1 ⟨rfl,D⟩
  have E:Below W.heap.size W x1:=zaJ (zaW _) D
  (try go_wp2_with fail)
  refine A.out _ _ ?_ (fun d=> ?_)
  ·exact m.out _ E
  clear A K
  try simp only [Act.put,tkYa,tkYb,tkYc]
  refine tkY 2 (some 9) (v:= ?_) rfl (.inl ⟨by rfl,?_⟩) d ?_;rotate_left;·intro w f;(try dsimp only at f);go_simp;try with_reducible rfl
  try simp only [Act.put,tkYa,tkYb,tkYc]
  refine tkY 3 (some 10) (v:= ?_) rfl (.inl ⟨by rfl,?_⟩) d ?_;rotate_left;·intro w f;(try dsimp only at f);go_simp;try with_reducible rfl
  try simp only [Act.put,tkYa,tkYb,tkYc]
  refine tkY 4 (some 11) (v:= ?_) rfl (.inl ⟨by rfl,?_⟩) d ?_;rotate_left;·intro w f;(try dsimp only at f);go_simp;try with_reducible rfl
  try simp only [Act.put,tkYa,tkYb,tkYc]
  refine tkY 5 (some 12) (v:= ?_) rfl (.inl ⟨by rfl,?_⟩) d ?_;rotate_left;·intro w f;(try dsimp only at f);go_simp;try with_reducible rfl
  try simp only [Act.put,tkYa,tkYb,tkYc]
  refine wpAnyH_ready (rs:=[6]) (by kernel_rfl) (by simp) ?_
  refine AllReadyH.cons (o:=⟨some 13,_,_,_,_,_⟩) rfl (fun K A=> ?_) AllReadyH.nil
  go_simp
  go_at_call 165
  refine (O.out _).mono ?_
  rintro e x2 ⟨rfl,rfl⟩
  (try go_wp2_with fail)
  refine A.out _ _ ?_ (fun i=> ?_)
  ·exact m.out _ E
  clear A K
  try simp only [Act.put,tkYa,tkYb,tkYc]
  refine tkY 7 (some 14) (v:= ?_) rfl (.inl ⟨by rfl,?_⟩) i ?_;rotate_left;·intro w f;(try dsimp only at f);go_simp;try with_reducible rfl
  try simp only [Act.put,tkYa,tkYb,tkYc]
  refine tkY 8 (some 15) (v:= ?_) rfl (.inl ⟨by rfl,?_⟩) i ?_;rotate_left;·intro w f;(try dsimp only at f);go_simp;try with_reducible rfl
  try simp only [Act.put,tkYa,tkYb,tkYc]
  refine tkY 9 (some 16) (v:= ?_) rfl (.inl ⟨by rfl,?_⟩) i ?_;rotate_left;·intro w f;(try dsimp only at f);go_simp;try with_reducible rfl
  try simp only [Act.put,tkYa,tkYb,tkYc]
  refine tkY 10 (some 17) (v:= ?_) rfl (.inl ⟨by rfl,?_⟩) i ?_;rotate_left;·intro w f;(try dsimp only at f);go_simp;try with_reducible rfl
  try simp only [Act.put,tkYa,tkYb,tkYc]
  refine tkY 11 (some 18) (v:= ?_) rfl (.inl ⟨by rfl,?_⟩) i ?_;rotate_left;·intro w f;(try dsimp only at f);go_simp;try with_reducible rfl
  try simp only [Act.put,tkYa,tkYb,tkYc]
  refine tkY 12 (some 19) (v:= ?_) rfl (.inl ⟨by rfl,?_⟩) i ?_;rotate_left;·intro w f;(try dsimp only at f);go_simp;try with_reducible rfl
  try simp only [Act.put,tkYa,tkYb,tkYc]
  refine wpAnyH_ready (rs:=[13]) (by kernel_rfl) (by simp) ?_
  refine AllReadyH.cons (o:=⟨some 20,_,_,_,_,_⟩) rfl (fun K A=> ?_) AllReadyH.nil
  go_simp
  go_at_call 166
  refine (H.out _ E).mono ?_
  rintro e x3 ⟨rfl,qa⟩
  have h3:Below W.heap.size W x3:=zaJ E qa
  (try go_wp2_with fail)
  refine A.out _ _ ?_ (fun B=> ?_)
  ·exact m.out _ h3
  clear A K
  try simp only [Act.put,tkYa,tkYb,tkYc]
  refine tkY 14 (some 21) (v:= ?_) rfl (.inl ⟨by rfl,?_⟩) B ?_;rotate_left;·intro w f;(try dsimp only at f);go_simp;try with_reducible rfl
  try simp only [Act.put,tkYa,tkYb,tkYc]
  refine tkY 15 (some 6) (v:= ?_) rfl (.inl ⟨by rfl,?_⟩) B ?_;rotate_left;·intro w f;(try dsimp only at f);go_simp;try with_reducible rfl
  try simp only [Act.put,tkYa,tkYb,tkYc]
  refine wpAnyH_done (by kernel_rfl) ?_ _
  go_wp2
  go_ret
  exact zaE C.out h3
theorem idx_at {d l:List UInt8} {p:Nat} (h:p<l.length) (D: ∀j (hj:j<l.length),j<p→d.contains l[j]=false) (f:d.contains l[p]=true):Lib.indexAny l d=(p:Nat):=by
 rcases zkL d l with ⟨_,_,m⟩|⟨i,hi,B,C,m⟩
 ·rw [m l[p] (List.getElem_mem _)] at f;cases f
 ·have o:=zeR d.contains l
  rw [C] at o
  rw [B]
  by_cases A:i<p
  ·rw [D i hi A] at m;cases m
  ·by_cases E:p<i
   ·have:=o l[p] (List.mem_take_iff_getElem.2 ⟨p,by omega,rfl⟩)
    rw [this] at f;cases f
   ·congr 1;omega
theorem ycB {d l:List UInt8} (o: ∀j (hj:j<l.length),d.contains l[j]=false):Lib.indexAny l d= -1:=by
 rcases zkL d l with ⟨_,m,_⟩|⟨i,hi,_,_,f⟩
 ·exact m
 ·rw [o i hi] at f;cases f
theorem zoF (l i:List UInt8) (w:World) (h8:l.length≤8) (h2:2≤i.length) (qg:i.length≤1000) (ha: ∀c∈i,c.toNat<128):
  Calls Tryz.prog 91 #[.string ⟨l.toArray⟩,.string ⟨i.toArray⟩] w fun e w'=>e= .returned (.int .i64 (Lib.indexAny l i))∧Below w.heap.size w w':=by
 have hz:=zaI l
 have qj:=zaI i
 have H:=ylG ha
 have HA:Hid (Asc ⟨i.toArray⟩):=zyC ha
 have D:Hid (∀p (h:p<l.length),(∀j (C:j<l.length),j<p→i.contains l[j]=false)→i.contains l[p]=true→Lib.indexAny l i=(p:Nat)):=fun p h=>idx_at h
 have G:=ylG (@ycB i l)
 clear ha
 have he:i.isEmpty=false:=List.isEmpty_eq_false_iff.2 (fun e=>by rw [e] at h2;simp at h2)
 have qi:((i.length:Int)==1)=false:=beq_eq_false_iff_ne.2 (by omega)
 have qf:decide ((8:Int)<(l.length:Int))=false:=ylI (by omega)
 go_enter Tryz.func91,Tryz.ntmps91
 go_wp2_with (go_at_call 160;refine ((Tryz.strings_shouldUseASCIISet _ _).mono fun _ _ h=>(⟨h.1,h.2.symm⟩:_∧_)).mono ?_;rintro e w' ⟨rfl,rfl⟩)
 go_loopw [] (fun wr=> ∃f:Nat,wr.heap[w.heap.size]? =some (.stringIter ⟨l.toArray⟩ f)∧Below w.heap.size w wr∧Hid (∀j (h:j<l.length),j<f→i.contains l[j]=false)) (fun wr=>l.length - wr.iterPos w.heap.size)
 case atStart=>exact ⟨0,World.iter_heap w _ 0,(ylK _ _).alloc (ylH _) _,fun j _ h=>by omega⟩
 case round=>
  obtain ⟨f,B,X,N⟩:=hrel
  have qc:w.heap.size<wr.heap.size:=(Array.getElem?_eq_some_iff.1 B).1
  have qe:Hid (wr.iterPos w.heap.size=f):=by
   show wr.iterPos w.heap.size=f
   simp only [World.iterPos,B]
  by_cases hp:f<l.length
  ·have m:f<(ByteArray.mk l.toArray).size:=by rw [hz];exact hp
   have qh:=zeN ⟨l.toArray⟩ f m
   have qb: ∀O,(Instr.next (.pointer (some ⟨w.heap.size,0,none⟩)) true O).run Tryz.prog wr=_:=fun O=>Lib.run_next_any_at wr w.heap.size _ f O B m
   have U:=Lib.iterAt_heap wr w.heap.size ⟨l.toArray⟩ f (f+(Utf8.decode ⟨l.toArray⟩ f).2) B
   have I:=Lib.below_iterAt X (k:=w.heap.size) (ylH _) ⟨l.toArray⟩ (f+(Utf8.decode ⟨l.toArray⟩ f).2)
   have V:w.heap.size<(wr.iterAt w.heap.size ⟨l.toArray⟩ (f+(Utf8.decode ⟨l.toArray⟩ f).2)).heap.size:=by rw [Lib.iterAt_size];exact qc
   generalize wr.iterAt w.heap.size ⟨l.toArray⟩ (f+(Utf8.decode ⟨l.toArray⟩ f).2)=Z at*
   have key: ∃x:Int,(Calls Tryz.prog 153 #[.string ⟨i.toArray⟩,.int .i32 ((Utf8.decode ⟨l.toArray⟩ f).1:Int)] Z fun e w'=>e= .returned (.int .i64 x)∧Below Z.heap.size Z w')∧
     ((0≤x∧i.contains l[f]=true)∨(x<0∧ ∀j (h:j<l.length),j<f+(Utf8.decode ⟨l.toArray⟩ f).2→i.contains l[j]=false)):=by
    have hg:(ByteArray.mk l.toArray)[f]'m=l[f]:=rfl
    by_cases qa:(l[f]).toNat<128
    ·rw [decode_ascii ⟨l.toArray⟩ f m qa]
     refine ⟨Lib.indexByte i l[f],?_,?_⟩
     ·refine (Tryz.strings_IndexRune_ascii ⟨i.toArray⟩ _ Z (by simp only [hg];omega) (by simp only [hg];omega)).mono ?_
      rintro e w' ⟨rfl,rfl⟩
      simp only [zjD,hg]
      exact ⟨by first|trivial|rfl,ylK _ _⟩
     ·rw [zeD]
      have hi:=zcL i l[f]
      cases Q:hasB i l[f] with
      |true=>exact .inl ⟨hi.1 Q,rfl⟩
      |false=>
       refine .inr ⟨by rw [hi.2 Q];omega,fun j C h1=> ?_⟩
       by_cases e:j=f
       ·subst e;rw [zeD];exact Q
       ·exact N.out j C (by simp only at h1;omega)
    ·refine ⟨-1,zjI ⟨i.toArray⟩ HA.out _ Z (by have:=(decode_high ⟨l.toArray⟩ f m (by rw [hg];omega)).1;omega) (zgA _ f),.inr ⟨by omega,fun j C h1=> ?_⟩⟩
     by_cases e:j<f
     ·exact N.out j C e
     ·obtain ⟨c,h3,h4⟩:=zmP ⟨l.toArray⟩ f m (by rw [hg];omega) (j - f) (by omega)
      have e2:f+(j - f)=j:=by omega
      rw [e2] at h3
      have e3:l[j]? =some c:=h3
      rw [List.getElem?_eq_getElem C] at e3
      rw [Option.some.inj e3,zeD]
      cases Q:hasB i c with
      |false=>rfl
      |true=>
       unfold hasB at Q
       rw [List.any_eq_true] at Q
       obtain ⟨d,hd,S⟩:=Q
       have:=H.out d hd
       rw [beq_iff_eq] at S
       rw [S] at this
       omega
   obtain ⟨x,o,hx⟩:=key
   have HX:=ylG o
   clear o
   generalize (Utf8.decode ⟨l.toArray⟩ f).2=K at*
   generalize ((Utf8.decode ⟨l.toArray⟩ f).1:Int)=r at*
   rcases hx with ⟨h0,M⟩|⟨h0,Y⟩
   ·have HF:=ylG (D.out f hp (fun j C h=>N.out j C h) M)
    have hd:decide ((0:Int)≤x)=true:=ylJ h0
    clear M D G H N HA
    go_wp2_with fail
    refine HX.out.mono ?_
    rintro e w3 ⟨rfl,E⟩
    have A:Below w.heap.size w w3:=I.trans (E.mono (by omega))
    go_wp2
    go_ret
    exact ⟨by rw [HF.out];rfl,A⟩
   ·have hd:decide ((0:Int)≤x)=false:=ylI (by omega)
    have qd:=ylG Y
    clear Y D G H N HA
    go_wp2_with fail
    refine HX.out.mono ?_
    rintro e w3 ⟨rfl,E⟩
    have J:=(E.block w.heap.size V).trans U
    have A:Below w.heap.size w w3:=I.trans (E.mono (by omega))
    go_wp2
    go_roundw
    case rel=>exact ⟨f+K,J,A,qd.out⟩
    case measure=>
     rw [qe.out]
     simp only [World.iterPos,J]
     omega
  ·have qb: ∀O,(Instr.next (.pointer (some ⟨w.heap.size,0,none⟩)) true O).run Tryz.prog wr=_:=fun O=>Lib.run_next_end_at wr w.heap.size _ f O B (by rw [hz];exact hp)
   have HF:=ylG (G.out (fun j C=>N.out j C (by omega)))
   clear D G H N HA
   go_wp2
   go_ret
   exact ⟨by rw [HF.out];rfl,X⟩
theorem yaB (l:List UInt8) (w:World) (o:l.length≤1000000):
  Calls Tryz.prog 91 #[.string ⟨l.toArray⟩,.string ⟨#[58,47,63,35]⟩] w fun e w'=>e= .returned (.int .i64 (Lib.indexAny l [58,47,63,35]))∧Below w.heap.size w w':=by
 by_cases i:l.length≤8
 ·exact zoF l [58,47,63,35] w i (by decide) (by decide) (by decide)
 ·have m:=zaI l
  refine (Tryz.strings_IndexAny_long (fun w=>(Tryz.zeroValue138 w).trans (by kernel_rfl)) ⟨l.toArray⟩ ⟨#[58,47,63,35]⟩ w (by decide) (by omega) (by omega) (by decide) (fun j b f=> ?_)).mono ?_
  ·have d:j<4:=by have:=(List.getElem?_eq_some_iff.1 f).1;simpa using this
   have key: ∀j:Fin 4,∀b,([58,47,63,35]:List UInt8)[j.val]? =some b→b.toNat<128:=by decide
   exact key ⟨j,d⟩ b f
  ·rintro e w' ⟨rfl,rfl⟩
   exact ⟨rfl,((ylK _ _).alloc (ylH _) _).alloc (by simp) _⟩
theorem yhR (b:UInt8) (l:List UInt8):Lib.cut l [b]=((cutA b l).1,(cutA b l).2.2,(cutA b l).2.1):=by
 obtain ⟨d,m,j⟩:=zgW b l
 have f:b∉(cutA b l).1:=fun h=>by have:=m b h;simp at this
 cases i:(cutA b l).2.1 with
 |true=>
  rw [i,if_pos rfl] at d
  conv=>lhs;rw [d]
  exact zzF _ f
 |false=>
  rw [i,if_neg (by decide),List.append_nil] at d
  rw [j i,←d]
  rw [←d] at f
  exact zyN f
def RetCut (w:World) (x:List UInt8×Bool×List UInt8) (e:Ending) (w':World):Prop:=e= .returned (.tuple #[.string ⟨x.1.toArray⟩,.string ⟨x.2.2.toArray⟩,.bool x.2.1])∧Below w.heap.size w w'
theorem zjF (b:UInt8) (l:List UInt8) (w:World) (i:l.length≤1000000) (d:MaxVar w):
  Calls Tryz.prog 34 #[.string ⟨l.toArray⟩,.string ⟨[b].toArray⟩] w (RetCut w (cutA b l)):=by
 obtain ⟨m,f⟩:=d
 refine (Tryz.strings_Cut ⟨l.toArray⟩ ⟨[b].toArray⟩ m w (by rw [zaI];omega) f).mono ?_
 rintro e w' ⟨rfl,n,rfl⟩
 refine ⟨?_,zbV (ylK _ _) n⟩
 rw [zaQ,zaQ,yhR]
theorem zfF (b:UInt8) (l:List UInt8):(cutA b l).1.length≤l.length∧(cutA b l).2.2.length≤l.length:=by
 obtain ⟨f,_,i⟩:=zgW b l
 have e:=congrArg List.length f
 cases d:(cutA b l).2.1 with
 |true=>
  rw [d,if_pos rfl] at e
  simp at e
  omega
 |false=>
  rw [d,if_neg (by decide)] at e
  simp at e
  rw [i d]
  simp
  omega
theorem zjZ (l d:List UInt8) (w:World) (J:l.length≤1000000) (f:Lib.Utf8Tabs 1 2 w):
  Calls Tryz.prog 98 #[.string ⟨l.toArray⟩,.string ⟨d.toArray⟩] w (zbN w (isA d l)):=by
 obtain ⟨x,o⟩: ∃x,x=(w.alloc (.cells #[.string ⟨l.toArray⟩] 9)).alloc (.cells #[.string ⟨d.toArray⟩] 9):=⟨_,rfl⟩
 have B:Below w.heap.size w x:=by rw [o];exact ((ylK _ w).alloc (ylH _) _).alloc (by simp) _
 have A:x.cell? ⟨w.heap.size,0,none⟩=some (.string ⟨l.toArray⟩):=by
  have m:=zaB (heap_alloc_new w (.cells #[.string ⟨l.toArray⟩] 9)) 0
  have H:=((ylK (w.alloc (.cells #[.string ⟨l.toArray⟩] 9)).heap.size _).alloc (ylH _) (.cells #[.string ⟨d.toArray⟩] 9)).cell (World.block_lt_of_cell? _ _ m)
  rw [o]
  exact H.trans m
 have D:x.cell? ⟨w.heap.size+1,0,none⟩=some (.string ⟨d.toArray⟩):=by
  have m:=zaB (heap_alloc_new (w.alloc (.cells #[.string ⟨l.toArray⟩] 9)) (.cells #[.string ⟨d.toArray⟩] 9)) 0
  have e:(w.alloc (.cells #[.string ⟨l.toArray⟩] 9)).heap.size=w.heap.size+1:=by simp
  rw [e] at m
  rw [o]
  exact m
 have i:=ylG (fun W (h:Below x.heap.size x W)=>zeU (zeU f B) h)
 have j:Hid (Calls Tryz.prog 94 #[.string ⟨l.toArray⟩,.func (.func 163) #[] #[.pointer (some ⟨w.heap.size,0,none⟩),.pointer (some ⟨w.heap.size+1,0,none⟩)]] x (zbN x (isA d l))):=by
  have h:=zhF ⟨l.toArray⟩ (isPr ⟨l.toArray⟩ d) 163 #[.pointer (some ⟨w.heap.size,0,none⟩),.pointer (some ⟨w.heap.size+1,0,none⟩)] (enters_of Tryz.func163 (by kernel_rfl) rfl) x (fun W p G E=> ?_) (by rw [zaI];omega)
  ·have e:=ygJ ⟨l.toArray⟩ d (ByteArray.mk l.toArray).size 0 (by omega)
   rw [List.drop_zero,zaQ] at e
   rw [e] at h
   exact h
  ·exact yjM l d w.heap.size (w.heap.size+1) p _ W ((E.cell (World.block_lt_of_cell? x _ A)).trans A) ((E.cell (World.block_lt_of_cell? x _ D)).trans D) (by rw [zaI] at G;exact G) (zgA _ p) J (i.out W E)
 have M:=ylG B
 have I:=ylG A
 clear B D i f
 have C:(w.alloc (.cells #[.string ⟨l.toArray⟩] 9)).heap.size=w.heap.size+1:=by simp
 go_enter Tryz.func98,Tryz.ntmps98
 go_wp2_with fail
 rw [←o]
 clear o C
 refine j.out.mono ?_
 rintro e y ⟨rfl,K⟩
 go_wp2
 go_ret
 exact ⟨rfl,zaJ M.out K⟩
theorem sch_is (p r:Nat):zkY p r=(zcF (r:Int)||(decide ((0:Int)<(p:Int))&&(zaX (r:Int)||zfP [43,45,46] r))):=by
 have e:decide ((0:Int)<(p:Int))=decide (0<p):=by
  by_cases h:0<p
  ·rw [ylJ h,ylJ (by omega)]
  ·rw [ylI h,ylI (by omega)]
 rw [e]
 unfold zkY zfP
 by_cases h:r<128
 ·have key: ∀d:Fin 128,∀b:Bool,(zgB (UInt8.ofNat d.val)||(b&&(zdD (UInt8.ofNat d.val)||[43,45,46].contains (UInt8.ofNat d.val))))=(zcF (d.val:Int)||(b&&(zaX (d.val:Int)||(true&&hasB [43,45,46] (UInt8.ofNat d.val))))):=by decide+kernel
  rw [ylJ h]
  exact key ⟨r,h⟩ (decide (0<p))
 ·have f:zcF (r:Int)=false:=ylI (by omega)
  have i:zaX (r:Int)=false:=ylI (by omega)
  rw [ylI h,f,i]
  simp
theorem ydR (p r:Nat) (w:World) (o:isB (r:Int)=true):
  Calls Tryz.prog 95 #[.int .i64 (p:Nat),.int .i32 (r:Nat)] w (zbN w (zkY p r)):=by
 have f:=ylG (sch_is p r)
 have E:=ylG (znF (r:Int))
 have G:=ylG (zbT (r:Int))
 have B:=ylG (zcK [43,45,46] (by decide) r o)
 generalize zkY p r=res at*
 generalize zcF (r:Int)=D at*
 generalize zaX (r:Int)=A at*
 generalize zfP [43,45,46] r=H at*
 generalize (r:Int)=J at*
 obtain ⟨m,d⟩: ∃b,decide ((0:Int)<(p:Int))=b:=⟨_,rfl⟩
 rw [d] at f
 clear o
 go_enter Tryz.func95,Tryz.ntmps95
 go_wp2_with fail
 refine (E.out _).mono ?_
 rintro e w' ⟨rfl,rfl⟩
 cases D with
 |true=>
  go_wp2
  go_ret
  exact zaE f.out (ylK _ _)
 |false=>
  by_cases C:0<p
  ·have j:decide ((0:Int)<(p:Int))=true:=ylJ (by omega)
   obtain rfl:m=true:=by rw [←d,j]
   go_wp2_with fail
   refine (G.out _).mono ?_
   rintro e w' ⟨rfl,rfl⟩
   cases A with
   |true=>
    go_wp2
    go_ret
    exact zaE f.out (ylK _ _)
   |false=>
    go_wp2_with fail
    refine (B.out _).mono ?_
    rintro e I ⟨rfl,i⟩
    go_wp2
    go_ret
    exact zaE f.out i
  ·obtain rfl:p=0:=by omega
   obtain rfl:m=false:=by rw [←d];rfl
   go_wp2
   go_ret
   exact zaE f.out (ylK _ _)
theorem zrU (l:List UInt8) (w:World) (A:l.length≤1000000):
  Calls Tryz.prog 40 #[.string ⟨l.toArray⟩] w (zbN w (zcZ l)):=by
 have f:=ylG (yiR ⟨l.toArray⟩)
 rw [zaQ] at f
 have d:=ylG (zhF ⟨l.toArray⟩ zkY 95 #[] (enters_of Tryz.func95 (by kernel_rfl) rfl) w (fun W p j o=>ydR p _ W (zgA _ p)) (by rw [zaI];omega))
 generalize allP ⟨l.toArray⟩ zkY 0=b at*
 generalize zcZ l=res at*
 cases h:l.isEmpty with
 |true=>
  rw [h] at f
  obtain rfl:=List.isEmpty_iff.1 h
  clear d
  go_enter Tryz.func40,Tryz.ntmps40
  go_wp2
  go_ret
  exact zaE f.out.symm (ylK _ _)
 |false=>
  rw [h] at f
  have m:(l==[])=false:=beq_eq_false_iff_ne.2 (fun e=>by rw [e] at h;cases h)
  go_enter Tryz.func40,Tryz.ntmps40
  go_wp2_with fail
  refine d.out.mono ?_
  rintro e y ⟨rfl,i⟩
  go_wp2
  go_ret
  exact zaE f.out.symm i
theorem z7M (c:UInt8):zaX (c.toNat:Int)=zdD c:=by
 have key: ∀d:Fin 256,zaX (d.val:Int)=zdD (UInt8.ofNat d.val):=by decide+kernel
 have:=key ⟨c.toNat,c.toNat_lt⟩
 simpa using this
theorem znJ {q:UInt8→Bool} (h: ∀d:Fin 256,128≤d.val→q (UInt8.ofNat d.val)=false) (c:UInt8) (f:128≤c.toNat):q c=false:=by
 have:=h ⟨c.toNat,c.toNat_lt⟩ f
 simpa using this
theorem z4M (p r:Nat) (w:World):Calls Tryz.prog 170 #[.int .i64 (p:Nat),.int .i32 (r:Nat)] w (zbN w (zaX (r:Int))):=by
 have d:=ylG (zbT (r:Int))
 generalize zaX (r:Int)=i at*
 generalize (r:Int)=f at*
 go_enter Tryz.func170,Tryz.ntmps170
 go_wp2_with fail
 refine (d.out _).mono ?_
 rintro e w' ⟨rfl,rfl⟩
 go_wp2
 go_ret
 exact ⟨rfl,ylK _ _⟩
theorem z2W (l:List UInt8) (w:World) (m:l.length≤1000000):
  Calls Tryz.prog 100 #[.string ⟨l.toArray⟩] w (zbN w (l.all zdD)):=by
 have d:=ylG (zhF ⟨l.toArray⟩ (fun _ r=>zaX (r:Int)) 170 #[] (enters_of Tryz.func170 (by kernel_rfl) rfl) w (fun W p i j=>z4M p _ W) (by rw [zaI];omega))
 have e:=zlN ⟨l.toArray⟩ (fun _ r=>zaX (r:Int)) zdD (fun p h _=>z7M _) (fun _ r h=>ylI (by omega)) (znJ (by decide+kernel)) (ByteArray.mk l.toArray).size 0 (by omega)
 rw [List.drop_zero,zaQ] at e
 rw [e] at d
 clear e
 generalize l.all zdD=b at*
 go_enter Tryz.func100,Tryz.ntmps100
 go_wp2_with fail
 refine d.out.mono ?_
 rintro e y ⟨rfl,f⟩
 go_wp2
 go_ret
 exact ⟨rfl,f⟩
theorem yeZ (p r:Nat) (w:World):Calls Tryz.prog 231 #[.int .i64 (p:Nat),.int .i32 (r:Nat)] w (zbN w (hexR (r:Int))):=by
 have d:=ylG (zmE (r:Int))
 generalize hexR (r:Int)=i at*
 generalize (r:Int)=f at*
 go_enter Tryz.func231,Tryz.ntmps231
 go_wp2_with fail
 refine (d.out _).mono ?_
 rintro e w' ⟨rfl,rfl⟩
 go_wp2
 go_ret
 exact ⟨rfl,ylK _ _⟩
def verR (r:Nat):Bool:=zoH r||decide (r=58)
theorem yeN (p r:Nat) (w:World) (i:isB (r:Int)=true):Calls Tryz.prog 232 #[.int .i64 (p:Nat),.int .i32 (r:Nat)] w (zbN w (verR r)):=by
 have j:=ylG (fun W=>zlC r W i)
 have e:((r:Int)==58)=decide (r=58):=by
  rw [Bool.eq_iff_iff,beq_iff_eq,decide_eq_true_eq];omega
 have d:Hid (verR r=(zoH r||decide (r=58))):=rfl
 generalize verR r=res at*
 generalize zoH r=m at*
 generalize decide (r=58)=o at*
 generalize (r:Int)=A at*
 clear i
 go_enter Tryz.func232,Tryz.ntmps232
 go_wp2_with fail
 refine (j.out _).mono ?_
 rintro e w' ⟨rfl,f⟩
 cases m with
 |true=>
  go_wp2
  go_ret
  exact zaE d.out f
 |false=>
  go_wp2
  go_ret
  exact zaE d.out f
theorem ybZ (l:List UInt8) (w:World) (i:l.length≤1000000):
  Calls Tryz.prog 94 #[.string ⟨l.toArray⟩,.func (.func 231) #[] #[]] w (zbN w (l.all hexA)):=by
 have h:=zhF ⟨l.toArray⟩ (fun _ r=>hexR (r:Int)) 231 #[] (enters_of Tryz.func231 (by kernel_rfl) rfl) w (fun W p d f=>yeZ p _ W) (by rw [zaI];omega)
 have e:=zlN ⟨l.toArray⟩ (fun _ r=>hexR (r:Int)) hexA (fun p h _=>ztQ _) (fun _ r h=>ylI (by unfold valZ;(repeat' split)<;>omega)) (znJ (by decide+kernel)) (ByteArray.mk l.toArray).size 0 (by omega)
 rw [List.drop_zero,zaQ] at e
 rw [e] at h
 exact h
theorem ydN (c:UInt8) (h:c.toNat<128):verR c.toNat=verA c:=by
 have key: ∀d:Fin 128,verR d.val=verA (UInt8.ofNat d.val):=by decide+kernel
 have:=key ⟨c.toNat,h⟩
 simpa using this
theorem ycV (l:List UInt8) (w:World) (j:l.length≤1000000):
  Calls Tryz.prog 94 #[.string ⟨l.toArray⟩,.func (.func 232) #[] #[]] w (zbN w (l.all verA)):=by
 have h:=zhF ⟨l.toArray⟩ (fun _ r=>verR r) 232 #[] (enters_of Tryz.func232 (by kernel_rfl) rfl) w (fun W p f i=>yeN p _ W (zgA _ p)) (by rw [zaI];omega)
 have e:=zlN ⟨l.toArray⟩ (fun _ r=>verR r) verA (fun p h d=>ydN _ d) (fun _ r h=>by unfold verR zoH;rw [ylI (by omega),ylI (by omega)];rfl) (znJ (by decide+kernel)) (ByteArray.mk l.toArray).size 0 (by omega)
 rw [List.drop_zero,zaQ] at e
 rw [e] at h
 exact h
theorem zmY (l p:List UInt8):(Lib.trimPrefix l p).length≤l.length:=by
 unfold Lib.trimPrefix
 split
 ·rw [List.length_drop];omega
 ·exact ylH _
theorem zsZ (l:List UInt8) (w:World) (hl:l.length≤1000000) (f:MaxVar w):
  Calls Tryz.prog 169 #[.string ⟨l.toArray⟩] w (zbN w (zfK l)):=by
 have j:=ylG (z5R l)
 have HX:=ylG f
 have i:=ylG (fun W=>zkG ⟨l.toArray⟩ W (by rw [zaI];omega))
 rw [zaQ] at i
 have N:=zhH l
 have Q:=zmY (zaM l) [118]
 obtain ⟨D,o⟩:=zfF 46 (Lib.trimPrefix (zaM l) [118])
 have K:Hid (∀W,Calls Tryz.prog 92 #[.string ⟨(zaM l).toArray⟩,.string ⟨#[118]⟩] W fun e w'=>e= .returned (.tuple #[.string ⟨(Lib.trimPrefix (zaM l) [118]).toArray⟩,.bool (Lib.hasPrefix (zaM l) [118])])∧W=w'):=fun W=>(Tryz.strings_CutPrefix ⟨(zaM l).toArray⟩ ⟨#[118]⟩ W).mono (fun _ _ h=>⟨h.1,h.2.symm⟩)
 have B:=ylG (fun W (h:MaxVar W)=>zjF 46 (Lib.trimPrefix (zaM l) [118]) W (by omega) h)
 have S:=ylG (fun W=>ybZ (cutA 46 (Lib.trimPrefix (zaM l) [118])).1 W (by omega))
 have U:=ylG (fun W=>ycV (cutA 46 (Lib.trimPrefix (zaM l) [118])).2.2 W (by omega))
 clear D o Q N f
 generalize zfK l=res at*
 generalize cutA 46 (Lib.trimPrefix (zaM l) [118])=x at*
 obtain ⟨J,fd,C⟩:=x
 simp only at j S U
 generalize Lib.trimPrefix (zaM l) [118]=t at*
 generalize Lib.hasPrefix (zaM l) [118]=X at*
 generalize zaM l=lo at*
 generalize J.all hexA=Y at*
 generalize C.all verA=bv at*
 have Z:(J==[])=J.isEmpty:=by cases J<;>rfl
 have s2:(C==[])=C.isEmpty:=by cases C<;>rfl
 obtain ⟨V,A⟩: ∃b,J.isEmpty=b:=⟨_,rfl⟩
 obtain ⟨se,G⟩: ∃b,C.isEmpty=b:=⟨_,rfl⟩
 rw [A,G] at j
 rw [A] at Z
 rw [G] at s2
 go_enter Tryz.func169,Tryz.ntmps169
 go_wp2_with fail
 refine (i.out _).mono ?_
 rintro e x1 ⟨rfl,m⟩
 go_wp2_with fail
 refine (K.out _).mono ?_
 rintro e x2 ⟨rfl,rfl⟩
 go_wp2_with fail
 refine (B.out _ (zaA HX.out m)).mono ?_
 rintro e x3 ⟨rfl,E⟩
 have d:=zaJ m E
 clear m E i K B
 cases X with
 |false=>
  go_wp2
  go_ret
  exact zaE j.out d
 |true=>
 cases V with
 |true=>
  go_wp2
  go_ret
  exact zaE j.out d
 |false=>
 cases se with
 |true=>
  go_wp2
  go_ret
  exact zaE j.out d
 |false=>
 go_wp2_with fail
 refine (S.out _).mono ?_
 rintro e x4 ⟨rfl,H⟩
 have I:=zaJ d H
 clear d H
 cases Y with
 |false=>
  go_wp2
  go_ret
  exact zaE j.out I
 |true=>
 go_wp2_with fail
 refine (U.out _).mono ?_
 rintro e x5 ⟨rfl,M⟩
 have O:=zaJ I M
 go_wp2
 go_ret
 exact zaE j.out O
def sixB (l:List UInt8):Bool:=(sixZ l).2
theorem pre91 (l:List UInt8):(Lib.hasPrefix l [91]=true∧ ∃r,l=91::r∧Lib.trimPrefix l [91]=r)∨(Lib.hasPrefix l [91]=false∧l.head? ≠some 91):=by
 cases l with
 |nil=>exact .inr ⟨rfl,by simp⟩
 |cons c r=>
  by_cases h:c=91
  ·subst h
   exact .inl ⟨rfl,r,rfl,rfl⟩
  ·right
   refine ⟨?_,by simpa using h⟩
   unfold Lib.hasPrefix
   simp [List.isPrefixOf,Ne.symm h]
theorem z2S (l:List UInt8) (w:World) (M:l.length≤1000000) (m:MaxVar w) (d:Lib.Utf8Tabs 1 2 w):
  Calls Tryz.prog 99 #[.string ⟨l.toArray⟩] w (zbN w (zfW sixB l)):=by
 have O:=ylG m
 have j:Hid (∀W,Calls Tryz.prog 92 #[.string ⟨l.toArray⟩,.string ⟨#[91]⟩] W fun e w'=>e= .returned (.tuple #[.string ⟨(Lib.trimPrefix l [91]).toArray⟩,.bool (Lib.hasPrefix l [91])])∧W=w'):=fun W=>(Tryz.strings_CutPrefix ⟨l.toArray⟩ ⟨#[91]⟩ W).mono (fun _ _ h=>⟨h.1,h.2.symm⟩)
 rcases pre91 l with ⟨B,r,rfl,Q⟩|⟨B,C⟩
 ·rw [B,Q] at j
  have o:=ylG (z1A sixB r)
  have U:r.length≤1000000:=by simp at M;omega
  have K:Hid (∀W,Calls Tryz.prog 167 #[.string ⟨r.toArray⟩,.string ⟨#[93]⟩] W fun e w'=>e= .returned (.tuple #[.string ⟨(Lib.trimSuffix r [93]).toArray⟩,.bool (Lib.hasSuffix r [93])])∧W=w'):=fun W=>(Tryz.strings_CutSuffix ⟨r.toArray⟩ ⟨#[93]⟩ W (by rw [zaI];omega)).mono (fun _ _ h=>⟨h.1,h.2.symm⟩)
  have A:(Lib.trimSuffix r [93]).length≤1000000:=by
   unfold Lib.trimSuffix
   split
   ·rw [List.length_take];omega
   ·omega
  have D:=ylG (fun W (h:MaxVar W)=>zkN ⟨(Lib.trimSuffix r [93]).toArray⟩ W (by rw [zaI];omega) h)
  rw [zaQ] at D
  have E:=ylG (fun W (h:MaxVar W)=>zsZ (Lib.trimSuffix r [93]) W A h)
  unfold sixB at o ⊢
  clear B Q d m A M
  generalize Lib.trimSuffix r [93]=t at*
  generalize Lib.hasSuffix r [93]=V at*
  generalize zfK t=Z at*
  generalize zfW (fun l=>(sixZ l).2) (91::r)=res at*
  generalize sixZ t=z at*
  obtain ⟨⟨hi,lo⟩,X⟩:=z
  simp only at o
  generalize 91::r=l at*
  go_enter Tryz.func99,Tryz.ntmps99
  go_wp2_with fail
  refine (j.out _).mono ?_
  rintro e N ⟨rfl,rfl⟩
  go_wp2_with fail
  refine (K.out _).mono ?_
  rintro e N ⟨rfl,rfl⟩
  go_wp2_with fail
  refine (D.out _ O.out).mono ?_
  rintro e S ⟨rfl,i⟩
  simp only
  have f:Below w.heap.size w (S.alloc (.cells #[.int .u64 hi,.int .u64 lo] 173)):=i.alloc i.size _
  cases V with
  |false=>
   go_wp2
   go_ret
   exact zaE o.out f
  |true=>
  cases X with
  |true=>
   go_wp2
   go_ret
   exact zaE o.out f
  |false=>
   have J:=ylG (E.out _ (zaA O.out f))
   have I:=ylG f
   clear f
   go_wp2_with fail
   refine J.out.mono ?_
   rintro e Y ⟨rfl,G⟩
   go_wp2
   go_ret
   exact zaE o.out (zaJ I.out G)
 ·rw [B] at j
  have o:=ylG (zuW sixB C)
  have H:=ylG (zjZ l [] w M d)
  clear B C d
  generalize Lib.trimPrefix l [91]=t at*
  generalize isA [] l=bi at*
  generalize zfW sixB l=res at*
  go_enter Tryz.func99,Tryz.ntmps99
  go_wp2_with fail
  refine (j.out _).mono ?_
  rintro e N ⟨rfl,rfl⟩
  go_wp2_with fail
  refine H.out.mono ?_
  rintro e S ⟨rfl,i⟩
  go_wp2
  go_ret
  exact zaE o.out i
def PZ.cells (p:PZ):Array Value:= #[.string ⟨p.scheme.toArray⟩,.bool p.hasS,.string ⟨p.user.toArray⟩,.bool p.hasU,.string ⟨p.host.toArray⟩,.bool p.hasA,.string ⟨p.port.toArray⟩,.bool p.hasP,.string ⟨p.path.toArray⟩,.string ⟨p.query.toArray⟩,.bool p.hasQ,.string ⟨p.frag.toArray⟩,.bool p.hasF]
def PB (t:TypeId) (w:World) (P:Nat) (p:PZ):Prop:=w.heap[P]? =some (.cells p.cells t)
theorem PB.below {t:TypeId} {w w':World} {P:Nat} {p:PZ} (h:PB t w P p) (d:Below w.heap.size w w'):PB t w' P p:=(d.block P (zaD h)).trans h
theorem PB.new (t:TypeId) (w:World) (p:PZ):PB t (w.alloc (.cells p.cells t)) w.heap.size p:=heap_alloc_new w _
theorem PB.all {t:TypeId} {w:World} {P:Nat} {p:PZ} (h:PB t w P p):w.cell? ⟨P,0,none⟩=some (.string ⟨p.scheme.toArray⟩)∧w.cell? ⟨P,1,none⟩=some (.bool p.hasS)∧w.cell? ⟨P,2,none⟩=some (.string ⟨p.user.toArray⟩)∧w.cell? ⟨P,3,none⟩=some (.bool p.hasU)∧w.cell? ⟨P,4,none⟩=some (.string ⟨p.host.toArray⟩)∧w.cell? ⟨P,5,none⟩=some (.bool p.hasA)∧w.cell? ⟨P,6,none⟩=some (.string ⟨p.port.toArray⟩)∧w.cell? ⟨P,7,none⟩=some (.bool p.hasP)∧w.cell? ⟨P,8,none⟩=some (.string ⟨p.path.toArray⟩)∧w.cell? ⟨P,9,none⟩=some (.string ⟨p.query.toArray⟩)∧w.cell? ⟨P,10,none⟩=some (.bool p.hasQ)∧w.cell? ⟨P,11,none⟩=some (.string ⟨p.frag.toArray⟩)∧w.cell? ⟨P,12,none⟩=some (.bool p.hasF):=
 ⟨zaB h 0,zaB h 1,zaB h 2,zaB h 3,zaB h 4,zaB h 5,zaB h 6,zaB h 7,zaB h 8,zaB h 9,zaB h 10,zaB h 11,zaB h 12⟩
def PZ.Few (p:PZ) (n:Nat):Prop:=p.scheme.length≤n∧p.user.length≤n∧p.host.length≤n∧p.port.length≤n∧p.path.length≤n∧p.query.length≤n∧p.frag.length≤n
theorem zwL (p:PZ) (w:World) (hf:p.Few 100000) (V:MaxVar w) (U:Lib.Utf8Tabs 1 2 w):
  Calls Tryz.prog 41 #[.agg p.cells] w (zbN w (ziP sixB p)):=by
 obtain ⟨f1,f2,f3,f4,f5,f6,f7⟩:=hf
 have hb:Below w.heap.size w (w.alloc (.cells p.cells 32)):=(ylK _ w).alloc (ylH _) _
 have o:=ylG (fun y (hy:Below (w.alloc (.cells p.cells 32)).heap.size (w.alloc (.cells p.cells 32)) y)=>(And.intro ((PB.new 32 w p).below hy).all (zaJ hb hy):_∧Below w.heap.size w y))
 have j:=ylG (fun y (hy:Below w.heap.size w y)=>(And.intro (zaA V hy) (zeU U hy):MaxVar y∧Lib.Utf8Tabs 1 2 y))
 obtain ⟨d0,d1,d2,d3,d4,d5,d6,d7,d8,d9,qB,qD,qE⟩:=(PB.new 32 w p).all
 have HB:=ylG hb
 have HR:Hid (Below (w.alloc (.cells p.cells 32)).heap.size (w.alloc (.cells p.cells 32)) (w.alloc (.cells p.cells 32))):=ylK _ _
 have A:=ylG (fun W (h:MaxVar W∧Lib.Utf8Tabs 1 2 W)=>zjZ p.user [58] W (by omega) h.2)
 have m:=ylG (fun W (h:MaxVar W∧Lib.Utf8Tabs 1 2 W)=>z2S p.host W (by omega) h.1 h.2)
 have E:=ylG (fun W (_:MaxVar W∧Lib.Utf8Tabs 1 2 W)=>z2W p.port W (by omega))
 have D:=ylG (fun W (h:MaxVar W∧Lib.Utf8Tabs 1 2 W)=>zjZ p.path [58,64,47] W (by omega) h.2)
 have B:=ylG (fun W (h:MaxVar W∧Lib.Utf8Tabs 1 2 W)=>zjZ p.query [58,64,47,63] W (by omega) h.2)
 have C:=ylG (fun W (h:MaxVar W∧Lib.Utf8Tabs 1 2 W)=>zjZ p.frag [58,64,47,63] W (by omega) h.2)
 have HF:Hid (ziP sixB p=(isA [58] p.user&&zfW sixB p.host&&p.port.all zdD&&isA [58,64,47] p.path&&isA [58,64,47,63] p.query&&isA [58,64,47,63] p.frag)):=rfl
 generalize ziP sixB p=res at*
 generalize isA [58] p.user=b1 at*
 generalize zfW sixB p.host=b2 at*
 generalize p.port.all zdD=b3 at*
 generalize isA [58,64,47] p.path=b4 at*
 generalize isA [58,64,47,63] p.query=b5 at*
 generalize isA [58,64,47,63] p.frag=b6 at*
 unfold PZ.cells at*
 clear hb V U
 go_enter Tryz.func41,Tryz.ntmps41
 go_wp2_with fail
 refine (A.out _ (j.out _ HB.out)).mono ?_
 rintro e y1 ⟨rfl,qq⟩
 have qh:=ylG (qq:Below (w.alloc (.cells p.cells 32)).heap.size (w.alloc (.cells p.cells 32)) y1)
 obtain ⟨⟨N,G,I,H,O,S,Q,J,K,M,i,d,f⟩,qo⟩:=o.out y1 qh.out
 have qa:=ylG qo
 clear d0 d1 d2 d3 d4 d5 d6 d7 d8 d9 qB qD qE HB qq qo
 have qs:=ylG (j.out y1 qa.out)
 cases b1 with
 |false=>
  clear A m E D B C
  go_wp2
  go_ret
  exact zaE HF.out qa.out
 |true=>
 go_wp2_with fail
 refine (m.out _ qs.out).mono ?_
 rintro e y2 ⟨rfl,qg⟩
 clear N G I H O S Q J K M i d f qs
 have qn:=ylG (zaJ qh.out qg:Below (w.alloc (.cells p.cells 32)).heap.size (w.alloc (.cells p.cells 32)) y2)
 obtain ⟨⟨N,G,I,H,O,S,Q,J,K,M,i,d,f⟩,qi⟩:=o.out y2 qn.out
 have qb:=ylG qi
 clear qa qg qi
 have qz:=ylG (j.out y2 qb.out)
 cases b2 with
 |false=>
  clear A m E D B C
  go_wp2
  go_ret
  exact zaE HF.out qb.out
 |true=>
 go_wp2_with fail
 refine (E.out _ qz.out).mono ?_
 rintro e y3 ⟨rfl,qk⟩
 clear N G I H O S Q J K M i d f qz
 have ql:=ylG (zaJ qn.out qk:Below (w.alloc (.cells p.cells 32)).heap.size (w.alloc (.cells p.cells 32)) y3)
 obtain ⟨⟨N,G,I,H,O,S,Q,J,K,M,i,d,f⟩,qc⟩:=o.out y3 ql.out
 have Z:=ylG qc
 clear qb qk qc
 have qy:=ylG (j.out y3 Z.out)
 cases b3 with
 |false=>
  clear A m E D B C
  go_wp2
  go_ret
  exact zaE HF.out Z.out
 |true=>
 go_wp2_with fail
 refine (D.out _ qy.out).mono ?_
 rintro e y4 ⟨rfl,qp⟩
 clear N G I H O S Q J K M i d f qy
 have qe:=ylG (zaJ ql.out qp:Below (w.alloc (.cells p.cells 32)).heap.size (w.alloc (.cells p.cells 32)) y4)
 obtain ⟨⟨N,G,I,H,O,S,Q,J,K,M,i,d,f⟩,qv⟩:=o.out y4 qe.out
 have X:=ylG qv
 clear Z qp qv
 have qA:=ylG (j.out y4 X.out)
 cases b4 with
 |false=>
  clear A m E D B C
  go_wp2
  go_ret
  exact zaE HF.out X.out
 |true=>
 go_wp2_with fail
 refine (B.out _ qA.out).mono ?_
 rintro e y5 ⟨rfl,qx⟩
 clear N G I H O S Q J K M i d f qA
 have qf:=ylG (zaJ qe.out qx:Below (w.alloc (.cells p.cells 32)).heap.size (w.alloc (.cells p.cells 32)) y5)
 obtain ⟨⟨N,G,I,H,O,S,Q,J,K,M,i,d,f⟩,qd⟩:=o.out y5 qf.out
 have Y:=ylG qd
 clear X qx qd
 have qj:=ylG (j.out y5 Y.out)
 cases b5 with
 |false=>
  clear A m E D B C
  go_wp2
  go_ret
  exact zaE HF.out Y.out
 |true=>
 go_wp2_with fail
 refine (C.out _ qj.out).mono ?_
 rintro e y6 ⟨rfl,qr⟩
 clear N G I H O S Q J K M i d f qj
 have qC:=ylG (zaJ qf.out qr:Below (w.alloc (.cells p.cells 32)).heap.size (w.alloc (.cells p.cells 32)) y6)
 obtain ⟨⟨N,G,I,H,O,S,Q,J,K,M,i,d,f⟩,qw⟩:=o.out y6 qC.out
 have qm:=ylG qw
 clear Y qr qw
 have qF:=ylG (j.out y6 qm.out)
 go_wp2
 go_ret
 exact zaE HF.out qm.out
theorem z1J (b:UInt8) (s:List UInt8):(cutA b s).1=(zaS (· ==b) s).1∧(zaS (· ==b) s).2=s.drop (cutA b s).1.length:=by
 have d:=zdM (· ==b) s
 have key:(cutA b s).1=(zaS (· ==b) s).1:=by
  unfold cutA
  split
  ·rename_i e
   rw [e,List.append_nil] at d
   exact d
  ·rfl
 refine ⟨key,?_⟩
 rw [key]
 have e:=congrArg (List.drop (zaS (· ==b) s).1.length) d
 rw [List.drop_left] at e
 exact e.symm
theorem ztN {a u r:List UInt8} (h:cutA 64 a=(u,true,r)):zeO a=(true,u,(zdW r).1,(zdW r).2.1,(zdW r).2.2):=by unfold zeO;rw [h]
theorem zyP {a u r:List UInt8} (h:cutA 64 a=(u,false,r)):zeO a=(false,[],(zdW a).1,(zdW a).2.1,(zdW a).2.2):=by unfold zeO;rw [h]
def yaO (p:PZ) (x:Bool×List UInt8×List UInt8×Bool×List UInt8):PZ:={p with user:=x.2.1,hasU:=x.1,host:=x.2.2.1,port:=x.2.2.2.2,hasP:=x.2.2.2.1}
def zwN (w:World) (P:Nat) (p:PZ) (s:List UInt8) (e:Ending) (w':World):Prop:=e= .returned (.string ⟨((zaS (· ==47) s).2).toArray⟩)∧PB 32 w' P (yaO p (zeO (zaS (· ==47) s).1))∧Only [P] w w'
theorem PB.st2 {t:TypeId} {w:World} {P:Nat} {p:PZ} (h:PB t w P p) (a:Value):(w.cell? ⟨P,2,none⟩=some (.string ⟨p.user.toArray⟩)∧w.frozen? ⟨P,2,none⟩=false)∧(w.setCell ⟨P,2,none⟩ a).cell? ⟨P,3,none⟩=some (.bool p.hasU)∧(w.setCell ⟨P,2,none⟩ a).frozen? ⟨P,3,none⟩=false:=⟨⟨zaB h 2,zaF h 2⟩,zaB (zaK h 2 a) 3,zaF (zaK h 2 a) 3⟩
theorem PB.st6 {t:TypeId} {w:World} {P:Nat} {p:PZ} (h:PB t w P p) (a:Value):(w.cell? ⟨P,6,none⟩=some (.string ⟨p.port.toArray⟩)∧w.frozen? ⟨P,6,none⟩=false)∧(w.setCell ⟨P,6,none⟩ a).cell? ⟨P,7,none⟩=some (.bool p.hasP)∧(w.setCell ⟨P,6,none⟩ a).frozen? ⟨P,7,none⟩=false:=⟨⟨zaB h 6,zaF h 6⟩,zaB (zaK h 6 a) 7,zaF (zaK h 6 a) 7⟩
theorem PB.user {t:TypeId} {w:World} {P:Nat} {p:PZ} (h:PB t w P p) (u:List UInt8):PB t ((w.setCell ⟨P,2,none⟩ (.string ⟨u.toArray⟩)).setCell ⟨P,3,none⟩ (.bool true)) P {p with user:=u,hasU:=true}:=zaK (zaK h 2 _) 3 _
theorem PB.port {t:TypeId} {w:World} {P:Nat} {p:PZ} (h:PB t w P p) (u:List UInt8):PB t ((w.setCell ⟨P,6,none⟩ (.string ⟨u.toArray⟩)).setCell ⟨P,7,none⟩ (.bool true)) P {p with port:=u,hasP:=true}:=zaK (zaK h 6 _) 7 _
theorem PB.host {t:TypeId} {w:World} {P:Nat} {p:PZ} (h:PB t w P p) (u:List UInt8):PB t (w.setCell ⟨P,4,none⟩ (.string ⟨u.toArray⟩)) P {p with host:=u}:=zaK h 4 _
theorem ziE {w x:World} {P:Nat} (h:Only [P] w x) (i:Nat) (a:Value):Only [P] w (x.setCell ⟨P,i,none⟩ a):=h.setCell (p:=⟨P,i,none⟩) (.inl (by simp)) _
theorem znA {w x:World} {P:Nat} (h:Only [P] w x) (i j:Nat) (a b:Value):Only [P] w ((x.setCell ⟨P,i,none⟩ a).setCell ⟨P,j,none⟩ b):=ziE (ziE h i a) j b
theorem zpR (P:Nat) (p:PZ) (s:List UInt8) (w:World) (hl:s.length≤100000) (hp:PB 32 w P p) (hu:p.user=[]∧p.hasU=false∧p.port=[]∧p.hasP=false) (M:MaxVar w):
  Calls Tryz.prog 93 #[.pointer (some ⟨P,0,none⟩),.string ⟨s.toArray⟩] w (zwN w P p s):=by
 obtain ⟨u1,u2,u3,u4⟩:=hu
 obtain ⟨k1,k2⟩:=z1J 47 s
 have qn:=zfF 47 s
 have HX:=ylG M
 have qq:=ylG (zjF 47 s w (by omega) M)
 have C:Hid (∀(e:Ending) (w':World),e= .returned (.string ⟨(s.drop (cutA 47 s).1.length).toArray⟩)→PB 32 w' P (yaO p (zeO (cutA 47 s).1))→Only [P] w w'→zwN w P p s e w'):=fun e w' h1 h2 h3=>by
  unfold zwN
  rw [←k1,k2]
  exact ⟨h1,h2,h3⟩
 have qA:=zfA s (cutA 47 s).1.length qn.1
 clear k1 k2 M
 generalize qo:cutA 47 s=x at*
 obtain ⟨a,b0,c0⟩:=x
 simp only at C qA qn
 have qE:=zaI a
 have I:=ylG (@zoS)
 have qd:=ylG (fun W (h:MaxVar W)=>zjF 64 a W (by omega) h)
 have qD:=(zfF 64 a).2
 have qc:Hid (∀u r,cutA 64 a=(u,true,r)→zeO a=(true,u,(zdW r).1,(zdW r).2.1,(zdW r).2.2)):=fun _ _ h=>ztN h
 have qs:Hid (∀u r,cutA 64 a=(u,false,r)→zeO a=(false,[],(zdW a).1,(zdW a).2.1,(zdW a).2.2)):=fun _ _ h=>zyP h
 generalize qC:cutA 64 a=x at*
 obtain ⟨u,bu,r⟩:=x
 have H:Hid (∀(c:UInt8) (l:List UInt8) W,l.length≤100000→Calls Tryz.prog 162 #[.string ⟨l.toArray⟩,.int .u8 (c.toNat:Int)] W fun e w'=>e= .returned (.int .i64 (Lib.lastIndexByte ⟨l.toArray⟩ (c.toNat:Int)))∧W=w'):=fun c l W h=>(Tryz.strings_LastIndexByte ⟨l.toArray⟩ (c.toNat:Int) (by rw [zaI];omega) W).mono (fun _ _ h=>⟨h.1,h.2.symm⟩)
 have HP:=ylG hp
 clear hp qo
 go_enter Tryz.func93,Tryz.ntmps93
 go_wp2_with fail
 refine qq.out.mono ?_
 rintro e x1 ⟨rfl,ql⟩
 go_wp2_with fail
 refine (qd.out _ (zaA HX.out ql)).mono ?_
 rintro e x2 ⟨rfl,qp⟩
 simp only at*
 have qg:=zaJ ql qp
 have G:=ylG (HP.out.below qg)
 have qa:Hid (Only [P] w x2):=(Only.of_below (F:=[]) qg).mono (fun _ h=>by cases h)
 clear ql qp qg qq qd HX HP
 cases bu with
 |true=>
  obtain ⟨⟨c2,f2⟩,c3,f3⟩:=G.out.st2 (.string ⟨u.toArray⟩)
  go_wp2_with fail
  obtain ⟨x3,qb⟩: ∃y,y=(x2.setCell ⟨P,2,none⟩ (.string ⟨u.toArray⟩)).setCell ⟨P,3,none⟩ (.bool true):=⟨_,rfl⟩
  rw [←qb]
  have Z:Hid (PB 32 x3 P {p with user:=u,hasU:=true}):=by rw [qb];exact G.out.user u
  have qr:Hid (Only [P] w x3):=by rw [qb];exact znA qa.out 2 3 _ _
  clear c2 f2 c3 f3 qb G qa
  have j:=ylG (H.out 58 r x3 (by omega))
  have m:=ylG (H.out 93 r x3 (by omega))
  have qB:r.length≤100000:=(by omega)
  have qv:=zaI r
  clear H
  rcases I.out r with ⟨i,hi,Q,J,A⟩|⟨qz,A⟩
  ·have D:Hid (zeO a=(true,u,(r.take i),true,(r.drop (i+1)))):=by show _=_;rw [qc.out _ _ rfl,A]
   rw [show ((58:UInt8).toNat:Int)=58 from rfl,Q] at j
   rw [show ((93:UInt8).toNat:Int)=93 from rfl] at m
   have qw:=zmJ r i hi
   have qx:=zmL r i (by omega)
   have hd:decide (Lib.lastIndexByte ⟨r.toArray⟩ 93<(i:Int))=true:=ylJ J
   have qy:IntKind.i64.wrap ((i:Int)+1)=(i:Int)+1:=IntWalk.i64_in _ (by omega)
   generalize Lib.lastIndexByte ⟨r.toArray⟩ 93=z at*
   generalize r.take i=hh at*
   generalize r.drop (i+1)=pp at*
   clear I A Q J
   go_wp2_with fail
   refine j.out.mono ?_
   rintro e w' ⟨rfl,rfl⟩
   go_wp2_with fail
   refine m.out.mono ?_
   rintro e w' ⟨rfl,rfl⟩
   go_wp2_with fail
   refine wp_region_held_drew (S:=fun _=>True) (by kernel_rfl) trivial (fun d=> ?_)
   refine tkY 0 (some 44) (v:= ?_) rfl (.inl ⟨by rfl,?_⟩) d ?_
   rotate_left
   ·intro w f
    go_simp
    try with_reducible rfl
   try simp only [Act.put,tkYa,tkYb,tkYc]
   refine tkY 1 (some 45) (v:= ?_) rfl (.inl ⟨by rfl,?_⟩) d ?_
   rotate_left
   ·intro w f
    go_simp
    try with_reducible rfl
   try simp only [Act.put,tkYa,tkYb,tkYc]
   refine tkY 2 (some 46) (v:= ?_) rfl (.inl ⟨by rfl,?_⟩) d ?_
   rotate_left
   ·intro w f
    go_simp
    try with_reducible rfl
   try simp only [Act.put,tkYa,tkYb,tkYc]
   refine tkY 3 (some 47) (v:= ?_) rfl (.inl ⟨by rfl,?_⟩) d ?_
   rotate_left
   ·intro w f
    go_simp
    try with_reducible rfl
   try simp only [Act.put,tkYa,tkYb,tkYc]
   refine tkY 4 (some 48) (v:= ?_) rfl (.inl ⟨by rfl,?_⟩) d ?_
   rotate_left
   ·intro w f
    go_simp
    try with_reducible rfl
   try simp only [Act.put,tkYa,tkYb,tkYc]
   refine tkY 5 (some 49) (v:= ?_) rfl (.inl ⟨by rfl,?_⟩) d ?_
   rotate_left
   ·intro w f
    go_simp
    try with_reducible rfl
   try simp only [Act.put,tkYa,tkYb,tkYc]
   refine tkY 6 (some 50) (v:= ?_) rfl (.inl ⟨by rfl,?_⟩) d ?_
   rotate_left
   ·intro w f
    go_simp
    try with_reducible rfl
   try simp only [Act.put,tkYa,tkYb,tkYc]
   refine tkY 7 (some 51) (v:= ?_) rfl (.inl ⟨by rfl,?_⟩) d ?_
   rotate_left
   ·intro w f
    go_simp
    try with_reducible rfl
   try simp only [Act.put,tkYa,tkYb,tkYc]
   refine tkY 8 (some 52) (v:= ?_) rfl (.inl ⟨by rfl,?_⟩) d ?_
   rotate_left
   ·intro w f
    go_simp
    try with_reducible rfl
   try simp only [Act.put,tkYa,tkYb,tkYc]
   refine tkY 9 (some 53) (v:= ?_) rfl (.inl ⟨by rfl,?_⟩) d ?_
   rotate_left
   ·intro w f
    go_simp
    try with_reducible rfl
   try simp only [Act.put,tkYa,tkYb,tkYc]
   refine tkY 10 (some 54) (v:= ?_) rfl (.inl ⟨by rfl,?_⟩) d ?_
   rotate_left
   ·intro w f
    go_simp
    try with_reducible rfl
   try simp only [Act.put,tkYa,tkYb,tkYc]
   have E:=Z.out.below (zaW x3)
   have O:=Only.then_below qr.out (zaW x3)
   generalize qi:x3.drew=xd at*
   obtain ⟨⟨c6,f6⟩,c7,f7⟩:=E.st6 (.string ⟨pp.toArray⟩)
   have N:=ylG E
   have Y:=ylG O
   clear E O qi
   refine wpAnyH_ready (rs:=[11]) (by kernel_rfl) (by simp) ?_
   refine AllReadyH.cons (o:=⟨none,_,_,_,_,_⟩) rfl (fun K V=> ?_) AllReadyH.nil
   go_simp
   refine V.out _ _ trivial (fun U=> ?_)
   clear V K
   try simp only [Act.put,tkYa,tkYb,tkYc]
   refine tkY 12 (some 55) (v:= ?_) rfl (.inl ⟨by rfl,?_⟩) U ?_
   rotate_left
   ·intro w f
    go_simp
    try with_reducible rfl
   try simp only [Act.put,tkYa,tkYb,tkYc]
   refine tkY 13 (some 56) (v:= ?_) rfl (.inl ⟨by rfl,?_⟩) U ?_
   rotate_left
   ·intro w f
    go_simp
    try with_reducible rfl
   try simp only [Act.put,tkYa,tkYb,tkYc]
   refine wpAnyH_ready (rs:=[14]) (by kernel_rfl) (by simp) ?_
   refine AllReadyH.cons (o:=⟨none,_,_,_,_,_⟩) rfl (fun K V=> ?_) AllReadyH.nil
   go_simp
   refine V.out _ _ trivial (fun qe=> ?_)
   clear V K
   try simp only [Act.put,tkYa,tkYb,tkYc]
   refine tkY 15 (some 5) (v:= ?_) rfl (.inl ⟨by rfl,?_⟩) qe ?_
   rotate_left
   ·intro w f
    go_simp
    try with_reducible rfl
   try simp only [Act.put,tkYa,tkYb,tkYc]
   refine wpAnyH_done (by kernel_rfl) ?_ _
   have B:=N.out.port pp
   have X:=znA Y.out 6 7 (.string ⟨pp.toArray⟩) (.bool true)
   generalize (xd.setCell ⟨P,6,none⟩ (.string ⟨pp.toArray⟩)).setCell ⟨P,7,none⟩ (.bool true)=x4 at*
   have k4:=zaB B 4
   have g4:=zaF B 4
   have qk:=ylG B
   have qj:=ylG X
   clear B X c6 f6 c7 f7 N Y
   simp [PZ.cells] at k4
   go_wp2
   go_ret
   refine C.out _ _ rfl ?_ (ziE qj.out 4 _)
   rw [D.out]
   have hq:=qk.out.host hh
   exact hq
  ·have D:Hid (zeO a=(true,u,r,false,[])):=by show _=_;rw [qc.out _ _ rfl,A]
   rw [show ((58:UInt8).toNat:Int)=58 from rfl] at j
   rw [show ((93:UInt8).toNat:Int)=93 from rfl] at m
   have hd:decide (Lib.lastIndexByte ⟨r.toArray⟩ 93<Lib.lastIndexByte ⟨r.toArray⟩ 58)=false:=ylI (by omega)
   generalize Lib.lastIndexByte ⟨r.toArray⟩ 93=z at*
   generalize Lib.lastIndexByte ⟨r.toArray⟩ 58=z2 at*
   clear I A
   obtain ⟨d0,d1,d2,d3,d4,d5,d6,d7,d8,d9,qf,qh,qm⟩:=Z.out.all
   have f4:=zaF Z.out 4
   clear d0 d1 d2 d3 d5 d6 d7 d8 d9 qf qh qm
   go_wp2_with fail
   refine j.out.mono ?_
   rintro e w' ⟨rfl,rfl⟩
   go_wp2_with fail
   refine m.out.mono ?_
   rintro e w' ⟨rfl,rfl⟩
   go_wp2
   go_ret
   refine C.out _ _ rfl ?_ (ziE qr.out 4 _)
   rw [D.out]
   have hq:=Z.out.host r
   simpa [yaO,u3,u4] using hq
 |false=>
  have j:=ylG (H.out 58 a x2 (by omega))
  have m:=ylG (H.out 93 a x2 (by omega))
  have qB:a.length≤100000:=(by omega)
  have qv:=zaI a
  clear H
  rcases I.out a with ⟨i,hi,Q,J,A⟩|⟨qz,A⟩
  ·have D:Hid (zeO a=(false,[],(a.take i),true,(a.drop (i+1)))):=by show _=_;rw [qs.out _ _ rfl,A]
   rw [show ((58:UInt8).toNat:Int)=58 from rfl,Q] at j
   rw [show ((93:UInt8).toNat:Int)=93 from rfl] at m
   have qw:=zmJ a i hi
   have qx:=zmL a i (by omega)
   have hd:decide (Lib.lastIndexByte ⟨a.toArray⟩ 93<(i:Int))=true:=ylJ J
   have qy:IntKind.i64.wrap ((i:Int)+1)=(i:Int)+1:=IntWalk.i64_in _ (by omega)
   generalize Lib.lastIndexByte ⟨a.toArray⟩ 93=z at*
   generalize a.take i=hh at*
   generalize a.drop (i+1)=pp at*
   clear I A Q J
   go_wp2_with fail
   refine j.out.mono ?_
   rintro e w' ⟨rfl,rfl⟩
   go_wp2_with fail
   refine m.out.mono ?_
   rintro e w' ⟨rfl,rfl⟩
   go_wp2_with fail
   refine wp_region_held_drew (S:=fun _=>True) (by kernel_rfl) trivial (fun d=> ?_)
   refine tkY 0 (some 44) (v:= ?_) rfl (.inl ⟨by rfl,?_⟩) d ?_
   rotate_left
   ·intro w f
    go_simp
    try with_reducible rfl
   try simp only [Act.put,tkYa,tkYb,tkYc]
   refine tkY 1 (some 45) (v:= ?_) rfl (.inl ⟨by rfl,?_⟩) d ?_
   rotate_left
   ·intro w f
    go_simp
    try with_reducible rfl
   try simp only [Act.put,tkYa,tkYb,tkYc]
   refine tkY 2 (some 46) (v:= ?_) rfl (.inl ⟨by rfl,?_⟩) d ?_
   rotate_left
   ·intro w f
    go_simp
    try with_reducible rfl
   try simp only [Act.put,tkYa,tkYb,tkYc]
   refine tkY 3 (some 47) (v:= ?_) rfl (.inl ⟨by rfl,?_⟩) d ?_
   rotate_left
   ·intro w f
    go_simp
    try with_reducible rfl
   try simp only [Act.put,tkYa,tkYb,tkYc]
   refine tkY 4 (some 48) (v:= ?_) rfl (.inl ⟨by rfl,?_⟩) d ?_
   rotate_left
   ·intro w f
    go_simp
    try with_reducible rfl
   try simp only [Act.put,tkYa,tkYb,tkYc]
   refine tkY 5 (some 49) (v:= ?_) rfl (.inl ⟨by rfl,?_⟩) d ?_
   rotate_left
   ·intro w f
    go_simp
    try with_reducible rfl
   try simp only [Act.put,tkYa,tkYb,tkYc]
   refine tkY 6 (some 50) (v:= ?_) rfl (.inl ⟨by rfl,?_⟩) d ?_
   rotate_left
   ·intro w f
    go_simp
    try with_reducible rfl
   try simp only [Act.put,tkYa,tkYb,tkYc]
   refine tkY 7 (some 51) (v:= ?_) rfl (.inl ⟨by rfl,?_⟩) d ?_
   rotate_left
   ·intro w f
    go_simp
    try with_reducible rfl
   try simp only [Act.put,tkYa,tkYb,tkYc]
   refine tkY 8 (some 52) (v:= ?_) rfl (.inl ⟨by rfl,?_⟩) d ?_
   rotate_left
   ·intro w f
    go_simp
    try with_reducible rfl
   try simp only [Act.put,tkYa,tkYb,tkYc]
   refine tkY 9 (some 53) (v:= ?_) rfl (.inl ⟨by rfl,?_⟩) d ?_
   rotate_left
   ·intro w f
    go_simp
    try with_reducible rfl
   try simp only [Act.put,tkYa,tkYb,tkYc]
   refine tkY 10 (some 54) (v:= ?_) rfl (.inl ⟨by rfl,?_⟩) d ?_
   rotate_left
   ·intro w f
    go_simp
    try with_reducible rfl
   try simp only [Act.put,tkYa,tkYb,tkYc]
   have E:=G.out.below (zaW x2)
   have O:=Only.then_below qa.out (zaW x2)
   generalize qi:x2.drew=xd at*
   obtain ⟨⟨c6,f6⟩,c7,f7⟩:=E.st6 (.string ⟨pp.toArray⟩)
   have N:=ylG E
   have Y:=ylG O
   clear E O qi
   refine wpAnyH_ready (rs:=[11]) (by kernel_rfl) (by simp) ?_
   refine AllReadyH.cons (o:=⟨none,_,_,_,_,_⟩) rfl (fun K V=> ?_) AllReadyH.nil
   go_simp
   refine V.out _ _ trivial (fun U=> ?_)
   clear V K
   try simp only [Act.put,tkYa,tkYb,tkYc]
   refine tkY 12 (some 55) (v:= ?_) rfl (.inl ⟨by rfl,?_⟩) U ?_
   rotate_left
   ·intro w f
    go_simp
    try with_reducible rfl
   try simp only [Act.put,tkYa,tkYb,tkYc]
   refine tkY 13 (some 56) (v:= ?_) rfl (.inl ⟨by rfl,?_⟩) U ?_
   rotate_left
   ·intro w f
    go_simp
    try with_reducible rfl
   try simp only [Act.put,tkYa,tkYb,tkYc]
   refine wpAnyH_ready (rs:=[14]) (by kernel_rfl) (by simp) ?_
   refine AllReadyH.cons (o:=⟨none,_,_,_,_,_⟩) rfl (fun K V=> ?_) AllReadyH.nil
   go_simp
   refine V.out _ _ trivial (fun qe=> ?_)
   clear V K
   try simp only [Act.put,tkYa,tkYb,tkYc]
   refine tkY 15 (some 5) (v:= ?_) rfl (.inl ⟨by rfl,?_⟩) qe ?_
   rotate_left
   ·intro w f
    go_simp
    try with_reducible rfl
   try simp only [Act.put,tkYa,tkYb,tkYc]
   refine wpAnyH_done (by kernel_rfl) ?_ _
   have B:=N.out.port pp
   have X:=znA Y.out 6 7 (.string ⟨pp.toArray⟩) (.bool true)
   generalize (xd.setCell ⟨P,6,none⟩ (.string ⟨pp.toArray⟩)).setCell ⟨P,7,none⟩ (.bool true)=x4 at*
   have k4:=zaB B 4
   have g4:=zaF B 4
   have qk:=ylG B
   have qj:=ylG X
   clear B X c6 f6 c7 f7 N Y
   simp [PZ.cells] at k4
   go_wp2
   go_ret
   refine C.out _ _ rfl ?_ (ziE qj.out 4 _)
   rw [D.out]
   have hq:=qk.out.host hh
   simpa [yaO,u1,u2] using hq
  ·have D:Hid (zeO a=(false,[],a,false,[])):=by show _=_;rw [qs.out _ _ rfl,A]
   rw [show ((58:UInt8).toNat:Int)=58 from rfl] at j
   rw [show ((93:UInt8).toNat:Int)=93 from rfl] at m
   have hd:decide (Lib.lastIndexByte ⟨a.toArray⟩ 93<Lib.lastIndexByte ⟨a.toArray⟩ 58)=false:=ylI (by omega)
   generalize Lib.lastIndexByte ⟨a.toArray⟩ 93=z at*
   generalize Lib.lastIndexByte ⟨a.toArray⟩ 58=z2 at*
   clear I A
   obtain ⟨d0,d1,d2,d3,d4,d5,d6,d7,d8,d9,qf,qh,qm⟩:=G.out.all
   have f4:=zaF G.out 4
   clear d0 d1 d2 d3 d5 d6 d7 d8 d9 qf qh qm
   go_wp2_with fail
   refine j.out.mono ?_
   rintro e w' ⟨rfl,rfl⟩
   go_wp2_with fail
   refine m.out.mono ?_
   rintro e w' ⟨rfl,rfl⟩
   go_wp2
   go_ret
   refine C.out _ _ rfl ?_ (ziE qa.out 4 _)
   rw [D.out]
   have hq:=G.out.host a
   simpa [yaO,u1,u2,u3,u4] using hq
theorem PB.frozen {t:TypeId} {w:World} {P:Nat} {p:PZ} (h:PB t w P p): ∀i,w.frozen? ⟨P,i,none⟩=false:=zaT h
def zdH (x:World) (g:Nat) (G B j o m A H C D E d f i:Value):World:=(((((((((((((x.setCell ⟨g,0,none⟩ G).setCell ⟨g,1,none⟩ B).setCell ⟨g,2,none⟩ j).setCell ⟨g,3,none⟩ o).setCell ⟨g,4,none⟩ m).setCell ⟨g,5,none⟩ A).setCell ⟨g,6,none⟩ H).setCell ⟨g,7,none⟩ C).setCell ⟨g,8,none⟩ D).setCell ⟨g,9,none⟩ E).setCell ⟨g,10,none⟩ d).setCell ⟨g,11,none⟩ f).setCell ⟨g,12,none⟩ i)
theorem ybA {t:TypeId} {x:World} {g:Nat} {p:PZ} (h:PB t x g p) (G B j o m A H C D E d f i:Value):(zdH x g G B j o m A H C D E d f i).heap[g]? =some (.cells #[G,B,j,o,m,A,H,C,D,E,d,f,i] t):=by
 have:=zaK (zaK (zaK (zaK (zaK (zaK (zaK (zaK (zaK (zaK (zaK (zaK (zaK h 0 G) 1 B) 2 j) 3 o) 4 m) 5 A) 6 H) 7 C) 8 D) 9 E) 10 d) 11 f) 12 i
 unfold zdH
 simpa [PZ.cells] using this
theorem zwM {w x:World} {g B:Nat} (h:Below B w x) (d:B≤g) (m I H D C E J o G A i f j:Value):Below B w (zdH x g m I H D C E J o G A i f j):=
 (((((((((((((h.setCell (p:=⟨g,0,none⟩) d _).setCell (p:=⟨g,1,none⟩) d _).setCell (p:=⟨g,2,none⟩) d _).setCell (p:=⟨g,3,none⟩) d _).setCell (p:=⟨g,4,none⟩) d _).setCell (p:=⟨g,5,none⟩) d _).setCell (p:=⟨g,6,none⟩) d _).setCell (p:=⟨g,7,none⟩) d _).setCell (p:=⟨g,8,none⟩) d _).setCell (p:=⟨g,9,none⟩) d _).setCell (p:=⟨g,10,none⟩) d _).setCell (p:=⟨g,11,none⟩) d _).setCell (p:=⟨g,12,none⟩) d _)
theorem zuU {t:TypeId} {x:World} {g:Nat} {p:PZ} (h:PB t x g p) (G B j o m A H C D E d f i:Value):(zdH x g G B j o m A H C D E d f i).cell? ⟨g,0,none⟩=some G∧(zdH x g G B j o m A H C D E d f i).cell? ⟨g,1,none⟩=some B∧(zdH x g G B j o m A H C D E d f i).cell? ⟨g,2,none⟩=some j∧(zdH x g G B j o m A H C D E d f i).cell? ⟨g,3,none⟩=some o∧(zdH x g G B j o m A H C D E d f i).cell? ⟨g,4,none⟩=some m∧(zdH x g G B j o m A H C D E d f i).cell? ⟨g,5,none⟩=some A∧(zdH x g G B j o m A H C D E d f i).cell? ⟨g,6,none⟩=some H∧(zdH x g G B j o m A H C D E d f i).cell? ⟨g,7,none⟩=some C∧(zdH x g G B j o m A H C D E d f i).cell? ⟨g,8,none⟩=some D∧(zdH x g G B j o m A H C D E d f i).cell? ⟨g,9,none⟩=some E∧(zdH x g G B j o m A H C D E d f i).cell? ⟨g,10,none⟩=some d∧(zdH x g G B j o m A H C D E d f i).cell? ⟨g,11,none⟩=some f∧(zdH x g G B j o m A H C D E d f i).cell? ⟨g,12,none⟩=some i:=by
 have h:=ybA h G B j o m A H C D E d f i
 exact ⟨zaB h 0,zaB h 1,zaB h 2,zaB h 3,zaB h 4,zaB h 5,zaB h 6,zaB h 7,zaB h 8,zaB h 9,zaB h 10,zaB h 11,zaB h 12⟩
theorem zbY {w x:World} {g B:Nat} (h:Below B w x) (d:B≤g) (p:PZ):Below B w (zdH x g (.string ⟨p.scheme.toArray⟩) (.bool p.hasS) (.string ⟨p.user.toArray⟩) (.bool p.hasU) (.string ⟨p.host.toArray⟩) (.bool p.hasA) (.string ⟨p.port.toArray⟩) (.bool p.hasP) (.string ⟨p.path.toArray⟩) (.string ⟨p.query.toArray⟩) (.bool p.hasQ) (.string ⟨p.frag.toArray⟩) (.bool p.hasF)):=zwM h d ..
theorem zbZ {t:TypeId} {x:World} {g:Nat} {q:PZ} (h:PB t x g q) (p:PZ): ∀y,y=zdH x g (.string ⟨p.scheme.toArray⟩) (.bool p.hasS) (.string ⟨p.user.toArray⟩) (.bool p.hasU) (.string ⟨p.host.toArray⟩) (.bool p.hasA) (.string ⟨p.port.toArray⟩) (.bool p.hasP) (.string ⟨p.path.toArray⟩) (.string ⟨p.query.toArray⟩) (.bool p.hasQ) (.string ⟨p.frag.toArray⟩) (.bool p.hasF)→y.cell? ⟨g,0,none⟩=some (.string ⟨p.scheme.toArray⟩)∧y.cell? ⟨g,1,none⟩=some (.bool p.hasS)∧y.cell? ⟨g,2,none⟩=some (.string ⟨p.user.toArray⟩)∧y.cell? ⟨g,3,none⟩=some (.bool p.hasU)∧y.cell? ⟨g,4,none⟩=some (.string ⟨p.host.toArray⟩)∧y.cell? ⟨g,5,none⟩=some (.bool p.hasA)∧y.cell? ⟨g,6,none⟩=some (.string ⟨p.port.toArray⟩)∧y.cell? ⟨g,7,none⟩=some (.bool p.hasP)∧y.cell? ⟨g,8,none⟩=some (.string ⟨p.path.toArray⟩)∧y.cell? ⟨g,9,none⟩=some (.string ⟨p.query.toArray⟩)∧y.cell? ⟨g,10,none⟩=some (.bool p.hasQ)∧y.cell? ⟨g,11,none⟩=some (.string ⟨p.frag.toArray⟩)∧y.cell? ⟨g,12,none⟩=some (.bool p.hasF):=fun y d=>by
 subst d
 exact zuU h ..
structure ST (t:TypeId) (w x:World) (R P:Nat) (p:PZ):Prop where
 below:Below w.heap.size w x
 row:PB t x P p
 res:PB t x R zbH
 hR:w.heap.size≤R
 hP:w.heap.size≤P
 ne:R≠P
theorem ST.keep {t:TypeId} {w x y:World} {R P:Nat} {p:PZ} (h:ST t w x R P p) (d:Below x.heap.size x y):ST t w y R P p:=
 ⟨zaJ h.below d,h.row.below d,h.res.below d,h.hR,h.hP,h.ne⟩
theorem ST.only {t:TypeId} {w x y:World} {R P:Nat} {p q:PZ} (h:ST t w x R P p) (d:Only [P] x y) (i:PB t y P q):ST t w y R P q:=
 ⟨⟨d.os.trans h.below.os,d.tape.trans h.below.tape,d.output.trans h.below.output,Nat.le_trans h.below.size d.size,fun k f=>(d.block k (Nat.lt_of_lt_of_le f h.below.size) (by have:=h.hP;simp;omega)).trans (h.below.block k f)⟩,i,(d.block R (zaD h.res) (by have:=h.ne;simpa using this)).trans h.res,h.hR,h.hP,h.ne⟩
theorem ST.set {t:TypeId} {w x:World} {R P:Nat} {p:PZ} (h:ST t w x R P p) (i:Nat) (v:Value) {q:PZ} (d:p.cells.setIfInBounds i v=q.cells):ST t w (x.setCell ⟨P,i,none⟩ v) R P q:=by
 refine ⟨h.below.setCell (p:=⟨P,i,none⟩) h.hP _,?_,?_,h.hR,h.hP,h.ne⟩
 ·unfold PB
  rw [←d]
  exact zaK h.row i v
 ·unfold PB
  rw [zaZ h.ne]
  exact h.res
theorem ST.first (t:TypeId) (w:World):ST t w ((w.alloc (.cells zbH.cells t)).alloc (.cells zbH.cells t)) w.heap.size (w.heap.size+1) zbH:=by
 have f:=PB.new t w zbH
 have i:(w.alloc (.cells zbH.cells t)).heap.size=w.heap.size+1:=by simp
 have d:=PB.new t (w.alloc (.cells zbH.cells t)) zbH
 rw [i] at d
 exact ⟨((ylK _ w).alloc (ylH _) _).alloc (by simp) _,d,f.below ((ylK _ _).alloc (ylH _) _),ylH _,by omega,by omega⟩
theorem zxV (p:PZ):p.cells.size=13:=rfl
theorem ST.st {t:TypeId} {w x:World} {R P:Nat} {p:PZ} (h:ST t w x R P p) (i j:Nat) (a:Value) (hi:i<13) (f:j<13): ∃m d,x.cell? ⟨P,i,none⟩=some m∧x.frozen? ⟨P,i,none⟩=false∧(x.setCell ⟨P,i,none⟩ a).cell? ⟨P,j,none⟩=some d∧(x.setCell ⟨P,i,none⟩ a).frozen? ⟨P,j,none⟩=false:=
 ⟨_,_,(zaB h.row i).trans (Array.getElem?_eq_getElem (by rw [zxV];exact hi)),zaF h.row i,(zaB (zaK h.row i a) j).trans (Array.getElem?_eq_getElem (by rw [Array.size_setIfInBounds,zxV];exact f)),zaF (zaK h.row i a) j⟩
theorem zyD (s:List UInt8):(Lib.hasPrefix s [47,47]=true∧zdI s=((zaS (· ==47) (Lib.trimPrefix s [47,47])).2,true,zeO (zaS (· ==47) (Lib.trimPrefix s [47,47])).1))∨(Lib.hasPrefix s [47,47]=false∧Lib.trimPrefix s [47,47]=s∧zdI s=(s,false,(false,[],[],false,[]))):=by
 cases h:Lib.hasPrefix s [47,47] with
 |true=>
  left
  refine ⟨rfl,?_⟩
  have h':=h
  unfold Lib.hasPrefix at h'
  rw [List.isPrefixOf_iff_prefix] at h'
  obtain ⟨r,f⟩:=h'
  have d:s=47::47::r:=f.symm
  have i:Lib.trimPrefix s [47,47]=r:=by unfold Lib.trimPrefix;rw [h,if_pos rfl,d];rfl
  rw [i,d]
  rfl
 |false=>
  right
  refine ⟨rfl,by unfold Lib.trimPrefix;rw [h,if_neg (by decide)],?_⟩
  unfold zdI
  split
  ·unfold Lib.hasPrefix at h
   simp [List.isPrefixOf] at h
  ·rfl
theorem ycG (l:List UInt8) {a:Bool×List UInt8×List UInt8} {f q:List UInt8×Bool×List UInt8} {h:List UInt8×Bool×(Bool×List UInt8×List UInt8×Bool×List UInt8)} (i:zaO l=a) (j:cutA 35 a.2.2=f) (m:cutA 63 f.1=q) (d:zdI q.1=h):
  zbK l=⟨a.2.1,a.1,h.2.2.2.1,h.2.2.1,h.2.2.2.2.1,h.2.1,h.2.2.2.2.2.2,h.2.2.2.2.2.1,h.1,q.2.2,q.2.1,f.2.2,f.2.1⟩:=by
 subst i j m d
 rfl
def RetPZ (w:World) (p:PZ) (e:Ending) (w':World):Prop:=e= .returned (.agg p.cells)∧Below w.heap.size w w'
theorem znX (l:List UInt8):(zaO l).2.2.length≤l.length∧(zaO l).2.1.length≤l.length:=by
 obtain ⟨f,i⟩:=zhY l
 have e:=congrArg List.length f
 cases d:(zaO l).1 with
 |true=>rw [d,if_pos rfl] at e;simp at e;omega
 |false=>rw [d,if_neg (by decide)] at e;rw [i d];simp at e;simp;omega
theorem yaU (l:List UInt8) (w:World) (hl:l.length≤100000) (qM:MaxVar w):
  Calls Tryz.prog 39 #[.string ⟨l.toArray⟩] w (RetPZ w (zbK l)):=by
 have hz:=zaI l
 have D:Hid (∀(x:World) (R P:Nat) (p:PZ),ST 32 w x R P p→MaxVar x):=fun x R P p h=>zaA qM h.below
 have qX:=(znX l).1
 have qA:=ylG (ST.first 32 w)
 have E:=ylG (fun W=>yaB l W (by omega))
 have qU:=z1Q l
 have qs:= @ycG l _ _ _ _ rfl rfl rfl rfl
 have ql:=ylG (fun W (h:MaxVar W)=>zjF 35 (zaO l).2.2 W (by omega) h)
 have qR:=(zfF 35 (zaO l).2.2).1
 have qe:=ylG (fun W (h:MaxVar W)=>zjF 63 (cutA 35 (zaO l).2.2).1 W (by omega) h)
 have qN:=(zfF 63 (cutA 35 (zaO l).2.2).1).1
 have qm:=zyD (cutA 63 (cutA 35 (zaO l).2.2).1).1
 have qb:Hid (∀W,Calls Tryz.prog 92 #[.string ⟨(cutA 63 (cutA 35 (zaO l).2.2).1).1.toArray⟩,.string ⟨#[47,47]⟩] W fun e w'=>e= .returned (.tuple #[.string ⟨(Lib.trimPrefix (cutA 63 (cutA 35 (zaO l).2.2).1).1 [47,47]).toArray⟩,.bool (Lib.hasPrefix (cutA 63 (cutA 35 (zaO l).2.2).1).1 [47,47])])∧W=w'):=fun W=>(Tryz.strings_CutPrefix ⟨(cutA 63 (cutA 35 (zaO l).2.2).1).1.toArray⟩ ⟨#[47,47]⟩ W).mono (fun _ _ h=>⟨h.1,h.2.symm⟩)
 have qP:=zmY (cutA 63 (cutA 35 (zaO l).2.2).1).1 [47,47]
 generalize zbK l=res at*
 generalize qY:zaO l=sc at*
 obtain ⟨a1,a2,a3⟩:=sc
 simp only at ql qe qb qm qs qX qR qN qP
 generalize cutA 35 a3=fx at*
 obtain ⟨f1,f2,f3⟩:=fx
 simp only at qe qb qm qs qR qN qP
 generalize cutA 63 f1=qx at*
 obtain ⟨q1,q2,q3⟩:=qx
 simp only at qb qm qs qN qP
 generalize zdI q1=hx at*
 have qS:(Lib.trimPrefix q1 [47,47]).length≤100000:=by omega
 generalize Lib.trimPrefix q1 [47,47]=tp at*
 generalize Lib.hasPrefix q1 [47,47]=bp at*
 have H:=ylG qs
 have qa:=ylG (fun P p W h1 h2 h3=>zpR P p tp W qS h1 h2 h3)
 obtain ⟨x0,qL⟩: ∃y,y=(w.alloc (.cells zbH.cells 32)).alloc (.cells zbH.cells 32):=⟨_,rfl⟩
 rw [←qL] at qA
 unfold zbH PZ.cells at qL
 clear qM qs
 go_enter Tryz.func39,Tryz.ntmps39
 go_wp2_with fail
 rw [←qL]
 clear qL
 refine (E.out _).mono ?_
 rintro e x1 ⟨rfl,qQ⟩
 have qk:=ylG (qA.out.keep qQ)
 clear qQ qA E
 generalize hR:w.heap.size=R at*
 generalize hP:R+1=P at*
 clear hR hP
 rcases qU with ⟨i,hi,G,hc,M⟩|⟨M,G|⟨i,hi,G,hc⟩⟩
 ·rw [G]
  simp only [Prod.mk.injEq] at M
  obtain ⟨rfl,rfl,rfl⟩:=M
  have hb:(ByteArray.mk l.toArray)[i]'(by rw [hz];exact hi)=58:=hc
  have qV:=zmL l i (by omega)
  have qW:=zmJ l i hi
  have qZ:IntKind.i64.wrap ((i:Int)+1)=(i:Int)+1:=IntWalk.i64_in _ (by omega)
  obtain ⟨v1,v2,c0,g0,c1,g1⟩:=qk.out.st 0 1 (.string ⟨(l.take i).toArray⟩) (by decide) (by decide)
  go_wp2_with fail
  obtain ⟨x2,qO⟩: ∃y,y=(x1.setCell ⟨P,0,none⟩ (.string ⟨(l.take i).toArray⟩)).setCell ⟨P,1,none⟩ (.bool true):=⟨_,rfl⟩
  rw [←qO]
  have C:Hid (ST 32 w x2 R P {zbH with scheme:=l.take i,hasS:=true}):=by rw [qO];exact (qk.out.set 0 _ (q:={zbH with scheme:=l.take i}) rfl).set 1 _ rfl
  clear qk qO c0 g0 c1 g1 hb qV qW hc hi G
  refine (ql.out _ (D.out _ _ _ _ C.out)).mono ?_
  rintro e y1 ⟨rfl,qf⟩
  have X:=ylG (C.out.keep qf)
  obtain ⟨v3,v4,qG,qr,qp,qI⟩:=X.out.st 11 12 (.string ⟨f3.toArray⟩) (by decide) (by decide)
  clear ql C qf
  go_wp2_with fail
  obtain ⟨x3,V⟩: ∃y,y=(y1.setCell ⟨P,11,none⟩ (.string ⟨f3.toArray⟩)).setCell ⟨P,12,none⟩ (.bool f2):=⟨_,rfl⟩
  rw [←V]
  have Y:Hid (ST 32 w x3 R P {zbH with scheme:=(l.take i),hasS:=true,frag:=f3,hasF:=f2}):=by rw [V];exact (X.out.set 11 _ (q:={zbH with scheme:=(l.take i),hasS:=true,frag:=f3}) rfl).set 12 _ rfl
  clear X qG qr qp qI V
  refine (qe.out _ (D.out _ _ _ _ Y.out)).mono ?_
  rintro e y2 ⟨rfl,qd⟩
  have Q:=ylG (Y.out.keep qd)
  obtain ⟨v5,v6,c9,g9,qy,qD⟩:=Q.out.st 9 10 (.string ⟨q3.toArray⟩) (by decide) (by decide)
  clear qe Y qd
  go_wp2_with fail
  obtain ⟨x4,O⟩: ∃y,y=(y2.setCell ⟨P,9,none⟩ (.string ⟨q3.toArray⟩)).setCell ⟨P,10,none⟩ (.bool q2):=⟨_,rfl⟩
  rw [←O]
  have I:Hid (ST 32 w x4 R P {zbH with scheme:=(l.take i),hasS:=true,frag:=f3,hasF:=f2,query:=q3,hasQ:=q2}):=by rw [O];exact (Q.out.set 9 _ (q:={zbH with scheme:=(l.take i),hasS:=true,frag:=f3,hasF:=f2,query:=q3}) rfl).set 10 _ rfl
  clear Q c9 g9 qy qD O
  refine (qb.out _).mono ?_
  rintro e w' ⟨rfl,rfl⟩
  obtain ⟨v7,v8,c5,g5,qw,qz⟩:=I.out.st 5 5 (.bool bp) (by decide) (by decide)
  have o:Hid (ST 32 w (x4.setCell ⟨P,5,none⟩ (.bool bp)) R P {zbH with scheme:=(l.take i),hasS:=true,frag:=f3,hasF:=f2,query:=q3,hasQ:=q2,hasA:=bp}):=I.out.set 5 _ rfl
  have qB:=o.out.row.all.2.2.2.2.2.1
  clear qb I qw qz
  rcases qm with ⟨rfl,B⟩|⟨rfl,qv,B⟩
  ·have E:=B
   clear B
   go_wp2_with fail
   have qg:=D.out _ _ _ _ o.out
   have qj:=o.out.row
   have qh:=ylG o.out
   generalize x4.setCell ⟨P,5,none⟩ (.bool true)=x5 at*
   refine (qa.out P _ x5 qj ⟨rfl,rfl,rfl,rfl⟩ qg).mono ?_
   rintro e y5 ⟨rfl,qc,ho⟩
   have f:=ylG (qh.out.only ho qc)
   clear qa qg qj qh o qc ho c5 g5 qB
   obtain ⟨v1,v2,c8,g8,hh⟩:=f.out.st 8 8 (.string ⟨(zaS (· ==47) tp).2.toArray⟩) (by decide) (by decide)
   clear hh v2
   have d:Hid (ST 32 w (y5.setCell ⟨P,8,none⟩ (.string ⟨(zaS (· ==47) tp).2.toArray⟩)) R P res):=by show ST _ _ _ _ _ _;rw [H.out,E];exact f.out.set 8 _ rfl
   obtain ⟨d0,d1,d2,d3,d4,d5,d6,d7,d8,d9,qn,qC,qK⟩:=d.out.row.all
   obtain ⟨r0,r1,r2,r3,r4,r5,r6,r7,r8,r9,qE,qq,qo⟩:=d.out.res.all
   have rf:=d.out.res.frozen
   have K:=d.out.ne
   have qi:P≠R:=K.symm
   obtain ⟨s0,s1,s2,s3,s4,s5,s6,s7,s8,s9,qH,qF,qJ⟩:=f.out.res.all
   have A:=zbY d.out.below d.out.hR res
   have j:=zbZ d.out.res res _ rfl
   unfold zdH at A j
   have N:=ylG A
   have Z:=ylG j
   clear A j f d H D
   go_wp2
   obtain ⟨e0,e1,e2,e3,e4,e5,e6,e7,e8,e9,U,J,S⟩:=Z.out
   refine bodyPost_ret (v:= .agg res.cells) (by simp [results,Tryz.results39,go_sem,e0,e1,e2,e3,e4,e5,e6,e7,e8,e9,U,J,S,PZ.cells]) rfl ?_
   exact ⟨rfl,N.out⟩
  ·have E:=B
   subst qv
   clear B qa
   have f:=ylG o.out
   clear o
   obtain ⟨v1,v2,c8,g8,hh⟩:=f.out.st 8 8 (.string ⟨tp.toArray⟩) (by decide) (by decide)
   clear hh v2
   have d:Hid (ST 32 w ((x4.setCell ⟨P,5,none⟩ (.bool false)).setCell ⟨P,8,none⟩ (.string ⟨tp.toArray⟩)) R P res):=by show ST _ _ _ _ _ _;rw [H.out,E];exact f.out.set 8 _ rfl
   obtain ⟨d0,d1,d2,d3,d4,d5,d6,d7,d8,d9,qn,qC,qK⟩:=d.out.row.all
   obtain ⟨r0,r1,r2,r3,r4,r5,r6,r7,r8,r9,qE,qq,qo⟩:=d.out.res.all
   have rf:=d.out.res.frozen
   have K:=d.out.ne
   have qi:P≠R:=K.symm
   obtain ⟨s0,s1,s2,s3,s4,s5,s6,s7,s8,s9,qH,qF,qJ⟩:=f.out.res.all
   have A:=zbY d.out.below d.out.hR res
   have j:=zbZ d.out.res res _ rfl
   unfold zdH at A j
   have N:=ylG A
   have Z:=ylG j
   clear A j f d H D
   go_wp2
   obtain ⟨e0,e1,e2,e3,e4,e5,e6,e7,e8,e9,U,J,S⟩:=Z.out
   refine bodyPost_ret (v:= .agg res.cells) (by simp [results,Tryz.results39,go_sem,e0,e1,e2,e3,e4,e5,e6,e7,e8,e9,U,J,S,PZ.cells]) rfl ?_
   exact ⟨rfl,N.out⟩
 ·rw [G]
  simp only [Prod.mk.injEq] at M
  obtain ⟨rfl,rfl,rfl⟩:=M
  have C:Hid (ST 32 w x1 R P {zbH with scheme:=[],hasS:=false}):=qk.out
  clear qk G
  go_wp2_with fail
  refine (ql.out _ (D.out _ _ _ _ C.out)).mono ?_
  rintro e y1 ⟨rfl,qf⟩
  have X:=ylG (C.out.keep qf)
  obtain ⟨v3,v4,qG,qr,qp,qI⟩:=X.out.st 11 12 (.string ⟨f3.toArray⟩) (by decide) (by decide)
  clear ql C qf
  go_wp2_with fail
  obtain ⟨x3,V⟩: ∃y,y=(y1.setCell ⟨P,11,none⟩ (.string ⟨f3.toArray⟩)).setCell ⟨P,12,none⟩ (.bool f2):=⟨_,rfl⟩
  rw [←V]
  have Y:Hid (ST 32 w x3 R P {zbH with scheme:=[],hasS:=false,frag:=f3,hasF:=f2}):=by rw [V];exact (X.out.set 11 _ (q:={zbH with scheme:=[],hasS:=false,frag:=f3}) rfl).set 12 _ rfl
  clear X qG qr qp qI V
  refine (qe.out _ (D.out _ _ _ _ Y.out)).mono ?_
  rintro e y2 ⟨rfl,qd⟩
  have Q:=ylG (Y.out.keep qd)
  obtain ⟨v5,v6,c9,g9,qy,qD⟩:=Q.out.st 9 10 (.string ⟨q3.toArray⟩) (by decide) (by decide)
  clear qe Y qd
  go_wp2_with fail
  obtain ⟨x4,O⟩: ∃y,y=(y2.setCell ⟨P,9,none⟩ (.string ⟨q3.toArray⟩)).setCell ⟨P,10,none⟩ (.bool q2):=⟨_,rfl⟩
  rw [←O]
  have I:Hid (ST 32 w x4 R P {zbH with scheme:=[],hasS:=false,frag:=f3,hasF:=f2,query:=q3,hasQ:=q2}):=by rw [O];exact (Q.out.set 9 _ (q:={zbH with scheme:=[],hasS:=false,frag:=f3,hasF:=f2,query:=q3}) rfl).set 10 _ rfl
  clear Q c9 g9 qy qD O
  refine (qb.out _).mono ?_
  rintro e w' ⟨rfl,rfl⟩
  obtain ⟨v7,v8,c5,g5,qw,qz⟩:=I.out.st 5 5 (.bool bp) (by decide) (by decide)
  have o:Hid (ST 32 w (x4.setCell ⟨P,5,none⟩ (.bool bp)) R P {zbH with scheme:=[],hasS:=false,frag:=f3,hasF:=f2,query:=q3,hasQ:=q2,hasA:=bp}):=I.out.set 5 _ rfl
  have qB:=o.out.row.all.2.2.2.2.2.1
  clear qb I qw qz
  rcases qm with ⟨rfl,B⟩|⟨rfl,qv,B⟩
  ·have E:=B
   clear B
   go_wp2_with fail
   have qg:=D.out _ _ _ _ o.out
   have qj:=o.out.row
   have qh:=ylG o.out
   generalize x4.setCell ⟨P,5,none⟩ (.bool true)=x5 at*
   refine (qa.out P _ x5 qj ⟨rfl,rfl,rfl,rfl⟩ qg).mono ?_
   rintro e y5 ⟨rfl,qc,ho⟩
   have f:=ylG (qh.out.only ho qc)
   clear qa qg qj qh o qc ho c5 g5 qB
   obtain ⟨v1,v2,c8,g8,hh⟩:=f.out.st 8 8 (.string ⟨(zaS (· ==47) tp).2.toArray⟩) (by decide) (by decide)
   clear hh v2
   have d:Hid (ST 32 w (y5.setCell ⟨P,8,none⟩ (.string ⟨(zaS (· ==47) tp).2.toArray⟩)) R P res):=by show ST _ _ _ _ _ _;rw [H.out,E];exact f.out.set 8 _ rfl
   obtain ⟨d0,d1,d2,d3,d4,d5,d6,d7,d8,d9,qn,qC,qK⟩:=d.out.row.all
   obtain ⟨r0,r1,r2,r3,r4,r5,r6,r7,r8,r9,qE,qq,qo⟩:=d.out.res.all
   have rf:=d.out.res.frozen
   have K:=d.out.ne
   have qi:P≠R:=K.symm
   obtain ⟨s0,s1,s2,s3,s4,s5,s6,s7,s8,s9,qH,qF,qJ⟩:=f.out.res.all
   have A:=zbY d.out.below d.out.hR res
   have j:=zbZ d.out.res res _ rfl
   unfold zdH at A j
   have N:=ylG A
   have Z:=ylG j
   clear A j f d H D
   go_wp2
   obtain ⟨e0,e1,e2,e3,e4,e5,e6,e7,e8,e9,U,J,S⟩:=Z.out
   refine bodyPost_ret (v:= .agg res.cells) (by simp [results,Tryz.results39,go_sem,e0,e1,e2,e3,e4,e5,e6,e7,e8,e9,U,J,S,PZ.cells]) rfl ?_
   exact ⟨rfl,N.out⟩
  ·have E:=B
   subst qv
   clear B qa
   have f:=ylG o.out
   clear o
   obtain ⟨v1,v2,c8,g8,hh⟩:=f.out.st 8 8 (.string ⟨tp.toArray⟩) (by decide) (by decide)
   clear hh v2
   have d:Hid (ST 32 w ((x4.setCell ⟨P,5,none⟩ (.bool false)).setCell ⟨P,8,none⟩ (.string ⟨tp.toArray⟩)) R P res):=by show ST _ _ _ _ _ _;rw [H.out,E];exact f.out.set 8 _ rfl
   obtain ⟨d0,d1,d2,d3,d4,d5,d6,d7,d8,d9,qn,qC,qK⟩:=d.out.row.all
   obtain ⟨r0,r1,r2,r3,r4,r5,r6,r7,r8,r9,qE,qq,qo⟩:=d.out.res.all
   have rf:=d.out.res.frozen
   have K:=d.out.ne
   have qi:P≠R:=K.symm
   obtain ⟨s0,s1,s2,s3,s4,s5,s6,s7,s8,s9,qH,qF,qJ⟩:=f.out.res.all
   have A:=zbY d.out.below d.out.hR res
   have j:=zbZ d.out.res res _ rfl
   unfold zdH at A j
   have N:=ylG A
   have Z:=ylG j
   clear A j f d H D
   go_wp2
   obtain ⟨e0,e1,e2,e3,e4,e5,e6,e7,e8,e9,U,J,S⟩:=Z.out
   refine bodyPost_ret (v:= .agg res.cells) (by simp [results,Tryz.results39,go_sem,e0,e1,e2,e3,e4,e5,e6,e7,e8,e9,U,J,S,PZ.cells]) rfl ?_
   exact ⟨rfl,N.out⟩
 ·rw [G]
  simp only [Prod.mk.injEq] at M
  obtain ⟨rfl,rfl,rfl⟩:=M
  have hb:((ByteArray.mk a3.toArray)[i]'(by rw [hz];exact hi)).toNat≠58:=fun e=>hc (UInt8.toNat_inj.1 e)
  obtain ⟨m,hm⟩: ∃m,((ByteArray.mk a3.toArray)[i]'(by rw [hz];exact hi)).toNat=m:=⟨_,rfl⟩
  rw [hm] at hb
  have qT:((m:Int)==58)=false:=beq_eq_false_iff_ne.2 (by omega)
  have C:Hid (ST 32 w x1 R P {zbH with scheme:=[],hasS:=false}):=qk.out
  clear qk G hc
  go_wp2_with fail
  clear hb hm qT
  refine (ql.out _ (D.out _ _ _ _ C.out)).mono ?_
  rintro e y1 ⟨rfl,qf⟩
  have X:=ylG (C.out.keep qf)
  obtain ⟨v3,v4,qG,qr,qp,qI⟩:=X.out.st 11 12 (.string ⟨f3.toArray⟩) (by decide) (by decide)
  clear ql C qf
  go_wp2_with fail
  obtain ⟨x3,V⟩: ∃y,y=(y1.setCell ⟨P,11,none⟩ (.string ⟨f3.toArray⟩)).setCell ⟨P,12,none⟩ (.bool f2):=⟨_,rfl⟩
  rw [←V]
  have Y:Hid (ST 32 w x3 R P {zbH with scheme:=[],hasS:=false,frag:=f3,hasF:=f2}):=by rw [V];exact (X.out.set 11 _ (q:={zbH with scheme:=[],hasS:=false,frag:=f3}) rfl).set 12 _ rfl
  clear X qG qr qp qI V
  refine (qe.out _ (D.out _ _ _ _ Y.out)).mono ?_
  rintro e y2 ⟨rfl,qd⟩
  have Q:=ylG (Y.out.keep qd)
  obtain ⟨v5,v6,c9,g9,qy,qD⟩:=Q.out.st 9 10 (.string ⟨q3.toArray⟩) (by decide) (by decide)
  clear qe Y qd
  go_wp2_with fail
  obtain ⟨x4,O⟩: ∃y,y=(y2.setCell ⟨P,9,none⟩ (.string ⟨q3.toArray⟩)).setCell ⟨P,10,none⟩ (.bool q2):=⟨_,rfl⟩
  rw [←O]
  have I:Hid (ST 32 w x4 R P {zbH with scheme:=[],hasS:=false,frag:=f3,hasF:=f2,query:=q3,hasQ:=q2}):=by rw [O];exact (Q.out.set 9 _ (q:={zbH with scheme:=[],hasS:=false,frag:=f3,hasF:=f2,query:=q3}) rfl).set 10 _ rfl
  clear Q c9 g9 qy qD O
  refine (qb.out _).mono ?_
  rintro e w' ⟨rfl,rfl⟩
  obtain ⟨v7,v8,c5,g5,qw,qz⟩:=I.out.st 5 5 (.bool bp) (by decide) (by decide)
  have o:Hid (ST 32 w (x4.setCell ⟨P,5,none⟩ (.bool bp)) R P {zbH with scheme:=[],hasS:=false,frag:=f3,hasF:=f2,query:=q3,hasQ:=q2,hasA:=bp}):=I.out.set 5 _ rfl
  have qB:=o.out.row.all.2.2.2.2.2.1
  clear qb I qw qz
  rcases qm with ⟨rfl,B⟩|⟨rfl,qv,B⟩
  ·have E:=B
   clear B
   go_wp2_with fail
   have qg:=D.out _ _ _ _ o.out
   have qj:=o.out.row
   have qh:=ylG o.out
   generalize x4.setCell ⟨P,5,none⟩ (.bool true)=x5 at*
   refine (qa.out P _ x5 qj ⟨rfl,rfl,rfl,rfl⟩ qg).mono ?_
   rintro e y5 ⟨rfl,qc,ho⟩
   have f:=ylG (qh.out.only ho qc)
   clear qa qg qj qh o qc ho c5 g5 qB
   obtain ⟨v1,v2,c8,g8,hh⟩:=f.out.st 8 8 (.string ⟨(zaS (· ==47) tp).2.toArray⟩) (by decide) (by decide)
   clear hh v2
   have d:Hid (ST 32 w (y5.setCell ⟨P,8,none⟩ (.string ⟨(zaS (· ==47) tp).2.toArray⟩)) R P res):=by show ST _ _ _ _ _ _;rw [H.out,E];exact f.out.set 8 _ rfl
   obtain ⟨d0,d1,d2,d3,d4,d5,d6,d7,d8,d9,qn,qC,qK⟩:=d.out.row.all
   obtain ⟨r0,r1,r2,r3,r4,r5,r6,r7,r8,r9,qE,qq,qo⟩:=d.out.res.all
   have rf:=d.out.res.frozen
   have K:=d.out.ne
   have qi:P≠R:=K.symm
   obtain ⟨s0,s1,s2,s3,s4,s5,s6,s7,s8,s9,qH,qF,qJ⟩:=f.out.res.all
   have A:=zbY d.out.below d.out.hR res
   have j:=zbZ d.out.res res _ rfl
   unfold zdH at A j
   have N:=ylG A
   have Z:=ylG j
   clear A j f d H D
   go_wp2
   obtain ⟨e0,e1,e2,e3,e4,e5,e6,e7,e8,e9,U,J,S⟩:=Z.out
   refine bodyPost_ret (v:= .agg res.cells) (by simp [results,Tryz.results39,go_sem,e0,e1,e2,e3,e4,e5,e6,e7,e8,e9,U,J,S,PZ.cells]) rfl ?_
   exact ⟨rfl,N.out⟩
  ·have E:=B
   subst qv
   clear B qa
   have f:=ylG o.out
   clear o
   obtain ⟨v1,v2,c8,g8,hh⟩:=f.out.st 8 8 (.string ⟨tp.toArray⟩) (by decide) (by decide)
   clear hh v2
   have d:Hid (ST 32 w ((x4.setCell ⟨P,5,none⟩ (.bool false)).setCell ⟨P,8,none⟩ (.string ⟨tp.toArray⟩)) R P res):=by show ST _ _ _ _ _ _;rw [H.out,E];exact f.out.set 8 _ rfl
   obtain ⟨d0,d1,d2,d3,d4,d5,d6,d7,d8,d9,qn,qC,qK⟩:=d.out.row.all
   obtain ⟨r0,r1,r2,r3,r4,r5,r6,r7,r8,r9,qE,qq,qo⟩:=d.out.res.all
   have rf:=d.out.res.frozen
   have K:=d.out.ne
   have qi:P≠R:=K.symm
   obtain ⟨s0,s1,s2,s3,s4,s5,s6,s7,s8,s9,qH,qF,qJ⟩:=f.out.res.all
   have A:=zbY d.out.below d.out.hR res
   have j:=zbZ d.out.res res _ rfl
   unfold zdH at A j
   have N:=ylG A
   have Z:=ylG j
   clear A j f d H D
   go_wp2
   obtain ⟨e0,e1,e2,e3,e4,e5,e6,e7,e8,e9,U,J,S⟩:=Z.out
   refine bodyPost_ret (v:= .agg res.cells) (by simp [results,Tryz.results39,go_sem,e0,e1,e2,e3,e4,e5,e6,e7,e8,e9,U,J,S,PZ.cells]) rfl ?_
   exact ⟨rfl,N.out⟩
theorem zuA (a:List UInt8):(zdW a).1.length≤a.length∧(zdW a).2.2.length≤a.length:=by
 rcases zoS a with ⟨i,hi,_,_,e⟩|⟨_,e⟩
 ·rw [e];simp only [List.length_take,List.length_drop];omega
 ·rw [e];simp
theorem z8A (a:List UInt8):(zeO a).2.1.length≤a.length∧(zeO a).2.2.1.length≤a.length∧(zeO a).2.2.2.2.length≤a.length:=by
 obtain ⟨f,i⟩:=zfF 64 a
 cases d:cutA 64 a with
 |mk u x=>
  obtain ⟨b,r⟩:=x
  rw [d] at f i
  simp only at f i
  cases b with
  |true=>
   rw [ztN d]
   have:=zuA r
   simp only
   omega
  |false=>
   rw [zyP d]
   have:=zuA a
   simp only [List.length_nil]
   omega
theorem z8D (s:List UInt8):(zdI s).1.length≤s.length∧(zdI s).2.2.2.1.length≤s.length∧(zdI s).2.2.2.2.1.length≤s.length∧(zdI s).2.2.2.2.2.2.length≤s.length:=by
 rcases zyD s with ⟨_,e⟩|⟨_,_,e⟩
 ·rw [e]
  have f:=zmY s [47,47]
  have d:=congrArg List.length (zdM (· ==47) (Lib.trimPrefix s [47,47]))
  rw [List.length_append] at d
  have i:=z8A (zaS (· ==47) (Lib.trimPrefix s [47,47])).1
  simp only
  omega
 ·rw [e];simp
theorem zsH (l:List UInt8):(zbK l).Few l.length:=by
 have f:=znX l
 have i:=zfF 35 (zaO l).2.2
 have j:=zfF 63 (cutA 35 (zaO l).2.2).1
 have d:=z8D (cutA 63 (cutA 35 (zaO l).2.2).1).1
 unfold PZ.Few zbK
 simp only
 omega
theorem PZ.Few.mono {p:PZ} {n m:Nat} (h:p.Few n) (d:n≤m):p.Few m:=by
 unfold PZ.Few at*
 omega
theorem ST.alloc {t:TypeId} {w x:World} {R:Nat} {p:PZ} (d:Below w.heap.size w x) (f:PB t x R zbH) (hR:w.heap.size≤R):ST t w (x.alloc (.cells p.cells t)) R x.heap.size p:=
 ⟨d.alloc d.size _,PB.new t x p,f.below ((ylK _ _).alloc (ylH _) _),hR,d.size,fun e=>by have:=zaD f;omega⟩
def zgU (w:World) (x:PZ×Int) (e:Ending) (w':World):Prop:=e= .returned (.tuple #[.agg x.1.cells,.int .i64 x.2])∧Below w.heap.size w w'
theorem zvL (l:List UInt8) (w:World) (Q:MaxVar w) (qa:Lib.Utf8Tabs 1 2 w):
  Calls Tryz.prog 10 #[.string ⟨l.toArray⟩] w (zgU w (zdK sixB l)):=by
 have hz:=zaI l
 have qd:=PB.new 32 w zbH
 have X:Below w.heap.size w (w.alloc (.cells zbH.cells 32)):=(ylK _ w).alloc (ylH _) _
 by_cases qg:4096<l.length
 ·have HF:Hid (zdK sixB l=(zbH,3)):=by show _=_;unfold zdK;rw [if_pos qg]
  obtain ⟨x0,K⟩: ∃y,y=w.alloc (.cells zbH.cells 32):=⟨_,rfl⟩
  rw [←K] at qd X
  dsimp only [zbH,PZ.cells] at K
  have N:=ylG qd
  have qc:=ylG X
  generalize hW:w.heap.size=R at*
  clear qd X Q qa
  go_enter Tryz.func10,Tryz.ntmps10
  go_upto_region 2 with fail
  rw [←K]
  clear K
  obtain ⟨r0,r1,r2,r3,r4,r5,r6,r7,r8,r9,S,Y,V⟩:=N.out.all
  have rf:=N.out.frozen
  have i:=zbY qc.out (ylH _) zbH
  have f:=zbZ N.out zbH _ rfl
  unfold zdH at i f
  have j:=ylG i
  have o:=ylG f
  dsimp only [zbH,PZ.cells] at r0 r1 r2 r3 r4 r5 r6 r7 r8 r9 S Y V j o
  clear i f
  go_wp2
  obtain ⟨e0,e1,e2,e3,e4,e5,e6,e7,e8,e9,E,C,D⟩:=o.out
  refine bodyPost_ret (v:= .tuple #[.agg zbH.cells,.int .i64 3]) (by simp [results,Tryz.results10,go_sem,e0,e1,e2,e3,e4,e5,e6,e7,e8,e9,E,C,D,zbH,PZ.cells]) rfl ?_
  unfold zgU
  rw [HF.out,hW]
  exact ⟨rfl,j.out⟩
 have hl:l.length≤100000:=by omega
 have qj:=(zsH l).mono (m:=100000) hl
 have qe:=ylG (fun y (hy:Below w.heap.size w y)=>(And.intro (zaA Q hy) (zeU qa hy):MaxVar y∧Lib.Utf8Tabs 1 2 y))
 have HC:=ylG (yaU l (w.alloc (.cells zbH.cells 32)) hl (zaA Q X))
 have ql:=zvI sixB l
 have H:Hid (zdK sixB l=if (zbK l).hasS&& !zcZ (zbK l).scheme then (zbH,5) else if ziP sixB (zbK l) then (zbK l,0) else (zbH,11)):=by
  show _=_
  rw [←ql]
  unfold zdK
  rw [if_neg qg]
 generalize zbK l=p at*
 have qi:=ylG (fun W=>zrU p.scheme W (by have:=qj.1;omega))
 have qf:=ylG (fun W (h:MaxVar W∧Lib.Utf8Tabs 1 2 W)=>zwL p W qj h.1 h.2)
 generalize zdK sixB l=res at*
 generalize zcZ p.scheme=qo at*
 generalize ziP sixB p=qn at*
 have N:=ylG qd
 have qc:=ylG X
 have qh:(w.alloc (.cells zbH.cells 32)).heap.size=w.heap.size+1:=by simp
 obtain ⟨x0,K⟩: ∃y,y=w.alloc (.cells zbH.cells 32):=⟨_,rfl⟩
 rw [←K] at N qc HC qh
 dsimp only [zbH,PZ.cells] at K
 clear qd X Q qa ql qj
 go_enter Tryz.func10,Tryz.ntmps10
 go_wp2_with fail
 rw [←K]
 clear K
 refine HC.out.mono ?_
 rintro e x1 ⟨rfl,qk⟩
 have B:Hid (ST 32 w (x1.alloc (.cells p.cells 32)) w.heap.size x1.heap.size p):=ST.alloc (zaJ qc.out qk) (N.out.below qk) (ylH _)
 clear HC N qc qk qh
 obtain ⟨d0,U,d2,d3,d4,d5,d6,d7,d8,d9,G,I,J⟩:=B.out.row.all
 unfold PZ.cells at d0 U d2 d3 d4 d5 d6 d7 d8 d9 G I J
 obtain ⟨x2,Z⟩: ∃y,y=x1.alloc (.cells p.cells 32):=⟨_,rfl⟩
 rw [←Z] at B
 unfold PZ.cells at Z ⊢
 generalize O:p.hasS=bs at*
 cases bs with
 |false=>
  clear qi
  go_wp2_with fail
  rw [←Z]
  clear Z d0 U d2 d3 d4 d5 d6 d7 d8 d9 G I J
  have A:=ylG (qf.out _ (qe.out _ B.out.below))
  unfold PZ.cells at A
  rw [O] at A
  refine A.out.mono ?_
  rintro e y2 ⟨rfl,qb⟩
  have d:=ylG (B.out.keep qb)
  clear B qb qf qe A
  cases qn with
  |false=>
   have HF:Hid (res=(zbH,11)):=H.out
   clear H
   obtain ⟨d0,U,d2,d3,d4,d5,d6,d7,d8,d9,G,I,J⟩:=d.out.row.all
   obtain ⟨r0,r1,r2,r3,r4,r5,r6,r7,r8,r9,S,Y,V⟩:=d.out.res.all
   have rf:=d.out.res.frozen
   have i:=zbY d.out.below d.out.hR zbH
   have f:=zbZ d.out.res zbH _ rfl
   unfold zdH at i f
   have j:=ylG i
   have o:=ylG f
   clear i f d
   dsimp only [zbH] at j o
   go_wp2
   obtain ⟨e0,e1,e2,e3,e4,e5,e6,e7,e8,e9,E,C,D⟩:=o.out
   refine bodyPost_ret (v:= .tuple #[.agg (PZ.cells zbH),.int .i64 11]) (by simp [results,Tryz.results10,go_sem,e0,e1,e2,e3,e4,e5,e6,e7,e8,e9,E,C,D,zbH,PZ.cells]) rfl ?_
   unfold zgU
   rw [HF.out]
   exact ⟨rfl,j.out⟩
  |true=>
   have HF:Hid (res=(p,0)):=H.out
   clear H
   obtain ⟨d0,U,d2,d3,d4,d5,d6,d7,d8,d9,G,I,J⟩:=d.out.row.all
   obtain ⟨r0,r1,r2,r3,r4,r5,r6,r7,r8,r9,S,Y,V⟩:=d.out.res.all
   have rf:=d.out.res.frozen
   have i:=zbY d.out.below d.out.hR p
   have f:=zbZ d.out.res p _ rfl
   unfold zdH at i f
   have j:=ylG i
   have o:=ylG f
   clear i f d
   rw [O] at U j o
   go_wp2
   obtain ⟨e0,e1,e2,e3,e4,e5,e6,e7,e8,e9,E,C,D⟩:=o.out
   refine bodyPost_ret (v:= .tuple #[.agg (PZ.cells p),.int .i64 0]) (by simp [results,Tryz.results10,go_sem,e0,e1,e2,e3,e4,e5,e6,e7,e8,e9,E,C,D,O,PZ.cells]) rfl ?_
   unfold zgU
   rw [HF.out]
   exact ⟨rfl,j.out⟩
 |true=>
  go_wp2_with fail
  rw [←Z]
  clear Z d0 U d2 d3 d4 d5 d6 d7 d8 d9 G I J
  refine (qi.out _).mono ?_
  rintro e y1 ⟨rfl,qm⟩
  have M:=ylG (B.out.keep qm)
  clear B qm qi
  cases qo with
  |false=>
   have HF:Hid (res=(zbH,5)):=H.out
   clear H qe qf
   obtain ⟨d0,U,d2,d3,d4,d5,d6,d7,d8,d9,G,I,J⟩:=M.out.row.all
   obtain ⟨r0,r1,r2,r3,r4,r5,r6,r7,r8,r9,S,Y,V⟩:=M.out.res.all
   have rf:=M.out.res.frozen
   have i:=zbY M.out.below M.out.hR zbH
   have f:=zbZ M.out.res zbH _ rfl
   unfold zdH at i f
   have j:=ylG i
   have o:=ylG f
   clear i f M
   dsimp only [zbH] at j o
   go_wp2
   obtain ⟨e0,e1,e2,e3,e4,e5,e6,e7,e8,e9,E,C,D⟩:=o.out
   refine bodyPost_ret (v:= .tuple #[.agg (PZ.cells zbH),.int .i64 5]) (by simp [results,Tryz.results10,go_sem,e0,e1,e2,e3,e4,e5,e6,e7,e8,e9,E,C,D,zbH,PZ.cells]) rfl ?_
   unfold zgU
   rw [HF.out]
   exact ⟨rfl,j.out⟩
  |true=>
   have B:=ylG M.out
   clear M
   obtain ⟨d0,U,d2,d3,d4,d5,d6,d7,d8,d9,G,I,J⟩:=B.out.row.all
   rw [O] at U
   go_wp2_with fail
   clear d0 U d2 d3 d4 d5 d6 d7 d8 d9 G I J
   have A:=ylG (qf.out _ (qe.out _ B.out.below))
   unfold PZ.cells at A
   rw [O] at A
   refine A.out.mono ?_
   rintro e y2 ⟨rfl,qb⟩
   have d:=ylG (B.out.keep qb)
   clear B qb qf qe A
   cases qn with
   |false=>
    have HF:Hid (res=(zbH,11)):=H.out
    clear H
    obtain ⟨d0,U,d2,d3,d4,d5,d6,d7,d8,d9,G,I,J⟩:=d.out.row.all
    obtain ⟨r0,r1,r2,r3,r4,r5,r6,r7,r8,r9,S,Y,V⟩:=d.out.res.all
    have rf:=d.out.res.frozen
    have i:=zbY d.out.below d.out.hR zbH
    have f:=zbZ d.out.res zbH _ rfl
    unfold zdH at i f
    have j:=ylG i
    have o:=ylG f
    clear i f d
    dsimp only [zbH] at j o
    go_wp2
    obtain ⟨e0,e1,e2,e3,e4,e5,e6,e7,e8,e9,E,C,D⟩:=o.out
    refine bodyPost_ret (v:= .tuple #[.agg (PZ.cells zbH),.int .i64 11]) (by simp [results,Tryz.results10,go_sem,e0,e1,e2,e3,e4,e5,e6,e7,e8,e9,E,C,D,zbH,PZ.cells]) rfl ?_
    unfold zgU
    rw [HF.out]
    exact ⟨rfl,j.out⟩
   |true=>
    have HF:Hid (res=(p,0)):=H.out
    clear H
    obtain ⟨d0,U,d2,d3,d4,d5,d6,d7,d8,d9,G,I,J⟩:=d.out.row.all
    obtain ⟨r0,r1,r2,r3,r4,r5,r6,r7,r8,r9,S,Y,V⟩:=d.out.res.all
    have rf:=d.out.res.frozen
    have i:=zbY d.out.below d.out.hR p
    have f:=zbZ d.out.res p _ rfl
    unfold zdH at i f
    have j:=ylG i
    have o:=ylG f
    clear i f d
    rw [O] at U j o
    go_wp2
    obtain ⟨e0,e1,e2,e3,e4,e5,e6,e7,e8,e9,E,C,D⟩:=o.out
    refine bodyPost_ret (v:= .tuple #[.agg (PZ.cells p),.int .i64 0]) (by simp [results,Tryz.results10,go_sem,e0,e1,e2,e3,e4,e5,e6,e7,e8,e9,E,C,D,O,PZ.cells]) rfl ?_
    unfold zgU
    rw [HF.out]
    exact ⟨rfl,j.out⟩
end
end Go.Proofs.YtegmcmgndllmaaaGreatDoor
