/-
  What the law WhatwgClean leans on, and its walk (27 of 31).
-/
import Derived.Test.YthacmlahnpdeeaaGreatDoorWhatwgCleanPkI
import Derived.Test.YthacmlahnpdeeaaGreatDoorWhatwgCleanPka
import Derived.Test.YthacmlahnpdeeaaGreatDoorWhatwgCleanPkJ
import Derived.Test.YthacmlahnpdeeaaGreatDoorWhatwgCleanPkN
namespace Go.Proofs.YthacmlahnpdeeaaGreatDoor
set_option maxRecDepth 100000
set_option maxHeartbeats 16000000
section
open Go.RowKit
theorem zzH (w:World) (hbru:BruTab w) (hmax:MaxVar w):
  Calls Tryz.prog 203 #[] w fun e w'=>e= .returned (.bool true)∧Below w.heap.size w w':=by
 go_enter Tryz.func203,Tryz.ntmps203
 go_wp2_with fail
 refine (zvD _ hbru hmax).mono ?_
 rintro e w' ⟨rfl,hb⟩
 go_wp2
 go_ret
 exact ⟨rfl,hb⟩
theorem ex11_a:zbR [69,88,65,77,80,76,69,46,99,111,109,46]=([101,120,97,109,112,108,101,46,99,111,109,46],0):=by decide+kernel
theorem ex11_b:zbR [97,46,46,98]=([],6):=by decide+kernel
theorem ex11_c:zbR [88,78,45,45,97,46,98]=([],7):=by decide+kernel
theorem zvH (w:World) (hbru:BruTab w) (hmax:MaxVar w):
  Calls Tryz.prog 185 #[] w fun e w'=>e= .returned (.bool true)∧Below w.heap.size w w':=by
 have HT:=Lib.hid hbru
 have HX:=Lib.hid hmax
 clear hbru hmax
 go_enter Tryz.func185,Tryz.ntmps185
 go_wp2_with fail
 refine (ziN ⟨#[69,88,65,77,80,76,69,46,99,111,109,46]⟩ _ (by decide)).mono ?_
 rw [ex11_a]
 rintro e w1 ⟨rfl,hb1⟩
 go_wp2_with fail
 refine (ziN ⟨#[97,46,46,98]⟩ _ (by decide)).mono ?_
 rw [ex11_b]
 rintro e w2 ⟨rfl,hb2⟩
 have hc2:=zaA hb1 hb2
 clear hb1 hb2
 go_wp2_with fail
 refine (ziN ⟨#[88,78,45,45,97,46,98]⟩ _ (by decide)).mono ?_
 rw [ex11_c]
 rintro e w3 ⟨rfl,hb3⟩
 have hc3:=zaA hc2 hb3
 clear hc2 hb3
 go_wp2_with fail
 refine (zzH _ (zaL HT.out hc3) (zaB HX.out hc3)).mono ?_
 rintro e w4 ⟨rfl,hb4⟩
 have hc4:=zaA hc3 hb4
 clear hc3 hb4
 go_wp2
 go_ret
 exact ⟨rfl,hc4⟩
theorem zyY (w:World) (hbru:BruTab w) (hmax:MaxVar w):
  Calls Tryz.prog 153 #[] w fun e w'=>e= .returned (.bool true)∧Below w.heap.size w w':=by
 go_enter Tryz.func153,Tryz.ntmps153
 go_wp2_with fail
 refine (zvH _ hbru hmax).mono ?_
 rintro e w' ⟨rfl,hb⟩
 go_wp2
 go_ret
 exact ⟨rfl,hb⟩
end

section
open Go.RowKit
theorem z1J (x y:HZ) (h:x≠ .none): ∀(p q:Operand) (W:World),(eqGuard .eql 24 p q x.val y.val).run Tryz.prog W= .ok () W:=by
 intro p q W
 match x,y,h with
 | .name _,.none,_=>rfl
 | .name _,.name _,_=>rfl
 | .name _,.addr (.four _),_=>rfl
 | .name _,.addr (.six _ _),_=>rfl
 | .addr (.four _),.none,_=>rfl
 | .addr (.four _),.name _,_=>rfl
 | .addr (.four _),.addr (.four _),_=>rfl
 | .addr (.four _),.addr (.six _ _),_=>rfl
 | .addr (.six _ _),.none,_=>rfl
 | .addr (.six _ _),.name _,_=>rfl
 | .addr (.six _ _),.addr (.four _),_=>rfl
 | .addr (.six _ _),.addr (.six _ _),_=>rfl
theorem sameN (s:ByteArray) (W:World):(Op.equal 24 (.iface 83 (.string s)) (.iface 83 (.string s))).run Tryz.prog W= .ok (s==s) W:=by kernel_rfl
theorem same4 (n:Int) (W:World):(Op.equal 24 (.iface 117 (.int .u32 n)) (.iface 117 (.int .u32 n))).run Tryz.prog W= .ok (n==n) W:=by kernel_rfl
theorem same6' (u v:Value) (W:World):(Op.equal 24 (.iface 120 u) (.iface 120 v)).run Tryz.prog W=(Op.equalIn 9999 120 u v).run Tryz.prog W:=by kernel_rfl
theorem same6 (h l:Int) (W:World):(Op.equal 24 (.iface 120 (.agg #[.int .u64 h,.int .u64 l])) (.iface 120 (.agg #[.int .u64 h,.int .u64 l]))).run Tryz.prog W= .ok true W:=by
 rw [same6',run_equalIn_struct W 9998 120 _ _ (by kernel_rfl) (by kernel_rfl)]
 simp [Program.fieldsOf,Tryz.underlying120,Op.eqFields,go_sem,part,Tryz.sizeOf31,Tryz.isAgg31,Tryz.underlying31]
/-- a host is the same as itself -/
theorem zoD (x:HZ) (h:x≠ .none): ∀W:World,(binOp .eql 24 x.val x.val).run Tryz.prog W= .ok (.bool true) W:=by
 intro W
 match x,h with
 | .name l,_=>
  show ((Op.equal _ _ _>>=fun b=>pure (Value.bool b)):Sem Value).run _ _=_
  rw [Sem.run_bind,HZ.val,sameN,show ((ByteArray.mk l.toArray)==(ByteArray.mk l.toArray))=true by show (l.toArray==l.toArray)=true;simp]
  rfl
 | .addr (.four n),_=>
  show ((Op.equal _ _ _>>=fun b=>pure (Value.bool b)):Sem Value).run _ _=_
  rw [Sem.run_bind,HZ.val,AZ.val,same4]
  simp
 | .addr (.six hi lo),_=>
  show ((Op.equal _ _ _>>=fun b=>pure (Value.bool b)):Sem Value).run _ _=_
  rw [Sem.run_bind,HZ.val,AZ.val,same6]
  rfl
theorem ex12_a:zcR [48,88,55,70,46,49]=(.addr (.four 2130706433),0):=by
 have h:zcR [48,88,55,70,46,49]=zfO (zbR (decB [48,88,55,70,46,49])):=rfl
 rw [h,show zbR (decB [48,88,55,70,46,49])=([48,120,55,102,46,49],0) by decide+kernel,zsB (b:=true) (x:=2130706433) (by decide+kernel) (by decide+kernel)]
 rfl
theorem ex12_b:zcR [37,51,49,37,51,50,37,51,55,46,48,46,48,46,49]=(.addr (.four 2130706433),0):=by
 have h:zcR [37,51,49,37,51,50,37,51,55,46,48,46,48,46,49]=zfO (zbR (decB [37,51,49,37,51,50,37,51,55,46,48,46,48,46,49])):=rfl
 rw [h,show zbR (decB [37,51,49,37,51,50,37,51,55,46,48,46,48,46,49])=([49,50,55,46,48,46,48,46,49],0) by decide+kernel,zsB (b:=true) (x:=2130706433) (by decide+kernel) (by decide+kernel)]
 rfl
theorem ex12_c:zcR [91,58,58,49,93]=(.addr (.six 0 1),0):=by
 have h:zcR [91,58,58,49,93]=zkM [58,58,49,93]:=rfl
 rw [h,zwH (hi:=0) (lo:=1) (by decide) (by decide+kernel)]
theorem ex12_d:zcR [49,46,50,46,51,46,52,46,53]=(.none,6):=by
 have h:zcR [49,46,50,46,51,46,52,46,53]=zfO (zbR (decB [49,46,50,46,51,46,52,46,53])):=rfl
 rw [h,show zbR (decB [49,46,50,46,51,46,52,46,53])=([49,46,50,46,51,46,52,46,53],0) by decide+kernel,zsB (b:=false) (x:=0) (by decide+kernel) (by decide+kernel)]
 rfl
theorem zxK (w:World) (hbru:BruTab w) (hmax:MaxVar w):
  Calls Tryz.prog 102 #[] w fun e w'=>e= .returned (.bool true)∧Below w.heap.size w w':=by
 have HT:=Lib.hid hbru
 have HX:=Lib.hid hmax
 clear hbru hmax
 have HO:Hid (∀W,Calls Tryz.prog 154 #[.int .u8 127,.int .u8 0,.int .u8 0,.int .u8 1] W fun e w'=>e= .returned (.int .u32 2130706433)∧W=w'):=fun W=>znK 127 0 0 1 W (by decide) (by decide) (by decide) (by decide)
 have hg4:=z1J (.addr (.four 2130706433)) (.addr (.four 2130706433)) (by simp)
 have hg6:=z1J (.addr (.six 0 1)) (.addr (.six 0 1)) (by simp)
 have he4:=zoD (.addr (.four 2130706433)) (by simp)
 have he6:=zoD (.addr (.six 0 1)) (by simp)
 simp only [HZ.val,AZ.val] at hg4 hg6 he4 he6
 go_enter Tryz.func102,Tryz.ntmps102
 go_wp2_with fail
 refine (zdD ⟨#[48,88,55,70,46,49]⟩ _ (by decide) HX.out).mono ?_
 rw [ex12_a]
 rintro e w1 ⟨rfl,hb1⟩
 simp only [HZ.val,AZ.val]
 go_wp2_with fail
 refine (zdD ⟨#[37,51,49,37,51,50,37,51,55,46,48,46,48,46,49]⟩ _ (by decide) (zaB HX.out hb1)).mono ?_
 rw [ex12_b]
 rintro e w2 ⟨rfl,hb2⟩
 simp only [HZ.val,AZ.val]
 have hc2:=zaF hb1 hb2
 clear hb1 hb2
 go_wp2_with fail
 refine (zdD ⟨#[91,58,58,49,93]⟩ _ (by decide) (zaB HX.out hc2)).mono ?_
 rw [ex12_c]
 rintro e w3 ⟨rfl,hb3⟩
 simp only [HZ.val,AZ.val]
 have hc3:=zaF hc2 hb3
 clear hc2 hb3
 go_wp2_with fail
 refine (zdD ⟨#[49,46,50,46,51,46,52,46,53]⟩ _ (by decide) (zaB HX.out hc3)).mono ?_
 rw [ex12_d]
 rintro e w4 ⟨rfl,hb4⟩
 simp only [HZ.val]
 have hc4:=zaF hc3 hb4
 clear hc3 hb4
 go_wp2_with fail
 refine (zyY _ (zaL HT.out hc4) (zaB HX.out hc4)).mono ?_
 rintro e w5 ⟨rfl,hb5⟩
 have hc5:=zaF hc4 hb5
 clear hc4 hb5
 go_wp2_with (go_at_call 154;refine (HO.out _).mono ?_;rintro e w' ⟨rfl,rfl⟩)
 go_ret
 exact ⟨rfl,hc5⟩
end

section
open Go.RowKit
theorem ydS:zcR [97,46,98]=(.name [97,46,98],0):=by
 have h:zcR [97,46,98]=zfO (zbR (decB [97,46,98])):=rfl
 rw [h,show zbR (decB [97,46,98])=([97,46,98],0) by decide+kernel,zrU (by decide+kernel)]
theorem yjM:zcR [65,46,98]=(.name [97,46,98],0):=by
 have h:zcR [65,46,98]=zfO (zbR (decB [65,46,98])):=rfl
 rw [h,show zbR (decB [65,46,98])=([97,46,98],0) by decide+kernel,zrU (by decide+kernel)]
theorem ex14_e:zcR [101]=(.name [101],0):=by
 have h:zcR [101]=zfO (zbR (decB [101])):=rfl
 rw [h,show zbR (decB [101])=([101],0) by decide+kernel,zrU (by decide+kernel)]
/-- an authority,part by part -/
theorem zsL {name l a rest hs ps:List UInt8} {h:HZ} {p:Int} (h1:l.take (l.findIdx (hasB [47,92,63,35]))=a) (h2:l.drop (l.findIdx (hasB [47,92,63,35]))=rest) (h3:hpW false (zdO a)=(hs,ps)) (h0:hs≠[]) (h4:zcR hs=(h,0)) (h5:zlY ps=p) (h6:p≠ -2):
  zfH name l=(zeM {zdM with scheme:=name,user:=zqB a,pass:=zpQ a,host:=h,port:=if p=ownZ name then -1 else p} [] (offW rest),0):=by
 unfold zfH
 simp only [h1,h2,h3,h4,h5]
 rw [if_neg h0,if_neg (by simp),if_neg h6]
theorem z1Q (y:List UInt8):schW (104::116::116::112::58::y)=some (zdZ,y):=by
 have e:(104::116::116::112::58::y).findIdx (fun c=> !schC c)=4:=by
  simp only [List.findIdx_cons,show schC 104=true by decide,show schC 116=true by decide,show schC 112=true by decide,show schC 58=false by decide]
  rfl
 unfold schW
 rw [e]
 exact if_pos ⟨show zdH 104=true by decide,rfl⟩
theorem z1P (y:List UInt8):schW (72::84::84::80::58::y)=some (zdZ,y):=by
 have e:(72::84::84::80::58::y).findIdx (fun c=> !schC c)=4:=by
  simp only [List.findIdx_cons,show schC 72=true by decide,show schC 84=true by decide,show schC 80=true by decide,show schC 58=false by decide]
  rfl
 unfold schW
 rw [e]
 refine (if_pos ⟨show zdH 72=true by decide,rfl⟩).trans ?_
 rw [show zbF ((72::84::84::80::58::y).take 4)=zdZ from (by show zbF [72,84,84,80]=zdZ;decide)]
 rfl
theorem z5X {s:List UInt8} {d:UInt8} (h:zcK (s++[d])=s++[d]):zbN d=false:=by
 cases e:zbN d with
 |false=>rfl
 |true=>
  have h1:=zkS (x:=[]) (l:=s) (y:=[d]) (fun _ h=>by cases h) (fun c hc=>by rw [List.mem_singleton.1 hc];exact e)
  rw [List.nil_append,h] at h1
  have h2:=ziY s
  have h3:=(List.dropWhile_suffix (l:=s) zbN).length_le
  rw [←h1,List.length_append,List.length_singleton] at h2
  omega
theorem zzR {rest:List UInt8} (ht:zcK (104::116::116::112::58::47::47::rest)=104::116::116::112::58::47::47::rest):
  zjR (zcZ (zcK (72::84::84::80::58::92::47::92::rest))) none=zjR (zcZ (zcK (104::116::116::112::58::47::47::rest))) none:=by
 have h2:zcK (72::84::84::80::58::92::47::92::rest)=72::84::84::80::58::92::47::92::rest:=by
  rcases List.eq_nil_or_concat rest with rfl|⟨s,d,rfl⟩
  ·decide+kernel
  ·rw [List.concat_eq_append] at ht ⊢
   exact zsX (c:=72) (d:=d) (s:=72::84::84::80::58::92::47::92::s) rfl rfl (by decide) (z5X (s:=104::116::116::112::58::47::47::s) ht)
 rw [h2,ht,show zcZ (72::84::84::80::58::92::47::92::rest)=72::84::84::80::58::92::47::92::zcZ rest from zlE [72,84,84,80,58,92,47,92] rest,
  show zcZ (104::116::116::112::58::47::47::rest)=104::116::116::112::58::47::47::zcZ rest from zlE [104,116,116,112,58,47,47] rest]
 unfold zjR
 rw [z1P,z1Q]
 rfl
/-- the chapter's examples -/
def zzO:UZ:=⟨zdZ,[],[],.name [97,46,98],-1,[[121]],[113],true,[102],true⟩
def yfC:UZ:=⟨zdZ,[],[],.name [97,46,98],-1,[[99],[100]],[],false,[],false⟩
def zwE:UZ:=⟨zdZ,[],[],.name [97,46,98],-1,[[101]],[],false,[],false⟩
def zwX:UZ:=⟨zdY,[],[],.name [101],-1,[[]],[],false,[],false⟩
theorem ex14_1:zbT [72,84,84,80,58,92,92,65,46,98,58,48,56,48,47,120,47,46,46,47,37,50,69,47,121,63,113,35,102] none=(zzO,0):=by
 unfold zbT
 rw [if_neg (by decide),show zcZ (zcK [72,84,84,80,58,92,92,65,46,98,58,48,56,48,47,120,47,46,46,47,37,50,69,47,121,63,113,35,102])=[72,84,84,80,58,92,92,65,46,98,58,48,56,48,47,120,47,46,46,47,37,50,69,47,121,63,113,35,102] by decide+kernel]
 unfold zjR
 rw [z1P]
 refine (if_pos (.inl rfl)).trans ?_
 rw [show zeA [92,92,65,46,98,58,48,56,48,47,120,47,46,46,47,37,50,69,47,121,63,113,35,102]=[65,46,98,58,48,56,48,47,120,47,46,46,47,37,50,69,47,121,63,113,35,102] by decide+kernel,
  zsL (a:=[65,46,98,58,48,56,48]) (rest:=[47,120,47,46,46,47,37,50,69,47,121,63,113,35,102]) (hs:=[65,46,98]) (ps:=[48,56,48]) (p:=80) (by decide+kernel) (by decide+kernel) (by decide+kernel) (by simp) yjM (by decide+kernel) (by decide)]
 exact congrArg (·,(0:Int)) (by kernel_rfl)
theorem yiN:zbT [104,116,116,112,58,47,47,97,46,98,47,99,47,100] none=(yfC,0):=by
 unfold zbT
 rw [if_neg (by decide),show zcZ (zcK [104,116,116,112,58,47,47,97,46,98,47,99,47,100])=[104,116,116,112,58,47,47,97,46,98,47,99,47,100] by decide+kernel]
 unfold zjR
 rw [z1Q]
 refine (if_pos (.inl rfl)).trans ?_
 rw [show zeA [47,47,97,46,98,47,99,47,100]=[97,46,98,47,99,47,100] by decide+kernel,
  zsL (a:=[97,46,98]) (rest:=[47,99,47,100]) (hs:=[97,46,98]) (ps:=[]) (p:= -1) (by decide+kernel) (by decide+kernel) (by decide+kernel) (by simp) ydS (by decide+kernel) (by decide)]
 exact congrArg (·,(0:Int)) (by kernel_rfl)
theorem ex14_3:zbT [46,46,47,101] (some yfC)=(zwE,0):=by
 unfold zbT
 rw [if_neg (by decide),show zcZ (zcK [46,46,47,101])=[46,46,47,101] by decide+kernel]
 unfold zjR
 rw [show schW [46,46,47,101]=none by decide+kernel]
 show relW yfC _=_
 unfold relW
 rw [if_neg (by decide)]
 simp only
 rw [if_neg (by decide),if_neg (by decide),if_neg (by decide)]
 exact congrArg (·,(0:Int)) (by kernel_rfl)
theorem ex14_4:zbT [104,116,116,112,115,58,101] (some yfC)=(zwX,0):=by
 unfold zbT
 rw [if_neg (by decide),show zcZ (zcK [104,116,116,112,115,58,101])=[104,116,116,112,115,58,101] by decide+kernel]
 unfold zjR
 rw [show schW [104,116,116,112,115,58,101]=some (zdY,[101]) by decide+kernel]
 refine (if_pos (.inr rfl)).trans ?_
 rw [if_pos (.inl (by decide))]
 rw [show zeA [101]=[101] by decide+kernel,zsL (a:=[101]) (rest:=[]) (hs:=[101]) (ps:=[]) (p:= -1) (by decide+kernel) (by decide+kernel) (by decide+kernel) (by simp) ex14_e (by decide+kernel) (by decide)]
 exact congrArg (·,(0:Int)) (by kernel_rfl)
theorem zrH:znM zzO=[104,116,116,112,58,47,47,97,46,98,47,121,63,113,35,102]∧znM zwE=[104,116,116,112,58,47,47,97,46,98,47,101]∧znM zwX=[104,116,116,112,115,58,47,47,101,47]:=by
 refine ⟨?_,?_,?_⟩<;>decide+kernel
end

end Go.Proofs.YthacmlahnpdeeaaGreatDoor
