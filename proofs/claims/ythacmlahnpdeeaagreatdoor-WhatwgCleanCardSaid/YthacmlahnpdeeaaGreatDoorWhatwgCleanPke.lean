/-
  What the law WhatwgClean leans on, and its walk (30 of 31).
-/
import Derived.Deep.RegionHeld3
import Derived.Test.YthacmlahnpdeeaaGreatDoorWhatwgCleanPkc
import Derived.Test.YthacmlahnpdeeaaGreatDoorWhatwgCleanPkd
namespace Go.Proofs.YthacmlahnpdeeaaGreatDoor
set_option maxRecDepth 100000
set_option maxHeartbeats 16000000
section
open Go.RowKit
theorem yhT {n:Int} (h:(Lit.int .u16 n).wf=true):0≤n∧n≤65535:=by
 simp [Lit.wf,IntKind.min,IntKind.max,IntKind.bits,IntKind.signed] at h
 omega
theorem zxY {l:List UInt8} {i:Nat} (ht:zcK l=l) (hl:l.length≤1000):zbT ([32,9,0]++l.take i++[10,9,13]++l.drop i++[13,32]) none=zbT l none:=by
 have h1: ¬4096<([32,9,0]++l.take i++[10,9,13]++l.drop i++[13,32]).length:=by
  simp only [List.length_append,List.length_take,List.length_drop,List.length_cons,List.length_nil]
  omega
 have h2:=z3X (x:=[32,9,0]) (a:=l.take i) (k:=[10,9,13]) (b:=l.drop i) (y:=[13,32]) (by decide) (by decide) (by decide) (by decide) (by rw [List.take_append_drop];exact ht)
 rw [List.take_append_drop] at h2
 unfold zbT
 rw [if_neg h1,if_neg (by omega),←h2]
 simp only [List.append_assoc]
theorem z0J {rest:List UInt8} (ht:zcK ([104,116,116,112,58,47,47]++rest)=[104,116,116,112,58,47,47]++rest) (hl:([104,116,116,112,58,47,47]++rest).length≤1000):zbT ([72,84,84,80,58,92,47,92]++rest) none=zbT ([104,116,116,112,58,47,47]++rest) none:=by
 simp only [List.length_append,List.length_cons,List.length_nil] at hl
 unfold zbT
 rw [if_neg (by simp only [List.length_append,List.length_cons,List.length_nil];omega),if_neg (by simp only [List.length_append,List.length_cons,List.length_nil];omega)]
 exact zzR ht
theorem yfG (w:World):PredAt Tryz.prog 15 #[] encR zcF w:=by
 intro W x _
 show Calls _ _ #[.int .i32 (x:Int)] _ _
 have hd:decide ((x:Int)≤32)=zcF x:=by
  unfold zcF
  rw [Bool.eq_iff_iff,decide_eq_true_eq,decide_eq_true_eq];omega
 generalize zcF x=b at*
 generalize (x:Int)=y at*
 go_enter Tryz.func15,Tryz.ntmps15
 go_wp2
 go_ret
 exact ⟨by first|(rw [←hd];rfl)|(rw [hd];rfl)|rfl,0,rfl⟩
theorem pre_is {l p:List UInt8} (h:Lib.hasPrefix l p=true):l=p++Lib.trimPrefix l p:=by
 unfold Lib.trimPrefix
 rw [if_pos h]
 unfold Lib.hasPrefix at h
 obtain ⟨t,rfl⟩:=List.isPrefixOf_iff_prefix.1 h
 simp
theorem UB.newL (x:World) (v:UZ) (pv hv:Value) (h:v.host.val=hv):UB (x.alloc (.cells #[.string ⟨v.scheme.toArray⟩,.string ⟨v.user.toArray⟩,.string ⟨v.pass.toArray⟩,hv,.int .i64 v.port,pv,.string ⟨v.query.toArray⟩,.bool v.hasQ,.string ⟨v.frag.toArray⟩,.bool v.hasF] 27)) x.heap.size v pv:=by
 subst h;exact UB.new x v pv
theorem tenL {y x:World} {G B:Nat} {v:UZ} {pv:Value} (hr:RB x G) (hb:Below G y x) (hp:zbA B x pv v.path) (hB:G<B) (hv:Value) (h:v.host.val=hv):
  UB (((((((((((x.setCell ⟨G,0,none⟩ (.string ⟨v.scheme.toArray⟩)).setCell ⟨G,1,none⟩ (.string ⟨v.user.toArray⟩)).setCell ⟨G,2,none⟩ (.string ⟨v.pass.toArray⟩)).setCell ⟨G,3,none⟩ hv).setCell ⟨G,4,none⟩ (.int .i64 v.port)).setCell ⟨G,5,none⟩ pv).setCell ⟨G,6,none⟩ (.string ⟨v.query.toArray⟩)).setCell ⟨G,7,none⟩ (.bool v.hasQ)).setCell ⟨G,8,none⟩ (.string ⟨v.frag.toArray⟩)).setCell ⟨G,9,none⟩ (.bool v.hasF))) G v pv∧PV (((((((((((x.setCell ⟨G,0,none⟩ (.string ⟨v.scheme.toArray⟩)).setCell ⟨G,1,none⟩ (.string ⟨v.user.toArray⟩)).setCell ⟨G,2,none⟩ (.string ⟨v.pass.toArray⟩)).setCell ⟨G,3,none⟩ hv).setCell ⟨G,4,none⟩ (.int .i64 v.port)).setCell ⟨G,5,none⟩ pv).setCell ⟨G,6,none⟩ (.string ⟨v.query.toArray⟩)).setCell ⟨G,7,none⟩ (.bool v.hasQ)).setCell ⟨G,8,none⟩ (.string ⟨v.frag.toArray⟩)).setCell ⟨G,9,none⟩ (.bool v.hasF))) pv v.path∧Below G y (((((((((((x.setCell ⟨G,0,none⟩ (.string ⟨v.scheme.toArray⟩)).setCell ⟨G,1,none⟩ (.string ⟨v.user.toArray⟩)).setCell ⟨G,2,none⟩ (.string ⟨v.pass.toArray⟩)).setCell ⟨G,3,none⟩ hv).setCell ⟨G,4,none⟩ (.int .i64 v.port)).setCell ⟨G,5,none⟩ pv).setCell ⟨G,6,none⟩ (.string ⟨v.query.toArray⟩)).setCell ⟨G,7,none⟩ (.bool v.hasQ)).setCell ⟨G,8,none⟩ (.string ⟨v.frag.toArray⟩)).setCell ⟨G,9,none⟩ (.bool v.hasF))):=by
 subst h
 have ho:=zbU (g:=G) (F:=[G]) (Only.refl _ x) (.inl (List.mem_cons_self ..)) (.string ⟨v.scheme.toArray⟩) (.string ⟨v.user.toArray⟩) (.string ⟨v.pass.toArray⟩) v.host.val (.int .i64 v.port) pv (.string ⟨v.query.toArray⟩) (.bool v.hasQ) (.string ⟨v.frag.toArray⟩) (.bool v.hasF)
 obtain ⟨c0,c1,c2,c3,c4,c5,c6,c7,c8,c9,hg⟩:=hr
 exact ⟨zdK hg _ _ _ _ _ _ _ _ _ _,(hp.only ho (fun b hb=>by rw [List.mem_singleton.1 hb];exact hB)).pv,zcS hb (Nat.le_refl _) _ _ _ _ _ _ _ _ _ _⟩
theorem whatwgClean_walk (a0:ByteArray) (a1:Int) (_w0:a0.size≤maxLen) (w1:(Lit.int .u16 a1).wf=true) (w:World) (hpow:PowTab w) (hbru:BruTab w) (hmax:MaxVar w) (hutf:Lib.Utf8Tabs 0 1 w):
  Calls Tryz.prog 5 #[.string a0,.int .u16 a1] w fun e w'=>e= .returned (.bool true)∧Below w.heap.size w w':=by
 obtain ⟨l,rfl⟩: ∃l:List UInt8,a0=⟨l.toArray⟩:=⟨a0.data.toList,by simp⟩
 have hz:=zaJ l
 obtain ⟨hb1,hb2⟩:=yhT w1
 have HTW:=Lib.hid hpow
 have HTB:=Lib.hid hbru
 have HTM:=Lib.hid hmax
 have HTU:=Lib.hid hutf
 have HA:=Lib.hid (zuH w hpow hbru hmax)
 clear hpow hbru hmax hutf w1
 by_cases hbig:1000<l.length
 ·go_enter Tryz.func5,Tryz.ntmps5
  go_wp2_with fail
  refine HA.out.mono ?_
  rintro e x1 ⟨rfl,hx1⟩
  go_wp2
  go_ret
  exact ⟨rfl,hx1⟩
 obtain ⟨tl,htl⟩: ∃tl:List UInt8,Lib.trimF zcF ⟨l.toArray⟩=⟨tl.toArray⟩:=⟨(Lib.trimF zcF ⟨l.toArray⟩).data.toList,by simp⟩
 have HTF:Hid (∀W,Below w.heap.size w W→Calls Tryz.prog 14 #[.string ⟨l.toArray⟩,.func (.func 15) #[] #[]] W fun e w'=>e= .returned (.string ⟨tl.toArray⟩)∧Below w.heap.size w w'):=fun W hW=>by
  refine (Tryz.strings_TrimFunc 15 #[] (enters_of Tryz.func15 (by kernel_rfl) rfl) zcF ⟨l.toArray⟩ W (by omega) (Utf8Tabs_below HTU.out hW) (yfG W)).mono ?_
  rintro e w' ⟨rfl,hb⟩
  exact ⟨by rw [htl],zaF hW hb⟩
 by_cases heq:l=tl
 ·have hfix:zcK l=l:=z7Y (by rw [htl,←heq])
  subst heq
  obtain ⟨i,hi⟩: ∃i:Nat,a1 % ((l.length:Int)+1)=i:=⟨(a1 % ((l.length:Int)+1)).toNat,(Int.toNat_of_nonneg (Int.emod_nonneg _ (by omega))).symm⟩
  have hil:i≤l.length:=by have:=Int.emod_lt_of_pos a1 (show (0:Int)<(l.length:Int)+1 by omega);omega
  have hti:a1.tmod ((l.length:Int)+1)=(i:Int):=by rw [Int.tmod_eq_emod_of_nonneg hb1];exact hi
  have HCP:=Lib.hid (zxY (i:=i) hfix (by omega))
  have hs1:=z2M l i hil
  have hs2:=zkR l i hil
  have htk:(l.take i).length≤l.length:=by rw [List.length_take];omega
  have hdr:(l.drop i).length≤l.length:=by rw [List.length_drop];omega
  have p1: ∀W,(Op.stringOp .add ⟨#[32,9,0]⟩ ⟨(l.take i).toArray⟩).run Tryz.prog W= .ok (.string ⟨([32,9,0]++l.take i).toArray⟩) W:=zgI [32,9,0] _ (by simp only [List.length_cons,List.length_nil];omega)
  have p2: ∀W,(Op.stringOp .add ⟨([32,9,0]++l.take i).toArray⟩ ⟨#[10,9,13]⟩).run Tryz.prog W= .ok (.string ⟨([32,9,0]++l.take i++[10,9,13]).toArray⟩) W:=zgI _ [10,9,13] (by simp only [List.length_append,List.length_cons,List.length_nil];omega)
  have p3: ∀W,(Op.stringOp .add ⟨([32,9,0]++l.take i++[10,9,13]).toArray⟩ ⟨(l.drop i).toArray⟩).run Tryz.prog W= .ok (.string ⟨([32,9,0]++l.take i++[10,9,13]++l.drop i).toArray⟩) W:=zgI _ _ (by simp only [List.length_append,List.length_cons,List.length_nil];omega)
  have p4: ∀W,(Op.stringOp .add ⟨([32,9,0]++l.take i++[10,9,13]++l.drop i).toArray⟩ ⟨#[13,32]⟩).run Tryz.prog W= .ok (.string ⟨([32,9,0]++l.take i++[10,9,13]++l.drop i++[13,32]).toArray⟩) W:=zgI _ [13,32] (by simp only [List.length_append,List.length_cons,List.length_nil];omega)
  have ht2:([32,9,0]++l.take i++[10,9,13]++l.drop i++[13,32]).length≤1000000:=by simp only [List.length_append,List.length_cons,List.length_nil];omega
  generalize [32,9,0]++l.take i++[10,9,13]++l.drop i++[13,32]=t2 at*
  generalize [32,9,0]++l.take i++[10,9,13]++l.drop i=q3 at*
  generalize [32,9,0]++l.take i++[10,9,13]=q2 at*
  generalize [32,9,0]++l.take i=q1 at*
  generalize l.take i=q0 at*
  generalize l.drop i=qd at*
  have HA1:=Lib.hid (fun W (hW:MaxVar W)=>zhW l W hW (by omega))
  have HA2:=Lib.hid (fun W (hW:MaxVar W)=>zhW t2 W hW ht2)
  rw [HCP.out] at HA2
  have hin:=ybK l
  have hpl:=zlP l none 0 (fun u e=>by cases e)
  have HPF:Hid (Lib.hasPrefix l [104,116,116,112,58,47,47]=true→ ∃rest,l=[104,116,116,112,58,47,47]++rest∧Lib.trimPrefix l [104,116,116,112,58,47,47]=rest∧zbT ([72,84,84,80,58,92,47,92]++rest) none=zbT l none):=fun hp=>by
   have e:=pre_is hp
   refine ⟨_,e,rfl,?_⟩
   have h1:zcK ([104,116,116,112,58,47,47]++Lib.trimPrefix l [104,116,116,112,58,47,47])=[104,116,116,112,58,47,47]++Lib.trimPrefix l [104,116,116,112,58,47,47]:=by rw [←e];exact hfix
   have h2:=z0J h1 (by rw [←e];omega)
   rw [←e] at h2
   exact h2
  have HCX:Hid (∀W,Calls Tryz.prog 17 #[.string ⟨l.toArray⟩,.string ⟨#[104,116,116,112,58,47,47]⟩] W fun e w'=>e= .returned (.tuple #[.string ⟨(Lib.trimPrefix l [104,116,116,112,58,47,47]).toArray⟩,.bool (Lib.hasPrefix l [104,116,116,112,58,47,47])])∧W=w'):=fun W=>(Tryz.strings_CutPrefix ⟨l.toArray⟩ ⟨#[104,116,116,112,58,47,47]⟩ W).mono (fun e w' h=>⟨h.1,h.2.symm⟩)
  generalize hrr:zbT l none=rr at*
  clear hrr HCP
  obtain ⟨v,er⟩:=rr
  simp only at hin hpl
  have HSM:=Lib.hid (fun p1 p2 W (h1:PV W p1 v.path) (h2:PV W p2 v.path) (hW:Below w.heap.size w W)=>z3K v p1 p2 W h1 h2 (by omega) hin (zbB HTW.out hW) (zaL HTB.out hW))
  have hsh: ∃hv,v.host.val=hv∧(hv= .nilIface∨ ∃it iv,hv= .iface it iv):=by
   rcases v.host.shape with h|⟨it,iv,h⟩
   ·exact ⟨_,h,.inl rfl⟩
   ·exact ⟨_,h,.inr ⟨it,iv,rfl⟩⟩
  obtain ⟨hv,hvv,hvs⟩:=hsh
  have hne:(l==l)=true:=by simp
  clear hfix hin htl
  rcases hvs with rfl|⟨it,iv,rfl⟩
  all_goals
   have HVV:=Lib.hid hvv
   simp only [UZ.cells] at HSM
   rw [hvv] at HSM
   clear hvv
   go_enter Tryz.func5,Tryz.ntmps5
   go_wp2_with fail
   refine HA.out.mono ?_
   rintro e x1 ⟨rfl,hx1⟩
   go_wp2_with fail
   refine (HTF.out _ hx1).mono ?_
   rintro e x2 ⟨rfl,hx2⟩
   clear hx1
   go_wp2_with fail
   refine (HA1.out _ (zaB HTM.out hx2)).mono ?_
   rintro e x3 ⟨pa,rfl,hp3,hb3⟩
   obtain ⟨aa,an,ac,rfl⟩:=hp3.pv.shape
   have hc3:=zaF hx2 hb3
   obtain ⟨y3,hy3⟩: ∃y,y=x3.alloc (.cells (v.cells (.slice aa an ac)) 27):=⟨_,rfl⟩
   have hd3:Below x3.heap.size x3 y3:=by rw [hy3];exact zaI x3 _
   have hU3:UB y3 x3.heap.size v (.slice aa an ac):=by rw [hy3];exact UB.new x3 v _
   have HUA:=Lib.hid (fun x (h:Below y3.heap.size y3 x)=>hU3.below h)
   have HPA:=Lib.hid (fun x (h:Below y3.heap.size y3 x)=>(hp3.pv.keep hd3).keep h)
   have HC3:=Lib.hid (zaF hc3 hd3)
   obtain ⟨ga,hga⟩: ∃g,g=x3.heap.size:=⟨_,rfl⟩
   rw [←hga] at HUA
   clear hp3 hb3 hc3 hd3 hU3 hx2
   simp only [UZ.cells] at hy3 ⊢
   rw [HVV.out] at hy3 ⊢
   have HAB:Hid (∀W,Below y3.heap.size y3 W→Calls Tryz.prog 7 #[.string ⟨t2.toArray⟩] W fun e w'=>(∃a n c,e= .returned (.tuple #[.agg #[.string ⟨v.scheme.toArray⟩,.string ⟨v.user.toArray⟩,.string ⟨v.pass.toArray⟩,v.host.val,.int .i64 v.port,.slice a n c,.string ⟨v.query.toArray⟩,.bool v.hasQ,.string ⟨v.frag.toArray⟩,.bool v.hasF],.int .i64 er])∧PV w' (.slice a n c) v.path)∧Below y3.heap.size y3 w'):=fun W hW=>(HA2.out W (zaB HTM.out (zaF HC3.out hW))).mono (fun e w' h=>by
    obtain ⟨pv,h1,h2,h3⟩:=h
    obtain ⟨a,n,c,rfl⟩:=h2.pv.shape
    exact ⟨⟨a,n,c,h1,h2.pv⟩,zaF hW h3⟩)
   have HAC:Hid (∀W,Below (y3.alloc (.cells #[.string ⟨#[]⟩,.string ⟨#[]⟩,.string ⟨#[]⟩,.nilIface,.int .i64 0,.slice none 0 0,.string ⟨#[]⟩,.bool false,.string ⟨#[]⟩,.bool false] 27)).heap.size (y3.alloc (.cells #[.string ⟨#[]⟩,.string ⟨#[]⟩,.string ⟨#[]⟩,.nilIface,.int .i64 0,.slice none 0 0,.string ⟨#[]⟩,.bool false,.string ⟨#[]⟩,.bool false] 27)) W→Calls Tryz.prog 7 #[.string ⟨t2.toArray⟩] W fun e w'=>(∃a n c,e= .returned (.tuple #[.agg #[.string ⟨v.scheme.toArray⟩,.string ⟨v.user.toArray⟩,.string ⟨v.pass.toArray⟩,v.host.val,.int .i64 v.port,.slice a n c,.string ⟨v.query.toArray⟩,.bool v.hasQ,.string ⟨v.frag.toArray⟩,.bool v.hasF],.int .i64 er])∧zbA (y3.alloc (.cells #[.string ⟨#[]⟩,.string ⟨#[]⟩,.string ⟨#[]⟩,.nilIface,.int .i64 0,.slice none 0 0,.string ⟨#[]⟩,.bool false,.string ⟨#[]⟩,.bool false] 27)).heap.size w' (.slice a n c) v.path)∧Below (y3.alloc (.cells #[.string ⟨#[]⟩,.string ⟨#[]⟩,.string ⟨#[]⟩,.nilIface,.int .i64 0,.slice none 0 0,.string ⟨#[]⟩,.bool false,.string ⟨#[]⟩,.bool false] 27)).heap.size (y3.alloc (.cells #[.string ⟨#[]⟩,.string ⟨#[]⟩,.string ⟨#[]⟩,.nilIface,.int .i64 0,.slice none 0 0,.string ⟨#[]⟩,.bool false,.string ⟨#[]⟩,.bool false] 27)) w'∧Below y3.heap.size y3 w'):=fun W hW=>(HA2.out W (zaB HTM.out (zaF HC3.out (zaF (zaI y3 _) hW)))).mono (fun e w' h=>by
    obtain ⟨pv,h1,h2,h3⟩:=h
    obtain ⟨a,n,c,rfl⟩:=h2.pv.shape
    exact ⟨⟨a,n,c,h1,zcI h2 hW.size⟩,zaF hW h3,zaF (zaI y3 _) (zaF hW h3)⟩)
   have hzs:y3.heap.size<(y3.alloc (.cells #[.string ⟨#[]⟩,.string ⟨#[]⟩,.string ⟨#[]⟩,.nilIface,.int .i64 0,.slice none 0 0,.string ⟨#[]⟩,.bool false,.string ⟨#[]⟩,.bool false] 27)).heap.size:=by simp
   have HZR:Hid (RB (y3.alloc (.cells #[.string ⟨#[]⟩,.string ⟨#[]⟩,.string ⟨#[]⟩,.nilIface,.int .i64 0,.slice none 0 0,.string ⟨#[]⟩,.bool false,.string ⟨#[]⟩,.bool false] 27)) y3.heap.size):=RB.new y3
   rw [HVV.out] at HAB HAC
   go_upto_region 7 with fail
   rw [←hy3,←hga]
   clear hy3 hga
   go_cut [8,9] (fun sv ev wc=> ∃(gb:Nat) (ba:Option Addr) (bn bc:Nat),sv= .pointer (some ⟨gb,0,none⟩)∧ev= .int .i64 er∧Hid (UB wc gb v (.slice ba bn bc))∧Hid (PV wc (.slice ba bn bc) v.path)∧Hid (Below y3.heap.size y3 wc))
   case first=>
    go_wp2_with fail
    go_region_held3 (fun _=>True) (exact trivial)
     (first
      |(go_simp;go_at_call 7;((with_reducible refine (HAB.out _ (zbG _)).mono ?_);rintro e x4 ⟨⟨ba,bn,bc,rfl,hp4⟩,hb4⟩;have hdu:=hb4))
      |(go_simp;go_at_call 7;((with_reducible refine (HAC.out _ (zbG _)).mono ?_);rintro e x4 ⟨⟨ba,bn,bc,rfl,hp4⟩,hb5,hb4⟩;obtain ⟨c0,c1,c2,c3,c4,c5,c6,c7,c8,c9,hrow⟩:=HZR.out.below hb5;obtain ⟨k0,k1,k2,k3,k4,k5,k6,k7,k8,k9,kf⟩:=zaS hrow)))
    all_goals
     go_wp2
     go_meet
     first
      |exact (have q:=tenL (HZR.out.below hb5) hb4 hp4 hzs _ HVV.out;⟨_,ba,bn,bc,rfl,rfl,q.1,q.2.1,q.2.2⟩)
      |exact ⟨_,ba,bn,bc,rfl,rfl,UB.newL x4 v _ _ HVV.out,hp4.keep (zaI x4 _),zaF hb4 (zaI x4 _)⟩
   case rest=>
    rename World=>z
    obtain ⟨gb,ba,bn,bc,rfl,rfl,HUB,HPB,HBZ⟩:=hcut
    have HCZ:=Lib.hid (zaF HC3.out HBZ.out)
    obtain ⟨d0,d1,d2,d3,d4,d5,d6,d7,d8,d9,-⟩:=(HUA.out _ HBZ.out).all
    obtain ⟨f0,f1,f2,f3,f4,f5,f6,f7,f8,f9,-⟩:=HUB.out.all
    rw [HVV.out] at d3 f3
    have HS1:=Lib.hid (HSM.out (.slice aa an ac) (.slice ba bn bc) z (HPA.out _ HBZ.out) HPB.out HCZ.out)
    have hee:(er !=er)=false:=by simp
    have hee2:(er==er)=true:=by simp
    go_wp2_with fail
    refine HS1.out.mono ?_
    rintro e z2 ⟨rfl,hz2⟩
    have HZ2:=Lib.hid (zaF HBZ.out hz2)
    clear hz2 HS1 HUB HPB HBZ HCZ HAB HAC HZR hzs d0 d1 d2 d3 d4 d5 d6 d7 d8 d9 f0 f1 f2 f3 f4 f5 f6 f7 f8 f9
    go_wp2_with fail
    refine (HCX.out _).mono ?_
    rintro e w' ⟨rfl,rfl⟩
    cases hpf:Lib.hasPrefix l [104,116,116,112,58,47,47] with
    |false=>
     have HF:=Lib.hid (zaF HC3.out HZ2.out)
     go_wp2
     go_ret
     exact ⟨rfl,HF.out⟩
    |true=>
     obtain ⟨rest,hlr,htp,hpe⟩:=HPF.out hpf
     rw [htp]
     have hrl:rest.length+7=l.length:=by rw [hlr];simp
     have a1: ∀W,(Op.stringOp .add ⟨#[72,84,84,80,58,92,47,92]⟩ ⟨rest.toArray⟩).run Tryz.prog W= .ok (.string ⟨([72,84,84,80,58,92,47,92]++rest).toArray⟩) W:=zgI [72,84,84,80,58,92,47,92] rest (by simp only [List.length_cons,List.length_nil];omega)
     have HCW:=Lib.hid (zaF HC3.out HZ2.out)
     have HA3:=Lib.hid (zhW ([72,84,84,80,58,92,47,92]++rest) z2 (zaB HTM.out HCW.out) (by simp only [List.length_append,List.length_cons,List.length_nil];omega))
     rw [hpe] at HA3
     generalize [72,84,84,80,58,92,47,92]++rest=t5 at*
     clear hpf hlr htp hpe hrl HPF HCX
     go_wp2_with fail
     refine HA3.out.mono ?_
     rintro e x5 ⟨pe,rfl,hp5,hb5⟩
     obtain ⟨ea,en,ec,rfl⟩:=hp5.pv.shape
     have HZ5:=Lib.hid (zaF HZ2.out hb5)
     obtain ⟨y5,hy5⟩: ∃y,y=x5.alloc (.cells (v.cells (.slice ea en ec)) 27):=⟨_,rfl⟩
     have hd5:Below x5.heap.size x5 y5:=by rw [hy5];exact zaI x5 _
     have hU5:UB y5 x5.heap.size v (.slice ea en ec):=by rw [hy5];exact UB.new x5 v _
     have HB5:=Lib.hid (zaF HZ5.out hd5)
     have HC5:=Lib.hid (zaF HC3.out HB5.out)
     have HS2:=Lib.hid (HSM.out (.slice aa an ac) (.slice ea en ec) y5 (HPA.out _ HB5.out) (hp5.pv.keep hd5) HC5.out)
     obtain ⟨d0,d1,d2,d3,d4,d5,d6,d7,d8,d9,-⟩:=(HUA.out _ HB5.out).all
     obtain ⟨f0,f1,f2,f3,f4,f5,f6,f7,f8,f9,-⟩:=hU5.all
     rw [HVV.out] at d3 f3
     simp only [UZ.cells] at hy5 ⊢
     rw [HVV.out] at hy5 ⊢
     rw [hy5] at d0 d1 d2 d3 d4 d5 d6 d7 d8 d9 f0 f1 f2 f3 f4 f5 f6 f7 f8 f9
     clear hp5 hb5 hd5 hU5 HA3 HZ5
     go_wp2_with fail
     rw [←hy5]
     clear hy5 d0 d1 d2 d3 d4 d5 d6 d7 d8 d9 f0 f1 f2 f3 f4 f5 f6 f7 f8 f9
     refine HS2.out.mono ?_
     rintro e x6 ⟨rfl,hb6⟩
     have HF:=Lib.hid (zaF HC5.out hb6)
     clear hb6
     go_wp2
     go_ret
     exact ⟨rfl,HF.out⟩
 ·have hne:(l==tl)=false:=beq_eq_false_iff_ne.2 heq
  clear heq htl
  go_enter Tryz.func5,Tryz.ntmps5
  go_wp2_with fail
  refine HA.out.mono ?_
  rintro e x1 ⟨rfl,hx1⟩
  go_wp2_with fail
  refine (HTF.out _ hx1).mono ?_
  rintro e x2 ⟨rfl,hx2⟩
  go_wp2
  go_ret
  exact ⟨rfl,hx2⟩
end

end Go.Proofs.YthacmlahnpdeeaaGreatDoor
