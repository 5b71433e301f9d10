/-
  What the law WhatwgClean leans on, and its walk (26 of 31).
-/
import Derived.Test.YthacmlahnpdeeaaGreatDoorWhatwgCleanPkY
import Derived.Test.YthacmlahnpdeeaaGreatDoorWhatwgCleanPkX
import Derived.Test.YthacmlahnpdeeaaGreatDoorWhatwgCleanPkZ
namespace Go.Proofs.YthacmlahnpdeeaaGreatDoor
set_option maxRecDepth 100000
set_option maxHeartbeats 16000000
theorem tka {P : Program} {md : Region.Mode} {ops : Array Oper} {Q : Exit → Act → World → Prop} {S : World → Prop} (i : Nat) (s : Option Nat) {op : Op} {ty : TypeId} {pos : String} {af : _} {gd : _} {v : Value} {fuel : Nat} {listed : Array Bool} {a : Act} {w : World} (hi : ops[i]? = some ⟨s, op, ty, pos, af, gd⟩)
 (hy : YieldsIf P ops S ⟨s, op, ty, pos, af, gd⟩ v a) (hS : S w)
 (h : wpAnyH P md ops Q S fuel (listed.setIfInBounds i true) (a.put s v) w)
 (hs : Region.noSelect ops = true := by kernel_rfl) (hf : Region.free md ops listed i = true := by kernel_rfl) (hr : (Region.ready md ops listed).contains i = true := by kernel_rfl)
 (hQ : ∀ c a w, Q (.panic c) (a.put s v) w → Q (.panic c) a w := by exact fun _ _ _ h => h) : wpAnyH P md ops Q S (fuel + 1) listed a w :=
 wpAnyH_take hi hs hf hr hQ hy hS h
theorem tkaa {α : Type _} (l : List α) (i : Nat) (a : α) : l.toArray.setIfInBounds i a = (l.set i a).toArray := List.setIfInBounds_toArray ..
theorem tkab {α : Type _} (x y : α) (l : List α) : (x :: l).set 0 y = y :: l := rfl
theorem tkac {α : Type _} (x y : α) (l : List α) (n : Nat) : (x :: l).set (n + 1) y = x :: l.set n y := rfl
section
open Go.RowKit
def clI (x:Int):List Value:=[.int .i64 x]
theorem ydT (x:Int):(clI x).length=1:=rfl
theorem infoI:(Tryz.prog.info? 3).map (fun i=>(i.zero,i.size,i.bytes))=some (some (.int .i64 0),1,8):=by kernel_rfl
theorem flatI (l:List Int):l.flatMap clI=l.map (Value.int .i64):=by
 induction l with
 |nil=>rfl
 |cons x l ih=>rw [List.flatMap_cons,ih];rfl
theorem z5Y (ad:Addr) (n c:Nat): ∀W:World,(binOp .eql 146 (.slice (some ad) n c) (.slice none 0 0)).run Tryz.prog W= .ok (.bool false) W:=by
 intro W;kernel_rfl
theorem z3N (n c:Nat): ∀W:World,(binOp .eql 146 (.slice none n c) (.slice none 0 0)).run Tryz.prog W= .ok (.bool true) W:=by
 intro W;kernel_rfl
theorem z0Q (pa:Option Addr) (pc:Nat) (ps:List Int) (w:World) (hp:zlC w pa ps.length pc ps) (hl:ps.length≤1000000):
  Calls Tryz.prog 238 #[.slice pa ps.length pc] w fun e w'=> ∃v,e= .returned v∧OwnX 3 1 clI w' w.heap.size v ps∧Below w.heap.size w w':=by
 have HPO:=Lib.hid hp
 clear hp
 cases pa with
 |none=>
  have h0:ps=[]:=by
   cases ps with
   |nil=>rfl
   |cons x l=>obtain ⟨⟨ad,e,_⟩,_⟩:=HPO.out.2 0 x rfl;cases e
  subst h0
  have hq:=z3N 0 pc
  go_enter Tryz.func238,Tryz.ntmps238
  go_wp2
  go_ret
  exact ⟨_,rfl,OwnX.nil _ _,Below.refl _ _⟩
 |some ad=>
  obtain ⟨i0,hi0,hz0,hz1,hz2⟩:=zjJ infoI
  have hq:=z5Y ad ps.length pc
  go_enter Tryz.func238,Tryz.ntmps238
  have hb0:Below w.heap.size w (w.alloc (.cells #[] 3)):=(Below.refl _ _).alloc (Nat.le_refl _) _
  have hown:(w.alloc (.cells #[] 3)).ownsRow w.heap.size 3 1 (.slice (some ⟨w.heap.size,0,none⟩) 0 0) 0 []:=⟨rfl,.inr ⟨w.heap.size,0,#[],rfl,Nat.le_refl _,Go.Deep.blk_alloc_new _ _,Nat.le_refl _,by decide,rfl,rfl⟩⟩
  have hnews: ∀(j:Nat) (u:Value),(ps.map (Value.int .i64))[j]? =some u→(w.alloc (.cells #[] 3)).cell? (ad.add j)=some u:=fun j u hu=>by
   rw [List.getElem?_map,Option.map_eq_some_iff] at hu
   obtain ⟨x,hx,rfl⟩:=hu
   obtain ⟨⟨ad',e,hc⟩,_⟩:=(HPO.out.keep hb0).2 j x hx
   obtain rfl:=Option.some.inj e
   exact hc
  have hone: ∀u∈ps.map (Value.int .i64),u.oneCell'=true:=fun u hu=>by
   obtain ⟨x,_,rfl⟩:=List.mem_map.1 hu
   rfl
  have hlm:(ps.map (Value.int .i64)).length=ps.length*1:=by simp
  go_wp2_with (first
   |(at_builtin;refine wpList_append_own _ rfl _ _ 146 rfl w.heap.size 3 i0 (.int .i64 0) 1 8 Tryz.underlying146 hi0 hz0 hz1 hz2 rfl (by decide) (.slice (some ⟨w.heap.size,0,none⟩) 0 0) 0 [] rfl hown ad ps.length pc (ps.map (Value.int .i64)) rfl hlm hnews hone (by unfold maxLen;omega) (by omega) hb0.size ?_;intro s1 w1 hown1 hgrow1 _)
   |go_in)
  go_ret
  refine ⟨_,rfl,?_,hb0.grown hgrow1 hb0.size (fun k hk=> ?_)⟩
  ·unfold OwnX
   rw [flatI]
   simpa using hown1
  ·simp only [Value.ownBlock,Option.some.injEq] at hk
   omega
theorem zkZ (x:Ru) (w:World):
  Calls Tryz.prog 241 #[.agg #[.int .u64 (x.hi:Nat),.int .u64 (x.lo:Nat),.int .i64 x.k,.bool x.a]] w fun e w'=>e= .returned (.int .i64 x.v)∧Below w.heap.size w w':=by
 cases ha:x.a with
 |true=>
  rw [show x.v=1 from by unfold Ru.v;rw [ha];rfl]
  go_enter Tryz.func241,Tryz.ntmps241
  go_wp2
  go_ret
  exact ⟨rfl,(Below.refl _ _).alloc (Nat.le_refl _) _⟩
 |false=>
  rw [show x.v=0 from by unfold Ru.v;rw [ha];rfl]
  go_enter Tryz.func241,Tryz.ntmps241
  go_wp2
  go_ret
  exact ⟨rfl,(Below.refl _ _).alloc (Nat.le_refl _) _⟩
end

section
open Go.RowKit
theorem OwnX.block {X:Type} {t:TypeId} {s:Nat} {cl:X→List Value} {x:World} {base:Nat} {v:Value} {l:List X} (h:OwnX t s cl x base v l) {b:Nat} (hb:v.ownBlock=some b): ∃c,x.heap[b]? =some (.cells c t):=by
 rcases h.2 with ⟨e,_⟩|⟨g,cap,cur,e,_,hg,_⟩
 ·rw [e] at hb;cases hb
 ·rw [e] at hb
  simp only [Value.ownBlock,Option.some.injEq] at hb
  exact ⟨cur,hb▸hg⟩
theorem OwnX.setOther {X:Type} {t:TypeId} {s:Nat} {cl:X→List Value} {x:World} {base:Nat} {v:Value} {l:List X} (h:OwnX t s cl x base v l) {gp:Nat} {c:Array Value} {t':TypeId} (hb:x.heap[gp]? =some (.cells c t')) (ht:t'≠t) (i:Nat) (u:Value):OwnX t s cl (x.setCell ⟨gp,i,none⟩ u) base v l:=
 h.same fun b hv=>zbD (b:=b) (b':=gp) (fun e=>h.other hb ht (by rw [←e];exact hv)) _ _
theorem OwnX.grownOther {X Y:Type} {t t2:TypeId} {s s2:Nat} {cl:X→List Value} {cl2:Y→List Value} {y z:World} {base base2:Nat} {v v2:Value} {l:List X} {l2:List Y} (h:OwnX t s cl y base v l) (h2:OwnX t2 s2 cl2 y base2 v2 l2) (hg:y.grownBy z v2.ownBlock) (ht:t≠t2):OwnX t s cl z base v l:=
 h.same fun b hv=>by
  obtain ⟨c,hc⟩:=h.block hv
  exact hg.block b (zaC hc) (fun e=>h2.other hc ht e.symm)
/-- a policy under way -/
structure PS (w x:World) (base gp:Nat) (rv pv:Value) (rs:List Ru) (ps:List Int) (bare:Bool):Prop where
 below:Below base w x
 blk:x.heap[gp]? =some (.cells #[rv,pv,.bool bare] 218)
 rows:OwnX 237 4 Ru.cl x base rv rs
 ports:OwnX 3 1 clI x base pv ps
 gpb:base≤gp
 size:base≤x.heap.size
theorem tyPR:218≠237:=by decide
theorem tyPI:218≠3:=by decide
theorem tyRI:237≠3:=by decide
theorem tyIR:3≠237:=by decide
theorem PS.keep {w x y:World} {base gp:Nat} {rv pv:Value} {rs:List Ru} {ps:List Int} {bare:Bool} (h:PS w x base gp rv pv rs ps bare) (hb:Below x.heap.size x y):PS w y base gp rv pv rs ps bare:=
 ⟨h.below.trans (hb.mono h.size),(hb.block gp (zaC h.blk)).trans h.blk,h.rows.keep hb,h.ports.keep hb,h.gpb,Nat.le_trans h.size hb.size⟩
theorem PS.bare {w x:World} {base gp:Nat} {rv pv:Value} {rs:List Ru} {ps:List Int} {bare:Bool} (h:PS w x base gp rv pv rs ps bare):PS w (x.setCell ⟨gp,2,none⟩ (.bool true)) base gp rv pv rs ps true:=
 ⟨h.below.setCell (p:=⟨gp,2,none⟩) h.gpb _,zaP h.blk 2 _,h.rows.setOther h.blk tyPR 2 _,h.ports.setOther h.blk tyPI 2 _,h.gpb,by rw [show (x.setCell ⟨gp,2,none⟩ (.bool true)).heap.size=x.heap.size by simp [World.setCell]];exact h.size⟩
theorem PS.port {w x y z:World} {base gp:Nat} {rv pv pv':Value} {rs:List Ru} {ps:List Int} {bare:Bool} {n:Int} (h:PS w x base gp rv pv rs ps bare) (hb:Below x.heap.size x y) (hg:y.grownBy z pv.ownBlock) (hr:z.ownsRow base 3 1 pv' (ps.length+1) (ps.flatMap clI++clI n)):PS w (z.setCell ⟨gp,1,none⟩ pv') base gp rv pv' rs (ps++[n]) bare:=by
 have h1:=h.keep hb
 have h2:Below base y z:=(Below.refl base y).grown hg h1.size (fun k hk=>(World.ownsRow.lt h1.ports k hk).1)
 have hbz:z.heap[gp]? =some (.cells #[rv,pv,.bool bare] 218):=(hg.block gp (zaC h1.blk) (fun e=>h1.ports.other h1.blk tyPI e.symm)).trans h1.blk
 refine ⟨(h1.below.trans h2).setCell (p:=⟨gp,1,none⟩) h.gpb _,zaP hbz 1 _,(h1.rows.grownOther h1.ports hg tyRI).setOther hbz tyPR 1 _,(OwnX.snoc hr:OwnX _ _ _ _ _ _ (ps++[n])).setOther hbz tyPI 1 _,h.gpb,?_⟩
 rw [show (z.setCell ⟨gp,1,none⟩ pv').heap.size=z.heap.size by simp [World.setCell]]
 exact Nat.le_trans h1.size h2.size
theorem PS.rule {w x y z:World} {base gp:Nat} {rv rv' pv:Value} {rs:List Ru} {ps:List Int} {bare:Bool} {r:Ru} (h:PS w x base gp rv pv rs ps bare) (hb:Below x.heap.size x y) (hg:y.grownBy z rv.ownBlock) (hr:z.ownsRow base 237 4 rv' (rs.length+1) (rs.flatMap Ru.cl++r.cl)):PS w (z.setCell ⟨gp,0,none⟩ rv') base gp rv' pv (rs++[r]) ps bare:=by
 have h1:=h.keep hb
 have h2:Below base y z:=(Below.refl base y).grown hg h1.size (fun k hk=>(World.ownsRow.lt h1.rows k hk).1)
 have hbz:z.heap[gp]? =some (.cells #[rv,pv,.bool bare] 218):=(hg.block gp (zaC h1.blk) (fun e=>h1.rows.other h1.blk tyPR e.symm)).trans h1.blk
 refine ⟨(h1.below.trans h2).setCell (p:=⟨gp,0,none⟩) h.gpb _,zaP hbz 0 _,(OwnX.snoc hr:OwnX _ _ _ _ _ _ (rs++[r])).setOther hbz tyPR 0 _,(h1.ports.grownOther h1.rows hg tyIR).setOther hbz tyPI 0 _,h.gpb,?_⟩
 rw [show (z.setCell ⟨gp,0,none⟩ rv').heap.size=z.heap.size by simp [World.setCell]]
 exact Nat.le_trans h1.size h2.size
/-- rows of strings are as they were -/
def zdJ (x y:World):Prop:= ∀(b:Nat) (c:Array Value),x.heap[b]? =some (.cells c 9)→y.heap[b]? =some (.cells c 9)
theorem zdJ.below {x y:World} (hb:Below x.heap.size x y):zdJ x y:=fun b _ h=>(hb.block b (zaC h)).trans h
theorem zdJ.trans {x y z:World} (h:zdJ x y) (k:zdJ y z):zdJ x z:=fun b c q=>k b c (h b c q)
theorem tySR:9≠237:=by decide
theorem tyPS:218≠9:=by decide
theorem zdJ.grown {X:Type} {t:TypeId} {s:Nat} {cl:X→List Value} {y z:World} {base:Nat} {v:Value} {l:List X} (h:OwnX t s cl y base v l) (hg:y.grownBy z v.ownBlock) (ht:9≠t):zdJ y z:=fun b _ q=>(hg.block b (zaC q) (fun e=>h.other q ht e.symm)).trans q
theorem zdJ.set {z:World} {gp:Nat} {c:Array Value} (h:z.heap[gp]? =some (.cells c 218)) (i:Nat) (u:Value):zdJ z (z.setCell ⟨gp,i,none⟩ u):=fun b d q=>
 (zbD (b:=b) (b':=gp) (fun e=>by
  rw [e,h] at q
  injection q with q
  injection q with _ q
  exact tyPS q) _ _).trans q
theorem infoU:(Tryz.prog.info? 237).map (fun i=>(i.zero,i.size,i.bytes))=some (some (.agg #[.int .u64 0,.int .u64 0,.int .i64 0,.bool false]),4,32):=by kernel_rfl
/-! lines -/
theorem zzI {c:UInt8}: ∀{l:List UInt8},c∉l→Lib.index l [c]= -1
 |[],_=>rfl
 |x::l,h=>by
  have hc: ¬x=c:=fun e=>h (e▸List.mem_cons_self ..)
  have ih:=zzI (l:=l) (fun g=>h (List.mem_cons_of_mem _ g))
  have hc': ¬c=x:=fun e=>hc e.symm
  unfold Lib.index
  rw [ih]
  simp [List.isPrefixOf,hc']
theorem zyW {c:UInt8}: ∀{a:List UInt8} (d:List UInt8),c∉a→Lib.index (a++c::d) [c]=a.length
 |[],d,_=>by
  show Lib.index (c::d) [c]=_
  unfold Lib.index;simp [List.isPrefixOf]
 |x::a,d,h=>by
  have hc: ¬x=c:=fun e=>h (e▸List.mem_cons_self ..)
  have ih:=zyW (a:=a) d (fun g=>h (List.mem_cons_of_mem _ g))
  show Lib.index (x::(a++c::d)) [c]=_
  unfold Lib.index
  rw [ih]
  have h1:(([c]:List UInt8).isPrefixOf (x::(a++c::d)))=false:=by
   have hc': ¬c=x:=fun e=>hc e.symm
   simp [List.isPrefixOf,hc']
  have h2:((a.length:Int)== -1)=false:=by rw [beq_eq_false_iff_ne];omega
  rw [h1,h2]
  simp
theorem yhU (c:UInt8) (l:List UInt8):c∉l∨ ∃a d,l=a++c::d∧c∉a:=by
 induction l with
 |nil=>exact .inl (by simp)
 |cons x l ih=>
  by_cases hc:x=c
  ·exact .inr ⟨[],l,by rw [hc];rfl,by simp⟩
  ·rcases ih with h|⟨a,d,e,h⟩
   ·exact .inl (fun g=>by rcases List.mem_cons.1 g with q|q;exact hc q.symm;exact h q)
   ·exact .inr ⟨x::a,d,by rw [e];rfl,fun g=>by rcases List.mem_cons.1 g with q|q;exact hc q.symm;exact h q⟩
theorem zsW (c x:UInt8):hasB [c] x=decide (x=c):=by
 unfold hasB
 rw [Bool.eq_iff_iff,decide_eq_true_iff];simp only [List.any_cons,List.any_nil,Bool.or_false,beq_iff_eq]
 exact ⟨fun e=>e.symm,fun e=>e.symm⟩
theorem z6T {c:UInt8} {l:List UInt8} (h:c∉l):splitB (hasB [c]) l=[l]:=by
 unfold splitB spl
 rw [zoL _ l [] (fun x hx=>by rw [zsW,decide_eq_false_iff_not];exact fun e=>h (e▸hx))]
 simp
theorem ykB {c:UInt8} {a:List UInt8} (d:List UInt8) (h:c∉a):splitB (hasB [c]) (a++c::d)=a::splitB (hasB [c]) d:=by
 unfold splitB spl
 rw [List.foldl_append,zoL _ a [] (fun x hx=>by rw [zsW,decide_eq_false_iff_not];exact fun e=>h (e▸hx)),List.foldl_cons]
 have:zaR (hasB [c]) ([],[]++a) c=([a]++[],[]):=by unfold zaR;simp [zsW]
 rw [this,zsC]
 simp
theorem yeZ (c:UInt8): ∀(n:Nat) (l:List UInt8),l.length≤n→Lib.splitK [c] 0 (Lib.count l [c]) l=splitB (hasB [c]) l:=fun n=>by
 induction n with
 |zero=>
  intro l hl
  have:l=[]:=List.eq_nil_of_length_eq_zero (by omega)
  subst this
  rw [Lib.count_miss (zzI (by simp)),z6T (by simp)];rfl
 |succ n ih=>
  intro l hl
  rcases yhU c l with h|⟨a,d,rfl,h⟩
  ·rw [Lib.count_miss (zzI h),z6T h];rfl
  ·have hd:(a++c::d).drop (a.length+[c].length)=d:=by
    rw [show a++c::d=(a++[c])++d from by simp,List.drop_left' (by simp)]
   rw [Lib.count_hit (by simp) (zyW d h),hd,ykB d h,Nat.add_comm 1,Lib.splitK,zyW d h]
   have h2:((a.length:Int)== -1)=false:=by rw [beq_eq_false_iff_ne];omega
   rw [h2]
   simp only [Int.toNat_natCast,Nat.add_zero]
   rw [hd,ih d (by simp at hl;omega)]
   simp
theorem yaV: ∀{l:List ByteArray} {m:List (List UInt8)},l.map (·.data.toList)=m→l.map Value.string=zeL m
 |[],[],_=>rfl
 |[],_::_,h=>by cases h
 |_::_,[],h=>by cases h
 |x::l,y::m,h=>by
  rw [List.map_cons] at h
  obtain ⟨h1,h2⟩:=List.cons.inj h
  rw [List.map_cons,yaV h2]
  show _=strC y::zeL m
  congr 1
  show Value.string x= .string ⟨y.toArray⟩
  congr 1
  apply ByteArray.ext
  apply Array.ext'
  rw [h1]
theorem z6L (s:ByteArray) (w:World) (hs:s.size≤1073741824) (hmax:MaxVar w):
  Calls Tryz.prog 233 #[.string s,.string ⟨#[10]⟩] w fun e w'=>e= .returned (.slice (some ⟨w.heap.size,0,none⟩) (splitB (hasB [10]) s.data.toList).length (splitB (hasB [10]) s.data.toList).length)∧w'=w.alloc (.cells (zeL (splitB (hasB [10]) s.data.toList)).toArray 9):=by
 obtain ⟨m,hm⟩:=hmax
 have h:=Tryz.strings_Split s ⟨#[10]⟩ m w (by omega) hm (by decide)
 have e1:(Lib.splitB ⟨#[10]⟩ 0 (Lib.countB s ⟨#[10]⟩) s).map (·.data.toList)=splitB (hasB [10]) s.data.toList:=by
  rw [Lib.splitB_data];exact yeZ 10 _ _ (Nat.le_refl _)
 have e2:=congrArg List.length e1
 rw [List.length_map,Lib.splitB_all ⟨#[10]⟩ (by decide) 0 _ s rfl] at e2
 rw [yaV e1,e2] at h
 exact h
end

section
open Go.RowKit
/-- a policy's parts -/
structure Pl where
 rs:List Ru
 ps:List Int
 bare:Bool
def maxI:Int:=9223372036854775807
def ruOf (W k:Nat) (a:Bool):Ru:=⟨hiN W,loN W,k,a⟩
theorem zmV {w:World} {base:Nat} {t:TypeId} {s n:Nat} {v:Value} {xs:List Value} (h:w.ownsRow base t s v n xs): ∃a c,v= .slice a n c:=by
 rcases h.2 with ⟨e,hn⟩|⟨g,cap,cur,e,_⟩
 ·exact ⟨_,_,by rw [e,hn]⟩
 ·exact ⟨_,_,e⟩
theorem tySI:9≠3:=by decide
theorem tyQR:235≠237:=by decide
theorem zyZ (x:World) (o:Obj):Below x.heap.size x (x.alloc o).drew:=(((Below.refl _ _).alloc (Nat.le_refl _) o)).drew
theorem zxX (w x:World) (base gp:Nat) (rv pv:Value) (rs:List Ru) (ps:List Int) (bare:Bool) (s:ByteArray) (n:Int) (h:PS w x base gp rv pv rs ps bare) (hs:s.size≤1073741824) (hd:decZ s.data.toList maxI=(n,false)):
  Calls Tryz.prog 247 #[.pointer (some ⟨gp,0,none⟩),.string s] x fun e x'=>e= .returned (.bool false)∧PS w x' base gp rv pv rs ps bare∧zdJ x x':=by
 have HS:=Lib.hid h
 have HD:=Lib.hid (zcO s maxI x hs (by decide) (by decide))
 rw [hd] at HD
 clear h hd
 unfold maxI at HD
 go_enter Tryz.func247,Tryz.ntmps247
 go_wp2_with fail
 refine HD.out.mono ?_
 rintro e x1 ⟨rfl,hb1⟩
 go_wp2
 go_ret
 exact ⟨rfl,HS.out.keep hb1,zdJ.below hb1⟩
theorem zvM (w x:World) (base gp:Nat) (rv pv:Value) (rs:List Ru) (ps:List Int) (bare:Bool) (s:ByteArray) (n:Int) (h:PS w x base gp rv pv rs ps bare) (hs:s.size≤1073741824) (hd:decZ s.data.toList maxI=(n,true)) (hl:ps.length≤1000000):
  Calls Tryz.prog 247 #[.pointer (some ⟨gp,0,none⟩),.string s] x fun e x'=> ∃pv',e= .returned (.bool true)∧PS w x' base gp rv pv' rs (ps++[n]) bare∧zdJ x x':=by
 have HS:=Lib.hid h
 have HD:=Lib.hid (zcO s maxI x hs (by decide) (by decide))
 rw [hd] at HD
 clear h hd
 unfold maxI at HD
 obtain ⟨i0,hi0,hz0,hz1,hz2⟩:=zjJ infoI
 obtain ⟨pa,pc,rfl⟩:=HS.out.ports.form
 go_enter Tryz.func247,Tryz.ntmps247
 go_wp2_with fail
 refine HD.out.mono ?_
 rintro e x1 ⟨rfl,hb1⟩
 have HS1:=Lib.hid (HS.out.keep hb1)
 have HKS:=Lib.hid (zdJ.below hb1)
 clear HS hb1
 have p1:=zaD HS1.out.blk 1
 simp at p1
 have hcn:=zwK x1 [.int .i64 n] 3
 have hoc: ∀u∈[Value.int .i64 n],u.oneCell'=true:=fun u hu=>by rw [List.mem_singleton.1 hu];rfl
 have HB:Hid (Below x1.heap.size x1 (x1.alloc (.cells #[.int .i64 n] 3))):=(Below.refl _ _).alloc (Nat.le_refl _) _
 have HS2:=Lib.hid (HS1.out.keep HB.out)
 have HBZ:Hid (∀z,(x1.alloc (.cells #[.int .i64 n] 3)).grownBy z (Value.slice pa ps.length pc).ownBlock→(z.cell? ⟨gp,1,none⟩=some (.slice pa ps.length pc)∧z.frozen? ⟨gp,1,none⟩=false)∧Hid (z.heap[gp]? =some (.cells #[rv,.slice pa ps.length pc,.bool bare] 218))):=fun z hg=>by
  have hbz:=(hg.block gp (zaC HS2.out.blk) (fun e=>HS2.out.ports.other HS2.out.blk tyPI e.symm)).trans HS2.out.blk
  exact ⟨⟨zaD hbz 1,zaK hbz 1⟩,hbz⟩
 go_wp2_with (first
  |(at_builtin;refine wpList_append_own _ rfl _ _ 146 rfl base 3 i0 (.int .i64 0) 1 8 Tryz.underlying146 hi0 hz0 hz1 hz2 rfl (by decide) (.slice pa ps.length pc) ps.length (ps.flatMap clI) rfl HS2.out.ports ⟨x1.heap.size,0,none⟩ 1 1 [.int .i64 n] rfl rfl hcn hoc (by unfold maxLen;omega) (by omega) HS2.out.size ?_;intro s1 w1 hown1 hgrow1 _;obtain ⟨⟨z1,z2⟩,z3⟩:=HBZ.out _ hgrow1;obtain ⟨sa,sc,rfl⟩:=zmV hown1)
  |go_in)
 go_ret
 exact ⟨_,rfl,HS1.out.port HB.out hgrow1 hown1,HKS.out.trans ((zdJ.below HB.out).trans ((zdJ.grown HS2.out.ports hgrow1 tySI).trans (zdJ.set z3.out 1 _)))⟩
theorem zxV (w x:World) (base gp:Nat) (rv pv:Value) (rs:List Ru) (ps:List Int) (bare:Bool) (s:ByteArray) (al:Bool) (h:PS w x base gp rv pv rs ps bare) (hs:s.size≤1073741824) (hmax:MaxVar x) (hd:zaV s.data.toList=none):
  Calls Tryz.prog 248 #[.pointer (some ⟨gp,0,none⟩),.string s,.bool al] x fun e x'=>e= .returned (.bool false)∧PS w x' base gp rv pv rs ps bare∧zdJ x x':=by
 have HS:=Lib.hid h
 have HD:=Lib.hid (zfC s x hs hmax)
 rw [hd] at HD
 clear h hd hmax
 go_enter Tryz.func248,Tryz.ntmps248
 go_wp2_with fail
 refine HD.out.mono ?_
 rintro e x1 ⟨rfl,hb1⟩
 simp only [optP,pfW,pfV,Option.isSome]
 have hb2:=hb1.alloc hb1.size (.cells #[.int .u64 (hiN 0:Nat),.int .u64 (loN 0:Nat),.int .i64 (0:Nat)] 235)
 go_wp2
 go_ret
 exact ⟨rfl,HS.out.keep hb2,zdJ.below hb2⟩
theorem zvB (w x:World) (base gp:Nat) (rv pv:Value) (rs:List Ru) (ps:List Int) (bare:Bool) (s:ByteArray) (al:Bool) (W k:Nat) (h:PS w x base gp rv pv rs ps bare) (hs:s.size≤1073741824) (hmax:MaxVar x) (hd:zaV s.data.toList=some (W,k)) (hl:rs.length≤1000000):
  Calls Tryz.prog 248 #[.pointer (some ⟨gp,0,none⟩),.string s,.bool al] x fun e x'=> ∃rv',e= .returned (.bool true)∧PS w x' base gp rv' pv (rs++[ruOf W k al]) ps bare∧zdJ x x':=by
 have HS:=Lib.hid h
 have HD:=Lib.hid (zfC s x hs hmax)
 rw [hd] at HD
 clear h hd hmax
 obtain ⟨i0,hi0,hz0,hz1,hz2⟩:=zjJ infoU
 obtain ⟨ra,rc,rfl⟩:=HS.out.rows.form
 go_enter Tryz.func248,Tryz.ntmps248
 go_wp2_with fail
 refine HD.out.mono ?_
 rintro e x1 ⟨rfl,hb1⟩
 simp only [optP,pfW,pfV,Option.isSome]
 have HB1:=Lib.hid (hb1.alloc hb1.size (.cells #[.int .u64 (hiN W:Nat),.int .u64 (loN W:Nat),.int .i64 (k:Nat)] 235))
 have HL1:=Lib.hid (((Blks.empty x1).new #[.int .u64 (hiN W:Nat),.int .u64 (loN W:Nat),.int .i64 (k:Nat)] 235))
 clear hb1 HD
 go_wp2_with fail
 have HS1:=Lib.hid (HS.out.keep HB1.out)
 have HKS:=Lib.hid (zdJ.below HB1.out)
 clear HS HB1
 generalize x1.alloc (.cells #[.int .u64 (hiN W:Nat),.int .u64 (loN W:Nat),.int .i64 (k:Nat)] 235)=x2 at*
 generalize x1.heap.size=g7 at*
 have HK3:Hid (∀X,Below x2.heap.size x2 X→(fun (X:World)=>X.cell? ⟨g7,0,none⟩=some (.int .u64 (hiN W:Nat))∧X.cell? ⟨g7,1,none⟩=some (.int .u64 (loN W:Nat))∧X.cell? ⟨g7,2,none⟩=some (.int .i64 (k:Nat))) X):=fun X hX=>by
  exact ((HL1.out.keep hX).r3 (.head _)).2
 have a0:=zaD HS1.out.blk 0
 simp at a0
 have HB2:Hid (Below x2.heap.size x2 (x2.alloc (.cells #[.int .u64 (hiN W:Nat),.int .u64 (loN W:Nat),.int .i64 (k:Nat),.bool al] 237)).drew):=zyZ x2 _
 have HS2:=Lib.hid (HS1.out.keep HB2.out)
 have hcn: ∀(j:Nat) (u:Value),[Value.int .u64 (hiN W:Nat),.int .u64 (loN W:Nat),.int .i64 (k:Nat),.bool al][j]? =some u→(x2.alloc (.cells #[.int .u64 (hiN W:Nat),.int .u64 (loN W:Nat),.int .i64 (k:Nat),.bool al] 237)).drew.cell? ((⟨x2.heap.size,0,none⟩:Addr).add j)=some u:=zwK x2 [.int .u64 (hiN W:Nat),.int .u64 (loN W:Nat),.int .i64 (k:Nat),.bool al] 237
 have hoc: ∀u∈[Value.int .u64 (hiN W:Nat),.int .u64 (loN W:Nat),.int .i64 (k:Nat),.bool al],u.oneCell'=true:=fun u hu=>by
  simp at hu
  rcases hu with rfl|rfl|rfl|rfl<;>rfl
 have HKG:Hid (∀z,(x2.alloc (.cells #[.int .u64 (hiN W:Nat),.int .u64 (loN W:Nat),.int .i64 (k:Nat),.bool al] 237)).drew.grownBy z (Value.slice ra rs.length rc).ownBlock→(fun (X:World)=>X.cell? ⟨g7,0,none⟩=some (.int .u64 (hiN W:Nat))∧X.cell? ⟨g7,1,none⟩=some (.int .u64 (loN W:Nat))∧X.cell? ⟨g7,2,none⟩=some (.int .i64 (k:Nat))) z∧z.heap[gp]? =some (.cells #[.slice ra rs.length rc,pv,.bool bare] 218)):=fun z hg=>by
  have hb7:=(HL1.out.keep HB2.out) _ (.head _)
  have h7:=(hg.block g7 (zaC hb7) (fun e=>HS2.out.rows.other hb7 tyQR e.symm)).trans hb7
  exact ⟨(row3 h7).1,(hg.block gp (zaC HS2.out.blk) (fun e=>HS2.out.rows.other HS2.out.blk tyPR e.symm)).trans HS2.out.blk⟩
 have HG7:Hid (gp≠g7):=fun e=>by
  have h1:=HS1.out.blk
  rw [e] at h1
  have h2:=HL1.out _ (.head _)
  rw [h1] at h2
  simp at h2
 have HKT:Hid (∀(z:World) (u:Value),(fun (X:World)=>X.cell? ⟨g7,0,none⟩=some (.int .u64 (hiN W:Nat))∧X.cell? ⟨g7,1,none⟩=some (.int .u64 (loN W:Nat))∧X.cell? ⟨g7,2,none⟩=some (.int .i64 (k:Nat))) z→(fun (X:World)=>X.cell? ⟨g7,0,none⟩=some (.int .u64 (hiN W:Nat))∧X.cell? ⟨g7,1,none⟩=some (.int .u64 (loN W:Nat))∧X.cell? ⟨g7,2,none⟩=some (.int .i64 (k:Nat))) (z.setCell ⟨gp,0,none⟩ u)):=fun z u hz=>by
  have e: ∀i,(z.setCell ⟨gp,0,none⟩ u).cell? ⟨g7,i,none⟩=z.cell? ⟨g7,i,none⟩:=fun i=>World.cell?_setCell_far z ⟨gp,0,none⟩ ⟨g7,i,none⟩ u HG7.out
  refine ⟨?_,?_,?_⟩
  ·rw [e];exact hz.1
  ·rw [e];exact hz.2.1
  ·rw [e];exact hz.2.2
 have b0:=zaD HS2.out.blk 0
 simp at b0
 refine wp_region_held_drew (S:=fun (X:World)=>X.cell? ⟨g7,0,none⟩=some (.int .u64 (hiN W:Nat))∧X.cell? ⟨g7,1,none⟩=some (.int .u64 (loN W:Nat))∧X.cell? ⟨g7,2,none⟩=some (.int .i64 (k:Nat))) (by kernel_rfl) ?_ (fun hHeld=> ?_)
 ·exact HK3.out _ (zbG _)
 refine tka 0 (some 15) (v:= ?_) rfl (.inl ⟨by rfl,?_⟩) hHeld ?_;rotate_left;·intro w hSw;(try dsimp only at hSw);go_simp;try with_reducible rfl
 try simp only [Act.put,tkaa,tkab,tkac]
 refine tka 1 (some 16) (v:= ?_) rfl (.inl ⟨by rfl,?_⟩) hHeld ?_;rotate_left;·intro w hSw;(try dsimp only at hSw);go_simp;try with_reducible rfl
 try simp only [Act.put,tkaa,tkab,tkac]
 refine tka 2 (some 17) (v:= ?_) rfl (.inl ⟨by rfl,?_⟩) hHeld ?_;rotate_left;·intro w hSw;(try dsimp only at hSw);go_simp;try with_reducible rfl
 try simp only [Act.put,tkaa,tkab,tkac]
 refine tka 3 (some 18) (v:= ?_) rfl (.inl ⟨by rfl,?_⟩) hHeld ?_;rotate_left;·intro w hSw;(try dsimp only at hSw);go_simp;try with_reducible rfl
 try simp only [Act.put,tkaa,tkab,tkac]
 refine tka 5 (some 20) (v:= ?_) rfl (.inl ⟨by rfl,?_⟩) hHeld ?_;rotate_left;·intro w hSw;(try dsimp only at hSw);go_simp;try with_reducible rfl
 try simp only [Act.put,tkaa,tkab,tkac]
 refine tka 6 (some 21) (v:= ?_) rfl (.inl ⟨by rfl,?_⟩) hHeld ?_;rotate_left;·intro w hSw;(try dsimp only at hSw);go_simp;try with_reducible rfl
 try simp only [Act.put,tkaa,tkab,tkac]
 refine tka 7 (some 22) (v:= ?_) rfl (.inl ⟨by rfl,?_⟩) hHeld ?_;rotate_left;·intro w hSw;(try dsimp only at hSw);go_simp;try with_reducible rfl
 try simp only [Act.put,tkaa,tkab,tkac]
 refine wpAnyH_ready (rs:=[4,8]) (by kernel_rfl) (by simp) ?_
 refine AllReadyH.cons (o:=⟨some 19,_,_,_,_,_⟩) rfl (fun K hK=> ?_) (AllReadyH.cons (o:=⟨some 23,_,_,_,_,_⟩) rfl (fun K hK=> ?_) AllReadyH.nil)
 ·go_simp
  refine hK.out _ _ ?_ (fun hHeld1=> ?_)
  ·exact HK3.out _ (zbG _)
  clear hK K
  try simp only [Act.put,tkaa,tkab,tkac]
  refine wpAnyH_ready (rs:=[8]) (by kernel_rfl) (by simp) ?_
  refine AllReadyH.cons (o:=⟨some 23,_,_,_,_,_⟩) rfl (fun K hK=> ?_) AllReadyH.nil
  go_simp
  refine hK.out _ _ ?_ (fun hHeld2=> ?_)
  ·exact HK3.out _ HB2.out
  clear hK K
  try simp only [Act.put,tkaa,tkab,tkac]
  refine wpAnyH_ready (rs:=[9]) (by kernel_rfl) (by simp) ?_
  refine AllReadyH.cons (o:=⟨some 24,_,_,_,_,_⟩) rfl (fun K hK=> ?_) AllReadyH.nil
  rw [if_pos (by kernel_rfl)]
  refine wp_append_own _ _ _ 216 rfl base 237 i0 (.agg #[.int .u64 0,.int .u64 0,.int .i64 0,.bool false]) 4 32 Tryz.underlying216 hi0 hz0 hz1 hz2 rfl (by decide) (.slice ra rs.length rc) rs.length (rs.flatMap Ru.cl) rfl HS2.out.rows ⟨x2.heap.size,0,none⟩ 1 1 [.int .u64 (hiN W:Nat),.int .u64 (loN W:Nat),.int .i64 (k:Nat),.bool al] rfl rfl hcn hoc (by unfold maxLen;omega) (by omega) HS2.out.size ?_
  intro s1 w1 hown1 hgrow1 _
  obtain ⟨sa,sc,rfl⟩:=zmV hown1
  obtain ⟨hsw,hbz⟩:=HKG.out _ hgrow1
  have z0:=zaD hbz 0
  have z1:=zaK hbz 0
  simp at z0
  refine hK.out _ _ ?_ (fun hHeld9=> ?_)
  ·exact hsw
  clear hK K
  try simp only [Act.put,tkaa,tkab,tkac]
  refine tka 10 (some 25) (v:= ?_) rfl (.inl ⟨by rfl,?_⟩) hHeld9 ?_;rotate_left;·intro w hSw;(try dsimp only at hSw);go_simp;try with_reducible rfl
  try simp only [Act.put,tkaa,tkab,tkac]
  refine tka 11 (some 26) (v:= ?_) rfl (.inl ⟨by rfl,?_⟩) hHeld9 ?_;rotate_left;·intro w hSw;(try dsimp only at hSw);go_simp;try with_reducible rfl
  try simp only [Act.put,tkaa,tkab,tkac]
  refine wpAnyH_ready (rs:=[12]) (by kernel_rfl) (by simp) ?_
  refine AllReadyH.cons (o:=⟨none,_,_,_,_,_⟩) rfl (fun K hK=> ?_) AllReadyH.nil
  go_simp
  refine hK.out _ _ ?_ (fun hHeld12=> ?_)
  ·exact HKT.out _ _ hsw
  clear hK K
  try simp only [Act.put,tkaa,tkab,tkac]
  refine wpAnyH_done (by kernel_rfl) ?_ _
  go_wp2
  go_ret
  exact ⟨rfl,⟨_,HS1.out.rule HB2.out hgrow1 hown1⟩,HKS.out.trans ((zdJ.below HB2.out).trans ((zdJ.grown HS2.out.rows hgrow1 tySR).trans (zdJ.set hbz 0 _)))⟩
 ·go_simp
  refine hK.out _ _ ?_ (fun hHeld1=> ?_)
  ·exact HK3.out _ HB2.out
  clear hK K
  try simp only [Act.put,tkaa,tkab,tkac]
  refine wpAnyH_ready (rs:=[4]) (by kernel_rfl) (by simp) ?_
  refine AllReadyH.cons (o:=⟨some 19,_,_,_,_,_⟩) rfl (fun K hK=> ?_) AllReadyH.nil
  go_simp
  refine hK.out _ _ ?_ (fun hHeld2=> ?_)
  ·exact HK3.out _ HB2.out
  clear hK K
  try simp only [Act.put,tkaa,tkab,tkac]
  refine wpAnyH_ready (rs:=[9]) (by kernel_rfl) (by simp) ?_
  refine AllReadyH.cons (o:=⟨some 24,_,_,_,_,_⟩) rfl (fun K hK=> ?_) AllReadyH.nil
  rw [if_pos (by kernel_rfl)]
  refine wp_append_own _ _ _ 216 rfl base 237 i0 (.agg #[.int .u64 0,.int .u64 0,.int .i64 0,.bool false]) 4 32 Tryz.underlying216 hi0 hz0 hz1 hz2 rfl (by decide) (.slice ra rs.length rc) rs.length (rs.flatMap Ru.cl) rfl HS2.out.rows ⟨x2.heap.size,0,none⟩ 1 1 [.int .u64 (hiN W:Nat),.int .u64 (loN W:Nat),.int .i64 (k:Nat),.bool al] rfl rfl hcn hoc (by unfold maxLen;omega) (by omega) HS2.out.size ?_
  intro s1 w1 hown1 hgrow1 _
  obtain ⟨sa,sc,rfl⟩:=zmV hown1
  obtain ⟨hsw,hbz⟩:=HKG.out _ hgrow1
  have z0:=zaD hbz 0
  have z1:=zaK hbz 0
  simp at z0
  refine hK.out _ _ ?_ (fun hHeld9=> ?_)
  ·exact hsw
  clear hK K
  try simp only [Act.put,tkaa,tkab,tkac]
  refine tka 10 (some 25) (v:= ?_) rfl (.inl ⟨by rfl,?_⟩) hHeld9 ?_;rotate_left;·intro w hSw;(try dsimp only at hSw);go_simp;try with_reducible rfl
  try simp only [Act.put,tkaa,tkab,tkac]
  refine tka 11 (some 26) (v:= ?_) rfl (.inl ⟨by rfl,?_⟩) hHeld9 ?_;rotate_left;·intro w hSw;(try dsimp only at hSw);go_simp;try with_reducible rfl
  try simp only [Act.put,tkaa,tkab,tkac]
  refine wpAnyH_ready (rs:=[12]) (by kernel_rfl) (by simp) ?_
  refine AllReadyH.cons (o:=⟨none,_,_,_,_,_⟩) rfl (fun K hK=> ?_) AllReadyH.nil
  go_simp
  refine hK.out _ _ ?_ (fun hHeld12=> ?_)
  ·exact HKT.out _ _ hsw
  clear hK K
  try simp only [Act.put,tkaa,tkab,tkac]
  refine wpAnyH_done (by kernel_rfl) ?_ _
  go_wp2
  go_ret
  exact ⟨rfl,⟨_,HS1.out.rule HB2.out hgrow1 hown1⟩,HKS.out.trans ((zdJ.below HB2.out).trans ((zdJ.grown HS2.out.rows hgrow1 tySR).trans (zdJ.set hbz 0 _)))⟩
end

section
open Go.RowKit
def zmG:List UInt8:=[97,108,108,111,119]
def yiL:List UInt8:=[100,101,110,121]
def wPort:List UInt8:=[112,111,114,116]
def wBare:List UInt8:=[98,97,114,101]
def ziZ (l:List UInt8):Bool:=Lib.hasPrefix l [35]
/-- two words -/
def argZ (p:Pl) (a b:List UInt8):Option Pl:=
 if (a==wPort)=true then (if (decZ b maxI).2=true then some ⟨p.rs,p.ps++[(decZ b maxI).1],p.bare⟩ else none)
 else if (a==zmG)=true∨(a==yiL)=true then (match zaV b with
  |none=>none
  |some q=>some ⟨p.rs++[ruOf q.1 q.2 (a==zmG)],p.ps,p.bare⟩)
 else none
/-- a line's words -/
def ziB (p:Pl):List (List UInt8)→Option Pl
 |[]=>some p
 |a::l=>if ziZ a=true then some p else match l with
  |[]=>if (a==wBare)=true then some ⟨p.rs,p.ps,true⟩ else none
  |[b]=>argZ p a b
  |_::_::_=>none
/-- what is told of a line -/
def RetTk (w:World) (base gp:Nat) (rv pv:Value) (p:Pl) (x:World) (o:Option Pl) (e:Ending) (x':World):Prop:=
 zdJ x x'∧match o with
 |none=>e= .returned (.bool false)∧PS w x' base gp rv pv p.rs p.ps p.bare
 |some q=> ∃rv' pv',e= .returned (.bool true)∧PS w x' base gp rv' pv' q.rs q.ps q.bare
theorem zbA.at {B:Nat} {x:World} {v:Value} {ws:List (List UInt8)} (h:zbA B x v ws) (hne:ws≠[]): ∃g c,v= .slice (some ⟨g,0,none⟩) ws.length c∧ ∃cs,x.heap[g]? =some (.cells cs 9)∧ ∀(j:Nat) (a:List UInt8),ws[j]? =some a→cs[j]? =some (.string ⟨a.toArray⟩):=by
 unfold zbA at h
 rcases h.2 with ⟨_,hn⟩|⟨g,cap,cur,e,_,hg,_,_,_,ht⟩
 ·exact absurd (List.eq_nil_of_length_eq_zero hn) hne
 ·refine ⟨g,cap,e,cur,hg,fun j a ha=> ?_⟩
  have hj:j<ws.length:=(List.getElem?_eq_some_iff.1 ha).1
  have e1:(cur.toList.take (ws.length*1))[j]? =(zeL ws)[j]? :=by rw [ht]
  rw [List.getElem?_take_of_lt (by omega)] at e1
  rw [←Array.getElem?_toList,e1]
  unfold zeL
  rw [List.getElem?_map,ha];rfl
theorem yfM (gp:Nat) (ao:Option Addr) (c:Nat) (x:World):
  Calls Tryz.prog 234 #[.pointer (some ⟨gp,0,none⟩),.slice ao 0 c] x fun e x'=>e= .returned (.bool true)∧x'=x:=by
 go_enter Tryz.func234,Tryz.ntmps234
 go_wp2
 go_ret
 exact ⟨rfl,rfl⟩
theorem yaJ (gp g n c:Nat) (a:List UInt8) (x:World) (c0:x.cell? ⟨g,0,none⟩=some (.string ⟨a.toArray⟩)) (hn:n≠0) (hh:ziZ a=true):
  Calls Tryz.prog 234 #[.pointer (some ⟨gp,0,none⟩),.slice (some ⟨g,0,none⟩) n c] x fun e x'=>e= .returned (.bool true)∧x'=x:=by
 have HP:=Lib.hid (Tryz.strings_HasPrefix ⟨a.toArray⟩ ⟨#[35]⟩ x)
 rw [show Lib.hasPrefix (ByteArray.mk a.toArray).data.toList (ByteArray.mk #[35]).data.toList=true from by rw [←hh];unfold ziZ;simp] at HP
 have hd:((n:Int)==0)=false:=by rw [beq_eq_false_iff_ne];omega
 have hlt:0<n:=by omega
 go_enter Tryz.func234,Tryz.ntmps234
 go_wp2_with fail
 refine HP.out.mono ?_
 rintro e x1 ⟨rfl,rfl⟩
 go_wp2
 go_ret
 exact ⟨rfl,rfl⟩
theorem ycP (w x:World) (base gp:Nat) (rv pv:Value) (p:Pl) (g c:Nat) (a:List UInt8) (h:PS w x base gp rv pv p.rs p.ps p.bare) (c0:x.cell? ⟨g,0,none⟩=some (.string ⟨a.toArray⟩)) (hh:ziZ a=false) (hb:(a==[98,97,114,101])=true):
  Calls Tryz.prog 234 #[.pointer (some ⟨gp,0,none⟩),.slice (some ⟨g,0,none⟩) 1 c] x fun e x'=>e= .returned (.bool true)∧PS w x' base gp rv pv p.rs p.ps true∧zdJ x x':=by
 have HP:=Lib.hid (Tryz.strings_HasPrefix ⟨a.toArray⟩ ⟨#[35]⟩ x)
 rw [show Lib.hasPrefix (ByteArray.mk a.toArray).data.toList (ByteArray.mk #[35]).data.toList=false from by rw [←hh];unfold ziZ;simp] at HP
 have HS:=Lib.hid h
 have p2:=zaD h.blk 2
 have f2:=zaK h.blk 2
 simp at p2
 clear h
 go_enter Tryz.func234,Tryz.ntmps234
 go_wp2_with fail
 refine HP.out.mono ?_
 rintro e x1 ⟨rfl,rfl⟩
 go_wp2
 go_ret
 exact ⟨rfl,HS.out.bare,zdJ.set HS.out.blk 2 _⟩
theorem yhA (gp g c:Nat) (a:List UInt8) (x:World) (c0:x.cell? ⟨g,0,none⟩=some (.string ⟨a.toArray⟩)) (hh:ziZ a=false) (hb:(a==[98,97,114,101])=false):
  Calls Tryz.prog 234 #[.pointer (some ⟨gp,0,none⟩),.slice (some ⟨g,0,none⟩) 1 c] x fun e x'=>e= .returned (.bool false)∧x'=x:=by
 have HP:=Lib.hid (Tryz.strings_HasPrefix ⟨a.toArray⟩ ⟨#[35]⟩ x)
 rw [show Lib.hasPrefix (ByteArray.mk a.toArray).data.toList (ByteArray.mk #[35]).data.toList=false from by rw [←hh];unfold ziZ;simp] at HP
 go_enter Tryz.func234,Tryz.ntmps234
 go_wp2_with fail
 refine HP.out.mono ?_
 rintro e x1 ⟨rfl,rfl⟩
 go_wp2
 go_ret
 exact ⟨rfl,rfl⟩
theorem z7K (gp g n c:Nat) (a:List UInt8) (x:World) (c0:x.cell? ⟨g,0,none⟩=some (.string ⟨a.toArray⟩)) (hh:ziZ a=false) (hn:3≤n):
  Calls Tryz.prog 234 #[.pointer (some ⟨gp,0,none⟩),.slice (some ⟨g,0,none⟩) n c] x fun e x'=>e= .returned (.bool false)∧x'=x:=by
 have HP:=Lib.hid (Tryz.strings_HasPrefix ⟨a.toArray⟩ ⟨#[35]⟩ x)
 rw [show Lib.hasPrefix (ByteArray.mk a.toArray).data.toList (ByteArray.mk #[35]).data.toList=false from by rw [←hh];unfold ziZ;simp] at HP
 have hd0:((n:Int)==0)=false:=by rw [beq_eq_false_iff_ne];omega
 have hd1:((n:Int)==1)=false:=by rw [beq_eq_false_iff_ne];omega
 have hd2:((n:Int)==2)=false:=by rw [beq_eq_false_iff_ne];omega
 have hlt:0<n:=by omega
 go_enter Tryz.func234,Tryz.ntmps234
 go_wp2_with fail
 refine HP.out.mono ?_
 rintro e x1 ⟨rfl,rfl⟩
 go_wp2
 go_ret
 exact ⟨rfl,rfl⟩
theorem z7E (gp g c:Nat) (a b:List UInt8) (x:World) (Q:Ending→World→Prop) (c0:x.cell? ⟨g,0,none⟩=some (.string ⟨a.toArray⟩)) (c1:x.cell? ⟨g,1,none⟩=some (.string ⟨b.toArray⟩)) (hh:ziZ a=false) (hp:(a==[112,111,114,116])=true) (HC:Hid (Calls Tryz.prog 247 #[.pointer (some ⟨gp,0,none⟩),.string ⟨b.toArray⟩] x fun e x'=> ∃t:Bool,e= .returned (.bool t)∧Q e x')):
  Calls Tryz.prog 234 #[.pointer (some ⟨gp,0,none⟩),.slice (some ⟨g,0,none⟩) 2 c] x Q:=by
 have HP:=Lib.hid (Tryz.strings_HasPrefix ⟨a.toArray⟩ ⟨#[35]⟩ x)
 rw [show Lib.hasPrefix (ByteArray.mk a.toArray).data.toList (ByteArray.mk #[35]).data.toList=false from by rw [←hh];unfold ziZ;simp] at HP
 go_enter Tryz.func234,Tryz.ntmps234
 go_wp2_with fail
 refine HP.out.mono ?_
 rintro e x1 ⟨rfl,rfl⟩
 go_wp2_with fail
 refine HC.out.mono ?_
 rintro e x2 ⟨t,rfl,hq⟩
 go_wp2
 exact hq
theorem ydW (gp g c:Nat) (a:List UInt8) (x:World) (c0:x.cell? ⟨g,0,none⟩=some (.string ⟨a.toArray⟩)) (hh:ziZ a=false) (hp:(a==[112,111,114,116])=false) (ha:(a==[97,108,108,111,119])=false) (hd:(a==[100,101,110,121])=false):
  Calls Tryz.prog 234 #[.pointer (some ⟨gp,0,none⟩),.slice (some ⟨g,0,none⟩) 2 c] x fun e x'=>e= .returned (.bool false)∧x'=x:=by
 have HP:=Lib.hid (Tryz.strings_HasPrefix ⟨a.toArray⟩ ⟨#[35]⟩ x)
 rw [show Lib.hasPrefix (ByteArray.mk a.toArray).data.toList (ByteArray.mk #[35]).data.toList=false from by rw [←hh];unfold ziZ;simp] at HP
 go_enter Tryz.func234,Tryz.ntmps234
 go_wp2_with fail
 refine HP.out.mono ?_
 rintro e x1 ⟨rfl,rfl⟩
 go_wp2
 go_ret
 exact ⟨rfl,rfl⟩
theorem z9I (gp g c:Nat) (a b:List UInt8) (al:Bool) (x:World) (Q:Ending→World→Prop) (cs:Array Value) (hg:x.heap[g]? =some (.cells cs 9)) (c0:cs[0]? =some (.string ⟨a.toArray⟩)) (c1:cs[1]? =some (.string ⟨b.toArray⟩)) (hh:ziZ a=false) (hp:(a==[112,111,114,116])=false) (ha:(a==[97,108,108,111,119])=al) (hd:al=true∨(a==[100,101,110,121])=true) (HC:Hid (∀X,Below x.heap.size x X→Calls Tryz.prog 248 #[.pointer (some ⟨gp,0,none⟩),.string ⟨b.toArray⟩,.bool al] X fun e x'=> ∃t:Bool,e= .returned (.bool t)∧Q e x'∧zdJ X x')):
  Calls Tryz.prog 234 #[.pointer (some ⟨gp,0,none⟩),.slice (some ⟨g,0,none⟩) 2 c] x Q:=by
 have HP:=Lib.hid (Tryz.strings_HasPrefix ⟨a.toArray⟩ ⟨#[35]⟩ x)
 rw [show Lib.hasPrefix (ByteArray.mk a.toArray).data.toList (ByteArray.mk #[35]).data.toList=false from by rw [←hh];unfold ziZ;simp] at HP
 have HK:Hid (∀X:World,X.heap[g]? =some (.cells cs 9)→X.cell? ⟨g,0,none⟩=some (.string ⟨a.toArray⟩)∧X.cell? ⟨g,1,none⟩=some (.string ⟨b.toArray⟩)):=fun X hX=>⟨by rw [zaD hX];exact c0,by rw [zaD hX];exact c1⟩
 have HG:=Lib.hid hg
 obtain ⟨k0,k1⟩:=HK.out x hg
 clear c0 c1 hg
 cases al with
 |true=>
  clear hd
  go_enter Tryz.func234,Tryz.ntmps234
  go_wp2_with fail
  refine HP.out.mono ?_
  rintro e x1 ⟨rfl,rfl⟩
  go_wp2_with fail
  go_region_held3 (fun X=>X.cell? ⟨g,0,none⟩=some (.string ⟨a.toArray⟩)∧X.cell? ⟨g,1,none⟩=some (.string ⟨b.toArray⟩))
   (first|exact HK.out _ HG.out|exact HK.out _ (hks _ _ HG.out))
   (first|(go_simp;go_at_call 248;((with_reducible refine (HC.out _ (zbG _)).mono ?_);rintro e x2 ⟨t,rfl,hq,hks⟩)))
  go_wp2
  exact hq
 |false=>
  have hd:(a==[100,101,110,121])=true:=by rcases hd with q|q;cases q;exact q
  go_enter Tryz.func234,Tryz.ntmps234
  go_wp2_with fail
  refine HP.out.mono ?_
  rintro e x1 ⟨rfl,rfl⟩
  go_wp2_with fail
  go_region_held3 (fun X=>X.cell? ⟨g,0,none⟩=some (.string ⟨a.toArray⟩)∧X.cell? ⟨g,1,none⟩=some (.string ⟨b.toArray⟩))
   (first|exact HK.out _ HG.out|exact HK.out _ (hks _ _ HG.out))
   (first|(go_simp;go_at_call 248;((with_reducible refine (HC.out _ (zbG _)).mono ?_);rintro e x2 ⟨t,rfl,hq,hks⟩)))
  go_wp2
  exact hq
theorem z6C (w x:World) (base gp:Nat) (rv pv:Value) (p:Pl) (B:Nat) (v:Value) (ws:List (List UInt8)) (h:PS w x base gp rv pv p.rs p.ps p.bare) (hw:zbA B x v ws) (hmax:MaxVar x) (hs: ∀a∈ws,a.length≤1073741824) (hl1:p.rs.length≤1000000) (hl2:p.ps.length≤1000000):
  Calls Tryz.prog 234 #[.pointer (some ⟨gp,0,none⟩),v] x (RetTk w base gp rv pv p x (ziB p ws)):=by
 cases ws with
 |nil=>
  obtain ⟨ao,c,rfl⟩: ∃a c,v= .slice a 0 c:=zmV hw
  refine (yfM gp ao c x).mono ?_
  rintro e x' ⟨rfl,rfl⟩
  exact ⟨fun _ _ q=>q,rv,pv,rfl,h⟩
 |cons a l=>
  obtain ⟨g,c,rfl,cs,hg,hc⟩:=hw.at (by simp)
  have c0:=hc 0 a rfl
  have k0:x.cell? ⟨g,0,none⟩=some (.string ⟨a.toArray⟩):=by rw [zaD hg];exact c0
  cases hh:ziZ a with
  |true=>
   refine (yaJ gp g (a::l).length c a x k0 (by simp) hh).mono ?_
   rintro e x' ⟨rfl,rfl⟩
   simp only [ziB,hh,if_true]
   exact ⟨fun _ _ q=>q,rv,pv,rfl,h⟩
  |false=>
   cases l with
   |nil=>
    cases hb:(a==wBare) with
    |true=>
     refine (ycP w x base gp rv pv p g c a h k0 hh hb).mono ?_
     rintro e x' ⟨rfl,hp,hK⟩
     simp only [ziB,hh,hb]
     exact ⟨hK,rv,pv,rfl,hp⟩
    |false=>
     refine (yhA gp g c a x k0 hh hb).mono ?_
     rintro e x' ⟨rfl,rfl⟩
     simp only [ziB,hh,hb]
     exact ⟨fun _ _ q=>q,rfl,h⟩
   |cons b l=>
    cases l with
    |cons d l=>
     refine (z7K gp g _ c a x k0 hh (by simp)).mono ?_
     rintro e x' ⟨rfl,rfl⟩
     simp only [ziB,hh]
     exact ⟨fun _ _ q=>q,rfl,h⟩
    |nil=>
     have c1:=hc 1 b rfl
     have k1:x.cell? ⟨g,1,none⟩=some (.string ⟨b.toArray⟩):=by rw [zaD hg];exact c1
     have hbs:(ByteArray.mk b.toArray).size≤1073741824:=by
      have:=hs b (by simp)
      simpa [ByteArray.size] using this
     have hlz:ziB p [a,b]=argZ p a b:=by simp only [ziB,hh];rfl
     rw [hlz]
     cases hp:(a==wPort) with
     |true=>
      refine z7E gp g c a b x _ k0 k1 hh hp ?_
      obtain ⟨⟨n,t⟩,hd⟩: ∃q,decZ b maxI=q:=⟨_,rfl⟩
      cases t with
      |true=>
       refine (zvM w x base gp rv pv p.rs p.ps p.bare ⟨b.toArray⟩ n h hbs (by rw [←hd]) hl2).mono ?_
       rintro e x' ⟨pv',rfl,hP,hK⟩
       refine ⟨true,rfl,hK,?_⟩
       unfold argZ;rw [hp,hd]
       exact ⟨rv,pv',rfl,hP⟩
      |false=>
       refine (zxX w x base gp rv pv p.rs p.ps p.bare ⟨b.toArray⟩ n h hbs (by rw [←hd])).mono ?_
       rintro e x' ⟨rfl,hP,hK⟩
       refine ⟨false,rfl,hK,?_⟩
       unfold argZ;rw [hp,hd]
       exact ⟨rfl,hP⟩
     |false=>
      by_cases hq:(a==zmG)=true∨(a==yiL)=true
      ·refine z9I gp g c a b (a==zmG) x _ cs hg c0 c1 hh hp rfl hq (fun X hX=> ?_)
       cases hd:zaV b with
       |some q=>
        obtain ⟨W,k⟩:=q
        refine (zvB w X base gp rv pv p.rs p.ps p.bare ⟨b.toArray⟩ (a==zmG) W k (h.keep hX) hbs (zaB hmax hX) (by rw [←hd]) hl1).mono ?_
        rintro e x' ⟨rv',rfl,hP,hK⟩
        refine ⟨true,rfl,⟨(zdJ.below hX).trans hK,?_⟩,hK⟩
        unfold argZ;rw [hp,if_neg (by simp),if_pos hq,hd]
        exact ⟨rv',pv,rfl,hP⟩
       |none=>
        refine (zxV w X base gp rv pv p.rs p.ps p.bare ⟨b.toArray⟩ (a==zmG) (h.keep hX) hbs (zaB hmax hX) (by rw [←hd])).mono ?_
        rintro e x' ⟨rfl,hP,hK⟩
        refine ⟨false,rfl,⟨(zdJ.below hX).trans hK,?_⟩,hK⟩
        unfold argZ;rw [hp,if_neg (by simp),if_pos hq,hd]
        exact ⟨rfl,hP⟩
      ·have h1:(a==zmG)=false:=by
        cases e:(a==zmG) with
        |true=>exact absurd (.inl e) hq
        |false=>rfl
       have h2:(a==yiL)=false:=by
        cases e:(a==yiL) with
        |true=>exact absurd (.inr e) hq
        |false=>rfl
       refine (ydW gp g c a x k0 hh hp h1 h2).mono ?_
       rintro e x' ⟨rfl,rfl⟩
       unfold argZ;rw [hp,if_neg (by simp),if_neg hq]
       exact ⟨fun _ _ q=>q,rfl,h⟩
end

section
open Go.RowKit
def Pl.zero:Pl:=⟨[],[],false⟩
/-- the policy of lines,or the number of the first that isn't so -/
def zfQ:Pl→Nat→List (List UInt8)→Option Pl×Nat
 |p,_,[]=>(some p,0)
 |p,i,l::ls=>match ziB p (zhS l) with
  |none=>(none,i+1)
  |some q=>zfQ q (i+1) ls
def zmB (s:ByteArray):List (List UInt8):=splitB (hasB [10]) s.data.toList
theorem zzD {p:Pl} {j:Nat} {l:List UInt8} {ls:List (List UInt8)} (h:ziB p (zhS l)=none):zfQ p j (l::ls)=(none,j+1):=by rw [zfQ,h]
theorem zjM {p q:Pl} {j:Nat} {l:List UInt8} {ls:List (List UInt8)} (h:ziB p (zhS l)=some q):zfQ p j (l::ls)=zfQ q (j+1) ls:=by rw [zfQ,h]
theorem z6V {p q:Pl} {ws:List (List UInt8)} (h:ziB p ws=some q):q.rs.length≤p.rs.length+1∧q.ps.length≤p.ps.length+1:=by
 unfold ziB at h
 split at h
 ·cases h;omega
 ·split at h
  ·cases h;omega
  ·split at h
   ·split at h
    ·cases h;simp only;omega
    ·cases h
   ·unfold argZ at h
    split at h
    ·split at h
     ·cases h;simp
     ·cases h
    ·split at h
     ·split at h
      ·cases h
      ·cases h;simp
     ·cases h
   ·cases h
theorem zoJ (p:UInt8→Bool): ∀(l:List UInt8) (a:List (List UInt8)) (b:List UInt8) (n:Nat),(∀x∈a,x.length≤n)→b.length+l.length≤n→(∀x∈(l.foldl (zaR p) (a,b)).1,x.length≤n)∧(l.foldl (zaR p) (a,b)).2.length≤n
 |[],a,b,n,h1,h2=>⟨h1,by simpa using h2⟩
 |c::l,a,b,n,h1,h2=>by
  rw [List.foldl_cons]
  unfold zaR
  simp only [List.length_cons] at h2
  split
  ·exact zoJ p l (a++[b]) [] n (fun x hx=>by
    rcases List.mem_append.1 hx with q|q
    ·exact h1 x q
    ·rw [List.mem_singleton.1 q];omega) (by simp;omega)
  ·exact zoJ p l a (b++[c]) n h1 (by simp;omega)
theorem zpN (p:UInt8→Bool) (l:List UInt8): ∀x∈splitB p l,x.length≤l.length:=by
 obtain ⟨h1,h2⟩:=zoJ p l [] [] l.length (fun x hx=>by cases hx) (by simp)
 intro x hx
 unfold splitB spl at hx
 rcases List.mem_append.1 hx with q|q
 ·exact h1 x q
 ·rw [List.mem_singleton.1 q];exact h2
theorem zpL (p:UInt8→Bool): ∀(l:List UInt8) (a:List (List UInt8)) (b:List UInt8),(l.foldl (zaR p) (a,b)).1.length≤a.length+l.length
 |[],a,b=>by simp
 |c::l,a,b=>by
  rw [List.foldl_cons]
  unfold zaR
  split
  ·exact Nat.le_trans (zpL p l (a++[b]) []) (by simp;omega)
  ·exact Nat.le_trans (zpL p l a (b++[c])) (by simp)
theorem zxZ (p:UInt8→Bool) (l:List UInt8):(splitB p l).length≤l.length+1:=by
 have:=zpL p l [] []
 unfold splitB spl
 simp only [List.length_append,List.length_cons,List.length_nil] at this ⊢
 omega
theorem z0R {l:List UInt8} {n:Nat} (h:l.length≤n): ∀a∈zhS l,a.length≤n:=fun a ha=>Nat.le_trans (zpN _ l a (List.mem_filter.1 ha).1) h
/-- what Parse returns -/
def RetPar (w:World) (o:Option Pl×Nat) (e:Ending) (w':World):Prop:=
 Below w.heap.size w w'∧match o.1 with
 |some p=> ∃rv pv,e= .returned (.tuple #[.agg #[rv,pv,.bool p.bare],.int .i64 0,.int .i64 0])∧OwnX 237 4 Ru.cl w' w.heap.size rv p.rs∧OwnX 3 1 clI w' w.heap.size pv p.ps
 |none=>e= .returned (.tuple #[.agg #[.slice none 0 0,.slice none 0 0,.bool false],.int .i64 (o.2:Nat),.int .i64 4])
theorem OwnX.set3 {X:Type} {t:TypeId} {s:Nat} {cl:X→List Value} {x:World} {base:Nat} {v:Value} {l:List X} (h:OwnX t s cl x base v l) {r:Nat} {c0 c1 c2:Value} {t':TypeId} (hb:x.heap[r]? =some (.cells #[c0,c1,c2] t')) (ht:t'≠t) (a b c:Value):OwnX t s cl (((x.setCell ⟨r,0,none⟩ a).setCell ⟨r,1,none⟩ b).setCell ⟨r,2,none⟩ c) base v l:=
 ((h.setOther hb ht 0 a).setOther (zaP hb 0 a) ht 1 b).setOther (zaP (zaP hb 0 a) 1 b) ht 2 c
theorem z1O {x:World} {r:Nat} {c0 c1 c2:Value} {t':TypeId} (hb:x.heap[r]? =some (.cells #[c0,c1,c2] t')) (a b c:Value):(((x.setCell ⟨r,0,none⟩ a).setCell ⟨r,1,none⟩ b).setCell ⟨r,2,none⟩ c).heap[r]? =some (.cells #[a,b,c] t'):=zaP (zaP (zaP hb 0 a) 1 b) 2 c
theorem zqH {B:Nat} {a x:World} (h:Below B a x) {r:Nat} (hr:B≤r) (u v z:Value):Below B a (((x.setCell ⟨r,0,none⟩ u).setCell ⟨r,1,none⟩ v).setCell ⟨r,2,none⟩ z):=
 ((h.setCell (p:=⟨r,0,none⟩) hr u).setCell (p:=⟨r,1,none⟩) hr v).setCell (p:=⟨r,2,none⟩) hr z
theorem Blks.keepBB {b:Nat} {c:Array Value} {t:TypeId} {x y:World} {B:Nat} (h:Blks [(b,c,t)] x) (hb:Below B x y) (hl:b<B):Blks [(b,c,t)] y:=fun e he=>by
 rcases List.mem_cons.1 he with q|q
 ·rw [q];exact (hb.block b hl).trans (h _ (.head _))
 ·cases q
theorem z0O (s:ByteArray) (w:World) (hs:s.size≤100000) (hmax:MaxVar w):
  Calls Tryz.prog 226 #[.string s] w (RetPar w (zfQ .zero 0 (zmB s))):=by
 have HX:=Lib.hid hmax
 clear hmax
 have HA:Hid (Below w.heap.size w (w.alloc (.cells #[.slice none 0 0,.slice none 0 0,.bool false] 218))):=(Below.refl _ _).alloc (Nat.le_refl _) _
 have hll:(zmB s).length≤100001:=by
  have:=zxZ (hasB [10]) s.data.toList
  have e:s.data.toList.length=s.size:=Array.length_toList
  unfold zmB
  omega
 have hsm: ∀l∈zmB s,l.length≤100000:=fun l hl=>by
  have:=zpN (hasB [10]) s.data.toList l hl
  rw [Array.length_toList] at this
  exact Nat.le_trans this hs
 have HSM:=Lib.hid hsm
 clear hsm
 go_enter Tryz.func226,Tryz.ntmps226
 go_wp2_with fail
 refine (z6L s _ (by omega) (zaB HX.out (HA.out.alloc HA.out.size _))).mono ?_
 rintro e x1 ⟨rfl,rfl⟩
 rw [show splitB (hasB [10]) s.data.toList=zmB s from rfl]
 generalize zmB s=ls at*
 obtain ⟨wA,hwA⟩: ∃y,y=w.alloc (.cells #[.slice none 0 0,.slice none 0 0,.bool false] 218):=⟨_,rfl⟩
 have HSZ:Hid (wA.heap.size=w.heap.size+1):=by show _=_;rw [hwA];simp
 have HRB:Hid (Blks [(w.heap.size,#[.slice none 0 0,.slice none 0 0,.bool false],218)] wA):=by rw [hwA];exact (Blks.empty w).new _ _
 rw [←hwA] at HA ⊢
 have HP0:Hid (PS wA (wA.alloc (.cells #[.slice none 0 0,.slice none 0 0,.bool false] 218)) (w.heap.size+1) (w.heap.size+1) (.slice none 0 0) (.slice none 0 0) [] [] false):=by
  have hb:Below (w.heap.size+1) wA (wA.alloc (.cells #[.slice none 0 0,.slice none 0 0,.bool false] 218)):=(Below.refl _ _).alloc (by rw [HSZ.out];exact Nat.le_refl _) _
  refine ⟨hb,?_,OwnX.nil _ _,OwnX.nil _ _,Nat.le_refl _,?_⟩
  ·rw [←HSZ.out];exact Go.Deep.blk_alloc_new _ _
  ·simp [HSZ.out]
 have HB0:Hid (Below (wA.alloc (.cells #[.slice none 0 0,.slice none 0 0,.bool false] 218)).heap.size (wA.alloc (.cells #[.slice none 0 0,.slice none 0 0,.bool false] 218)) ((wA.alloc (.cells #[.slice none 0 0,.slice none 0 0,.bool false] 218)).alloc (.cells (zeL ls).toArray 9))):=(Below.refl _ _).alloc (Nat.le_refl _) _
 have HP1:=Lib.hid (HP0.out.keep HB0.out)
 have HLB:Hid (((wA.alloc (.cells #[.slice none 0 0,.slice none 0 0,.bool false] 218)).alloc (.cells (zeL ls).toArray 9)).heap[(wA.alloc (.cells #[.slice none 0 0,.slice none 0 0,.bool false] 218)).heap.size]? =some (.cells (zeL ls).toArray 9)):=Go.Deep.blk_alloc_new _ _
 clear HP0 HB0
 generalize (wA.alloc (.cells #[.slice none 0 0,.slice none 0 0,.bool false] 218)).alloc (.cells (zeL ls).toArray 9)=x1 at*
 generalize (wA.alloc (.cells #[.slice none 0 0,.slice none 0 0,.bool false] 218)).heap.size=b at*
 clear hwA
 go_wp2
 go_loopw [11] (fun i wr=> ∃(j:Nat) (p:Pl) (rv pv:Value),j≤ls.length∧i= .int .i64 j∧Hid (PS wA wr (w.heap.size+1) (w.heap.size+1) rv pv p.rs p.ps p.bare)∧Hid (wr.heap[b]? =some (.cells (zeL ls).toArray 9))∧Hid (zfQ .zero 0 ls=zfQ p j (ls.drop j))∧p.rs.length≤j∧p.ps.length≤j) (fun i _=>ls.length - (intOf i).toNat)
 case atStart=>exact ⟨0,.zero,_,_,Nat.zero_le _,rfl,HP1,HLB,rfl,Nat.zero_le _,Nat.zero_le _⟩
 case round=>
  obtain ⟨j,p,rv,pv,hj,rfl,HP,HL,HE,hr1,hr2⟩:=hrel
  have HW:Hid (Below w.heap.size w wr):=HA.out.trans (HP.out.below.mono (by omega))
  by_cases hlt:j<ls.length
  ·obtain ⟨l,hl⟩: ∃l,ls[j]? =some l:=⟨_,List.getElem?_eq_getElem hlt⟩
   have c0:wr.cell? ⟨b,j,none⟩=some (.string ⟨l.toArray⟩):=by
    rw [zaD HL.out]
    unfold zeL
    rw [List.getElem?_toArray,List.getElem?_map,hl];rfl
   have hjl:(j:Int)<ls.length:=by omega
   have hsl:l.length≤100000:=HSM.out l (List.mem_of_getElem? hl)
   have HWD:Hid (Calls Tryz.prog 235 #[.string ⟨l.toArray⟩] wr (ztL wr.heap.size (zhS l) wr)):=by
    have:=zyL ⟨l.toArray⟩ wr (by simp [ByteArray.size];omega)
    show Calls _ _ _ _ _
    simpa using this
   have HDR:Hid (ls.drop j=l::ls.drop (j+1)):=by
    show _=_
    rw [List.drop_eq_getElem_cons hlt]
    congr 1
    rw [List.getElem?_eq_getElem hlt] at hl
    exact Option.some.inj hl
   go_wp2_with fail
   refine HWD.out.mono ?_
   rintro e x2 ⟨v,rfl,hpv,hb2⟩
   have HT:=Lib.hid (z6C wA x2 (w.heap.size+1) (w.heap.size+1) rv pv p _ v (zhS l) (HP.out.keep hb2) hpv (zaB HX.out (HW.out.trans (hb2.mono HW.out.size))) (fun a ha=>Nat.le_trans (z0R hsl a ha) (by omega)) (by omega) (by omega))
   have HL2:=Lib.hid ((hb2.block b (zaC HL.out)).trans HL.out)
   clear hb2 hpv HWD c0
   cases hz:ziB p (zhS l) with
   |some q=>
    rw [hz] at HT
    have HQ:Hid (zfQ .zero 0 ls=zfQ q (j+1) (ls.drop (j+1))):=by show _=_;rw [HE.out,HDR.out,zjM hz]
    obtain ⟨hq1,hq2⟩:=z6V hz
    clear hz
    go_wp2_with fail
    refine HT.out.mono ?_
    rintro e x3 ⟨hK,rv',pv',rfl,hP3⟩
    have HP3:=Lib.hid hP3
    have HL3:=Lib.hid (hK b _ HL2.out)
    clear hK hP3
    go_wp2
    go_roundw
    case rel=>exact ⟨j+1,q,rv',pv',by omega,by go_num,HP3,HL3,HQ,by omega,by omega⟩
    case measure=>simp [intOf];omega
   |none=>
    rw [hz] at HT
    have HQ:Hid (zfQ .zero 0 ls=(none,j+1)):=by show _=_;rw [HE.out,HDR.out,zzD hz]
    clear hz
    go_wp2_with fail
    refine HT.out.mono ?_
    rintro e x3 ⟨_,rfl,hP3⟩
    have HRX:=Lib.hid (HRB.out.keepBB hP3.below (by omega))
    have HW3:Hid (Below w.heap.size w x3):=HA.out.trans (hP3.below.mono (by omega))
    obtain ⟨lr,r0,r1,r2⟩:=HRX.out.r3 (.head _)
    have fr:=fun i=>zaK (HRX.out _ (.head _)) i
    have f0:=fr 0
    have f1:=fr 1
    have f2:=fr 2
    have hrow:=z1O (HRX.out (w.heap.size,_,_) (.head _)) (.slice none 0 0) (.slice none 0 0) (.bool false)
    have s0:=zaD hrow 0
    have s1:=zaD hrow 1
    have s2:=zaD hrow 2
    have HB3:=Lib.hid (zqH HW3.out (Nat.le_refl _) (.slice none 0 0) (.slice none 0 0) (.bool false))
    simp at s0 s1 s2
    have HR:=Lib.hid (And.intro s0 (And.intro s1 s2))
    clear s0 s1 s2 hrow fr hP3
    go_wp2
    obtain ⟨s0,s1,s2⟩:=HR.out
    refine bodyPost_ret (v:= .tuple #[.agg #[.slice none 0 0,.slice none 0 0,.bool false],.int .i64 ((j+1:Nat):Int),.int .i64 4]) (by simp [results,Tryz.results226,go_sem,s0,s1,s2]) rfl ?_
    rw [HQ.out]
    exact ⟨HB3.out,rfl⟩
  ·have hj':j=ls.length:=by omega
   subst hj'
   have HQ:Hid (zfQ .zero 0 ls=(some p,0)):=by show _=_;rw [HE.out,List.drop_length];rfl
   have HRX:=Lib.hid (HRB.out.keepBB HP.out.below (by omega))
   obtain ⟨lr,r0,r1,r2⟩:=HRX.out.r3 (.head _)
   have p0:=zaD HP.out.blk 0
   have p1:=zaD HP.out.blk 1
   have p2:=zaD HP.out.blk 2
   simp at p0 p1 p2
   have f0:=zaK (HRX.out _ (.head _)) 0
   have f1:=zaK (HRX.out _ (.head _)) 1
   have f2:=zaK (HRX.out _ (.head _)) 2
   obtain ⟨ra,rc,rfl⟩:=HP.out.rows.form
   obtain ⟨pa,pc,rfl⟩:=HP.out.ports.form
   have hrow:=z1O (HRX.out (w.heap.size,_,_) (.head _)) (.slice ra p.rs.length rc) (.slice pa p.ps.length pc) (.bool p.bare)
   have s0:=zaD hrow 0
   have s1:=zaD hrow 1
   have s2:=zaD hrow 2
   have HB3:=Lib.hid (zqH HW.out (Nat.le_refl _) (.slice ra p.rs.length rc) (.slice pa p.ps.length pc) (.bool p.bare))
   have HO1:=Lib.hid ((HP.out.rows.set3 (HRX.out (w.heap.size,_,_) (.head _)) tyPR (.slice ra p.rs.length rc) (.slice pa p.ps.length pc) (.bool p.bare)).lower (Nat.le_succ _))
   have HO2:=Lib.hid ((HP.out.ports.set3 (HRX.out (w.heap.size,_,_) (.head _)) tyPI (.slice ra p.rs.length rc) (.slice pa p.ps.length pc) (.bool p.bare)).lower (Nat.le_succ _))
   simp at s0 s1 s2
   have HR:=Lib.hid (And.intro s0 (And.intro s1 s2))
   clear s0 s1 s2 hrow
   go_wp2
   obtain ⟨s0,s1,s2⟩:=HR.out
   refine bodyPost_ret (v:= .tuple #[.agg #[.slice ra p.rs.length rc,.slice pa p.ps.length pc,.bool p.bare],.int .i64 0,.int .i64 0]) (by simp [results,Tryz.results226,go_sem,s0,s1,s2]) rfl ?_
   rw [HQ.out]
   exact ⟨HB3.out,_,_,rfl,HO1.out,HO2.out⟩
end

section
open Go.RowKit
theorem zwV (w:World):w.drew.heap.size=w.heap.size:=rfl
/-- a gate in memory -/
structure zmI (x:World) (q g:Nat) (T:HT) (v:Value) (ps:List Int):Prop where
 trie:zdB x g T
 gate:x.heap[q]? =some (.cells #[.pointer (some ⟨g,0,none⟩),v] 232)
 row: ∃b,OwnX 3 1 clI x b v ps
theorem zmI.keep {x y:World} {q g:Nat} {T:HT} {v:Value} {ps:List Int} (h:zmI x q g T v ps) (hb:Below x.heap.size x y):zmI y q g T v ps:=
 ⟨h.trie.keep hb,(hb.block q (zaC h.gate)).trans h.gate,by obtain ⟨b,ho⟩:=h.row;exact ⟨b,ho.keep hb⟩⟩
theorem OwnX.blk {X:Type} {t:TypeId} {s:Nat} {cl:X→List Value} {x:World} {base:Nat} {v:Value} {l:List X} (h:OwnX t s cl x base v l): ∃Lp,Blks Lp x∧(∀e∈Lp,base≤e.1)∧ ∀Y,Blks Lp Y→OwnX t s cl Y base v l:=by
 rcases h.2 with ⟨e,hn⟩|⟨g,cap,cur,e,hb,hg,r⟩
 ·exact ⟨[],Blks.empty _,fun e he=>(by cases he),fun Y _=>⟨h.1,.inl ⟨e,hn⟩⟩⟩
 ·refine ⟨[(g,cur,t)],fun e he=> ?_,fun e he=> ?_,fun Y hY=>⟨h.1,.inr ⟨g,cap,cur,e,hb,hY _ (.head _),r⟩⟩⟩
  ·rcases List.mem_cons.1 he with q|q
   ·rw [q];exact hg
   ·cases q
  ·rcases List.mem_cons.1 he with q|q
   ·rw [q];exact hb
   ·cases q
theorem yeE {rs:List Ru}:HT.nil.pt=zgL rs 0 (zeQ true):=by
 unfold zgL zeQ;simp;rfl
theorem yhM {rs:List Ru}:lay9 0 HT.nil.pt=zgL rs 0 (zeQ false):=by
 unfold zgL zeQ;simp;rfl
theorem z3P {w x0 x1 x2 x3:World} {P:Array Value} {tp tg:TypeId} {v:Value} {Lp:List (Nat×Array Value×TypeId)} (h0:x0=w.alloc (.cells P tp)) (h1:Below x0.heap.size x0 x1) (h2:Below x1.heap.size x1 x2) (ht:zdB x2 x1.heap.size .nil) (hx:x1.heap.size<x2.heap.size) (h3:Below x2.heap.size x2 x3) (hL:Blks Lp x3) (hl: ∀e∈Lp,x2.heap.size≤e.1):
  St w (x3.alloc (.cells #[.pointer (some ⟨x1.heap.size,0,none⟩),v] tg)) x1.heap.size .nil ((x3.heap.size,#[.pointer (some ⟨x1.heap.size,0,none⟩),v],tg)::(w.heap.size,P,tp)::Lp):=by
 have hw:Below w.heap.size w x0:=by rw [h0];exact (Below.refl _ _).alloc (Nat.le_refl _) _
 have s0:x0.heap.size=w.heap.size+1:=by rw [h0];simp
 have s1:=h1.size
 have s2:=h2.size
 have s3:=h3.size
 have hB:Blks [(w.heap.size,P,tp)] x0:=by rw [h0];exact (Blks.empty w).new P tp
 have hB3:=((hB.keep h1).keep h2).keep h3
 have hB4:Blks ((w.heap.size,P,tp)::Lp) x3:=fun e he=>by
  rcases List.mem_cons.1 he with q|q
  ·exact hB3 e (by rw [q];exact .head _)
  ·exact hL e q
 refine ⟨?_,(ht.keep h3).keep ((Below.refl _ _).alloc (Nat.le_refl _) _),fun b hb=> ?_,hB4.new _ _,fun e he hq=> ?_⟩
 ·have:=zaA (zaA (zaA hw h1) h2) h3
  exact this.alloc this.size _
 ·rcases List.mem_cons.1 hb with q|q
  ·rw [q];omega
  ·cases q
 ·have hq':e.1=x1.heap.size:=by
   rcases List.mem_cons.1 hq with q|q
   ·exact q
   ·cases q
  rcases List.mem_cons.1 he with q|q
  ·rw [q] at hq';simp only at hq';omega
  ·rcases List.mem_cons.1 q with q|q
   ·rw [q] at hq';simp only at hq';omega
   ·have:=hl e q;omega
/-- what Build returns of a policy that may be -/
def RetB (w:World) (rs:List Ru) (ps:List Int) (bare:Bool) (e:Ending) (w':World):Prop:=
 ∃q g T v,e= .returned (.tuple #[.pointer (some ⟨q,0,none⟩),.int .i64 0])∧zmI w' q g T v ps∧T.pt=polZ rs bare∧Below w.heap.size w w'
theorem z5H (ra pa:Option Addr) (rc pc:Nat) (bare:Bool) (rs:List Ru) (ps:List Int) (w:World) (hmax:MaxVar w) (hr:zmA w ra rs.length rc rs) (hp:zlC w pa ps.length pc ps) (hc:zgS rs ps=0):
  Calls Tryz.prog 227 #[.agg #[.slice ra rs.length rc,.slice pa ps.length pc,.bool bare]] w (RetB w rs ps bare):=by
 have HX:=Lib.hid hmax
 have HRO:=Lib.hid hr
 have HPO:=Lib.hid hp
 have hx0:Below w.heap.size w (w.alloc (.cells #[.slice ra rs.length rc,.slice pa ps.length pc,.bool bare] 218)):=(Below.refl _ _).alloc (Nat.le_refl _) _
 have HC:Hid (Calls Tryz.prog 236 #[.agg #[.slice ra rs.length rc,.slice pa ps.length pc,.bool bare]] (w.alloc (.cells #[.slice ra rs.length rc,.slice pa ps.length pc,.bool bare] 218)) fun e w'=>e= .returned (.int .i64 0)∧Below (w.alloc (.cells #[.slice ra rs.length rc,.slice pa ps.length pc,.bool bare] 218)).heap.size (w.alloc (.cells #[.slice ra rs.length rc,.slice pa ps.length pc,.bool bare] 218)) w'):=by
  have:=zyH ra pa rc pc bare rs ps _ (hr.keep hx0) (hp.keep hx0);rw [hc] at this;exact this
 obtain ⟨hl1,hl2,h3,_⟩:=z6G hc
 have HR3:=Lib.hid h3
 have HOK:Hid (∀x∈rs,x.Ok):=fun x hx=>by
  obtain ⟨i,hi,e⟩:=List.getElem_of_mem hx
  exact (hr.2 i x (by rw [List.getElem?_eq_getElem hi,e])).2
 clear hr hp hmax hc h3
 go_enter Tryz.func227,Tryz.ntmps227
 go_wp2_with fail
 refine HC.out.mono ?_
 rintro e x1 ⟨rfl,hb1⟩
 have HW1:=Lib.hid hb1
 have HB1:=Lib.hid (((Blks.empty w).new #[.slice ra rs.length rc,.slice pa ps.length pc,.bool bare] 218).keep hb1)
 have HX1:=Lib.hid (zaA hx0 hb1)
 clear HC hb1 hx0
 go_wp2_with fail
 have HK4:Hid (∀W,Below x1.heap.size x1 W→(fun W=>W.cell? ⟨w.heap.size,1,none⟩=some (.slice pa ps.length pc)) W):=fun W hW=>((HB1.out.keep hW).r3 (.head _)).2.2.1
 have HCL:Hid (∀W,Below x1.heap.size x1 W→Calls Tryz.prog 238 #[.slice pa ps.length pc] W fun e w'=> ∃v,e= .returned v∧OwnX 3 1 clI w' W.heap.size v ps∧Below W.heap.size W w'):=fun W hW=>z0Q pa pc ps W (HPO.out.keep (zaA HX1.out hW)) (by omega)
 refine wp_region_held_drew (S:=fun W=>W.cell? ⟨w.heap.size,1,none⟩=some (.slice pa ps.length pc)) (by kernel_rfl) ?_ (fun hHeld=> ?_)
 ·exact HK4.out _ (zbG _)
 refine tka 1 (some 14) (v:= ?_) rfl (.inl ⟨by rfl,?_⟩) hHeld ?_;rotate_left;·intro w hSw;(try dsimp only at hSw);go_simp;try with_reducible rfl
 try simp only [Act.put,tkaa,tkab,tkac]
 refine tka 2 (some 15) (v:= ?_) rfl (.inl ⟨by rfl,?_⟩) hHeld ?_;rotate_left;·intro w hSw;(try dsimp only at hSw);go_simp;try with_reducible rfl
 try simp only [Act.put,tkaa,tkab,tkac]
 refine wpAnyH_ready (rs:=[0]) (by kernel_rfl) (by simp) ?_
 refine AllReadyH.cons (o:=⟨some 13,_,_,_,_,_⟩) rfl (fun K hK=> ?_) AllReadyH.nil
 go_simp
 go_at_call 237
 refine (z8Y _).mono ?_
 rintro e x2 ⟨rfl,hb2,ht2⟩
 have HW2:=Lib.hid (zbZ hb2)
 have HT2:=Lib.hid ht2
 clear hb2 ht2
 simp only [zwV] at HT2
 simp only [zwV]
 (try go_wp2_with fail)
 refine hK.out _ _ ?_ (fun hHeld1=> ?_)
 ·exact HK4.out _ HW2.out
 clear hK K
 try simp only [Act.put,tkaa,tkab,tkac]
 refine wpAnyH_ready (rs:=[3]) (by kernel_rfl) (by simp) ?_
 refine AllReadyH.cons (o:=⟨some 16,_,_,_,_,_⟩) rfl (fun K hK=> ?_) AllReadyH.nil
 go_simp
 go_at_call 238
 refine (HCL.out _ HW2.out).mono ?_
 rintro e x3 ⟨v,rfl,ho3,hb3⟩
 have HW3:=Lib.hid hb3
 have HO3:=Lib.hid ho3
 clear hb3 ho3
 obtain ⟨pa2,pc2,rfl⟩:=HO3.out.form
 (try go_wp2_with fail)
 refine hK.out _ _ ?_ (fun hHeld2=> ?_)
 ·exact HK4.out _ (zaA HW2.out HW3.out)
 clear hK K
 try simp only [Act.put,tkaa,tkab,tkac]
 refine tka 4 (some 17) (v:= ?_) rfl (.inl ⟨by rfl,?_⟩) hHeld2 ?_;rotate_left;·intro w hSw;(try dsimp only at hSw);go_simp;try with_reducible rfl
 try simp only [Act.put,tkaa,tkab,tkac]
 refine wpAnyH_ready (rs:=[5]) (by kernel_rfl) (by simp) ?_
 refine AllReadyH.cons (o:=⟨some 18,_,_,_,_,_⟩) rfl (fun K hK=> ?_) AllReadyH.nil
 go_simp
 refine hK.out _ _ ?_ (fun hHeld3=> ?_)
 ·exact HK4.out _ ((zaA HW2.out HW3.out).alloc (zaA HW2.out HW3.out).size _)
 clear hK K
 try simp only [Act.put,tkaa,tkab,tkac]
 refine tka 6 (some 5) (v:= ?_) rfl (.inl ⟨by rfl,?_⟩) hHeld3 ?_;rotate_left;·intro w hSw;(try dsimp only at hSw);go_simp;try with_reducible rfl
 try simp only [Act.put,tkaa,tkab,tkac]
 refine wpAnyH_done (by kernel_rfl) ?_ _
 obtain ⟨Lp,hLb,hLl,hLo⟩:=HO3.out.blk
 have HS:=Lib.hid (z3P (tp:=218) (tg:=232) (v:= .slice pa2 ps.length pc2) (P:= #[.slice ra rs.length rc,.slice pa ps.length pc,.bool bare]) rfl HW1.out HW2.out HT2.out (HT2.out.lt _ (.head _)) HW3.out hLb hLl)
 have HLO:=Lib.hid hLo
 clear hLb hLl hLo HO3 HW3 HT2 HW2 HK4 HCL HB1 HX1 HW1
 generalize x3.alloc (.cells #[.pointer (some ⟨x1.heap.size,0,none⟩),.slice pa2 ps.length pc2] 232)=x4 at*
 generalize x3.heap.size=q at*
 generalize x1.heap.size=g at*
 obtain ⟨v,hv⟩: ∃v,v=Value.slice pa2 ps.length pc2:=⟨_,rfl⟩
 rw [←hv] at HS HLO
 clear hv
 obtain ⟨lb,p0,p1,p2⟩:=HS.out.blks.r3 (b:=w.heap.size) (.tail _ (.head _))
 obtain ⟨lq,q0,q1⟩:=HS.out.blks.r2 (b:=q) (.head _)
 cases bare with
 |true=>
  have HPT:Hid (HT.nil.pt=zgL rs 0 (zeQ true)):=yeE
  clear lb
  go_wp2
  clear p0 p1 p2
  go_loopw [30] (fun i wr=> ∃(j:Nat) (T:HT),j≤rs.length∧i= .int .i64 j∧Hid (St w wr g T ((q,#[.pointer (some ⟨g,0,none⟩),v],232)::(w.heap.size,#[.slice ra rs.length rc,.slice pa ps.length pc,.bool true],218)::Lp))∧Hid (T.pt=zgL rs j (zeQ true))) (fun i _=>rs.length - (intOf i).toNat)
  case atStart=>exact ⟨0,.nil,Nat.zero_le _,rfl,HS,HPT⟩
  case round=>
   obtain ⟨j,T,hj,rfl,HS,HP⟩:=hrel
   by_cases hlt:j<rs.length
   ·obtain ⟨ad,rfl,x,hx,⟨c0,c1,c2,c3⟩,hx1,hx2,_⟩:=(HRO.out.keep HS.out.below).at hlt
    have hjl:(j:Int)<rs.length:=by omega
    have HS1:=Lib.hid (HS.out.new #[.int .u64 (x.hi:Nat),.int .u64 (x.lo:Nat),.int .i64 x.k,.bool x.a] 237)
    have HK10:Hid (∀Y T',St w Y g T' ((wr.heap.size,#[.int .u64 (x.hi:Nat),.int .u64 (x.lo:Nat),.int .i64 x.k,.bool x.a],237)::((q,#[.pointer (some ⟨g,0,none⟩),v],232)::(w.heap.size,#[.slice (some ad) rs.length rc,.slice pa ps.length pc,.bool true],218)::Lp))→(fun W=>W.cell? ⟨q,0,none⟩=some (.pointer (some ⟨g,0,none⟩))∧W.cell? ⟨wr.heap.size,0,none⟩=some (.int .u64 (x.hi:Nat))∧W.cell? ⟨wr.heap.size,1,none⟩=some (.int .u64 (x.lo:Nat))∧W.cell? ⟨wr.heap.size,2,none⟩=some (.int .i64 x.k)∧W.cell? ⟨wr.heap.size,3,none⟩=some (.bool x.a)) Y):=fun Y T' hY=>⟨(hY.blks.r2 (b:=q) (.tail _ (.head _))).2.1,(hY.blks.q4 (.head _)).2⟩
    have HPU:Hid (∀X,Below (wr.alloc (.cells #[.int .u64 (x.hi:Nat),.int .u64 (x.lo:Nat),.int .i64 x.k,.bool x.a] 237)).heap.size (wr.alloc (.cells #[.int .u64 (x.hi:Nat),.int .u64 (x.lo:Nat),.int .i64 x.k,.bool x.a] 237)) X→Calls Tryz.prog 240 #[.pointer (some ⟨g,0,none⟩),.agg #[.int .u64 (x.hi:Nat),.int .u64 (x.lo:Nat),.int .i64 x.k],.int .i64 x.v] X fun e w'=> ∃T2,e= .returned (.bool true)∧Hid (St w w' g T2 ((wr.heap.size,#[.int .u64 (x.hi:Nat),.int .u64 (x.lo:Nat),.int .i64 x.k,.bool x.a],237)::((q,#[.pointer (some ⟨g,0,none⟩),v],232)::(w.heap.size,#[.slice (some ad) rs.length rc,.slice pa ps.length pc,.bool true],218)::Lp)))∧Hid (T2.pt=zgL rs (j+1) (zeQ true))):=fun X hX=>by
     obtain ⟨k1,k2,k3⟩:=zkA (z1S HR3.out hx)
     have hlen:T.pt.list.length<1000000:=by
      rw [HP.out]
      have:=zwY HOK.out HR3.out (zqT true) j
      have:=zqO true
      omega
     have:=zoT g T x.hi x.lo x.k.toNat x.v X (HS1.out.keep hX).trie hx1 hx2 k1 k2 hlen
     rw [k3] at this
     refine this.mono ?_
     rintro e w' ⟨T2,rfl,hm,hp⟩
     exact ⟨T2,rfl,(HS1.out.keep hX).moved hm,by show T2.pt=_;rw [ziV hx,←HP.out];exact hp⟩
    clear hx1 hx2
    go_wp2_with fail
    clear c0 c1 c2 c3
    refine wp_region_held_drew (S:=fun W=>W.cell? ⟨q,0,none⟩=some (.pointer (some ⟨g,0,none⟩))∧W.cell? ⟨wr.heap.size,0,none⟩=some (.int .u64 (x.hi:Nat))∧W.cell? ⟨wr.heap.size,1,none⟩=some (.int .u64 (x.lo:Nat))∧W.cell? ⟨wr.heap.size,2,none⟩=some (.int .i64 x.k)∧W.cell? ⟨wr.heap.size,3,none⟩=some (.bool x.a)) (by kernel_rfl) ?_ (fun hHeld=> ?_)
    ·exact HK10.out _ _ (HS1.out.keep (zbG _))
    refine tka 0 (some 34) (v:= ?_) rfl (.inl ⟨by rfl,?_⟩) hHeld ?_;rotate_left;·intro w hSw;(try dsimp only at hSw);go_simp;try with_reducible rfl
    try simp only [Act.put,tkaa,tkab,tkac]
    refine tka 1 (some 35) (v:= ?_) rfl (.inl ⟨by rfl,?_⟩) hHeld ?_;rotate_left;·intro w hSw;(try dsimp only at hSw);go_simp;try with_reducible rfl
    try simp only [Act.put,tkaa,tkab,tkac]
    refine tka 2 (some 36) (v:= ?_) rfl (.inl ⟨by rfl,?_⟩) hHeld ?_;rotate_left;·intro w hSw;(try dsimp only at hSw);go_simp;try with_reducible rfl
    try simp only [Act.put,tkaa,tkab,tkac]
    refine tka 3 (some 37) (v:= ?_) rfl (.inl ⟨by rfl,?_⟩) hHeld ?_;rotate_left;·intro w hSw;(try dsimp only at hSw);go_simp;try with_reducible rfl
    try simp only [Act.put,tkaa,tkab,tkac]
    refine tka 4 (some 38) (v:= ?_) rfl (.inl ⟨by rfl,?_⟩) hHeld ?_;rotate_left;·intro w hSw;(try dsimp only at hSw);go_simp;try with_reducible rfl
    try simp only [Act.put,tkaa,tkab,tkac]
    refine tka 5 (some 39) (v:= ?_) rfl (.inl ⟨by rfl,?_⟩) hHeld ?_;rotate_left;·intro w hSw;(try dsimp only at hSw);go_simp;try with_reducible rfl
    try simp only [Act.put,tkaa,tkab,tkac]
    refine tka 6 (some 40) (v:= ?_) rfl (.inl ⟨by rfl,?_⟩) hHeld ?_;rotate_left;·intro w hSw;(try dsimp only at hSw);go_simp;try with_reducible rfl
    try simp only [Act.put,tkaa,tkab,tkac]
    refine wpAnyH_ready (rs:=[7]) (by kernel_rfl) (by simp) ?_
    refine AllReadyH.cons (o:=⟨some 41,_,_,_,_,_⟩) rfl (fun K hK=> ?_) AllReadyH.nil
    go_simp
    go_at_call 241
    refine (zkZ x _).mono ?_
    rintro e y ⟨rfl,hby⟩
    have HY:=Lib.hid (zbZ hby)
    clear hby
    (try go_wp2_with fail)
    refine hK.out _ _ ?_ (fun hHeld1=> ?_)
    ·exact HK10.out _ _ (HS1.out.keep HY.out)
    clear hK K
    try simp only [Act.put,tkaa,tkab,tkac]
    refine wpAnyH_ready (rs:=[8]) (by kernel_rfl) (by simp) ?_
    refine AllReadyH.cons (o:=⟨some 42,_,_,_,_,_⟩) rfl (fun K hK=> ?_) AllReadyH.nil
    go_simp
    go_at_call 240
    refine (HPU.out _ HY.out).mono ?_
    rintro e y2 ⟨T2,rfl,HS2,HP2⟩
    (try go_wp2_with fail)
    refine hK.out _ _ ?_ (fun hHeld2=> ?_)
    ·exact HK10.out _ _ HS2.out
    clear hK K
    try simp only [Act.put,tkaa,tkab,tkac]
    refine wpAnyH_done (by kernel_rfl) ?_ _
    go_wp2
    go_roundw
    case rel=>exact ⟨j+1,T2,by omega,by go_num,HS2.out.drop (fun e he=> .tail _ he),HP2⟩
    case measure=>simp [intOf];omega
   ·have hj':j=rs.length:=by omega
    subst hj'
    go_wp2
    go_ret2
    exact ⟨q,g,T,v,rfl,⟨HS.out.trie,HS.out.blks _ (.head _),_,HLO.out _ (fun e he=>HS.out.blks e (.tail _ (.tail _ he)))⟩,HP.out,HS.out.below⟩

 |false=>
  go_wp2_with fail
  refine (yiK g .nil 0 _ (zaB HX.out HS.out.below) HS.out.trie (by decide)).mono ?_
  rintro e x5 ⟨T0,rfl,hm,hT⟩
  have HS5:=Lib.hid (HS.out.moved hm)
  have HPT:Hid (T0.pt=zgL rs 0 (zeQ false)):=hT.trans yhM
  clear hm hT HS lb p0 p1 p2 lq q0 q1
  have HS:=Lib.hid HS5.out
  clear HS5
  obtain ⟨lb,p0,p1,p2⟩:=HS.out.blks.r3 (b:=w.heap.size) (.tail _ (.head _))
  clear lb
  go_wp2
  clear p0 p1 p2
  go_loopw [30] (fun i wr=> ∃(j:Nat) (T:HT),j≤rs.length∧i= .int .i64 j∧Hid (St w wr g T ((q,#[.pointer (some ⟨g,0,none⟩),v],232)::(w.heap.size,#[.slice ra rs.length rc,.slice pa ps.length pc,.bool false],218)::Lp))∧Hid (T.pt=zgL rs j (zeQ false))) (fun i _=>rs.length - (intOf i).toNat)
  case atStart=>exact ⟨0,T0,Nat.zero_le _,rfl,HS,HPT⟩
  case round=>
   obtain ⟨j,T,hj,rfl,HS,HP⟩:=hrel
   by_cases hlt:j<rs.length
   ·obtain ⟨ad,rfl,x,hx,⟨c0,c1,c2,c3⟩,hx1,hx2,_⟩:=(HRO.out.keep HS.out.below).at hlt
    have hjl:(j:Int)<rs.length:=by omega
    have HS1:=Lib.hid (HS.out.new #[.int .u64 (x.hi:Nat),.int .u64 (x.lo:Nat),.int .i64 x.k,.bool x.a] 237)
    have HK10:Hid (∀Y T',St w Y g T' ((wr.heap.size,#[.int .u64 (x.hi:Nat),.int .u64 (x.lo:Nat),.int .i64 x.k,.bool x.a],237)::((q,#[.pointer (some ⟨g,0,none⟩),v],232)::(w.heap.size,#[.slice (some ad) rs.length rc,.slice pa ps.length pc,.bool false],218)::Lp))→(fun W=>W.cell? ⟨q,0,none⟩=some (.pointer (some ⟨g,0,none⟩))∧W.cell? ⟨wr.heap.size,0,none⟩=some (.int .u64 (x.hi:Nat))∧W.cell? ⟨wr.heap.size,1,none⟩=some (.int .u64 (x.lo:Nat))∧W.cell? ⟨wr.heap.size,2,none⟩=some (.int .i64 x.k)∧W.cell? ⟨wr.heap.size,3,none⟩=some (.bool x.a)) Y):=fun Y T' hY=>⟨(hY.blks.r2 (b:=q) (.tail _ (.head _))).2.1,(hY.blks.q4 (.head _)).2⟩
    have HPU:Hid (∀X,Below (wr.alloc (.cells #[.int .u64 (x.hi:Nat),.int .u64 (x.lo:Nat),.int .i64 x.k,.bool x.a] 237)).heap.size (wr.alloc (.cells #[.int .u64 (x.hi:Nat),.int .u64 (x.lo:Nat),.int .i64 x.k,.bool x.a] 237)) X→Calls Tryz.prog 240 #[.pointer (some ⟨g,0,none⟩),.agg #[.int .u64 (x.hi:Nat),.int .u64 (x.lo:Nat),.int .i64 x.k],.int .i64 x.v] X fun e w'=> ∃T2,e= .returned (.bool true)∧Hid (St w w' g T2 ((wr.heap.size,#[.int .u64 (x.hi:Nat),.int .u64 (x.lo:Nat),.int .i64 x.k,.bool x.a],237)::((q,#[.pointer (some ⟨g,0,none⟩),v],232)::(w.heap.size,#[.slice (some ad) rs.length rc,.slice pa ps.length pc,.bool false],218)::Lp)))∧Hid (T2.pt=zgL rs (j+1) (zeQ false))):=fun X hX=>by
     obtain ⟨k1,k2,k3⟩:=zkA (z1S HR3.out hx)
     have hlen:T.pt.list.length<1000000:=by
      rw [HP.out]
      have:=zwY HOK.out HR3.out (zqT false) j
      have:=zqO false
      omega
     have:=zoT g T x.hi x.lo x.k.toNat x.v X (HS1.out.keep hX).trie hx1 hx2 k1 k2 hlen
     rw [k3] at this
     refine this.mono ?_
     rintro e w' ⟨T2,rfl,hm,hp⟩
     exact ⟨T2,rfl,(HS1.out.keep hX).moved hm,by show T2.pt=_;rw [ziV hx,←HP.out];exact hp⟩
    clear hx1 hx2
    go_wp2_with fail
    clear c0 c1 c2 c3
    refine wp_region_held_drew (S:=fun W=>W.cell? ⟨q,0,none⟩=some (.pointer (some ⟨g,0,none⟩))∧W.cell? ⟨wr.heap.size,0,none⟩=some (.int .u64 (x.hi:Nat))∧W.cell? ⟨wr.heap.size,1,none⟩=some (.int .u64 (x.lo:Nat))∧W.cell? ⟨wr.heap.size,2,none⟩=some (.int .i64 x.k)∧W.cell? ⟨wr.heap.size,3,none⟩=some (.bool x.a)) (by kernel_rfl) ?_ (fun hHeld=> ?_)
    ·exact HK10.out _ _ (HS1.out.keep (zbG _))
    refine tka 0 (some 34) (v:= ?_) rfl (.inl ⟨by rfl,?_⟩) hHeld ?_;rotate_left;·intro w hSw;(try dsimp only at hSw);go_simp;try with_reducible rfl
    try simp only [Act.put,tkaa,tkab,tkac]
    refine tka 1 (some 35) (v:= ?_) rfl (.inl ⟨by rfl,?_⟩) hHeld ?_;rotate_left;·intro w hSw;(try dsimp only at hSw);go_simp;try with_reducible rfl
    try simp only [Act.put,tkaa,tkab,tkac]
    refine tka 2 (some 36) (v:= ?_) rfl (.inl ⟨by rfl,?_⟩) hHeld ?_;rotate_left;·intro w hSw;(try dsimp only at hSw);go_simp;try with_reducible rfl
    try simp only [Act.put,tkaa,tkab,tkac]
    refine tka 3 (some 37) (v:= ?_) rfl (.inl ⟨by rfl,?_⟩) hHeld ?_;rotate_left;·intro w hSw;(try dsimp only at hSw);go_simp;try with_reducible rfl
    try simp only [Act.put,tkaa,tkab,tkac]
    refine tka 4 (some 38) (v:= ?_) rfl (.inl ⟨by rfl,?_⟩) hHeld ?_;rotate_left;·intro w hSw;(try dsimp only at hSw);go_simp;try with_reducible rfl
    try simp only [Act.put,tkaa,tkab,tkac]
    refine tka 5 (some 39) (v:= ?_) rfl (.inl ⟨by rfl,?_⟩) hHeld ?_;rotate_left;·intro w hSw;(try dsimp only at hSw);go_simp;try with_reducible rfl
    try simp only [Act.put,tkaa,tkab,tkac]
    refine tka 6 (some 40) (v:= ?_) rfl (.inl ⟨by rfl,?_⟩) hHeld ?_;rotate_left;·intro w hSw;(try dsimp only at hSw);go_simp;try with_reducible rfl
    try simp only [Act.put,tkaa,tkab,tkac]
    refine wpAnyH_ready (rs:=[7]) (by kernel_rfl) (by simp) ?_
    refine AllReadyH.cons (o:=⟨some 41,_,_,_,_,_⟩) rfl (fun K hK=> ?_) AllReadyH.nil
    go_simp
    go_at_call 241
    refine (zkZ x _).mono ?_
    rintro e y ⟨rfl,hby⟩
    have HY:=Lib.hid (zbZ hby)
    clear hby
    (try go_wp2_with fail)
    refine hK.out _ _ ?_ (fun hHeld1=> ?_)
    ·exact HK10.out _ _ (HS1.out.keep HY.out)
    clear hK K
    try simp only [Act.put,tkaa,tkab,tkac]
    refine wpAnyH_ready (rs:=[8]) (by kernel_rfl) (by simp) ?_
    refine AllReadyH.cons (o:=⟨some 42,_,_,_,_,_⟩) rfl (fun K hK=> ?_) AllReadyH.nil
    go_simp
    go_at_call 240
    refine (HPU.out _ HY.out).mono ?_
    rintro e y2 ⟨T2,rfl,HS2,HP2⟩
    (try go_wp2_with fail)
    refine hK.out _ _ ?_ (fun hHeld2=> ?_)
    ·exact HK10.out _ _ HS2.out
    clear hK K
    try simp only [Act.put,tkaa,tkab,tkac]
    refine wpAnyH_done (by kernel_rfl) ?_ _
    go_wp2
    go_roundw
    case rel=>exact ⟨j+1,T2,by omega,by go_num,HS2.out.drop (fun e he=> .tail _ he),HP2⟩
    case measure=>simp [intOf];omega
   ·have hj':j=rs.length:=by omega
    subst hj'
    go_wp2
    go_ret2
    exact ⟨q,g,T,v,rfl,⟨HS.out.trie,HS.out.blks _ (.head _),_,HLO.out _ (fun e he=>HS.out.blks e (.tail _ (.tail _ he)))⟩,HP.out,HS.out.below⟩
end

section
open Go.RowKit
theorem z4X (q g:Nat) (T:HT) (v:Value) (ps:List Int) (a:AZ) (w:World) (hg:zmI w q g T v ps) (ha:a.Ok):
  Calls Tryz.prog 244 #[.pointer (some ⟨q,0,none⟩),a.val] w fun e w'=>e= .returned (.bool (zjO T.pt a.wd))∧Below w.heap.size w w':=by
 have HF:Hid (Calls Tryz.prog 256 #[.pointer (some ⟨g,0,none⟩),a.val] w (RetF w (T.pt.find a.wd none))):=znD g T a w hg.trie ha
 have q0:=zaD hg.gate 0
 simp at q0
 unfold zjO
 clear hg ha
 generalize a.val=va at*
 cases hf:T.pt.find a.wd none with
 |none=>
  rw [hf] at HF
  go_enter Tryz.func244,Tryz.ntmps244
  go_wp2_with fail
  refine HF.out.mono ?_
  rintro e x1 ⟨rfl,hb1⟩
  simp only [entV]
  have hb2:=hb1.alloc hb1.size (.cells #[.int .u64 0,.int .u64 0,.int .i64 0] 235)
  go_wp2
  go_ret
  exact ⟨rfl,hb2⟩
 |some y=>
  rw [hf] at HF
  go_enter Tryz.func244,Tryz.ntmps244
  go_wp2_with fail
  refine HF.out.mono ?_
  rintro e x1 ⟨rfl,hb1⟩
  simp only [entV]
  have hb2:=hb1.alloc hb1.size (.cells #[.int .u64 (hiN y.W:Nat),.int .u64 (loN y.W:Nat),.int .i64 (y.n:Nat)] 235)
  go_wp2
  go_ret
  exact ⟨by first|rfl|exact zaT (by by_cases c:y.v=1<;>simp [c]),hb2⟩
theorem z0L (u:Option Addr) (va:Value) (w:World) (HV:Hid (Calls Tryz.prog 244 #[.pointer u,va] w fun e w'=>e= .returned (.bool false)∧Below w.heap.size w w')):
  Calls Tryz.prog 230 #[.pointer u,va] w fun e w'=>e= .returned (.bool false)∧Below w.heap.size w w':=by
 go_enter Tryz.func230,Tryz.ntmps230
 go_wp2_with fail
 refine HV.out.mono ?_
 rintro e x1 ⟨rfl,hb1⟩
 go_wp2
 go_ret
 exact ⟨rfl,hb1⟩
theorem z8P {t:PT} {a:AZ} {j:Nat} {n:Int} (hn:(zeR a)[j]? =some n) (h:zjO t (AZ.four n).wd=false):zhR t a=false:=by
 unfold zhR innB
 rw [zoM (p:=fun n=>zjO t (AZ.four n).wd) hn h];simp
theorem ygQ {t:PT} {a:AZ} (h0:zjO t a.wd=true) (h: ∀(i:Nat) (n:Int),(zeR a)[i]? =some n→zjO t (AZ.four n).wd=true):zhR t a=true:=by
 unfold zhR innB
 rw [h0,zrT (p:=fun n=>zjO t (AZ.four n).wd) h];rfl
end

section
open Go.RowKit
theorem z7C (a:AZ): ∀n∈zeR a,0≤n∧n≤4294967295:=by
 cases a with
 |four n=>intro n h;cases h
 |six hi lo=>
  intro n h
  have h:n∈zaG hi lo:=h
  unfold zaG inA inCo inC inD inE inF at h
  simp only [List.mem_append] at h
  rcases h with ((((h|h)|h)|h)|h)|h
  all_goals
   split at h
   ·simp at h;omega
   ·cases h
theorem ycJ {a:AZ} {j:Nat} {n:Int} (h:(zeR a)[j]? =some n):(AZ.four n).Ok:=z7C a n (List.mem_of_getElem? h)
theorem ztZ (q g:Nat) (T:HT) (v:Value) (ps:List Int) (a:AZ) (w:World) (hg:zmI w q g T v ps) (ha:a.Ok):
  Calls Tryz.prog 230 #[.pointer (some ⟨q,0,none⟩),a.val] w fun e w'=>e= .returned (.bool (zhR T.pt a))∧Below w.heap.size w w':=by
 have HV:Hid (∀(b:AZ) (W:World),Below w.heap.size w W→b.Ok→Calls Tryz.prog 244 #[.pointer (some ⟨q,0,none⟩),b.val] W fun e w'=>e= .returned (.bool (zjO T.pt b.wd))∧Below W.heap.size W w'):=fun b W hW hb=>z4X q g T v ps b W (hg.keep hW) hb
 cases hv:zjO T.pt a.wd with
 |false=>
  have h0:=HV.out a w (Below.refl _ _) ha
  rw [hv] at h0
  rw [show zhR T.pt a=false from by unfold zhR;rw [hv];rfl]
  exact z0L _ _ w h0
 |true=>
  have HV0:=Lib.hid (HV.out a w (Below.refl _ _) ha)
  rw [hv] at HV0
  have HI:Hid (∀W,Calls Tryz.prog 245 #[a.val] W (zbI W (zeR a))):=fun W=>ybH a W ha
  have hll:=z3F a
  generalize a.val=va at*
  clear hg ha
  go_enter Tryz.func230,Tryz.ntmps230
  go_wp2_with fail
  refine HV0.out.mono ?_
  rintro e x1 ⟨rfl,hb1⟩
  go_wp2_with fail
  refine (HI.out _).mono ?_
  rintro e x2 ⟨v2,rfl,hn2,hb2⟩
  obtain ⟨ao,c,rfl,hcs⟩:=hn2.row
  rw [List.length_map]
  have HW:=Lib.hid (zaA hb1 hb2)
  have HCS:=Lib.hid hcs
  clear hb1 hb2 hn2 hcs HV0 HI
  go_wp2
  go_loopw [14] (fun i wr=> ∃j:Nat,j≤(zeR a).length∧i= .int .i64 j∧Hid (Below x2.heap.size x2 wr)∧Hid (∀(i:Nat) (n:Int),i<j→(zeR a)[i]? =some n→zjO T.pt (AZ.four n).wd=true)) (fun i _=>(zeR a).length - (intOf i).toNat)
  case atStart=>exact ⟨0,Nat.zero_le _,rfl,Below.refl _ _,fun i y hi=>absurd hi (Nat.not_lt_zero _)⟩
  case round=>
   obtain ⟨j,hj,rfl,hbw,hok⟩:=hrel
   have HWW:=Lib.hid (zaA HW.out hbw.out)
   by_cases hlt:j<(zeR a).length
   ·obtain ⟨n,hn⟩: ∃n,(zeR a)[j]? =some n:=⟨_,List.getElem?_eq_getElem hlt⟩
    obtain ⟨ad,rfl,hc⟩:=HCS.out j (.int .u32 n) (by rw [List.getElem?_map,hn];rfl)
    have c0:wr.cell? (ad.add j)=some (.int .u32 n):=(hbw.out.cell (World.block_lt_of_cell? x2 _ hc)).trans hc
    have HC:Hid (Calls Tryz.prog 244 #[.pointer (some ⟨q,0,none⟩),.iface 117 (.int .u32 n)] wr fun e w'=>e= .returned (.bool (zjO T.pt (AZ.four n).wd))∧Below wr.heap.size wr w'):=HV.out (.four n) wr HWW.out (ycJ hn)
    have hjl:(j:Int)<(zeR a).length:=by omega
    clear hc
    go_wp2_with fail
    refine HC.out.mono ?_
    rintro e x3 ⟨rfl,hb3⟩
    have HB3:=Lib.hid hb3
    clear hb3 c0
    cases hp:zjO T.pt (AZ.four n).wd with
    |false=>
     go_wp2
     go_ret
     rw [z8P hn hp]
     exact ⟨rfl,zaA HWW.out HB3.out⟩
    |true=>
     have HOK:Hid (∀(i:Nat) (n:Int),i<j+1→(zeR a)[i]? =some n→zjO T.pt (AZ.four n).wd=true):=fun i m hi hm=>by
      by_cases c:i<j
      ·exact hok.out i m c hm
      ·rw [show i=j from by omega,hn] at hm
       exact Option.some.inj hm▸hp
     go_wp2
     go_roundw
     case rel=>exact ⟨j+1,by omega,by go_num,zaA hbw.out HB3.out,HOK⟩
     case measure=>simp [intOf];omega
   ·have hj':j=(zeR a).length:=by omega
    subst hj'
    have hal:zhR T.pt a=true:=ygQ hv (fun i n hn=>hok.out i n (List.getElem?_eq_some_iff.1 hn).1 hn)
    go_wp2
    go_ret
    rw [hal]
    exact ⟨rfl,HWW.out⟩
/-- is it one of the ports? -/
def ztM (ps:List Int) (n:Int):Bool:=ps.contains n
theorem zrP (q g:Nat) (T:HT) (v:Value) (ps:List Int) (n:Int) (w:World) (hg:zmI w q g T v ps) (hl:ps.length≤16):
  Calls Tryz.prog 229 #[.pointer (some ⟨q,0,none⟩),.int .i64 n] w fun e w'=>e= .returned (.bool (ztM ps n))∧Below w.heap.size w w':=by
 have HC:Hid (Calls Tryz.prog 243 #[v,.int .i64 n] w fun e w'=>e= .returned (.bool (ztM ps n))∧w'=w):=by
  obtain ⟨b,ho⟩:=hg.row
  obtain ⟨ao,c,rfl⟩:=ho.form
  have hr:=ho.row ydT
  have hf:=ho.2
  rcases hf with ⟨e,hn⟩|⟨g',cap,cur,e,_⟩
  ·have:ps=[]:=List.eq_nil_of_length_eq_zero hn
   subst this
   exact Tryz.slices_Contains_int_empty ao c n w
  ·simp only [Value.slice.injEq] at e
   obtain ⟨rfl,_,rfl⟩:=e
   have:=Tryz.slices_Contains_int g' 0 ps.length c ps n w (Nat.le_refl _) (by omega) (fun j hj=>by
    obtain ⟨ad,e,hc⟩:=hr j ps[j] (List.getElem?_eq_getElem hj)
    obtain rfl:=Option.some.inj e
    have:=hc 0 (by omega)
    simp only [Nat.mul_one,Nat.add_zero] at this
    rw [show (⟨g',0,none⟩:Addr).add j=⟨g',0+j,none⟩ from by simp [Addr.add];intro h;omega] at this
    rw [this,List.getD_eq_getElem?_getD,List.getElem?_eq_getElem hj];rfl)
   rw [List.take_length] at this
   exact this
 have q1:=zaD hg.gate 1
 simp at q1
 clear hg
 go_enter Tryz.func229,Tryz.ntmps229
 go_wp2_with fail
 refine HC.out.mono ?_
 rintro e x1 ⟨rfl,rfl⟩
 go_wp2
 go_ret
 exact ⟨rfl,Below.refl _ _⟩
end

section
open Go.RowKit
theorem Ru.cl_len (x:Ru):x.cl.length=4:=rfl
theorem OwnX.urow {t:TypeId} {w:World} {base:Nat} {ao:Option Addr} {n c:Nat} {l:List Ru} (h:OwnX t 4 Ru.cl w base (.slice ao n c) l) (ho: ∀x∈l,x.Ok):zmA w ao l.length c l:=
 ⟨rfl,fun j x hx=>⟨h.row Ru.cl_len j x hx,ho x (List.mem_of_getElem? hx)⟩⟩
theorem OwnX.irow {t:TypeId} {w:World} {base:Nat} {ao:Option Addr} {n c:Nat} {l:List Int} (h:OwnX t 1 clI w base (.slice ao n c) l) (ho: ∀x∈l,-9223372036854775808≤x∧x≤9223372036854775807):zlC w ao l.length c l:=
 ⟨rfl,fun j x hx=>by
  obtain ⟨ad,ha,hc⟩:=h.row ydT j x hx
  have:=hc 0 (by omega)
  refine ⟨⟨ad,ha,?_⟩,ho x (List.mem_of_getElem? hx)⟩
  simpa [clI] using this⟩
theorem yfB:zmB ⟨#[97,108,108,111,119,32,48,46,48,46,48,46,48,47,48,10,112,111,114,116,32,52,52,51]⟩=[[97,108,108,111,119,32,48,46,48,46,48,46,48,47,48],[112,111,114,116,32,52,52,51]]:=by decide+kernel
theorem ex_w1:zhS [97,108,108,111,119,32,48,46,48,46,48,46,48,47,48]=[[97,108,108,111,119],[48,46,48,46,48,46,48,47,48]]:=by decide+kernel
theorem ex_w2:zhS [112,111,114,116,32,52,52,51]=[[112,111,114,116],[52,52,51]]:=by decide+kernel
theorem ex_l1 (p:Pl):ziB p [[97,108,108,111,119],[48,46,48,46,48,46,48,47,48]]=some ⟨p.rs++[ruOf 281470681743360 96 true],p.ps,p.bare⟩:=by
 rw [ziB,if_neg (by decide)]
 show argZ p _ _=_
 unfold argZ
 rw [if_neg (by decide),if_pos (.inl (by decide)),p8_a]
 rfl
theorem ex_l2 (p:Pl):ziB p [[112,111,114,116],[52,52,51]]=some ⟨p.rs,p.ps++[443],p.bare⟩:=by
 rw [ziB,if_neg (by decide)]
 show argZ p _ _=_
 unfold argZ
 rw [if_pos (by decide),show decZ [52,52,51] maxI=(443,true) from by decide+kernel]
 rfl
theorem yfL:zfQ .zero 0 (zmB ⟨#[97,108,108,111,119,32,48,46,48,46,48,46,48,47,48,10,112,111,114,116,32,52,52,51]⟩)=(some ⟨[ruOf 281470681743360 96 true],[443],false⟩,0):=by
 rw [yfB,zjM (by rw [ex_w1];exact ex_l1 _),zjM (by rw [ex_w2];exact ex_l2 _)]
 rfl
theorem yeP:zgS [ruOf 281470681743360 96 true] [443]=0:=by decide+kernel
theorem ex_t:polZ [ruOf 281470681743360 96 true] false=(T9L.foldl (fun t r=>t.put r.W r.n 0) PT.nil).put 281470681743360 96 1:=by
 have e:polZ [ruOf 281470681743360 96 true] false=(lay9 0 .nil).put (ruOf 281470681743360 96 true).W (ruOf 281470681743360 96 true).k.toNat (ruOf 281470681743360 96 true).v:=by
  simp [polZ,zgL,zeQ]
 rw [e,show (ruOf 281470681743360 96 true).W=281470681743360 from by decide,show (ruOf 281470681743360 96 true).k.toNat=96 from by decide,show (ruOf 281470681743360 96 true).v=1 from by decide]
 unfold lay9
 rw [z0F]
theorem ex_a1:zhR (polZ [ruOf 281470681743360 96 true] false) (.four 134744072)=true:=by rw [ex_t];decide+kernel
theorem ex_a2:zhR (polZ [ruOf 281470681743360 96 true] false) (.four 2130706433)=false:=by rw [ex_t];decide+kernel
theorem ex_a3:zhR (polZ [ruOf 281470681743360 96 true] false) (.six 0 281472812449793)=false:=by rw [ex_t];decide+kernel
theorem ex_ok: ∀x∈[ruOf 281470681743360 96 true],x.Ok:=fun x hx=>by
 rw [List.mem_singleton.1 hx]
 exact ⟨by decide,by decide,by decide,by decide⟩
theorem z9R (W:World) (b:Nat) (h:W.heap[b]? =some (.cells #[.int .u16 0,.int .u16 0,.int .u16 0,.int .u16 0,.int .u16 0,.int .u16 65535,.int .u16 32512,.int .u16 1] 47)):RowR W (.slice (some ⟨b,0,none⟩) 8 8) ([0,0,0,0,0,65535,32512,1].map (Value.int .u16)):=by
 refine ⟨some ⟨b,0,none⟩,8,rfl,fun j u hu=>⟨_,rfl,?_⟩⟩
 rw [show (⟨b,0,none⟩:Addr).add j=⟨b,j,none⟩ from by simp [Addr.add];intro h;omega,zaD h]
 simpa using hu
theorem zvD (w:World) (hbru:BruTab w) (hmax:MaxVar w):
  Calls Tryz.prog 218 #[] w fun e w'=>e= .returned (.bool true)∧Below w.heap.size w w':=by
 have HT:=Lib.hid hbru
 have HX:=Lib.hid hmax
 have HO1:Hid (∀W,Calls Tryz.prog 154 #[.int .u8 127,.int .u8 0,.int .u8 0,.int .u8 1] W fun e w'=>e= .returned (.int .u32 2130706433)∧W=w'):=fun W=>znK 127 0 0 1 W (by decide) (by decide) (by decide) (by decide)
 have HO2:Hid (∀W,Calls Tryz.prog 154 #[.int .u8 8,.int .u8 8,.int .u8 8,.int .u8 8] W fun e w'=>e= .returned (.int .u32 134744072)∧W=w'):=fun W=>znK 8 8 8 8 W (by decide) (by decide) (by decide) (by decide)
 have HP:=Lib.hid (z0O ⟨#[97,108,108,111,119,32,48,46,48,46,48,46,48,47,48,10,112,111,114,116,32,52,52,51]⟩ w (by decide) hmax)
 rw [yfL] at HP
 clear hbru hmax
 go_enter Tryz.func218,Tryz.ntmps218
 go_wp2_with fail
 refine HP.out.mono ?_
 rintro e x1 ⟨hb1,rv,pv,rfl,ho1,ho2⟩
 obtain ⟨ra,rc,rfl⟩:=ho1.form
 obtain ⟨pa,pc,rfl⟩:=ho2.form
 have hbA:Below w.heap.size w (x1.alloc (.cells #[.slice ra 1 rc,.slice pa 1 pc,.bool false] 218)):=hb1.alloc hb1.size _
 have hbB:Below x1.heap.size x1 (x1.alloc (.cells #[.slice ra 1 rc,.slice pa 1 pc,.bool false] 218)):=(Below.refl _ _).alloc (Nat.le_refl _) _
 have HBD:=Lib.hid (z5H ra pa rc pc false [ruOf 281470681743360 96 true] [443] _ (zaB HX.out hbA) ((ho1.urow ex_ok).keep hbB) ((ho2.irow (fun x hx=>by rw [List.mem_singleton.1 hx];decide)).keep hbB) yeP)
 have HA:=Lib.hid hbA
 clear hb1 ho1 ho2 hbA hbB HP
 go_wp2_with fail
 refine HBD.out.mono ?_
 rintro e x2 ⟨q,g,T,v,rfl,hg,hT,hb2⟩
 have HG2:=Lib.hid hg
 have HW2:=Lib.hid (zaA HA.out hb2)
 have HPT:=Lib.hid hT
 clear hg hT hb2 HA HBD
 go_wp2_with fail
 refine (z3G _ (zaL HT.out HW2.out) (zaB HX.out HW2.out)).mono ?_
 rintro e x3 ⟨rfl,hb3⟩
 have HG3:=Lib.hid (HG2.out.keep hb3)
 have HW3:=Lib.hid (zaA HW2.out hb3)
 clear hb3 HG2 HW2
 go_wp2_with fail
 refine (zrP q g T v [443] 443 _ HG3.out (by decide)).mono ?_
 rintro e x4 ⟨rfl,hb4⟩
 rw [show ztM [443] 443=true from by decide]
 have HG4:=Lib.hid (HG3.out.keep hb4)
 have HW4:=Lib.hid (zaA HW3.out hb4)
 clear hb4 HG3 HW3
 go_wp2_with fail
 refine (zrP q g T v [443] 80 _ HG4.out (by decide)).mono ?_
 rintro e x5 ⟨rfl,hb5⟩
 rw [show ztM [443] 80=false from by decide]
 have HG5:=Lib.hid (HG4.out.keep hb5)
 have HW5:=Lib.hid (zaA HW4.out hb5)
 clear hb5 HG4 HW4
 have HAL:Hid (∀(a:AZ) (W:World),zmI W q g T v [443]→a.Ok→Calls Tryz.prog 230 #[.pointer (some ⟨q,0,none⟩),a.val] W fun e w'=>e= .returned (.bool (zhR (polZ [ruOf 281470681743360 96 true] false) a))∧Below W.heap.size W w'):=fun a W hW ha=>by
  have:=ztZ q g T v [443] a W hW ha
  rwa [HPT.out] at this
 go_wp2_with fail
 refine (HO2.out _).mono ?_
 rintro e x6 ⟨rfl,rfl⟩
 go_wp2_with fail
 refine (HAL.out (.four 134744072) _ HG5.out ⟨by decide,by decide⟩).mono ?_
 rintro e x7 ⟨rfl,hb7⟩
 rw [ex_a1]
 have HG7:=Lib.hid (HG5.out.keep hb7)
 have HW7:=Lib.hid (zaA HW5.out hb7)
 clear hb7 HG5 HW5
 go_wp2_with fail
 refine (HO1.out _).mono ?_
 rintro e x8 ⟨rfl,rfl⟩
 go_wp2_with fail
 refine (HAL.out (.four 2130706433) _ HG7.out ⟨by decide,by decide⟩).mono ?_
 rintro e x9 ⟨rfl,hb9⟩
 rw [ex_a2]
 have HG9:=Lib.hid (HG7.out.keep hb9)
 have HW9:=Lib.hid (zaA HW7.out hb9)
 clear hb9 HG7 HW7
 go_wp2_with fail
 refine (zkP _ [0,0,0,0,0,65535,32512,1] _ (z9R _ _ (Go.Deep.blk_alloc_new _ _)) (by unfold In16;decide) (by decide)).mono ?_
 rintro e x10 ⟨rfl,hb10⟩
 rw [show hi4 [0,0,0,0,0,65535,32512,1]=0 from by decide,show lo4 [0,0,0,0,0,65535,32512,1]=281472812449793 from by decide]
 have HG10:=Lib.hid (HG9.out.keep (zcG hb10))
 have HW10:=Lib.hid (zaA HW9.out (zcG hb10))
 clear hb10 HG9 HW9
 go_wp2_with fail
 refine (HAL.out (.six 0 281472812449793) _ HG10.out ⟨⟨by decide,by decide⟩,by decide,by decide⟩).mono ?_
 rintro e x11 ⟨rfl,hb11⟩
 rw [ex_a3]
 have HW11:=Lib.hid (zaA HW10.out hb11)
 go_wp2
 go_ret
 exact ⟨rfl,HW11.out⟩
end

end Go.Proofs.YthacmlahnpdeeaaGreatDoor
