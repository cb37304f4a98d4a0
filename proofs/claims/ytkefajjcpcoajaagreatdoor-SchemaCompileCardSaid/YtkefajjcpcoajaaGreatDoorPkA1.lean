/- -/
import Derived.Test.YtkefajjcpcoajaaGreatDoorPkA0
import Derived.WalkKit
import Derived.Test.YtkefajjcpcoajaaGreatDoorProg
import Derived.WalkSpells
import Derived.WalkLawsBesides
import Derived.Lib.Hide
import Derived.Outline
import Derived.BigQuiet
import Derived.Deep.WholeRow
import Derived.Laws.Tables
import Derived.Laws.Rows
import Derived.Laws.AppendOwnNone
import Derived.Maps.AppendAt
import Derived.Laws.MakeOwn
import Derived.Lib.UnsafeStr
import Derived.Deep.Draws
import Derived.Deep.QuietTactic
import Derived.Lib.OwnKind
import Derived.Lib.BufferRead
import Derived.Lib.SmallJoins
import Derived.Lib.Bytealg
import Derived.Lib.IndexLaws
set_option linter.all false
set_option maxRecDepth 100000
set_option maxHeartbeats 1600000
namespace Go.Proofs.YtkefajjcpcoajaaGreatDoor.Lx
def vx(c:UInt8):Bool:=decide (97<=c.toNat)&&decide (c.toNat<=122)
def kz(c:UInt8):Bool:=decide (48<=c.toNat)&&decide (c.toNat<=57)
def zM(c:UInt8):Bool:=vx c||kz c||decide (c.toNat=45)
def xA(c:UInt8):Bool:=decide (c.toNat=32)||decide (c.toNat=9)||decide (c.toNat=10)||decide (c.toNat=13)
def wi(c:UInt8):Bool:=decide (c.toNat=123)||decide (c.toNat=125)||decide (c.toNat=59)||decide (c.toNat=44)||decide (c.toNat=47)
def z8(c:UInt8):Bool:=decide (32<=c.toNat)&&decide (c.toNat<=126)
def xg(c:UInt8):Bool:=decide (c.toNat=34)||decide (c.toNat=92)
def zv:List UInt8->Bool
  | []=>false
  | c :: r=>vx c&&r.all zM
def zg:List UInt8->Bool
  | []=>false
  | c :: r=>(c :: r).all kz&&decide (r.length<=5)&&(r.isEmpty || !decide (c.toNat=48))
def xF(l:List UInt8):Bool :=
 if l.any (λc=>decide (c.toNat=47)) then zg (l.takeWhile λc => !decide (c.toNat=47))&&zg ((l.dropWhile λc => !decide (c.toNat=47)).drop 1)
 else zv l||zg l
def xB:List UInt8->Option (List UInt8×Nat)
  | []=>none
  | c :: r =>
   if c.toNat=34 then some ([],1)
   else if z8 c then
    if c.toNat=92 then match r with
     | []=>none
     | d :: q=>if xg d then (xB q).map λx=>(d :: x.1,x.2+2) else none
    else (xB r).map λx=>(c :: x.1,x.2+1)
   else none
theorem zt(c:UInt8)(r:List UInt8):xB (c :: r) =
    if c.toNat=34 then some ([],1)
    else if z8 c then
     if c.toNat=92 then match r with
      | []=>none
      | d :: q=>if xg d then (xB q).map λx=>(d :: x.1,x.2+2) else none
     else (xB r).map λx=>(c :: x.1,x.2+1)
    else none:=by cases r<;>rw[xB.eq_def]
def xE(l:List UInt8):Option (Nat×List UInt8×Nat) :=
 if zv (l.takeWhile zM) then some (1,l.takeWhile zM,(l.takeWhile zM).length)
 else if zg (l.takeWhile zM) then some (2,l.takeWhile zM,(l.takeWhile zM).length)
 else match l with
  | []=>none
  | c :: r=>if wi c then some (4,[c],1) else if c.toNat=34 then (xB r).map λx=>(3,x.1,x.2+1) else none
structure Tok where
 kind:Nat
 text:List UInt8
 line:Nat
deriving DecidableEq
inductive Res where
 | ok (ts:List Tok) (ln:Nat)
 | err (ln:Nat)
def Res.cons(t:Tok):Res->Res
  | .ok ts ln=>.ok (t :: ts) ln
  | .err ln=>.err ln
def Res.app(ts:List Tok):Res->Res
  | .ok us ln=>.ok (ts++us) ln
  | .err ln=>.err ln
theorem Res.app_nil(r:Res):Res.app [] r=r:=by cases r<;>rfl
def yh(c:UInt8)(ln:Nat):Nat:=if c.toNat=10 then ln+1 else ln
def Qk(c:UInt8):Bool := !decide (c.toNat=10)
theorem vA(p:UInt8->Bool)(l:List UInt8):(l.dropWhile p).length<=l.length:=(List.dropWhile_suffix p).length_le
def jz:List UInt8->Nat->Res
  | [],ln=>.ok [] ln
  | c :: r,ln =>
   if c.toNat=35 then jz (r.dropWhile Qk) ln
   else if xA c then jz r (yh c ln)
   else match xE (c :: r) with
    | none=>.err ln
    | some x=>(jz (r.drop (x.2.2-1)) ln).cons ⟨x.1,x.2.1,ln⟩
termination_by l=>l.length
decreasing_by
  . have:=vA Qk r;simp;omega
  . simp
  . simp;omega
theorem Ws{l:List UInt8}(h:zv l=true):1<=l.length:=by
 cases l with
 | nil=>cases h
 | cons c r=>simp
theorem DN{l:List UInt8}(h:zg l=true):1<=l.length:=by
 cases l with
 | nil=>cases h
 | cons c r=>simp
theorem ZZ(l:List UInt8)(x:Nat×List UInt8×Nat)(h:xE l=some x):1<=x.2.2:=by
 unfold xE at h;split at h
 . rename_i hw;injection h with h;subst h;exact Ws hw
 . split at h
   . rename_i hw;injection h with h;subst h;exact DN hw
   . cases l with
     | nil=>cases h
     | cons c r =>
      simp only at h;split at h
      . injection h with h;subst h;exact Nat.le_refl _
      . split at h
        . obtain⟨y,m,rfl⟩:=Option.map_eq_some_iff.1 h;show 1<=y.2+1;omega
        . cases h
theorem uq(p:UInt8->Bool)(c:UInt8)(q:List UInt8)(hc:p c=false):∀u:List UInt8,(u++c :: q).takeWhile p=u.takeWhile p
  | []=>by simp[List.takeWhile,hc]
  | d :: u=>by
   rw[List.cons_append,List.takeWhile_cons,List.takeWhile_cons,uq p c q hc u]
theorem DO(l:List UInt8):∀x,xB l=some x->x.2<=l.length:=by
 induction l using xB.induct with
 | case1=>intro x h;simp[xB] at h
 | case2 c r h=>intro x m;rw[zt,if_pos h] at m;injection m with m;subst m;simp
 | case3 c h1 h2 h3=>intro x h;rw[zt,if_neg h1,if_pos h2,if_pos h3] at h;cases h
 | case4 c h1 h2 h3 d q h4 ih =>
  intro x h;rw[zt,if_neg h1,if_pos h2,if_pos h3] at h;simp only[if_pos h4] at h;obtain⟨y,G,rfl⟩:=Option.map_eq_some_iff.1 h;have:=ih y G;simp;omega
 | case5 c h1 h2 h3 d q h4=>intro x h;rw[zt,if_neg h1,if_pos h2,if_pos h3] at h;simp only[if_neg h4] at h;cases h
 | case6 c r h1 h2 h3 ih =>
  intro x h;rw[zt,if_neg h1,if_pos h2,if_neg h3] at h;obtain⟨y,G,rfl⟩:=Option.map_eq_some_iff.1 h;have:=ih y G;simp;omega
 | case7 c r h1 h2=>intro x h;rw[zt,if_neg h1,if_neg h2] at h;cases h
theorem VQ(c:UInt8)(r:List UInt8)(x:Nat×List UInt8×Nat)(h:xE (c :: r)=some x):x.2.2<=(c :: r).length:=by
 have m:((c :: r).takeWhile zM).length<=(c :: r).length:=(List.takeWhile_prefix zM).length_le;unfold xE at h;split at h
 . injection h with h;subst h;exact m
 . split at h
   . injection h with h;subst h;exact m
   . simp only at h;split at h
     . injection h with h;subst h;simp
     . split at h
       . obtain⟨y,G,rfl⟩:=Option.map_eq_some_iff.1 h;have:=DO r y G;simp;omega
       . cases h
theorem kP(c:UInt8)(r:List UInt8)(ln:Nat):jz (c :: r) ln =
    if c.toNat=35 then jz (r.dropWhile Qk) ln
    else if xA c then jz r (yh c ln)
    else match xE (c :: r) with
     | none=>.err ln
     | some x=>(jz (r.drop (x.2.2-1)) ln).cons ⟨x.1,x.2.1,ln⟩:=by rw[jz]
theorem ur(ln:Nat):jz [] ln=.ok [] ln:=by rw[jz]
theorem Ld(l q:List UInt8)(h:l.all z8=true):xB ((l.flatMap λc=>if xg c then [92,c] else [c])++34 :: q)=some (l,(l.flatMap λc=>if xg c then [92,c] else [c]).length+1):=by
 induction l with
 | nil=>rw[List.flatMap_nil,List.nil_append,zt,if_pos (by decide)];rfl
 | cons c l ih =>
  rw[List.all_cons,Bool.and_eq_true] at h;have m:=ih h.2;rw[List.flatMap_cons];by_cases y:xg c=true
  . rw[if_pos y,List.append_assoc];show xB (92 :: c :: ((l.flatMap λc=>if xg c then [92,c] else [c])++34 :: q))=_;rw[zt,if_neg (by decide),if_pos (by decide),if_pos (by decide)];simp only[if_pos y,m,Option.map_some];simp
  . rw[if_neg y,List.append_assoc];show xB (c :: ((l.flatMap λc=>if xg c then [92,c] else [c])++34 :: q))=_;(have H:¬ c.toNat=34:=λe=>y (by simp[xg,e]));(have G:¬ c.toNat=92:=λe=>y (by simp[xg,e]));rw[zt,if_neg H,if_pos h.1,if_neg G,m];simp
def nlN(l:List UInt8):Nat:=l.countP λc=>decide (c.toNat=10)
def bys(s:ByteArray):List UInt8:=s.data.toList
def stg(l:List UInt8):ByteArray:=⟨l.toArray⟩
theorem zL(l:List UInt8):bys (stg l)=l:=rfl
theorem yD(s:ByteArray):stg (bys s)=s:=by
 cases s with
 | mk d=>rfl
theorem zR(s:ByteArray):(bys s).length=s.size:=by simp[bys]
theorem uH{s t:ByteArray}(h:bys s=bys t):s=t:=by rw[<- yD s,<- yD t,h]
theorem Mi(s:ByteArray)(i:Nat)(h:i<s.size):(bys s)[i]? = some s[i]:=by
 unfold bys;rw[Array.getElem?_toList];exact Array.getElem?_eq_getElem h
theorem DP(s:ByteArray)(i:Nat)(h:i<s.size):(bys s).drop i=s[i] :: (bys s).drop (i+1):=by
 have m:i<(bys s).length:=by rw[zR];exact h
 rw[List.drop_eq_getElem_cons m];have:=Mi s i h;rw[List.getElem?_eq_getElem m] at this;injection this with this;rw[this]
theorem Ql(s:ByteArray)(i j:Nat):bys (s.extract i j)=((bys s).drop i).take (j-i):=by
 unfold bys;rw[ByteArray.data_extract,Array.toList_extract]
theorem uI(s t:ByteArray):bys (s++t)=bys s++bys t:=by
 unfold bys;rw[ByteArray.data_append,Array.toList_append]
end Go.Proofs.YtkefajjcpcoajaaGreatDoor.Lx
namespace Go.Proofs.YtkefajjcpcoajaaGreatDoor
open Go.RowKit
def pt(ao:Option Addr)(i:Nat):Addr:=(ao.getD ⟨0,0,none⟩).add i
structure Lst (k:IntKind) (w:World) (ao:Option Addr) (n c:Nat) (xs:List Int):Prop where
 len:xs.length=n
 cap:n<=c
 room:c<=9223372036854775807
 isSome:0<n->∃a,ao=some a
 cell:∀i,i<n->w.cell? (pt ao i)=some (.int k (xs.getD i 0))
 wf:∀x∈xs,(Lit.int k x).wf=true
theorem Lst.nil(k:IntKind)(w:World):Lst k w none 0 0 [] :=
 ⟨rfl,Nat.le_refl _,by omega,λh=>absurd h (by omega),λi hi=>absurd hi (by omega),λx hx=>by cases hx⟩
def Head(ao:Option Addr)(c:Nat)(ao':Option Addr)(n' c':Nat):Prop:=(ao'=none/\n'=0/\c'=0)\/(ao'=ao/\c'=c)
def Own(e:TypeId)(k:IntKind)(B:Nat)(w:World)(ao:Option Addr)(n c:Nat)(xs:List Int):Prop :=
 w.ownsRow B e 1 (.slice ao n c) n (xs.map (Value.int k))/\∀x∈xs,(Lit.int k x).wf=true
section
variable {e : TypeId} {k : IntKind} {B : Nat} {w w' : World} {ao : Option Addr} {n c : Nat} {xs : List Int}
theorem Own.len(h:Own e k B w ao n c xs):xs.length=n:=by simpa using h.1.1
theorem Own.cases(h:Own e k B w ao n c xs):(ao=none/\n=0/\c=0/\xs=[])\/∃g,ao=some ⟨g,0,none⟩/\B<=g/\g<w.heap.size/\n<=c/\c<=maxLen:=by
 have m:=h.len;rcases h.1.2 with ⟨hv,hn⟩|⟨g,cap,cur,hv,hg,hh,hn,hc,_⟩
 . injection hv with h1 h2 h3;exact Or.inl ⟨h1,hn,h3,List.eq_nil_of_length_eq_zero (by omega)⟩
 . injection hv with h1 h2 h3;subst h3;exact Or.inr ⟨g,h1,hg,(Array.getElem?_eq_some_iff.1 hh).1,hn,hc⟩
theorem Own.lst(h:Own e k B w ao n c xs):Lst k w ao n c xs:=by
 have m:=h.len;rcases h.cases with ⟨rfl,rfl,rfl,rfl⟩|⟨g,rfl,hg,hgs,hn,hc⟩
 . exact Lst.nil _ _
 . refine⟨m,hn,by simpa[maxLen] using hc,λ_=>⟨_,rfl⟩,λi hi=>?_,h.2⟩;have e:pt (some ⟨g,0,none⟩) i=⟨g,i,none⟩:=by
    simp only[pt,Option.getD_some];unfold Addr.add;split<;>simp_all
   rw[e,h.1.cellAt i (by omega)];simp[List.getD,show i<xs.length by omega]
theorem Own.kept(h:Own e k B w ao n c xs)(hb:Below w.heap.size w w'):Own e k B w' ao n c xs :=
 ⟨h.1.kept (row:=none) ⟨hb.os,hb.tape,hb.output,hb.size,λj hj _=>hb.block j hj⟩ (by cases (Value.slice ao n c).ownBlock<;>simp),h.2⟩
end
theorem jm(g i:Nat):pt (some ⟨g,0,none⟩) i=⟨g,i,none⟩:=by
 simp only[pt,Option.getD_some];unfold Addr.add;split<;>simp_all
section
variable {e : TypeId} {k : IntKind} {B : Nat} {w w' : World} {ao : Option Addr} {n c : Nat} {xs : List Int}
def blk(ao:Option Addr):Nat:=(pt ao 0).block
end
theorem qC{a b d:World}{row:Option Nat}(h:a.grownBy b row)(k:b.grownBy d row):a.grownBy d row :=
 ⟨k.os.trans h.os,k.tape.trans h.tape,k.output.trans h.output,Nat.le_trans h.size k.size,λi hi hne=>(k.block i (Nat.lt_of_lt_of_le hi h.size) hne).trans (h.block i hi hne)⟩
end Go.Proofs.YtkefajjcpcoajaaGreatDoor
/-
  One stretch of a run after another.
-/
namespace Go.Proofs.YtkefajjcpcoajaaGreatDoor
open Go.RowKit
end Go.Proofs.YtkefajjcpcoajaaGreatDoor
/-
  An array variable: a block that is known whole.
-/
namespace Go.Proofs.YtkefajjcpcoajaaGreatDoor
open Go.RowKit
variable {a0 a1 a2 a3 a4:Value}{l:List Value}
def Arr(w:World)(g:Nat)(t:TypeId)(cs:List Value):Prop:=w.heap[g]? = some (.cells cs.toArray t (0,0))
section
variable {w w' : World} {g : Nat} {t : TypeId} {cs : List Value}
theorem Arr.lt(h:Arr w g t cs):g<w.heap.size:=(Array.getElem?_eq_some_iff.1 h).1
theorem Arr.cell(h:Arr w g t cs)(i:Nat):w.cell? ⟨g,i,none⟩=cs[i]? := by
 rw[cell_of_row w g i _ t (0,0) h];simp
theorem Arr.c2(h:Arr w g t (a0 :: a1 :: l)):w.cell? ⟨g,0,none⟩=some a0/\w.cell? ⟨g,1,none⟩=some a1:=⟨h.cell 0,h.cell 1⟩
theorem Arr.c3(h:Arr w g t (a0 :: a1 :: a2 :: l)):w.cell? ⟨g,0,none⟩=some a0/\w.cell? ⟨g,1,none⟩=some a1/\w.cell? ⟨g,2,none⟩=some a2:=⟨h.cell 0,h.cell 1,h.cell 2⟩
theorem Arr.c4(h:Arr w g t (a0 :: a1 :: a2 :: a3 :: l)):w.cell? ⟨g,0,none⟩=some a0/\w.cell? ⟨g,1,none⟩=some a1/\w.cell? ⟨g,2,none⟩=some a2/\w.cell? ⟨g,3,none⟩=some a3:=⟨h.cell 0,h.cell 1,h.cell 2,h.cell 3⟩
theorem Arr.c5(h:Arr w g t (a0 :: a1 :: a2 :: a3 :: a4 :: l)):w.cell? ⟨g,0,none⟩=some a0/\w.cell? ⟨g,1,none⟩=some a1/\w.cell? ⟨g,2,none⟩=some a2/\w.cell? ⟨g,3,none⟩=some a3/\w.cell? ⟨g,4,none⟩=some a4:=⟨h.cell 0,h.cell 1,h.cell 2,h.cell 3,h.cell 4⟩
theorem Arr.c9{a5 a6 a7 a8:Value}(h:Arr w g t (a0 :: a1 :: a2 :: a3 :: a4 :: a5 :: a6 :: a7 :: a8 :: l)):w.cell? ⟨g,0,none⟩=some a0/\w.cell? ⟨g,1,none⟩=some a1/\w.cell? ⟨g,2,none⟩=some a2/\w.cell? ⟨g,3,none⟩=some a3/\w.cell? ⟨g,4,none⟩=some a4/\w.cell? ⟨g,5,none⟩=some a5/\w.cell? ⟨g,6,none⟩=some a6/\w.cell? ⟨g,7,none⟩=some a7/\w.cell? ⟨g,8,none⟩=some a8:=⟨h.cell 0,h.cell 1,h.cell 2,h.cell 3,h.cell 4,h.cell 5,h.cell 6,h.cell 7,h.cell 8⟩
theorem Arr.c14{a5 a6 a7 a8 a9 a10 a11 a12 a13:Value}(h:Arr w g t (a0 :: a1 :: a2 :: a3 :: a4 :: a5 :: a6 :: a7 :: a8 :: a9 :: a10 :: a11 :: a12 :: a13 :: l)):w.cell? ⟨g,0,none⟩=some a0/\w.cell? ⟨g,1,none⟩=some a1/\w.cell? ⟨g,2,none⟩=some a2/\w.cell? ⟨g,3,none⟩=some a3/\w.cell? ⟨g,4,none⟩=some a4/\w.cell? ⟨g,5,none⟩=some a5/\w.cell? ⟨g,6,none⟩=some a6/\w.cell? ⟨g,7,none⟩=some a7/\w.cell? ⟨g,8,none⟩=some a8/\w.cell? ⟨g,9,none⟩=some a9/\w.cell? ⟨g,10,none⟩=some a10/\w.cell? ⟨g,11,none⟩=some a11/\w.cell? ⟨g,12,none⟩=some a12/\w.cell? ⟨g,13,none⟩=some a13:=⟨h.cell 0,h.cell 1,h.cell 2,h.cell 3,h.cell 4,h.cell 5,h.cell 6,h.cell 7,h.cell 8,h.cell 9,h.cell 10,h.cell 11,h.cell 12,h.cell 13⟩
theorem Arr.frozen(h:Arr w g t cs)(i:Nat):w.frozen? ⟨g,i,none⟩=false:=frozen_of_row w g i _ t h
theorem Arr.new(w:World)(t:TypeId)(cs:List Value):Arr (w.alloc (.cells cs.toArray t)) w.heap.size t cs:=heap_alloc_new w _
theorem Arr.drew(h:Arr w g t cs):Arr w.drew g t cs:=h
theorem Arr.below{B:Nat}(h:Arr w g t cs)(hb:Below B w w')(hg:g<B):Arr w' g t cs:=(hb.block g hg).trans h
theorem Arr.kept(h:Arr w g t cs)(hb:Below w.heap.size w w'):Arr w' g t cs:=h.below hb h.lt
theorem Arr.set(h:Arr w g t cs)(i:Nat)(v:Value):Arr (w.setCell ⟨g,i,none⟩ v) g t (cs.set i v):=by
 unfold Arr;have:=heap_setCell_same w g i _ t v h;rw[this];simp
theorem Arr.far(h:Arr w g t cs){p:Addr}(hp:g≠p.block)(v:Value):Arr (w.setCell p v) g t cs:=(heap_setCell_other w p g v hp).trans h
end
theorem WB:(Tryz.prog.info? 5).map (λi=>(i.zero,i.size,i.bytes))=some (some (.int .u8 0),1,1):=by kernel_rfl
end Go.Proofs.YtkefajjcpcoajaaGreatDoor
/-
  Appends of bytes;strings out of bytes.
-/
namespace Go.Proofs.YtkefajjcpcoajaaGreatDoor
open Go.RowKit
variable {w:World}{B n c:Nat}{xs:List Int}{ao:Option Addr}
theorem Pi{x:Int}(h0:0<=x)(h1:x<=255):(Lit.int .u8 x).wf=true:=by
 simp[Lit.wf,IntKind.min,IntKind.max,IntKind.signed,IntKind.bits,h0,h1]
theorem xR{e:TypeId}{v:Value}{us:List Value}(h:w.ownsRow B e 1 v n us):∃ao c,v=.slice ao n c:=by
 rcases h.2 with ⟨hv,h0⟩|⟨g,cap,_,hv,_⟩
 . exact⟨none,0,by rw[hv,h0]⟩
 . exact⟨_,cap,hv⟩
theorem gT(e:TypeId)(k:IntKind)(B:Nat)(w:World):Own e k B w none 0 0 []:=⟨World.ownsRow_nil _ _ _ _,λ_ hx=>by cases hx⟩
theorem DQ(k:IntKind)(zs:List Int):∀u∈zs.map (Value.int k),u.oneCell'=true:=by
 intro u m;obtain⟨_,_,rfl⟩:=List.mem_map.1 m;rfl
theorem Lst.cells{k:IntKind}{a:Addr}(h:Lst k w (some a) n c xs):∀j u,(xs.map (Value.int k))[j]? = some u->w.cell? (a.add j)=some u:=by
 intro j u m;have y:j<n:=by
  have:=(List.getElem?_eq_some_iff.1 m).1;simpa[h.len] using this
 have:=h.cell j y;simp only[pt,Option.getD_some] at this;rw[this];have G:=h.len;rw[<- m];simp[List.getD,show j<xs.length by omega]
section
variable {w : World} {ops : Array Oper} {rest : List Oper} {a : Act} {Q : Exit -> Act -> World -> Prop} {d : Option Tmp} {p q : Operand} {ty : TypeId} {pos : String} {after : Array Edge}
theorem VR{bo:Option Addr}{m e:Nat}{ys:List Int}(hO:Own 5 .u8 B w ao n c xs)(hL:Lst .u8 w bo m e ys)(h0:bo=none->e=0)(hB:B<=w.heap.size)(hn:n<=1099511627776)(hm:m<=1099511627776)
    (hp:a.eval p=.slice ao n c) (hq:a.eval q=.slice bo m e)
    (h:∀ao' c' w',Own 5 .u8 B w' ao' (n+m) c' (xs++ys)->Below B w w'->wpList Tryz.prog ops Q rest (a.put d (.slice ao' (n+m) c')) w') :
    wpList Tryz.prog ops Q (⟨d,.call { callee:=.builtin .append,args:=#[p,q],argTypes:=#[97,97] },ty,pos,after,none⟩ :: rest) a w:=by
 obtain⟨i0,hi,a1,J,a0⟩:=info_parts WB;cases bo with
 | none =>
  have V:m=0:=by
   rcases Nat.eq_zero_or_pos m with h1|h1
   . exact h1
   . obtain⟨a,ha⟩:=hL.isSome h1;cases ha
  have Z:=h0 rfl;subst V;subst Z;have H:ys=[]:=List.eq_nil_of_length_eq_zero hL.len;subst H;refine wpList_append_own_none rfl p q 97 rfl B 5 i0 1 Tryz.underlying97 hi _ n _ hp hO.1 hq ?_;exact h ao c w (by simpa using hO) (Below.refl _ _)
 | some ad =>
  refine wpList_append_own w rfl p q 97 rfl B 5 i0 (.int .u8 0) 1 1 Tryz.underlying97 hi a1 J a0 rfl (by decide) _ n _ hp hO.1 ad m e (ys.map (Value.int .u8)) hq (by simp[hL.len]) hL.cells (DQ _ _) (by unfold maxLen;omega) (by omega) hB ?_;intro v' w' G hg _;obtain⟨av,cv,hv⟩:=xR G;subst hv;refine h av cv w' ⟨by rw[List.map_append];exact G,λx y=>?_⟩ ((Below.refl _ _).grown hg hB (λk hk=>(World.ownsRow.lt hO.1 k hk).1));rcases List.mem_append.1 y with y|y
  . exact hO.2 x y
  . exact hL.wf x y
theorem Bn(w:World)(x:Int)(h0:0<=x)(h1:x<=255):Lst .u8 (w.alloc (.cells #[.int .u8 x] 5)) (some ⟨w.heap.size,0,none⟩) 1 1 [x]:=by
 have o:Own 5 .u8 w.heap.size (w.alloc (.cells #[.int .u8 x] 5)) (some ⟨w.heap.size,0,none⟩) 1 1 [x]:=by
  refine⟨World.ownsRow_lit w #[.int .u8 x] 1 (Nat.le_refl _) (by unfold maxLen;omega) rfl,?_⟩;intro y m;simp at m;subst m;exact Pi h0 h1
 exact o.lst
theorem xG{x:Int}(hO:Own 5 .u8 B w ao n c xs)(hB:B<=w.heap.size)(hn:n<=1099511627776)(h0:0<=x)(h1:x<=255)
    (hp:a.eval p=.slice ao n c) (hq:a.eval q=.slice (some ⟨w.heap.size,0,none⟩) 1 1)
    (h:∀ao' c' w',Own 5 .u8 B w' ao' (n+1) c' (xs++[x])->Below B w w'->wpList Tryz.prog ops Q rest (a.put d (.slice ao' (n+1) c')) w') :
    wpList Tryz.prog ops Q (⟨d,.call { callee:=.builtin .append,args:=#[p,q],argTypes:=#[97,97] },ty,pos,after,none⟩ :: rest) a (w.alloc (.cells #[.int .u8 x] 5)):=by
 have m:Below w.heap.size w (w.alloc (.cells #[.int .u8 x] 5)):=(Below.refl _ _).alloc (Nat.le_refl _) _;refine VR (hO.kept m) (Bn w x h0 h1) (λe=>by cases e) (by simp;omega) hn (by omega) hp hq (λao' c' w' o b=>h ao' c' w' o ((m.mono hB).trans b))
end
def VT(xs:List Int):ByteArray:=⟨(xs.map λx=>UInt8.ofNat x.toNat).toArray⟩
theorem Za(h:Own 5 .u8 B w ao n c xs):(convert 97 9 (.slice ao n c)).run Tryz.prog w=.ok (.string (VT xs)) w:=by
 have V:=h.len;have m:xs.map (Value.int .u8)=Lib.byteCells (xs.map λx=>UInt8.ofNat x.toNat):=by
  unfold Lib.byteCells;rw[List.map_map];refine List.map_congr_left λx H=>?_
  have J:=h.2 x H;have Z:0<=x/\x<=255:=by simpa[Lit.wf,IntKind.min,IntKind.max,IntKind.signed,IntKind.bits] using J
  simp only[Function.comp];congr 1;rw[UInt8.toNat_ofNat_of_lt' (by show x.toNat<256;omega)];omega
 have G:=h.1;rw[m] at G;rcases G.2 with ⟨hv,h0⟩|⟨g,cap,cur,hv,hg,hh,hn,hc,hs,ht⟩
 . rw[hv];obtain rfl:xs=[]:=List.eq_nil_of_length_eq_zero (by omega);exact Lib.run_convert_nil_bytes w _ _ 5 0 Tryz.underlying97 Tryz.underlying5 Tryz.underlying9
 . rw[hv];(have y:(xs.map λx=>UInt8.ofNat x.toNat).length=n:=by simpa using V);subst y;exact run_convert_bytes_back w _ _ 5 ⟨g,0,none⟩ cap (xs.map λx=>UInt8.ofNat x.toNat) Tryz.underlying97 Tryz.underlying5 Tryz.underlying9 (Lib.bytes_of_row hh (by simpa using ht))
end Go.Proofs.YtkefajjcpcoajaaGreatDoor
namespace Go.Proofs.YtkefajjcpcoajaaGreatDoor
open Go.RowKit Lx
theorem xH(s:ByteArray):s.toList=bys s:=Lib.toList_data s
theorem yt{s:ByteArray}(h:s.size=0):s=⟨#[]⟩:=by
 apply uH;have:(bys s).length=0:=by rw[zR];exact h
 rw[List.eq_nil_of_length_eq_zero this];rfl
theorem ZH(s:ByteArray)(i:Nat)(h:i<s.size):∃c:UInt8,Hid ((bys s).drop i=c :: (bys s).drop (i+1))/\∀W,(Instr.index 9 (.string s) (.int .i64 (i:Int))).run Tryz.prog W=.ok (.int .u8 ((c.toNat:Nat):Int)) W:=by
 refine⟨s[i],DP s i h,λW=>?_⟩;have e:s[i]? = some s[i]:=getElem?_pos s i h;simp[Instr.index,run_underlying Tryz.underlying9,asIntOf,e]
theorem Yj(s:ByteArray)(h:0<s.size):∃c:UInt8,Hid (bys s=c :: (bys s).drop 1)/\(∀W,(Instr.index 9 (.string s) (.int .i64 0)).run Tryz.prog W=.ok (.int .u8 ((c.toNat:Nat):Int)) W)/\¬ s.toList=[]:=by
 obtain⟨c,y,x⟩:=ZH s 0 h;have e:bys s=c :: (bys s).drop 1:=by rw[<- y.o,List.drop_zero]
 refine⟨c,e,x,λm=>?_⟩;rw[xH,e] at m;cases m
theorem wO(n:Nat)(z:Int)(k:Nat)(h:z=(k:Int)):((n:Int) == z)=decide (n=k):=by
 subst h;by_cases e:n=k
 . rw[decide_eq_true e,beq_iff_eq.2 (by omega)]
 . rw[decide_eq_false e,beq_eq_false_iff_ne.2 (by omega)]
theorem zQ{a b:Bool}(h:a=b):Ending.returned (.bool a)=.returned (.bool b):=by rw[h]
theorem Zb(c:UInt8)(w:World) :
    Calls Tryz.prog 188 #[.int .u8 ((c.toNat:Nat):Int)] w λe w'=>e=.returned (.bool (vx c))/\w=w':=by
 obtain⟨n,m⟩:∃n:Nat,Hid (c.toNat=n):=⟨_,rfl⟩;have H:Hid (vx c=(decide (97<=n)&&decide (n<=122))):=by show _=_;unfold vx;rw[m.o]
 rw[m.o];by_cases J:97<=n;have G:(n:Int)>=97:=by omega
 by_cases V:n<=122;have y:(n:Int)<=122:=by omega
 rotate_left
 have y:¬ (n:Int)<=122:=by omega
 rotate_left
 have G:¬ (n:Int)>=97:=by omega
 rotate_left
 all_goals
   go_in;go_wp2_with fail;go_ret;exact⟨zQ (by rw[H.o];simp;omega),rfl⟩
theorem Qm(c:UInt8)(w:World) :
    Calls Tryz.prog 180 #[.int .u8 ((c.toNat:Nat):Int)] w λe w'=>e=.returned (.bool (vx c))/\w=w':=by
 obtain⟨n,m⟩:∃n:Nat,Hid (c.toNat=n):=⟨_,rfl⟩;have H:Hid (vx c=(decide (97<=n)&&decide (n<=122))):=by show _=_;unfold vx;rw[m.o]
 rw[m.o];by_cases J:97<=n;have G:(n:Int)>=97:=by omega
 by_cases V:n<=122;have y:(n:Int)<=122:=by omega
 rotate_left
 have y:¬ (n:Int)<=122:=by omega
 rotate_left
 have G:¬ (n:Int)>=97:=by omega
 rotate_left
 all_goals
   go_in;go_wp2_with fail;go_ret;exact⟨zQ (by rw[H.o];simp;omega),rfl⟩
theorem KC(c:UInt8)(w:World) :
    Calls Tryz.prog 189 #[.int .u8 ((c.toNat:Nat):Int)] w λe w'=>e=.returned (.bool (kz c))/\w=w':=by
 obtain⟨n,m⟩:∃n:Nat,Hid (c.toNat=n):=⟨_,rfl⟩;have H:Hid (kz c=(decide (48<=n)&&decide (n<=57))):=by show _=_;unfold kz;rw[m.o]
 rw[m.o];by_cases J:48<=n;have G:(n:Int)>=48:=by omega
 by_cases V:n<=57;have y:(n:Int)<=57:=by omega
 rotate_left
 have y:¬ (n:Int)<=57:=by omega
 rotate_left
 have G:¬ (n:Int)>=48:=by omega
 rotate_left
 all_goals
   go_in;go_wp2_with fail;go_ret;exact⟨zQ (by rw[H.o];simp;omega),rfl⟩
theorem Zc(c:UInt8)(w:World) :
    Calls Tryz.prog 193 #[.int .u8 ((c.toNat:Nat):Int)] w λe w'=>e=.returned (.bool (kz c))/\w=w':=by
 obtain⟨n,m⟩:∃n:Nat,Hid (c.toNat=n):=⟨_,rfl⟩;have H:Hid (kz c=(decide (48<=n)&&decide (n<=57))):=by show _=_;unfold kz;rw[m.o]
 rw[m.o];by_cases J:48<=n;have G:(n:Int)>=48:=by omega
 by_cases V:n<=57;have y:(n:Int)<=57:=by omega
 rotate_left
 have y:¬ (n:Int)<=57:=by omega
 rotate_left
 have G:¬ (n:Int)>=48:=by omega
 rotate_left
 all_goals
   go_in;go_wp2_with fail;go_ret;exact⟨zQ (by rw[H.o];simp;omega),rfl⟩
theorem yi(c:UInt8)(w:World) :
    Calls Tryz.prog 164 #[.int .u8 ((c.toNat:Nat):Int)] w λe w'=>e=.returned (.bool (z8 c))/\w=w':=by
 obtain⟨n,m⟩:∃n:Nat,Hid (c.toNat=n):=⟨_,rfl⟩;have H:Hid (z8 c=(decide (32<=n)&&decide (n<=126))):=by show _=_;unfold z8;rw[m.o]
 rw[m.o];by_cases J:32<=n;have G:(n:Int)>=32:=by omega
 by_cases V:n<=126;have y:(n:Int)<=126:=by omega
 rotate_left
 have y:¬ (n:Int)<=126:=by omega
 rotate_left
 have G:¬ (n:Int)>=32:=by omega
 rotate_left
 all_goals
   go_in;go_wp2_with fail;go_ret;exact⟨zQ (by rw[H.o];simp;omega),rfl⟩
theorem Qn(c:UInt8)(w:World) :
    Calls Tryz.prog 165 #[.int .u8 ((c.toNat:Nat):Int)] w λe w'=>e=.returned (.bool (xg c))/\w=w':=by
 obtain⟨n,G⟩:∃n:Nat,Hid (c.toNat=n):=⟨_,rfl⟩;have J:Hid (xg c=(decide (n=34)||decide (n=92))):=by show _=_;unfold xg;rw[G.o]
 rw[G.o];by_cases H:n=34;have m:((n:Int) == 34)=true:=by simp;omega
 rotate_left
 have m:((n:Int) == 34)=false:=by rw[beq_eq_false_iff_ne];omega
 by_cases V:n=92;have y:((n:Int) == 92)=true:=by simp;omega
 rotate_left
 have y:((n:Int) == 92)=false:=by rw[beq_eq_false_iff_ne];omega
 rotate_left
 all_goals
   go_in;go_wp2_with fail;go_ret;exact⟨zQ (by rw[J.o];simp;omega),rfl⟩
theorem Wt(c:UInt8)(w:World) :
    Calls Tryz.prog 130 #[.int .u8 ((c.toNat:Nat):Int)] w λe w'=>e=.returned (.bool (xA c))/\w=w':=by
 obtain⟨n,H⟩:∃n:Nat,Hid (c.toNat=n):=⟨_,rfl⟩;have V:Hid (xA c=(decide (n=32)||decide (n=9)||decide (n=10)||decide (n=13))):=by show _=_;unfold xA;rw[H.o]
 rw[H.o];by_cases J:n=32;have G:((n:Int) == 32)=true:=by simp;omega
 rotate_left
 have G:((n:Int) == 32)=false:=by rw[beq_eq_false_iff_ne];omega
 by_cases h9:n=9;have Z:((n:Int) == 9)=true:=by simp;omega
 rotate_left
 have Z:((n:Int) == 9)=false:=by rw[beq_eq_false_iff_ne];omega
 by_cases a1:n=10;have m:((n:Int) == 10)=true:=by simp;omega
 rotate_left
 have m:((n:Int) == 10)=false:=by rw[beq_eq_false_iff_ne];omega
 by_cases a0:n=13;have y:((n:Int) == 13)=true:=by simp;omega
 rotate_left
 have y:((n:Int) == 13)=false:=by rw[beq_eq_false_iff_ne];omega
 rotate_left
 all_goals
   go_in;go_wp2_with fail;go_ret;exact⟨zQ (by rw[V.o];simp;omega),rfl⟩
theorem XJ(c:UInt8)(w:World) :
    Calls Tryz.prog 187 #[.int .u8 ((c.toNat:Nat):Int)] w λe w'=>e=.returned (.bool (zM c))/\w=w':=by
 have m:=jA (Zb c w);have H:=jA (KC c w);obtain⟨n,y⟩:∃n:Nat,Hid (c.toNat=n):=⟨_,rfl⟩;obtain⟨l,J⟩:∃l:Bool,Hid (vx c=l):=⟨_,rfl⟩;obtain⟨d,V⟩:∃d:Bool,Hid (kz c=d):=⟨_,rfl⟩;have G:Hid (zM c=(l||d||decide (n=45))):=by show _=_;unfold zM;rw[y.o,J.o,V.o]
 rw[y.o,J.o] at m;rw[y.o,V.o] at H;rw[y.o];cases l with
 | true =>
  go_in;go_wp2_with fail;refine m.o.mono ?_;rintro e w' ⟨rfl,rfl⟩;go_wp2_with fail;go_ret;exact⟨zQ (by rw[G.o];rfl),rfl⟩
 | false =>
  cases d with
  | true =>
   go_in;go_wp2_with fail;refine m.o.mono ?_;rintro e w' ⟨rfl,rfl⟩;go_wp2_with fail;refine H.o.mono ?_;rintro e w' ⟨rfl,rfl⟩;go_wp2_with fail;go_ret;exact⟨zQ (by rw[G.o];rfl),rfl⟩
  | false =>
   go_in;go_wp2_with fail;refine m.o.mono ?_;rintro e w' ⟨rfl,rfl⟩;go_wp2_with fail;refine H.o.mono ?_;rintro e w' ⟨rfl,rfl⟩;go_wp2_with fail;go_ret;exact⟨zQ (by rw[G.o];exact wO n 45 45 rfl),rfl⟩
theorem Wu(c:UInt8)(w:World) :
    Calls Tryz.prog 192 #[.int .u8 ((c.toNat:Nat):Int)] w λe w'=>e=.returned (.bool (zM c))/\w=w':=by
 have m:=jA (Qm c w);have H:=jA (Zc c w);obtain⟨n,y⟩:∃n:Nat,Hid (c.toNat=n):=⟨_,rfl⟩;obtain⟨l,J⟩:∃l:Bool,Hid (vx c=l):=⟨_,rfl⟩;obtain⟨d,V⟩:∃d:Bool,Hid (kz c=d):=⟨_,rfl⟩;have G:Hid (zM c=(l||d||decide (n=45))):=by show _=_;unfold zM;rw[y.o,J.o,V.o]
 rw[y.o,J.o] at m;rw[y.o,V.o] at H;rw[y.o];cases l with
 | true =>
  go_in;go_wp2_with fail;refine m.o.mono ?_;rintro e w' ⟨rfl,rfl⟩;go_wp2_with fail;go_ret;exact⟨zQ (by rw[G.o];rfl),rfl⟩
 | false =>
  cases d with
  | true =>
   go_in;go_wp2_with fail;refine m.o.mono ?_;rintro e w' ⟨rfl,rfl⟩;go_wp2_with fail;refine H.o.mono ?_;rintro e w' ⟨rfl,rfl⟩;go_wp2_with fail;go_ret;exact⟨zQ (by rw[G.o];rfl),rfl⟩
  | false =>
   go_in;go_wp2_with fail;refine m.o.mono ?_;rintro e w' ⟨rfl,rfl⟩;go_wp2_with fail;refine H.o.mono ?_;rintro e w' ⟨rfl,rfl⟩;go_wp2_with fail;go_ret;exact⟨zQ (by rw[G.o];exact wO n 45 45 rfl),rfl⟩
namespace Lx
def vy(l:List UInt8):Nat:=(l.takeWhile zM).length
theorem VU:vy []=0:=rfl
theorem gU{c:UInt8}(h:zM c=true)(r:List UInt8):vy (c :: r)=vy r+1:=by
 unfold vy;rw[List.takeWhile_cons,if_pos h];rfl
theorem ZR{c:UInt8}(h:zM c=false)(r:List UInt8):vy (c :: r)=0:=by
 unfold vy;rw[List.takeWhile_cons,h];rfl
theorem Bo(l:List UInt8):vy l<=l.length:=(List.takeWhile_prefix zM).length_le
theorem DR(l:List UInt8):l.take (vy l)=l.takeWhile zM:=by
 induction l with
 | nil=>rfl
 | cons c r ih =>
  cases h:zM c with
  | true=>rw[gU h,List.take_succ_cons,ih,List.takeWhile_cons,if_pos h]
  | false=>rw[ZR h,List.takeWhile_cons,h];rfl
theorem DT(l:List UInt8):decide (vy l=l.length)=l.all zM:=by
 induction l with
 | nil=>rfl
 | cons c r ih =>
  cases h:zM c with
  | true=>rw[gU h,List.all_cons,h,<- ih,List.length_cons];simp
  | false=>rw[ZR h,List.all_cons,h,List.length_cons];simp
theorem uJ(s:ByteArray):(bys s).drop s.size=[]:=List.drop_of_length_le (by rw[zR];exact Nat.le_refl _)
end Lx
theorem yb{a b:Int}(h:a=b):Ending.returned (.int .i64 a)=.returned (.int .i64 b):=by rw[h]
theorem Qo(s:ByteArray)(w:World)(hs:s.size<=1000000) :
    Calls Tryz.prog 134 #[.string s] w λe w'=>e=.returned (.int .i64 ((vy (bys s):Nat):Int))/\w=w':=by
 obtain⟨R,hR⟩:=jx1 (vy (bys s));rw[hR.o];go_in;go_wp2_with fail;go_loop [6] (λi=>∃j:Nat,j<=s.size/\i=.int .i64 j/\Hid (R=j+vy ((bys s).drop j))) (λi=>s.size-(intOf i).toNat)
 case atStart=>exact⟨0,Nat.zero_le _,rfl,by show _=_;rw[List.drop_zero,hR.o,Nat.zero_add]⟩
 case round =>
  obtain⟨j,hj,rfl,G⟩:=hrel;by_cases V:j<s.size
  . (have Z:(j:Int)<(s.size:Int):=by omega);obtain⟨c,hc,x1⟩:=ZH s j V;have H:=jA (XJ c w);obtain⟨b,J⟩:=jx1 (zM c);rw[J.o] at H;have m:=G.o;rw[hc.o] at m;have m:=jA m;cases b with
    | true =>
     (have y:Hid (R=(j+1)+vy ((bys s).drop (j+1))):=by show _=_;rw[m.o,gU J.o];omega);clear G m;go_wp2_with fail;refine H.o.mono ?_;rintro e w' ⟨rfl,rfl⟩;go_wp2_with fail;go_round;(case rel=>exact⟨j+1,by omega,by go_num,y⟩);case measure=>simp[intOf];omega
    | false =>
     (have y:Hid (R=j):=by show _=_;rw[m.o,ZR J.o,Nat.add_zero]);clear G m;go_wp2_with fail;refine H.o.mono ?_;rintro e w' ⟨rfl,rfl⟩;go_wp2_with fail;go_ret;exact⟨yb (by rw[y.o]),rfl⟩
  . (obtain rfl:j=s.size:=by omega);(have y:Hid (R=s.size):=by show _=_;rw[G.o,uJ,VU,Nat.add_zero]);clear G;go_wp2_with fail;go_ret;exact⟨yb (by rw[y.o]),rfl⟩
theorem DU(s:ByteArray)(w:World)(hs:s.size<=1000000) :
    Calls Tryz.prog 140 #[.string s] w λe w'=>e=.returned (.int .i64 ((vy (bys s):Nat):Int))/\w=w':=by
 obtain⟨R,hR⟩:=jx1 (vy (bys s));rw[hR.o];go_in;go_wp2_with fail;go_loop [3] (λi=>∃j:Nat,j<=s.size/\i=.int .i64 j/\Hid (R=j+vy ((bys s).drop j))) (λi=>s.size-(intOf i).toNat)
 case atStart=>exact⟨0,Nat.zero_le _,rfl,by show _=_;rw[List.drop_zero,hR.o,Nat.zero_add]⟩
 case round =>
  obtain⟨j,hj,rfl,G⟩:=hrel;by_cases V:j<s.size
  . (have Z:(j:Int)<(s.size:Int):=by omega);obtain⟨c,hc,x1⟩:=ZH s j V;have H:=jA (Wu c w);obtain⟨b,J⟩:=jx1 (zM c);rw[J.o] at H;have m:=G.o;rw[hc.o] at m;have m:=jA m;cases b with
    | true =>
     (have y:Hid (R=(j+1)+vy ((bys s).drop (j+1))):=by show _=_;rw[m.o,gU J.o];omega);clear G m;go_wp2_with fail;refine H.o.mono ?_;rintro e w' ⟨rfl,rfl⟩;go_wp2_with fail;go_round;(case rel=>exact⟨j+1,by omega,by go_num,y⟩);case measure=>simp[intOf];omega
    | false =>
     (have y:Hid (R=j):=by show _=_;rw[m.o,ZR J.o,Nat.add_zero]);clear G m;go_wp2_with fail;refine H.o.mono ?_;rintro e w' ⟨rfl,rfl⟩;go_wp2_with fail;go_ret;exact⟨yb (by rw[y.o]),rfl⟩
  . (obtain rfl:j=s.size:=by omega);(have y:Hid (R=s.size):=by show _=_;rw[G.o,uJ,VU,Nat.add_zero]);clear G;go_wp2_with fail;go_ret;exact⟨yb (by rw[y.o]),rfl⟩
