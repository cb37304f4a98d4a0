/- -/
import Derived.Test.YtkefajjcpcoajaaGreatDoorPkA0
import Derived.Test.YtkefajjcpcoajaaGreatDoorPkA1
import Derived.Test.YtkefajjcpcoajaaGreatDoorPkA2
set_option linter.all false
set_option maxRecDepth 100000
set_option maxHeartbeats 3200000
namespace Go.Proofs.YtkefajjcpcoajaaGreatDoor
open Go.RowKit Lx
variable {n B:Nat}{c:UInt8}{r:List UInt8}{w:World}{ao:Option Addr}{ts:List Tok}
namespace Lx
def OneOut(r:Option (Nat×List UInt8×Nat))(e:Ending):Prop:=∃ (k:Nat) (t:ByteArray) (n:Nat),e=.returned (.tuple #[.int .i64 (k:Int),.string t,.int .i64 (n:Int)]) /\
  match r with
  | none=>n=0
  | some x=>k=x.1/\t=stg x.2.1/\n=x.2.2
theorem OneOut.some{x:Nat×List UInt8×Nat}{r:Option (Nat×List UInt8×Nat)}{k:Nat}{t:ByteArray}{z y:Int}(h:r=Option.some x)(hk:z=(k:Int))(hn:y=(n:Int))(h1:k=x.1)(h2:t=stg x.2.1)(h3:n=x.2.2):OneOut r (.returned (.tuple #[.int .i64 z,.string t,.int .i64 y])):=by
 subst h hk hn;exact⟨k,t,n,rfl,h1,h2,h3⟩
theorem OneOut.none{r:Option (Nat×List UInt8×Nat)}{k:Nat}{t:ByteArray}{z:Int}(h:r=Option.none)(hk:z=(k:Int)):OneOut r (.returned (.tuple #[.int .i64 z,.string t,.int .i64 0])):=by
 subst h hk;exact⟨k,t,0,rfl,rfl⟩
theorem Wb(s:ByteArray):bys (s.extract 0 (vy (bys s)))=(bys s).takeWhile zM:=by rw[wV,DR]
theorem Gp(s:ByteArray):s.extract 0 (vy (bys s))=stg ((bys s).takeWhile zM):=by rw[<- Wb,yD]
theorem Fk{l:List UInt8}(h:zv (l.takeWhile zM)=true):xE l=Option.some (1,l.takeWhile zM,vy l):=by unfold xE;rw[if_pos h];rfl
theorem NY{l:List UInt8}(h0:zv (l.takeWhile zM)=false)(h:zg (l.takeWhile zM)=true):xE l=Option.some (2,l.takeWhile zM,vy l):=by unfold xE;rw[h0,if_neg (by decide),if_pos h];rfl
theorem Fl(h0:zv ((c :: r).takeWhile zM)=false)(h1:zg ((c :: r).takeWhile zM)=false)(h:wi c=true):xE (c :: r)=Option.some (4,[c],1):=by
 unfold xE;rw[h0,if_neg (by decide),h1,if_neg (by decide)];simp[h]
theorem vE(h0:zv ((c :: r).takeWhile zM)=false)(h1:zg ((c :: r).takeWhile zM)=false)(h:c.toNat=34):xE (c :: r)=(xB r).map λx=>(3,x.1,x.2+1):=by
 unfold xE;rw[h0,if_neg (by decide),h1,if_neg (by decide)];simp[h,wi]
theorem Fm(h0:zv ((c :: r).takeWhile zM)=false)(h1:zg ((c :: r).takeWhile zM)=false)(h2:wi c=false)(h:¬ c.toNat=34):xE (c :: r)=Option.none:=by
 unfold xE;rw[h0,if_neg (by decide),h1,if_neg (by decide)];simp[h,h2]
theorem Fo(s:ByteArray)(h:bys s=c :: r):s.extract 0 1=stg [c]:=by
 apply uH;rw[wV,h];rfl
end Lx
theorem NZ(s:ByteArray)(w:World)(hs:s.size<=1000000)(hpos:0<s.size) :
    Calls Tryz.prog 78 #[.string s] w λe w'=>OneOut (xE (bys s)) e/\Below w.heap.size w w':=by
 obtain⟨c,hc,x1,b3⟩:=Yj s hpos;obtain⟨R,hR⟩:=jx1 (xE (bys s));have HR:=jA (Qo s w hs);have a5:=Bo (bys s);rw[zR] at a5;obtain⟨k,hk⟩:=jx1 (vy (bys s));obtain⟨T,hT⟩:=jx1 (s.extract 0 k);have b2:T.size=k:=by rw[<- hT.o,ByteArray.size_extract,<- hk.o];omega
 have a4:Hid (bys T=(bys s).takeWhile zM):=by show _=_;rw[<- hT.o,<- hk.o];exact Wb s
 have a7:Hid (T=stg ((bys s).takeWhile zM)):=by show _=_;rw[<- hT.o,<- hk.o];exact Gp s
 have HW:=Vi T w (by have:=hk.o;omega);have HN:=uL T w (by have:=hk.o;omega);obtain⟨wb,a0⟩:∃b,Hid (zv ((bys s).takeWhile zM)=b):=⟨_,rfl⟩;obtain⟨nb,a2⟩:∃b,Hid (zg ((bys s).takeWhile zM)=b):=⟨_,rfl⟩;rw[a4.o,a0.o] at HW;rw[a4.o,a2.o] at HN;have HW:=jA HW;have HN:=jA HN;rw[hk.o] at HR a5;have c1:(0:Int)<=(k:Int):=by omega
 have c2:(k:Int)<=(s.size:Int):=by omega
 have b1:=hT.o;have a3:=hc.o;rw[hR.o];cases wb with
 | true =>
  have J:Hid (R=some (1,(bys s).takeWhile zM,k)):=by show _=_;rw[<- hR.o,Fk a0.o,hk.o]
  clear a3;go_in;go_wp2_with fail;refine HR.o.mono ?_;rintro e w' ⟨rfl,rfl⟩;go_wp2_with fail;refine HW.o.mono ?_;rintro e w' ⟨rfl,rfl⟩;go_wp2_with fail;go_ret3
  exact⟨OneOut.some (k:=1) (n:=k) J.o rfl (by omega) rfl a7.o rfl,Below.refl _ _⟩
 | false =>
  cases nb with
  | true =>
   (have J:Hid (R=some (2,(bys s).takeWhile zM,k)):=by show _=_;rw[<- hR.o,NY a0.o a2.o,hk.o]);clear a3;go_in;go_wp2_with fail;refine HR.o.mono ?_;rintro e w' ⟨rfl,rfl⟩;go_wp2_with fail;refine HW.o.mono ?_;rintro e w' ⟨rfl,rfl⟩;go_wp2_with fail;refine HN.o.mono ?_;rintro e w' ⟨rfl,rfl⟩;go_wp2_with fail;(go_ret3);exact⟨OneOut.some (k:=2) (n:=k) J.o rfl (by omega) rfl a7.o rfl,Below.refl _ _⟩
  | false =>
   have y:=a0.o;have G:=a2.o;have H:=hR.o;rw[hc.o] at y G H;have y:=jA y;have G:=jA G;have H:=jA H;have V:=Vk ⟨#[123,125,59,44,47]⟩ c w;have hm:=Dy c;rw[show bys ⟨#[123,125,59,44,47]⟩=[123,125,59,44,47] from rfl] at V;obtain⟨z,hz⟩:=jx1 (Lib.indexByte [123,125,59,44,47] c);rw[hz.o] at hm V;have V:=jA V;obtain⟨n,hn⟩:∃n:Nat,Hid (c.toNat=n):=⟨_,rfl⟩;rw[hn.o] at x1 V;obtain⟨mb,a1⟩:∃b,Hid (wi c=b):=⟨_,rfl⟩;rw[a1.o] at hm;have HX:=jA (GT s w hs hpos);clear a3;cases mb with
   | true =>
    have a9:z>=0:=of_decide_eq_true hm;(have J:Hid (R=some (4,[c],1)):=by show _=_;rw[<- H.o];exact Fl y.o G.o a1.o);have a8:Hid (s.extract 0 1=stg [c]):=Fo s hc.o;(have d1:(1:Int)<=(s.size:Int):=by omega);clear hm;go_in;go_wp2_with fail;refine HR.o.mono ?_;rintro e w' ⟨rfl,rfl⟩;go_wp2_with fail;refine HW.o.mono ?_;rintro e w' ⟨rfl,rfl⟩;go_wp2_with fail;refine HN.o.mono ?_;rintro e w' ⟨rfl,rfl⟩;go_wp2_with fail;refine V.o.mono ?_;rintro e w' ⟨rfl,rfl⟩;go_wp2_with fail;(go_quiet (fail));go_wp2_with fail;(go_ret3);exact⟨OneOut.some (k:=4) (n:=1) J.o rfl rfl rfl a8.o rfl,below_drewN (Below.refl _ _) _⟩
   | false =>
    have a9:¬ z>=0:=of_decide_eq_false hm;clear hm;by_cases Z:n=34
    . (have b0:((n:Int) == 34)=true:=by simp;omega);(have a6:Hid (R=(xB ((bys s).drop 1)).map λx=>(3,x.1,x.2+1)):=by show _=_;rw[<- H.o];exact vE y.o G.o (by rw[hn.o];exact Z));obtain⟨S,hS⟩:=jx1 (xB ((bys s).drop 1));(have J:Hid (R=S.map λx=>(3,x.1,x.2+1)):=by show _=_;rw[a6.o,hS.o]);rw[hS.o] at HX;clear Z a6;cases S with
      | none =>
       have hU:QT none=(⟨#[]⟩,0):=rfl;rw[hU] at HX;go_in;go_wp2_with fail;refine HR.o.mono ?_;rintro e w' ⟨rfl,rfl⟩;go_wp2_with fail;refine HW.o.mono ?_;rintro e w' ⟨rfl,rfl⟩;go_wp2_with fail;refine HN.o.mono ?_;rintro e w' ⟨rfl,rfl⟩;go_wp2_with fail;refine V.o.mono ?_;rintro e w' ⟨rfl,rfl⟩;go_wp2_with fail;refine HX.o.mono ?_;rintro e w' ⟨rfl,B⟩;go_wp2_with fail;(go_ret3);exact⟨OneOut.none (k:=3) J.o rfl,B⟩
      | some x =>
       obtain⟨u,m⟩:=x;have hU:QT (some (u,m))=(stg u,m+1):=rfl;rw[hU] at HX;go_in;go_wp2_with fail;refine HR.o.mono ?_;rintro e w' ⟨rfl,rfl⟩;go_wp2_with fail;refine HW.o.mono ?_;rintro e w' ⟨rfl,rfl⟩;go_wp2_with fail;refine HN.o.mono ?_;rintro e w' ⟨rfl,rfl⟩;go_wp2_with fail;refine V.o.mono ?_;rintro e w' ⟨rfl,rfl⟩;go_wp2_with fail;refine HX.o.mono ?_;rintro e w' ⟨rfl,B⟩;go_wp2_with fail;(go_ret3);exact⟨OneOut.some (k:=3) (n:=m+1) J.o rfl rfl rfl rfl rfl,B⟩
    . (have b0:((n:Int) == 34)=false:=by rw[beq_eq_false_iff_ne];omega);(have J:Hid (R=none):=by show _=_;rw[<- H.o];exact Fm y.o G.o a1.o (by rw[hn.o];exact Z));clear Z;go_in;go_wp2_with fail;refine HR.o.mono ?_;rintro e w' ⟨rfl,rfl⟩;go_wp2_with fail;refine HW.o.mono ?_;rintro e w' ⟨rfl,rfl⟩;go_wp2_with fail;refine HN.o.mono ?_;rintro e w' ⟨rfl,rfl⟩;go_wp2_with fail;refine V.o.mono ?_;rintro e w' ⟨rfl,rfl⟩;go_wp2_with fail;(go_ret3);exact⟨OneOut.none (k:=0) J.o rfl,Below.refl _ _⟩
namespace Lx
def blN:Bool->List UInt8->Nat
  | _,[]=>0
  | true,c :: r=>blN (!decide (c.toNat=10)) r+1
  | false,c :: r=>if c.toNat=35 then blN true r+1 else if xA c then blN false r+1 else 0
theorem Xt(b:Bool):blN b []=0:=by cases b<;>rfl
theorem Wc(h:c.toNat=10)(r:List UInt8):blN true (c :: r)=blN false r+1:=by rw[blN,decide_eq_true h];rfl
theorem Wd(h:¬ c.toNat=10)(r:List UInt8):blN true (c :: r)=blN true r+1:=by rw[blN,decide_eq_false h];rfl
theorem JA(h:c.toNat=35)(r:List UInt8):blN false (c :: r)=blN true r+1:=by rw[blN,if_pos h]
theorem Q7(h:¬ c.toNat=35)(hb:xA c=true)(r:List UInt8):blN false (c :: r)=blN false r+1:=by rw[blN,if_neg h,if_pos hb]
theorem JB(h:¬ c.toNat=35)(hb:xA c=false)(r:List UInt8):blN false (c :: r)=0:=by rw[blN,if_neg h,hb,if_neg (by decide)]
theorem Xu:∀ (l:List UInt8) (b:Bool),blN b l<=l.length
  | [],b=>by rw[Xt];exact Nat.le_refl _
  | c :: r,true=>by rw[blN];have:=Xu r (!decide (c.toNat=10));simp;omega
  | c :: r,false=>by
   have h1:=Xu r true;have h2:=Xu r false;rw[blN];split
   . simp;omega
   . split
     . simp;omega
     . exact Nat.zero_le _
def UT(b:Bool)(l:List UInt8)(ln:Nat):Res:=if b then jz (l.dropWhile Qk) ln else jz l ln
theorem gq(c:UInt8)(l:List UInt8):nlN (c :: l)=nlN l+(if c.toNat=10 then 1 else 0):=by
 unfold nlN;rw[List.countP_cons];by_cases h:c.toNat=10<;>simp[h]
theorem uA:∀ (l:List UInt8) (b:Bool) (ln:Nat),UT b l ln=jz (l.drop (blN b l)) (ln+nlN (l.take (blN b l)))
  | [],b,ln=>by cases b<;>simp[UT,nlN]
  | c :: r,true,ln=>by
   by_cases h:c.toNat=10
   . rw[Wc h,List.drop_succ_cons,List.take_succ_cons,gq,if_pos h];have:=uA r false (ln+1);unfold UT at this |-;rw[if_neg (by decide)] at this;rw[if_pos rfl,List.dropWhile_cons,if_neg (by simp[Qk,h]),kP,if_neg (by omega),if_pos (by simp[xA,h])];rw[show yh c ln=ln+1 by unfold yh;rw[if_pos h],this];congr 1;omega
   . rw[Wd h,List.drop_succ_cons,List.take_succ_cons,gq,if_neg h];have:=uA r true ln;unfold UT at this |-;rw[if_pos rfl] at this |-;rw[List.dropWhile_cons,if_pos (by simp[Qk,h])];exact this
  | c :: r,false,ln=>by
   by_cases h:c.toNat=35
   . rw[JA h,List.drop_succ_cons,List.take_succ_cons,gq,if_neg (by omega)];have:=uA r true ln;unfold UT at this |-;rw[if_pos rfl] at this;rw[if_neg (by decide),kP,if_pos h];exact this
   . cases hb:xA c with
     | true =>
      rw[Q7 h hb,List.drop_succ_cons,List.take_succ_cons,gq];have:=uA r false (yh c ln);unfold UT at this |-;rw[if_neg (by decide)] at this |-;rw[kP,if_neg h,if_pos hb,this];congr 1;unfold yh;split<;>omega
     | false =>
      rw[JB h hb];simp[UT,nlN]
theorem Gq(l:List UInt8)(ln:Nat):jz l ln=jz (l.drop (blN false l)) (ln+nlN (l.take (blN false l))):=uA l false ln
theorem gu:∀ (l:List UInt8) (b:Bool) (c:UInt8) (r:List UInt8),l.drop (blN b l)=c :: r->c.toNat≠35/\xA c=false
  | [],b,c,r,h=>by rw[Xt] at h;cases h
  | d :: l,true,c,r,h=>by
   rw[blN,List.drop_succ_cons] at h;exact gu l _ c r h
  | d :: l,false,c,r,h=>by
   by_cases h35:d.toNat=35
   . rw[JA h35,List.drop_succ_cons] at h;exact gu l _ c r h
   . cases hb:xA d with
     | true =>
      rw[Q7 h35 hb,List.drop_succ_cons] at h;exact gu l _ c r h
     | false =>
      rw[JB h35 hb] at h;injection h with h1 h2;subst h1;exact⟨h35,hb⟩
theorem PK(l:List UInt8):nlN l<=l.length:=List.countP_le_length
theorem Fp(h:c.toNat≠35/\xA c=false)(ln:Nat):jz (c :: r) ln=match xE (c :: r) with
 | none=>.err ln
 | some x=>(jz ((c :: r).drop x.2.2) ln).cons ⟨x.1,x.2.1,ln⟩:=by
 rw[kP,if_neg h.1,h.2,if_neg (by decide)];cases m:xE (c :: r) with
 | none=>rfl
 | some x =>
  have:=ZZ _ _ m;simp only;rw[show x.2.2=(x.2.2-1)+1 by omega,List.drop_succ_cons];rfl
end Lx
theorem Jp(s:ByteArray)(w:World)(hs:s.size<=1000000) :
    Calls Tryz.prog 76 #[.string s] w λe w'=>e=.returned (.int .i64 ((blN false (bys s):Nat):Int))/\w=w':=by
 obtain⟨R,hR⟩:=jx1 (blN false (bys s));rw[hR.o];go_in;go_wp2_with fail;go_loop [3,7] (λcm i=>∃ (j:Nat) (b:Bool),j<=s.size/\i=.int .i64 j/\cm=.bool b/\Hid (R=j+blN b ((bys s).drop j))) (λ_ i=>s.size-(intOf i).toNat)
 case atStart=>exact⟨0,false,Nat.zero_le _,rfl,rfl,by show _=_;rw[List.drop_zero,hR.o,Nat.zero_add]⟩
 case round =>
  obtain⟨j,b,hj,rfl,rfl,Z⟩:=hrel;by_cases a2:j<s.size
  . (have a3:(j:Int)<(s.size:Int):=by omega);obtain⟨c,hc,x1⟩:=ZH s j a2;have V:=Wt c w;obtain⟨n,J⟩:∃n:Nat,Hid (c.toNat=n):=⟨_,rfl⟩;obtain⟨k,hk⟩:=jx1 (xA c);rw[J.o] at x1;rw[J.o,hk.o] at V;have V:=jA V;(have G:Hid (R=j+blN b (c :: (bys s).drop (j+1))):=by show _=_;rw[Z.o,hc.o]);clear Z;cases b with
    | true =>
     by_cases H:n=10
     . (have a1:((n:Int) != 10)=false:=by simp;omega);(have y:Hid (R=(j+1)+blN false ((bys s).drop (j+1))):=by show _=_;rw[G.o,Wc (by rw[J.o];exact H)];omega);clear G H;go_wp2_with fail;go_round;(case rel=>exact⟨j+1,false,by omega,by go_num,rfl,y⟩);case measure=>simp[intOf];omega
     . (have a1:((n:Int) != 10)=true:=by simp;omega);(have y:Hid (R=(j+1)+blN true ((bys s).drop (j+1))):=by show _=_;rw[G.o,Wd (by rw[J.o];exact H)];omega);clear G H;go_wp2_with fail;go_round;(case rel=>exact⟨j+1,true,by omega,by go_num,rfl,y⟩);case measure=>simp[intOf];omega
    | false =>
     by_cases m:n=35
     . (have a0:((n:Int) == 35)=true:=by simp;omega);(have y:Hid (R=(j+1)+blN true ((bys s).drop (j+1))):=by show _=_;rw[G.o,JA (by rw[J.o];exact m)];omega);clear G m;go_wp2_with fail;go_round;(case rel=>exact⟨j+1,true,by omega,by go_num,rfl,y⟩);case measure=>simp[intOf];omega
     . (have a0:((n:Int) == 35)=false:=by rw[beq_eq_false_iff_ne];omega);cases k with
       | true =>
        (have y:Hid (R=(j+1)+blN false ((bys s).drop (j+1))):=by show _=_;rw[G.o,Q7 (by rw[J.o];exact m) hk.o];omega);clear G m;go_wp2_with fail;refine V.o.mono ?_;rintro e w' ⟨rfl,rfl⟩;go_wp2_with fail;go_round;(case rel=>exact⟨j+1,false,by omega,by go_num,rfl,y⟩);case measure=>simp[intOf];omega
       | false =>
        (have y:Hid (R=j):=by show _=_;rw[G.o,JB (by rw[J.o];exact m) hk.o];omega);clear G m;go_wp2_with fail;refine V.o.mono ?_;rintro e w' ⟨rfl,rfl⟩;go_wp2_with fail;go_ret;exact⟨yb (by rw[y.o]),rfl⟩
  . (obtain rfl:j=s.size:=by omega);(have y:Hid (R=s.size):=by show _=_;rw[Z.o,uJ,Xt,Nat.add_zero]);clear Z;go_wp2_with fail;go_ret;exact⟨yb (by rw[y.o]),rfl⟩
def xd:List Tok->List Value
  | []=>[]
  | t :: r=>.int .i64 (t.kind:Int) :: .string (stg t.text) :: .int .i64 (t.line:Int) :: xd r
theorem UU(ts:List Tok):(xd ts).length=ts.length*3:=by
 induction ts with
 | nil=>rfl
 | cons t ts ih=>simp[xd,ih];omega
theorem Jq(ts us:List Tok):xd (ts++us)=xd ts++xd us:=by
 induction ts with
 | nil=>rfl
 | cons t ts ih=>simp[xd,ih]
theorem UV(ts:List Tok):∀u∈xd ts,u.oneCell'=true:=by
 induction ts with
 | nil=>intro u h;cases h
 | cons t ts ih =>
  intro u h;simp only[xd,List.mem_cons] at h;rcases h with rfl|rfl|rfl|h
  . rfl
  . rfl
  . rfl
  . exact ih u h
theorem Kd:∀ (ts:List Tok) (i:Nat) (t:Tok),ts[i]? = some t->(xd ts)[3*i]? = some (.int .i64 (t.kind:Int))/\(xd ts)[3*i+1]? = some (.string (stg t.text))/\(xd ts)[3*i+2]? = some (.int .i64 (t.line:Int))
  | [],i,t,h=>by simp at h
  | u :: ts,0,t,h=>by simp at h;subst h;exact⟨rfl,rfl,rfl⟩
  | u :: ts,i+1,t,h=>by
   have:=Kd ts i t (by simpa using h);rw[show 3*(i+1)=3*i+3 by omega];exact this
def TokOwn(B:Nat)(w:World)(ao:Option Addr)(n c:Nat)(ts:List Tok):Prop:=w.ownsRow B 87 3 (.slice ao n c) n (xd ts)
theorem TokOwn.len{c:Nat}(h:TokOwn B w ao n c ts):ts.length=n:=by
 have:=h.1;rw[UU] at this;omega
theorem TokOwn.keep{w':World}{c:Nat}(h:TokOwn B w ao n c ts)(hb:Below w.heap.size w w'):TokOwn B w' ao n c ts :=
 World.ownsRow.kept (row:=none) h ⟨hb.os,hb.tape,hb.output,hb.size,λj hj _=>hb.block j hj⟩ (by cases (Value.slice ao n c).ownBlock<;>simp)
theorem TokOwn.nil(B:Nat)(w:World):TokOwn B w none 0 0 []:=World.ownsRow_nil _ _ _ _
theorem TokOwn.lower{B':Nat}{c:Nat}(h:TokOwn B w ao n c ts)(hB:B'<=B):TokOwn B' w ao n c ts:=by
 refine⟨h.1,?_⟩;rcases h.2 with h|⟨g,cap,cur,hv,hg,r⟩
 . exact Or.inl h
 . exact Or.inr ⟨g,cap,cur,hv,Nat.le_trans hB hg,r⟩
theorem TokOwn.far{c:Nat}(h:TokOwn B w ao n c ts){g:Nat}(hg:g<B)(i:Nat)(u:Value):TokOwn B (w.setCell ⟨g,i,none⟩ u) ao n c ts:=by
 refine World.ownsRow.kept (row:=some g) h ⟨rfl,rfl,rfl,by simp[World.setCell],λk _ m=>Below.heap_setCell w _ u k (λe=>m (by rw[e]))⟩ ?_;cases ao with
 | none=>exact Or.inl rfl
 | some a =>
  refine Or.inr λe=>?_
  have y:=(World.ownsRow.lt h a.block rfl).1;injection e with e;omega
theorem LA:(Tryz.prog.info? 87).map (λi=>(i.zero,i.size,i.bytes))=some (some (.agg #[.int .i64 0,.string ⟨#[]⟩,.int .i64 0]),3,32):=by kernel_rfl
theorem Mf:(Tryz.prog.info? 87).map (·.size)=some 3:=by kernel_rfl
section
variable {w : World} {ops : Array Oper} {rest : List Oper} {a : Act} {Q : Exit -> Act -> World -> Prop} {d : Option Tmp} {p q : Operand} {ty : TypeId} {pos : String} {after : Array Edge}
theorem Qv{c:Nat}{t:Tok}{S:ByteArray}{k l:Int}(hO:TokOwn B w ao n c ts)(hB:B<=w.heap.size)(hn:n<=1048576)(hk:k=(t.kind:Int))(hS:S=stg t.text)(hl:l=(t.line:Int))
    (hp:a.eval p=.slice ao n c) (hq:a.eval q=.slice (some ⟨w.heap.size,0,none⟩) 1 1)
    (h:∀ao' c' w',TokOwn B w' ao' (n+1) c' (ts++[t])->Below B w w'->wpList Tryz.prog ops Q rest (a.put d (.slice ao' (n+1) c')) w') :
    wpList Tryz.prog ops Q (⟨d,.call { callee:=.builtin .append,args:=#[p,q],argTypes:=#[80,80] },ty,pos,after,none⟩ :: rest) a (w.alloc (.cells #[.int .i64 k,.string S,.int .i64 l] 87)):=by
 subst hk hS hl;obtain⟨i0,hi,H,J,V⟩:=info_parts LA;have Z:Below w.heap.size w (w.alloc (.cells #[.int .i64 (t.kind:Int),.string (stg t.text),.int .i64 (t.line:Int)] 87)):=(Below.refl _ _).alloc (Nat.le_refl _) _;have y:Arr (w.alloc (.cells #[.int .i64 (t.kind:Int),.string (stg t.text),.int .i64 (t.line:Int)] 87)) w.heap.size 87 (xd [t]):=Arr.new w _ (xd [t]);refine wpList_append_own _ rfl p q 80 rfl B 87 i0 _ 3 32 Tryz.underlying80 hi H J V rfl (by decide) _ n _ hp (hO.keep Z) ⟨w.heap.size,0,none⟩ 1 1 (xd [t]) hq rfl ?_ (UV [t]) (by unfold maxLen;omega) (by omega) (by simp;omega) ?_
 . intro j u hj;have e:=jm w.heap.size j;simp only[pt,Option.getD_some] at e;rw[e,y.cell];exact hj
 . intro v' w' m hg _;obtain⟨av,cv,G⟩:∃ao c,v'=.slice ao (n+1) c:=by
    rcases m.2 with ⟨G,h0⟩|⟨g,cap,_,G,_⟩
    . omega
    . exact⟨_,cap,G⟩
   subst G;refine h av cv w' (by unfold TokOwn;rw[Jq];exact m) ((Z.mono hB).trans ((Below.refl _ _).grown hg (by simp;omega) (λk hk=>(World.ownsRow.lt hO k hk).1)))
end
def put2(w:World)(g:Nat)(u0 u1:Value):World:=(w.setCell ⟨g,0,none⟩ u0).setCell ⟨g,1,none⟩ u1
section
variable {w : World} {g : Nat} {t : TypeId} {v0 v1 : Value}
theorem Arr.store2(h:Arr w g t [v0,v1])(u0:Value) :
    w.cell? ⟨g,0,none⟩=some v0/\w.frozen? ⟨g,0,none⟩=false/\(w.setCell ⟨g,0,none⟩ u0).cell? ⟨g,1,none⟩=some v1/\(w.setCell ⟨g,0,none⟩ u0).frozen? ⟨g,1,none⟩=false :=
 ⟨h.cell 0,h.frozen 0,(h.set 0 u0).cell 1,(h.set 0 u0).frozen 1⟩
theorem Arr.put2(h:Arr w g t [v0,v1])(u0 u1:Value):Arr (put2 w g u0 u1) g t [u0,u1]:=(h.set 0 u0).set 1 u1
theorem jX{a:World}(h:Below B a w)(hg:B<=g)(u0 u1:Value):Below B a (Go.Proofs.YtkefajjcpcoajaaGreatDoor.put2 w g u0 u1):=(h.setCell hg u0).setCell hg u1
end
theorem TokOwn.put2{c:Nat}(h:TokOwn B w ao n c ts){g:Nat}(hg:g<B)(u0 u1:Value):TokOwn B (put2 w g u0 u1) ao n c ts:=(h.far hg 0 u0).far hg 1 u1
def AllOut(B:Nat)(r:Option Res)(w':World)(e:Ending):Prop:=∃ (ao:Option Addr) (n c:Nat) (er ln:Nat),e=.returned (.tuple #[.slice ao n c,.agg #[.int .i64 (er:Int),.int .i64 (ln:Int)]]) /\
  match r with
  | none=>er=7/\ln=0/\n=0/\c=0/\ao=none
  | some (.err l)=>er=1/\ln=l/\n=0/\c=0/\ao=none
  | some (.ok ts l)=>er=0/\ln=0/\TokOwn B w' ao n c (ts++[⟨5,[],l⟩])
theorem TokOwn.cases{c:Nat}(h:TokOwn B w ao n c ts):(ao=none/\n=0/\c=0/\ts=[])\/∃g,ao=some ⟨g,0,none⟩/\B<=g/\g<w.heap.size/\n<=c/\c<=maxLen:=by
 have m:=h.len;rcases h.2 with ⟨hv,hn⟩|⟨g,cap,cur,hv,hg,hh,hn,hc,_⟩
 . injection hv with h1 h2 h3;exact Or.inl ⟨h1,hn,h3,List.eq_nil_of_length_eq_zero (by omega)⟩
 . injection hv with h1 h2 h3;subst h3;exact Or.inr ⟨g,h1,hg,(Array.getElem?_eq_some_iff.1 hh).1,hn,hc⟩
theorem TokOwn.at3{c:Nat}(h:TokOwn B w ao n c ts)(i:Nat)(hi:i<n)(t:Tok)(ht:ts[i]? = some t)(k0 k1 k2:Nat)(h0:k0=3*i)(h1:k1=3*i+1)(h2:k2=3*i+2) :
    ∃g,ao=some ⟨g,0,none⟩/\B<=g/\w.cell? ⟨g,k0,none⟩=some (.int .i64 (t.kind:Int))/\w.cell? ⟨g,k1,none⟩=some (.string (stg t.text))/\w.cell? ⟨g,k2,none⟩=some (.int .i64 (t.line:Int)):=by
 subst h0 h1 h2;rcases h.cases with ⟨_,h0,_⟩|⟨g,rfl,hg,_⟩
 . omega
 . have m:=Kd ts i t ht;refine⟨g,rfl,hg,?_,?_,?_⟩
   . rw[World.ownsRow.cellAt h (3*i) (by omega)];exact m.1
   . rw[World.ownsRow.cellAt h (3*i+1) (by omega)];exact m.2.1
   . rw[World.ownsRow.cellAt h (3*i+2) (by omega)];exact m.2.2
theorem AllOut.ok{e:Ending}{l:Nat}(h:AllOut B (some (.ok ts l)) w e):∃ao c,e=.returned (.tuple #[.slice ao (ts.length+1) c,.agg #[.int .i64 0,.int .i64 0]])/\TokOwn B w ao (ts.length+1) c (ts++[⟨5,[],l⟩]):=by
 obtain⟨ao,n,c,G,ln,rfl,rfl,rfl,O⟩:=h;have m:=O.len;rw[List.length_append] at m;have y:n=ts.length+1:=m.symm;subst y;exact⟨ao,c,rfl,O⟩
theorem AllOut.err{e:Ending}{l:Nat}(h:AllOut B (some (.err l)) w e):e=.returned (.tuple #[.slice none 0 0,.agg #[.int .i64 1,.int .i64 (l:Int)]]):=by
 obtain⟨ao,n,c,m,ln,rfl,rfl,rfl,rfl,rfl,rfl⟩:=h;rfl
theorem AllOut.big{e:Ending}(h:AllOut B none w e):e=.returned (.tuple #[.slice none 0 0,.agg #[.int .i64 7,.int .i64 0]]):=by
 obtain⟨ao,n,c,m,ln,rfl,rfl,rfl,rfl,rfl,rfl⟩:=h;rfl
def N9:Option Res->Int×Int×List Tok
  | none=>(7,0,[])
  | some (.err l)=>(1,l,[])
  | some (.ok ts l)=>(0,0,ts++[⟨5,[],l⟩])
theorem AllOut.view{r:Option Res}{e:Ending}(h:AllOut B r w e):∃ao n c,e=.returned (.tuple #[.slice ao n c,.agg #[.int .i64 (N9 r).1,.int .i64 (N9 r).2.1]])/\TokOwn B w ao n c (N9 r).2.2:=by
 cases r with
 | none=>exact⟨none,0,0,h.big,TokOwn.nil _ _⟩
 | some r =>
  cases r with
  | err l=>exact⟨none,0,0,h.err,TokOwn.nil _ _⟩
  | ok ts l =>
   obtain⟨ao,c,m,O⟩:=h.ok;exact⟨ao,_,c,m,O⟩
end Go.Proofs.YtkefajjcpcoajaaGreatDoor
namespace Go.Proofs.YtkefajjcpcoajaaGreatDoor.Lx
variable {u:List UInt8}{c:UInt8}
structure Fld where
 key:List UInt8
 vals:List (List UInt8)
 line:Nat
structure Blc where
 kind:List UInt8
 name:List UInt8
 flds:List Fld
 line:Nat
structure Src where
 title:List UInt8
 blks:List Blc
def PM(l:List UInt8):List UInt8:=34 :: (l.flatMap λc=>if xg c then [92,c] else [c])++[34]
def UW:List UInt8:=[101,108,101,99,116,105,111,110]
theorem Ke(h:u.all zM=true)(c:UInt8)(q:List UInt8)(hc:zM c=false):(u++c :: q).takeWhile zM=u:=by
 rw[uq zM c q hc];have:∀u:List UInt8,u.all zM=true->u.takeWhile zM=u:=by
  intro u;induction u with
  | nil=>intro _;rfl
  | cons d u ih =>
   intro h;rw[List.all_cons,Bool.and_eq_true] at h;rw[List.takeWhile_cons,if_pos h.1,ih h.2]
 exact this u h
theorem JC(h:zv u=true):u.all zM=true:=by
 cases u with
 | nil=>rfl
 | cons c r =>
  have m:(vx c&&r.all zM)=true:=h;rw[Bool.and_eq_true] at m;rw[List.all_cons,m.2];unfold zM;rw[m.1];rfl
theorem Gr(h:kz c=true):zM c=true:=by unfold zM;rw[h];simp
theorem Xv(h:zg u=true):u.all zM=true:=by
 cases u with
 | nil=>rfl
 | cons c r =>
  have m:((c :: r).all kz&&decide (r.length<=5)&&(r.isEmpty || !decide (c.toNat=48)))=true:=h;rw[Bool.and_eq_true,Bool.and_eq_true] at m;rw[List.all_eq_true] at m |-;exact λx y=>Gr (m.1.1 x y)
theorem Fq(h:zM c=true):c.toNat≠35/\xA c=false:=by
 unfold zM vx kz at h;simp only[Bool.or_eq_true,Bool.and_eq_true,decide_eq_true_eq] at h;refine⟨by omega,?_⟩;unfold xA;simp only[Bool.or_eq_false_iff,decide_eq_false_iff_not];omega
theorem Vx{k:Nat}(q:List UInt8)(ln:Nat)(hu:u≠[])(ha:u.all zM=true)(ho:xE (u++c :: q)=some (k,u,u.length)):jz (u++c :: q) ln=(jz (c :: q) ln).cons ⟨k,u,ln⟩:=by
 cases u with
 | nil=>exact absurd rfl hu
 | cons d r =>
  rw[List.all_cons,Bool.and_eq_true] at ha;have m:=Fq ha.1;rw[List.cons_append] at ho |-;rw[kP,if_neg m.1,m.2,if_neg (by decide),ho];simp only;rw[show(d :: r).length-1=r.length by simp,List.drop_left]
theorem qj(q:List UInt8)(ln:Nat)(h:zv u=true)(hc:zM c=false):jz (u++c :: q) ln=(jz (c :: q) ln).cons ⟨1,u,ln⟩:=by
 refine Vx q ln (λe=>by rw[e] at h;cases h) (JC h) ?_;unfold xE;rw[Ke (JC h) c q hc,if_pos h]
theorem Xw(h:zg u=true):zv u=false:=by
 cases u with
 | nil=>rfl
 | cons c r =>
  have m:((c :: r).all kz&&decide (r.length<=5)&&(r.isEmpty || !decide (c.toNat=48)))=true:=h;rw[Bool.and_eq_true,Bool.and_eq_true,List.all_cons,Bool.and_eq_true] at m;have y:=m.1.1.1;show(vx c&&r.all zM)=false;have:vx c=false:=by
   unfold kz at y;unfold vx;simp only[Bool.and_eq_true,decide_eq_true_eq] at y;simp only[Bool.and_eq_false_iff,decide_eq_false_iff_not];omega
  rw[this];rfl
theorem xh(q:List UInt8)(ln:Nat)(h:zg u=true)(hc:zM c=false):jz (u++c :: q) ln=(jz (c :: q) ln).cons ⟨2,u,ln⟩:=by
 refine Vx q ln (λe=>by rw[e] at h;cases h) (Xv h) ?_;unfold xE;rw[Ke (Xv h) c q hc,Xw h,if_neg (by decide),if_pos h]
theorem Jr(h:wi c=true):zM c=false/\c.toNat≠35/\xA c=false/\c.toNat≠34:=by
 unfold wi at h;simp only[Bool.or_eq_true,decide_eq_true_eq] at h;refine⟨?_,by omega,?_,by omega⟩
 . unfold zM vx kz;simp only[Bool.or_eq_false_iff,Bool.and_eq_false_iff,decide_eq_false_iff_not];omega
 . unfold xA;simp only[Bool.or_eq_false_iff,decide_eq_false_iff_not];omega
theorem qr(q:List UInt8)(ln:Nat)(h:wi c=true):jz (c :: q) ln=(jz q ln).cons ⟨4,[c],ln⟩:=by
 obtain⟨m,G,H,J⟩:=Jr h;have y:xE (c :: q)=some (4,[c],1):=by
  unfold xE;rw[List.takeWhile_cons,m];simp[zv,zg,h]
 rw[kP,if_neg G,H,if_neg (by decide),y];rfl
theorem Fr{l:List UInt8}(q:List UInt8)(ln:Nat)(h:l.all z8=true):jz (PM l++q) ln=(jz q ln).cons ⟨3,l,ln⟩:=by
 unfold PM;have e:(34 :: (l.flatMap λc=>if xg c then [92,c] else [c])++[34])++q=34 :: ((l.flatMap λc=>if xg c then [92,c] else [c])++34 :: q):=by simp
 rw[e,kP,if_neg (by decide),if_neg (by decide)];have G:xE (34 :: ((l.flatMap λc=>if xg c then [92,c] else [c])++34 :: q))=some (3,l,(l.flatMap λc=>if xg c then [92,c] else [c]).length+2):=by
  unfold xE;have m:List.takeWhile zM (34 :: ((l.flatMap λc=>if xg c then [92,c] else [c])++34 :: q))=[]:=by
   rw[List.takeWhile_cons,if_neg (by decide)]
  rw[m];simp only[zv,zg,Bool.false_eq_true,if_false];rw[if_neg (by decide),if_pos (by decide),Ld l q h];rfl
 rw[G];simp only;have y:((l.flatMap λc=>if xg c then [92,c] else [c])++34 :: q).drop ((l.flatMap λc=>if xg c then [92,c] else [c]).length+2-1)=q:=by
  rw[show(l.flatMap λc=>if xg c then [92,c] else [c]).length+2-1=(l.flatMap λc=>if xg c then [92,c] else [c]).length+1 by omega,List.drop_append,List.drop_of_length_le (by omega)];simp
 rw[y]
theorem qW(q:List UInt8)(ln:Nat):jz (32 :: q) ln=jz q ln:=by
 rw[kP,if_neg (by decide),if_pos (by decide)];rfl
end Go.Proofs.YtkefajjcpcoajaaGreatDoor.Lx
