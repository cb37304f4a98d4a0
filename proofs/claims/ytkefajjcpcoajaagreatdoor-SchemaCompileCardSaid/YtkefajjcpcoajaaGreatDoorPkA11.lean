/- -/
import Derived.Test.YtkefajjcpcoajaaGreatDoorPkA0
import Derived.WalkKit
import Derived.BigQuiet
import Derived.Outline
import Derived.Deep.LoopGhost
import Derived.Deep.RegionLaw
import Derived.Lib.ItoaNum
import Derived.Lib.UnsafeStr
import Derived.Lib.OwnKind
import Derived.Lib.VarintMem
import Derived.Test.YtkefajjcpcoajaaGreatDoorPkA10
set_option linter.all false
set_option maxHeartbeats 1600000
namespace Go.Proofs.YtkefajjcpcoajaaGreatDoor.Q.NatMath
variable {a:Nat}
def brw(x y b:Int):Int:=if x<y+b then 1 else 0
theorem WC(a b:Nat):(a &&& b) / 2147483648=a / 2147483648 &&& b / 2147483648:=by
 have:=Nat.shiftRight_and_distrib (a:=a) (b:=b) (i:=31);simpa[Nat.shiftRight_eq_div_pow] using this
theorem Mj(a b:Nat):(a ||| b) / 2147483648=a / 2147483648 ||| b / 2147483648:=by
 have:=Nat.shiftRight_or_distrib (a:=a) (b:=b) (i:=31);simpa[Nat.shiftRight_eq_div_pow] using this
theorem XN(a b:Nat):(a ^^^ b) / 2147483648=a / 2147483648 ^^^ b / 2147483648:=by
 have:=Nat.shiftRight_xor_distrib (a:=a) (b:=b) (i:=31);simpa[Nat.shiftRight_eq_div_pow] using this
theorem Yl(h:a<4294967296):a / 2147483648=0\/a / 2147483648=1:=by omega
theorem Ym{b:Nat}(ha:a<4294967296)(hb:b<4294967296):a ^^^ b<4294967296:=Nat.xor_lt_two_pow (n:=32) ha hb
theorem DX{b:Nat}(ha:a<4294967296):a &&& b<4294967296:=Nat.lt_of_le_of_lt Nat.and_le_left ha
theorem Bt:IntKind.u32.max=4294967295:=by decide
theorem Wx(x y b:Int)(x0:0<=x)(x1:x<=4294967295)(y0:0<=y)(y1:y<=4294967295)(b0:0<=b)(b1:b<=1) :
    bits .or .u32 (bits .and .u32 (bits .xor .u32 IntKind.u32.max x) y) (bits .and .u32 (bits .xor .u32 IntKind.u32.max (bits .xor .u32 x y)) ((x-y-b) % 4294967296)) / 2147483648=brw x y b:=by
 obtain⟨X,rfl⟩:=Int.eq_ofNat_of_zero_le x0;obtain⟨Y,rfl⟩:=Int.eq_ofNat_of_zero_le y0;obtain⟨d,hd⟩:=Int.eq_ofNat_of_zero_le (show 0<=((X:Int)-(Y:Int)-b) % 4294967296 by omega);have m:X<4294967296:=by omega
 have G:Y<4294967296:=by omega
 have J:d<4294967296:=by omega
 rw[Bt,hd];have e1:bits .xor .u32 4294967295 (X:Int)=((4294967295 ^^^ X:Nat):Int):=u32_xor_nat 4294967295 X (by omega) m;have Z:bits .xor .u32 (X:Int) (Y:Int)=((X ^^^ Y:Nat):Int):=u32_xor_nat X Y m G;have l2:=Ym m G;have V:bits .xor .u32 4294967295 ((X ^^^ Y:Nat):Int)=((4294967295 ^^^ (X ^^^ Y):Nat):Int):=u32_xor_nat 4294967295 _ (by omega) l2;have l1:=Ym (show 4294967295<4294967296 by omega) m;have H:=Ym (show 4294967295<4294967296 by omega) l2;rw[e1,Z,V,u32_and_nat _ _ l1 G,u32_and_nat _ _ H J,u32_or_nat _ _ (DX l1) (DX H)];have e:((4294967295 ^^^ X) &&& Y ||| (4294967295 ^^^ (X ^^^ Y)) &&& d) / 2147483648=((1 ^^^ X / 2147483648) &&& Y / 2147483648) ||| ((1 ^^^ (X / 2147483648 ^^^ Y / 2147483648)) &&& d / 2147483648):=by
  rw[Mj,WC,WC,XN,XN,XN]
 have e':(((4294967295 ^^^ X) &&& Y ||| (4294967295 ^^^ (X ^^^ Y)) &&& d:Nat):Int) / 2147483648=((((1 ^^^ X / 2147483648) &&& Y / 2147483648) ||| ((1 ^^^ (X / 2147483648 ^^^ Y / 2147483648)) &&& d / 2147483648):Nat):Int):=by
  rw[<- e];omega
 rw[e'];unfold brw;rcases Yl m with hx|hx<;>rcases Yl G with hy|hy<;>rcases Yl J with hz|hz<;>rw[hx,hy,hz]<;>simp<;>omega
end Go.Proofs.YtkefajjcpcoajaaGreatDoor.Q.NatMath
namespace Go.Proofs.YtkefajjcpcoajaaGreatDoor.Q
open Go.RowKit NatMath
theorem WD(x y b:Int)(w:World)(x0:0<=x)(x1:x<=4294967295)(y0:0<=y)(y1:y<=4294967295)(b0:0<=b)(b1:b<=4294967295) :
    Calls Tryz.prog 212 #[.int .u32 x,.int .u32 y,.int .u32 b] w λe w'=>e=.returned (.tuple #[.int .u32 ((x+y+b) % 4294967296),.int .u32 ((x+y+b) / 4294967296)])/\w=w':=by
 go_in;go_wp2
 go_ret2;exact⟨rfl,rfl⟩
theorem WE(x y b:Int)(w:World)(x0:0<=x)(x1:x<=4294967295)(y0:0<=y)(y1:y<=4294967295)(b0:0<=b)(b1:b<=1) :
    Calls Tryz.prog 213 #[.int .u32 x,.int .u32 y,.int .u32 b] w λe w'=>e=.returned (.tuple #[.int .u32 ((x-y-b) % 4294967296),.int .u32 (brw x y b)])/\w=w':=by
 have m:=jA (Wx x y b x0 x1 y0 y1 b0 b1);go_in;go_wp2
 go_ret2;refine⟨?_,rfl⟩;rw[<- m.o];rfl
theorem Mk(h l:Int)(h0:0<=h)(h1:h<=4294967295)(l0:0<=l)(l1:l<=4294967295):bits .or .u64 (h*4294967296) l=h*4294967296+l:=by
 rw[u64_or _ _ (by omega) (by omega) l0 (by omega),nat_join 32 _ _ (by omega) (by omega)];omega
theorem Bu(h l y:Int)(h0:0<=h)(h1:h<y)(l0:0<=l)(l1:l<=4294967295)(y1:y<=4294967295) :
    (h*4294967296+l) / y % 4294967296=(h*4294967296+l) / y/\(h*4294967296+l) % y % 4294967296=(h*4294967296+l) % y:=by
 have a:=Int.ediv_nonneg (a:=h*4294967296+l) (b:=y) (by omega) (by omega);have b:(h*4294967296+l) / y<4294967296:=Int.ediv_lt_of_lt_mul (by omega) (by omega);have c:=Int.emod_nonneg (h*4294967296+l) (b:=y) (by omega);have d:=Int.emod_lt_of_pos (h*4294967296+l) (b:=y) (by omega);constructor<;>omega
theorem Bv(h l y:Int)(w:World)(h0:0<=h)(h1:h<y)(l0:0<=l)(l1:l<=4294967295)(y1:y<=4294967295) :
    Calls Tryz.prog 235 #[.int .u32 h,.int .u32 l,.int .u32 y] w λe w'=>e=.returned (.tuple #[.int .u32 ((h*4294967296+l) / y),.int .u32 ((h*4294967296+l) % y)])/\∃q,w.drewN q=w':=by
 have J:(y == 0)=false:=by simp;omega
 have G:decide (y<=h)=false:=by simp;omega
 have H:=Mk h l h0 (by omega) l0 l1;have m:=jA (Bu h l y h0 h1 l0 l1 y1);go_in;go_wp2
 go_quiet (fail)
 go_wp2
 go_ret2;refine⟨?_,_,rfl⟩;show Ending.returned (.tuple #[.int .u32 ((h*4294967296+l) / y % 4294967296),.int .u32 ((h*4294967296+l) % y % 4294967296)])=_;rw[m.o.1,m.o.2]
theorem ut(x:Int)(w:World):Calls Tryz.prog 237 #[.int .i64 x] w λe w'=>e=.returned (.bool false)/\w=w':=by
 go_in;go_wp2
 go_ret;exact⟨by simp,rfl⟩
theorem uu(x:Int)(w:World):Calls Tryz.prog 238 #[.int .u32 x] w λe w'=>e=.returned (.bool false)/\w=w':=by
 go_in;go_wp2
 go_ret;exact⟨by simp,rfl⟩
theorem Wy(x y:Int)(w:World):Calls Tryz.prog 203 #[.int .i64 x,.int .i64 y] w λe w'=>e=.returned (.int .i64 (jq x y))/\w=w':=by
 by_cases m:x<y
 . go_in;go_wp2_with (first|(go_at_call 237;refine(ut _ _).mono ?_;rintro e w' ⟨rfl,rfl⟩));go_ret;exact⟨by simp[jq,m],rfl⟩
 . by_cases G:y<x
   . go_in;go_wp2_with (first|(go_at_call 237;refine(ut _ _).mono ?_;rintro e w' ⟨rfl,rfl⟩));go_ret;exact⟨by simp[jq,m,G],rfl⟩
   . (have H:jq x y=0:=by unfold jq;rw[if_neg m,if_neg G]);have J:=jA H;clear H;go_in;go_wp2_with (first|(go_at_call 237;refine(ut _ _).mono ?_;rintro e w' ⟨rfl,rfl⟩));go_ret;exact⟨by rw[J.o];rfl,rfl⟩
theorem Wz(x y:Int)(w:World):Calls Tryz.prog 204 #[.int .u32 x,.int .u32 y] w λe w'=>e=.returned (.int .i64 (jq x y))/\w=w':=by
 by_cases m:x<y
 . go_in;go_wp2_with (first|(go_at_call 238;refine(uu _ _).mono ?_;rintro e w' ⟨rfl,rfl⟩));go_ret;exact⟨by simp[jq,m],rfl⟩
 . by_cases G:y<x
   . go_in;go_wp2_with (first|(go_at_call 238;refine(uu _ _).mono ?_;rintro e w' ⟨rfl,rfl⟩));go_ret;exact⟨by simp[jq,m,G],rfl⟩
   . (have H:jq x y=0:=by unfold jq;rw[if_neg m,if_neg G]);have J:=jA H;clear H;go_in;go_wp2_with (first|(go_at_call 238;refine(uu _ _).mono ?_;rintro e w' ⟨rfl,rfl⟩));go_ret;exact⟨by rw[J.o];rfl,rfl⟩
theorem ix{ao:Option Addr}{n c:Nat}{xs:List Int}{w:World}(h:Lst .u32 w ao n c xs)(i:Nat)(hi:i<n) :
    ∀W,(Instr.indexAt 30 (.slice ao n c) (.int .i64 (i:Int))).run Tryz.prog W=.ok (.pointer (some (pt ao i))) W :=
 λW=>QO (P:=Tryz.prog) Tryz.underlying30 XM h i hi W
theorem Pj(ao bo:Option Addr)(n c m d:Nat)(xs ys:List Int)(w:World)(h:Lst .u32 w ao n c xs)(k:Lst .u32 w bo m d ys) :
    Calls Tryz.prog 75 #[.slice ao n c,.slice bo m d] w λe w'=>e=.returned (.bool (decide (xs=ys)))/\∃q,w.drewN q=w':=by
 have a0:=h.room;have a1:=h.cap;by_cases V:n=m
 . subst V;go_in;(go_wp2);(go_loopw [5] (λi wr=>∃j q:Nat,j<=n/\i=.int .i64 j/\w.drewN q=wr/\∀t,t<j->xs.getD t 0=ys.getD t 0) (λi _=>n-(intOf i).toNat));(case atStart=>exact⟨0,0,Nat.zero_le _,rfl,rfl,λt ht=>absurd ht (by omega)⟩);case round =>
    obtain⟨j,q,hj,rfl,rfl,hz⟩:=hrel;have HZ:=jA hz;clear hz;by_cases H:j<n
    . have a8:=ix h j H;have a4:=ix k j H;obtain⟨x,HX,a2,a5,b0⟩:=h.at j H;obtain⟨y,HY,a9,a6,a7⟩:=k.at j H;by_cases G:x=y
      . subst G;(go_wp2);(go_quiet (fail));(go_wp2);go_roundw;case rel=>exact⟨j+1,_,by omega,by go_num,rfl,λt ht=>by
         by_cases e:t=j
         . rw[e,<- HX.o,<- HY.o]
         . exact HZ.o t (by omega)⟩
        case measure=>simp[intOf];omega
      . (have hb:(x == y)=false:=by simpa using G);(have a3:(x != y)=true:=by simpa using G);(go_wp2);(go_quiet (fail));(go_wp2);go_ret;refine⟨?_,dd _ _ _⟩;have:xs≠ys:=by
         intro e;apply G;rw[HX.o,HY.o,e]
        simp[this]
    . have J:xs=ys:=wz (by rw[h.len,k.len]) (λt=>by
       by_cases e:t<j
       . exact HZ.o t e
       . rw[List.getD,List.getD,List.getElem?_eq_none (by rw[h.len];omega),List.getElem?_eq_none (by rw[k.len];omega)])
      have Z:=jA J;clear J;(go_wp2);go_ret;exact⟨by simp[Z.o],_,rfl⟩
 . (have hb:((n:Int) == (m:Int))=false:=by simp;omega);have J:xs≠ys:=by
    intro e;apply V;rw[<- h.len,<- k.len,e]
   have Z:=jA J;clear J;go_in;(go_wp2);go_ret;exact⟨by simp[Z.o],0,rfl⟩
theorem Ze(ao bo:Option Addr)(n c m d:Nat)(xs ys:List Int)(w:World)(h:Lst .u32 w ao n c xs)(k:Lst .u32 w bo m d ys) :
    Calls Tryz.prog 148 #[.slice ao n c,.slice bo m d] w λe w'=>e=.returned (.int .i64 (jq (val xs) (val ys)))/\∃q,w.drewN q=w':=by
 go_in;go_wp2_with fail;refine(xC _ _ _ xs _ h).mono ?_;rintro e w' ⟨rfl,a1,n1,c1,rfl,G,-⟩;go_wp2_with fail;refine(xC _ _ _ ys _ k).mono ?_;rintro e w' ⟨rfl,b1,m1,d1,rfl,H,-⟩;obtain⟨L,HL⟩:=jx2 (qL (val xs));obtain⟨M,HM⟩:=jx2 (qL (val ys));rw[<- HL.o] at G;rw[<- HM.o] at H;have a3:=G.room;have a7:=G.cap;have a5:=H.room;have a6:=H.cap;by_cases a0:n1=m1
 . subst a0;go_wp2_with fail;(go_loopw [5] (λi wr=>∃j q:Nat,j<=n1/\i=.int .i64 ((j:Int)-1)/\w.drewN q=wr/\∀t,j<=t->L.getD t 0=M.getD t 0) (λi _=>(intOf i+1).toNat));(case atStart=>exact⟨n1,0,Nat.le_refl _,rfl,rfl,λt ht=>by rw[List.getD,List.getD,List.getElem?_eq_none (by rw[G.len];omega),List.getElem?_eq_none (by rw[H.len];omega)]⟩);case round =>
    obtain⟨j,q,hj,rfl,rfl,hz⟩:=hrel;have HZ:=jA hz;clear hz;by_cases b3:0<j
    . have a4:=ix G (j-1) (by omega);have a2:=ix H (j-1) (by omega);rw[show((j-1:Nat):Int)=(j:Int)-1 from by omega] at a4 a2;obtain⟨x,HX,a8,b0,b6⟩:=G.at (j-1) (by omega);obtain⟨y,HY,b5,b2,b4⟩:=H.at (j-1) (by omega);by_cases J:x=y
      . subst J;go_wp2_with fail;(go_quiet (fail));go_wp2_with fail;go_roundw;case rel=>exact⟨j-1,_,by omega,by go_num,rfl,λt ht=>by
         by_cases e:t=j-1
         . rw[e,<- HX.o,<- HY.o]
         . exact HZ.o t (by omega)⟩
        case measure=>simp[intOf];omega
      . (have hb:(x == y)=false:=by simpa using J);(have a9:(x != y)=true:=by simpa using J);have V:jq x y=jq (val xs) (val ys):=by
         have:=Bs (i:=j-1) G.ok H.ok (by rw[G.len,H.len]) (λt ht=>HZ.o t (by omega)) (by rw[<- HX.o,<- HY.o];exact J);rw[HX.o,HY.o,this,HL.o,HM.o,qP,qP]
        have Z:=jA V;clear V;go_wp2_with fail;(go_quiet (fail));go_wp2_with fail;(go_quiet ((go_at_call 204;exact VZ (Wz _ _ _))));go_wp2_with fail;go_ret;refine⟨?_,ddd _ _ _ _⟩;rw[Z.o];rfl
    . have he:L=M:=wz (by rw[G.len,H.len]) (λt=>HZ.o t (by omega));have V:jq (val xs) (val ys)=0:=by
       (have e2:val xs=val ys:=by rw[<- qP (val xs),<- qP (val ys),<- HL.o,<- HM.o,he]);rw[e2,KG]
      have Z:=jA V;clear V he;go_wp2_with fail;go_ret;exact⟨by rw[Z.o];rfl,_,rfl⟩
 . (have hb:((n1:Int) == (m1:Int))=false:=by simp;omega);have V:jq (n1:Int) (m1:Int)=jq (val xs) (val ys):=by
    have:=DV (m:=val xs) (n:=val ys) (by rw[<- HL.o,<- HM.o,G.len,H.len];exact a0)
    rwa [<- HL.o,<- HM.o,G.len,H.len] at this
   have Z:=jA V;clear V;go_wp2_with fail;refine(Wy _ _ _).mono ?_;rintro e w' ⟨rfl,rfl⟩;go_wp2_with fail;go_ret;exact⟨by rw[Z.o];rfl,0,rfl⟩
theorem Zf:(Tryz.prog.info? 144).map (λi=>(i.zero,i.size,i.bytes))=some (some (.int .u32 0),1,4):=by kernel_rfl
theorem Lst.cells{k:IntKind}{w:World}{a:Addr}{n c:Nat}{xs:List Int}(h:Lst k w (some a) n c xs):∀j u,(xs.map (Value.int k))[j]? = some u->w.cell? (a.add j)=some u:=by
 intro j u m;have y:j<n:=by
  have:=(List.getElem?_eq_some_iff.1 m).1;simpa[h.len] using this
 have:=h.cell j y;simp only[pt,Option.getD_some] at this;rw[this];have G:=h.len;rw[<- m];simp[List.getD,show j<xs.length by omega]
theorem Bw(ao:Option Addr)(n c:Nat)(xs:List Int)(w:World)(h:Lst .u32 w ao n c xs)(hn:n<=1073741824) :
    Calls Tryz.prog 234 #[.slice ao n c] w λe w'=>∃ao' c',e=.returned (.slice ao' n c')/\Own 144 .u32 w.heap.size w' ao' n c' xs/\Below w.heap.size w w':=by
 have a1:=h.room;have a5:=h.cap;have hl:=jA h.len;obtain⟨i0,hi,a3,a0,a2⟩:=info_parts Zf;have a4:=λW=>Lib.run_eql_slice_nil (P:=Tryz.prog) W 30 144 ao n c 0 0 Tryz.underlying30
 cases ao with
 | none =>
  have Z:n=0:=by
   rcases Nat.eq_zero_or_pos n with Z|Z
   . exact Z
   . obtain⟨a,ha⟩:=h.isSome Z;cases ha
  subst Z;have hx:xs=[]:=List.eq_nil_of_length_eq_zero hl.o;subst hx;go_in;go_wp2
  go_ret;exact⟨none,0,rfl,⟨World.ownsRow_nil _ _ _ _,λ_ hx=>by cases hx⟩,Below.refl _ _⟩
 | some a =>
  go_in;have V:(w.alloc (.cells #[] 144)).ownsRow w.heap.size 144 1 (.slice (some ⟨w.heap.size,0,none⟩) 0 0) 0 []:=World.ownsRow_made w #[] 0 (Nat.le_refl _) (by unfold maxLen;omega) rfl;have y:=(h.below ((Below.refl w.heap.size w).alloc (Nat.le_refl _) (.cells #[] 144))).cells;have HC:=jA y;clear y;have H:=jA h;clear h;go_wp2_with (at_builtin;refine wpList_append_own _ rfl _ _ 30 rfl w.heap.size 144 i0 (.int .u32 0) 1 4 Tryz.underlying30 hi a3 a0 a2 rfl (by decide) _ _ _ rfl V a n c (xs.map (Value.int .u32)) rfl (by simp[hl.o]) HC.o (ints_oneCell _ _) ?c1 ?c2 ?c3 ?_);case c1=>unfold maxLen;omega
  case c2=>omega
  case c3=>simp
  intro v' w1 J G _;have m:w1.ownsRow w.heap.size 144 1 v' n (xs.map (Value.int .u32)):=by simpa using J
  clear J;have hv:∃ao' c',v'=.slice ao' n c':=by
   rcases m.2 with ⟨hv,Z⟩|⟨g,cap,_,hv,_⟩
   . exact⟨none,0,by rw[hv,Z]⟩
   . exact⟨_,cap,hv⟩
  obtain⟨ao',c',rfl⟩:=hv;have hb:Below w.heap.size w w1:=((Below.refl w.heap.size w).alloc (Nat.le_refl _) (.cells #[] 144)).grown G (by simp) (λk hk=>by simp[Value.ownBlock] at hk;omega);have hw:=H.o.wf;clear G V;have HO:=jA m;clear m;go_wp2
  go_ret;exact⟨ao',c',rfl,⟨HO.o,hw⟩,hb⟩
theorem Zg(ao:Option Addr)(n c:Nat)(xs:List Int)(w:World)(h:Lst .u32 w ao n c xs)(hn:n<=1073741824) :
    Calls Tryz.prog 198 #[.slice ao n c] w λe w'=>∃ao' n' c',n'<=n/\e=.returned (.slice ao' n' c')/\Own 144 .u32 w.heap.size w' ao' n' c' (qL (val xs))/\Below w.heap.size w w':=by
 have H:=zA h.ok;rw[h.len] at H;go_in;go_wp2_with fail;refine(xC _ _ _ xs _ h).mono ?_;rintro e w' ⟨rfl,a1,n1,c1,rfl,G,-⟩;have y:=G.len;have m:n1<=n:=by omega
 clear H y;go_wp2_with fail;refine(Bw _ _ _ _ _ G (by omega)).mono ?_;rintro e w' ⟨J,c2,rfl,V,Z⟩;go_wp2_with fail;go_ret;exact⟨J,n1,c2,m,rfl,V,Z⟩
theorem Yn(x:Int)(h0:0<=x)(h1:x<=18446744073709551615):val [x % 4294967296,x / 4294967296]=x.toNat:=by
 simp only[val];omega
theorem XO(x:Int)(w:World)(h0:0<=x)(h1:x<=18446744073709551615) :
    Calls Tryz.prog 149 #[.int .u64 x] w λe w'=>∃ao' n' c',n'<=2/\e=.returned (.slice ao' n' c')/\Own 144 .u32 w.heap.size w' ao' n' c' (qL x.toNat)/\Below w.heap.size w w':=by
 have J:Own 144 .u32 w.heap.size (w.alloc (.cells #[.int .u32 (x % 4294967296),.int .u32 (x / 4294967296)] 144)) (some ⟨w.heap.size,0,none⟩) 2 2 [x % 4294967296,x / 4294967296]:=by
  refine⟨World.ownsRow_lit w #[.int .u32 (x % 4294967296),.int .u32 (x / 4294967296)] 2 (Nat.le_refl _) (by unfold maxLen;omega) rfl,?_⟩;intro y V;simp at V;rcases V with rfl|rfl<;>exact xL (by omega) (by omega)
 have hv:=jA (Yn x h0 h1);have H:=jA J;clear J;go_in;go_wp2_with fail;refine(xC _ _ _ _ _ H.o.lst).mono ?_;rintro e w' ⟨rfl,a1,n1,c1,rfl,Z,hh⟩;go_wp2_with fail;go_ret;have m:=Z.len;have G:=zA H.o.lst.ok;rw[m] at G;refine⟨a1,n1,c1,G,rfl,?_,(Below.refl _ _).alloc (Nat.le_refl _) _⟩;rw[<- hv.o,xq H.o.lst.ok,m];exact H.o.head hh G
theorem uv(B:Nat)(ao:Option Addr)(n c:Nat)(xs:List Int)(wd:Nat)(w:World)(h:Own 144 .u32 B w ao n c xs)(h0:0<wd)(h1:wd<=4294967295) :
    Calls Tryz.prog 199 #[.slice ao n c,.int .u32 wd] w λe w'=>∃ys,e=.returned (.int .u32 ((val xs % wd:Nat):Int))/\Own 144 .u32 B w' ao n c ys/\val ys=val xs / wd/\w.grownBy w' (Value.slice ao n c).ownBlock:=by
 have V:=DivInv.start h.lst.ok h0 (n:=n) (by rw[h.len];exact Nat.le_refl _);have J:=jA h.len;have a0:=h.lst.room;have a3:=h.lst.cap;have H:=h;go_in;go_wp2_with fail;go_loopw [5,6] (λs5 i wr=>∃ (j r:Nat) (D:List Int),j<=n/\i=.int .i64 ((j:Int)-1)/\s5=.int .u32 r/\DivInv xs D wd r j/\Own 144 .u32 B wr ao n c D/\w.grownBy wr (Value.slice ao n c).ownBlock)
   (λ_ i _=>(intOf i+1).toNat)
 case atStart=>exact⟨n,0,xs,Nat.le_refl _,rfl,rfl,V,H,World.grownBy.refl _ _⟩
 case round =>
  obtain⟨j,r,D,hj,rfl,rfl,m,y,hg⟩:=hrel;have a5:=m.lt;by_cases a1:0<j
  . have a2:=ix y.lst (j-1) (by omega);rw[show((j-1:Nat):Int)=(j:Int)-1 from by omega] at a2;obtain⟨x,HX,a4,a6,a8⟩:=y.lst.at (j-1) (by omega);have a7:=y.frozen (i:=j-1) (by omega);have hs:=m.step a1 (by rw[J.o];exact hj) HX.o h1;have hq:=hs.ok.getD (j-1);have Z:(D.set (j-1) (((r:Int)*4294967296+x) / (wd:Int))).getD (j-1) 0=((r:Int)*4294967296+x) / (wd:Int):=by
     (have:j-1<D.length:=by rw[y.len];omega);simp[List.getD,this]
    rw[Z] at hq;have G:((((r:Int)*4294967296+x) % (wd:Int)).toNat:Int)=((r:Int)*4294967296+x) % (wd:Int):=Int.toNat_of_nonneg (Int.emod_nonneg _ (by omega));have R1:=jA hs;have R2:=jA (y.set (i:=j-1) (by omega) (xL hq.1 hq.2));have R3:=jA (qC hg (y.setOnly (i:=j-1) (by omega) (.int .u32 (((r:Int)*4294967296+x) / (wd:Int)))));have R4:=jA G;clear hs hq Z G V H h;go_wp2_with (go_at_call 235;refine(Bv _ _ _ _ (by omega) (by omega) (by omega) (by omega) (by omega)).mono ?_;rintro e w' ⟨rfl,q,rfl⟩);go_roundw;(case rel=>exact⟨j-1,(((r:Int)*4294967296+x) % (wd:Int)).toNat,_,by omega,by go_num,by rw[R4.o],R1.o,R2.o,ZK R3.o q⟩);case measure=>simp[intOf];omega
  . (obtain rfl:j=0:=by omega);have hd:=m.done;have HD:=jA hd;clear hd;go_wp2_with fail;go_ret;exact⟨D,by rw[<- HD.o.2];rfl,y,HD.o.1,hg⟩
end Go.Proofs.YtkefajjcpcoajaaGreatDoor.Q
namespace Go.Proofs.YtkefajjcpcoajaaGreatDoor.Q.NatMath
open Go.Lib
variable {k m n N:Nat}
def yj(k:Nat):Nat:=100000000 / 10 ^ k
theorem GA:yj 0=100000000:=by decide
theorem GB(k:Nat):yj k / 10=yj (k+1):=by unfold yj;rw[Nat.div_div_eq_div_mul,Nat.pow_succ]
theorem D7(h:k<=8):0<yj k:=by
 unfold yj;have m:10 ^ k<=10 ^ 8:=Nat.pow_le_pow_right (by omega) h;exact Nat.div_pos (by omega) (Nat.pow_pos (by omega))
theorem GC:yj 9=0:=by decide
theorem Bx(k:Nat):yj k<=100000000:=Nat.div_le_self _ _
def Zh(x t:Nat):Nat:=48+x / yj t % 10
def vg(x k:Nat):List UInt8:=(List.range k).map λt=>UInt8.ofNat (Zh x t)
theorem Yo(x:Nat):vg x 0=[]:=rfl
theorem Yp(x k:Nat):vg x (k+1)=vg x k++[UInt8.ofNat (Zh x k)]:=by simp[vg,List.range_succ]
theorem XP(x k:Nat):(vg x k).length=k:=by simp[vg]
theorem jc{u:Nat}(h:10<=u):decDigits u=decDigits (u / 10)++[UInt8.ofNat (48+u % 10)]:=by rw[decDigits,dif_neg (by omega)]
theorem ZL(h:1000000000<=m):decDigits m=decDigits (m / 1000000000)++vg (m % 1000000000) 9:=by
 rw[jc (by omega),jc (u:=m / 10) (by omega),jc (u:=m / 10 / 10) (by omega),jc (u:=m / 10 / 10 / 10) (by omega),jc (u:=m / 10 / 10 / 10 / 10) (by omega),
   jc (u:=m / 10 / 10 / 10 / 10 / 10) (by omega),jc (u:=m / 10 / 10 / 10 / 10 / 10 / 10) (by omega),jc (u:=m / 10 / 10 / 10 / 10 / 10 / 10 / 10) (by omega),jc (u:=m / 10 / 10 / 10 / 10 / 10 / 10 / 10 / 10) (by omega)]
 have u0:yj 0=100000000:=by decide
 have u1:yj 1=10000000:=by decide
 have Z:yj 2=1000000:=by decide
 have u3:yj 3=100000:=by decide
 have V:yj 4=10000:=by decide
 have u5:yj 5=1000:=by decide
 have u6:yj 6=100:=by decide
 have u7:yj 7=10:=by decide
 have u8:yj 8=1:=by decide
 simp only[vg,List.range,List.range.loop,List.map_cons,List.map_nil,Zh,u0,u1,Z,u3,V,u5,u6,u7,u8,List.append_assoc,List.cons_append,List.nil_append];have e:m / 10 / 10 / 10 / 10 / 10 / 10 / 10 / 10 / 10=m / 1000000000:=by omega
 rw[e];congr 1;have a0:m / 10 / 10 / 10 / 10 / 10 / 10 / 10 / 10 % 10=m % 1000000000 / 100000000 % 10:=by omega
 have a1:m / 10 / 10 / 10 / 10 / 10 / 10 / 10 % 10=m % 1000000000 / 10000000 % 10:=by omega
 have H:m / 10 / 10 / 10 / 10 / 10 / 10 % 10=m % 1000000000 / 1000000 % 10:=by omega
 have a3:m / 10 / 10 / 10 / 10 / 10 % 10=m % 1000000000 / 100000 % 10:=by omega
 have y:m / 10 / 10 / 10 / 10 % 10=m % 1000000000 / 10000 % 10:=by omega
 have a5:m / 10 / 10 / 10 % 10=m % 1000000000 / 1000 % 10:=by omega
 have a6:m / 10 / 10 % 10=m % 1000000000 / 100 % 10:=by omega
 have J:m / 10 % 10=m % 1000000000 / 10 % 10:=by omega
 have G:m % 10=m % 1000000000 / 1 % 10:=by omega
 rw[a0,a1,H,a3,y,a5,a6,J,G]
theorem GH(hm:m<4294967296 ^ n)(hk:1000000000 ^ k<=m):k<=2*n:=by
 rcases Nat.lt_or_ge (2*n) k with h|h
 . have y:536870912 ^ k<=1000000000 ^ k:=Nat.pow_le_pow_left (by omega) k;(have H:(536870912:Nat)=2 ^ 29:=by decide);(have J:(4294967296:Nat)=2 ^ 32:=by decide);rw[H,<- Nat.pow_mul] at y;rw[J,<- Nat.pow_mul] at hm;(have G:2 ^ (29*k)<2 ^ (32*n):=by omega);have V:=(Nat.pow_lt_pow_iff_right (show 1<2 by omega)).1 G;omega
 . exact h
def kD(N k:Nat):Nat:=N / 1000000000 ^ k
theorem gB(N:Nat):kD N 0=N:=by simp[kD]
theorem wP(N k:Nat):kD N k / 1000000000=kD N (k+1):=by unfold kD;rw[Nat.div_div_eq_div_mul,Nat.pow_succ]
def vz(N k:Nat):Nat:=kD N k % 1000000000
theorem wQ(N k:Nat):vz N k<=999999999:=by unfold vz;omega
def chL(N k:Nat):List Int:=(List.range k).map λt=>(vz N t:Int)
theorem D8(N k:Nat):chL N (k+1)=chL N k++[(vz N k:Int)]:=by simp[chL,List.range_succ]
theorem V8(N k t:Nat)(h:t<k):(chL N k).getD t 0=(vz N t:Int):=by simp[chL,List.getD,h]
theorem GI(N k:Nat):∀x∈chL N k,0<=x/\x<=999999999:=by
 intro x m;simp only[chL,List.mem_map,List.mem_range] at m;obtain⟨t,_,rfl⟩:=m;have:=wQ N t;omega
theorem Zi{j:Nat}(h:kD N (j+1)≠0):decDigits (kD N j)=decDigits (kD N (j+1))++vg (vz N j) 9:=by
 rw[<- wP] at h |-;unfold vz;exact ZL (by omega)
theorem XQ(hN:N<4294967296 ^ n)(h:kD N k≠0):k<=2*n:=by
 refine GH hN ?_;rcases Nat.lt_or_ge N (1000000000 ^ k) with hlt|hge
 . exact absurd (Nat.div_eq_of_lt hlt) h
 . exact hge
theorem Yq{j:Nat}(h:kD N j=0)(hk:j<=k):kD N k=0:=by
 induction hk with
 | refl=>exact h
 | step _ ih=>rw[<- wP,ih]
theorem Yr:∀ {m:Nat},m<10 ^ (n+1)->nDigits m<=n+1:=by
 induction n with
 | zero=>intro m h;rw[nDigits_small (by simpa using h)];omega
 | succ n ih =>
  intro m h;by_cases y:m<10
  . rw[nDigits_small y];omega
  . rw[nDigits_big y];have:=ih (m:=m / 10) (by rw[Nat.pow_succ] at h;omega);omega
theorem GK(h:m<4294967296 ^ n):(decDigits m).length<=10*n+1:=by
 rw[decDigits_length];refine Yr ?_;have G:4294967296 ^ n<=10000000000 ^ n:=Nat.pow_le_pow_left (by omega) n;have y:(10000000000:Nat)=10 ^ 10:=by decide
 rw[y,<- Nat.pow_mul] at G;have H:10 ^ (10*n)<=10 ^ (10*n+1):=Nat.pow_le_pow_right (by omega) (by omega);omega
theorem Da(N k:Nat):kD N k<=N:=Nat.div_le_self _ _
end Go.Proofs.YtkefajjcpcoajaaGreatDoor.Q.NatMath
namespace Go.Proofs.YtkefajjcpcoajaaGreatDoor.Q
open Go.RowKit NatMath
theorem WB:(Tryz.prog.info? 5).map (λi=>(i.zero,i.size,i.bytes))=some (some (.int .u8 0),1,1):=by kernel_rfl
def OwnB(B:Nat)(w:World)(v:Value)(l:List UInt8):Prop:=w.ownsRow B 5 1 v l.length (Lib.byteCells l)
theorem Ml(d:Nat)(h:d<256):Value.int .u8 (d:Int)=Value.int .u8 ((UInt8.ofNat d).toNat:Int):=by
 rw[UInt8.toNat_ofNat_of_lt' (by simpa using h)]
theorem Je(B:Nat)(v:Value)(l:List UInt8)(x:Nat)(w:World)(h:OwnB B w v l)(hB:B<=w.heap.size)(hl:l.length<=1099511627776)(hx:x<=4294967295) :
    Calls Tryz.prog 202 #[v,.int .u32 x] w λe w'=>∃v',e=.returned v'/\OwnB B w' v' (l++vg x 9)/\Below B w w'/\Lib.OthersKept 5 none w w':=by
 obtain⟨i0,hi,a4,a0,a3⟩:=info_parts WB;have J:OwnB B w v (l++vg x 0):=by simpa[Yo] using h
 go_in;go_wp2_with fail;go_loopw [0,5] (λs0 s5 wr=>∃ (k u:Nat) (v':Value),k<=9/\s0=v'/\s5=.int .u32 u/\Hid (u=yj k)/\OwnB B wr v' (l++vg x k)/\B<=wr.heap.size/\Below B w wr/\Lib.OthersKept 5 none w wr)
   (λ_ s5 _=>(intOf s5).toNat)
 case atStart=>exact⟨0,100000000,v,by omega,rfl,rfl,GA.symm,J,hB,Below.refl _ _,Lib.OthersKept.refl _ _ _⟩
 case round =>
  obtain⟨k,u,v',hk,rfl,rfl,y,ho,a5,hb,Z⟩:=hrel;have a7:u<=100000000:=by rw[y.o];exact Bx k
  by_cases h0:0<u
  . have a8:k<=8:=by
     rcases Nat.lt_or_ge k 9 with V|V
     . omega
     . (obtain rfl:k=9:=by omega);have:=y.o;rw[GC] at this;omega
    obtain⟨d,hd⟩:=jx2 (x / u % 10);(have a9:d<=9:=by rw[hd.o];omega);have b0:(x:Int) / (u:Int) % 4294967296 % 10=(d:Int):=by
     have h1:x / u<=x:=Nat.div_le_self _ _;(have h2:(x:Int) / (u:Int)=((x / u:Nat):Int):=by simp);rw[h2,hd.o];clear h2;(generalize x / u=q at h1 |-);omega
    have a1:Hid (Zh x k=48+d):=by
     show Zh x k=48+d;rw[Zh,hd.o,y.o]
    have a2:Hid (u / 10=yj (k+1)):=by
     show u / 10=yj (k+1);rw[y.o,GB]
    (have a6:(l++vg x k).length<=1099511627785:=by simp[XP];omega);have HO:=jA (World.ownsRow.alloc ho (.cells #[Value.int .u8 (48+(d:Int))] 5));clear J h;go_wp2_with (at_builtin;refine wpList_append_own _ rfl _ _ 97 rfl B 5 i0 (.int .u8 0) 1 1 Tryz.underlying97 hi a4 a0 a3 rfl (by decide) _ _ _ rfl HO.o ⟨wr.heap.size,0,none⟩ 1 1 [.int .u8 (48+(d:Int))] rfl rfl ?c1 ?c2 ?c3 ?c4 ?c5 ?_);case c1 =>
     intro j u hj
     match j,hj with
     | 0,hj=>simp at hj;subst hj;simp[Addr.add]
    (case c2=>intro u y;simp at y;subst y;rfl);(case c3=>unfold maxLen;omega);(case c4=>omega);(case c5=>simp;omega);intro v2 w1 H m _;have R1:Hid (OwnB B w1 v2 (l++vg x (k+1))):=by
     show w1.ownsRow B 5 1 v2 _ _;rw[Yp,<- List.append_assoc,a1.o,Lib.byteCells_append,List.length_append];have e:Lib.byteCells [UInt8.ofNat (48+d)]=[Value.int .u8 (48+(d:Int))]:=by
      have:=Ml (48+d) (by omega);simp only[Lib.byteCells,List.map_cons,List.map_nil];rw[<- this];simp
     (have e2:(l++vg x k).length + [UInt8.ofNat (48+d)].length=l.length+(vg x k).length+1:=by simp);rw[e,e2];exact H
    (have G:∀g,u0.ownBlock=some g->B<=g:=λg hg=>(ho.lt g hg).1);have R2:=jA ((hb.alloc a5 (.cells #[Value.int .u8 (48+(d:Int))] 5)).grown m (by simp;omega) G);have R3:=jA ((Z.alloc (.cells #[Value.int .u8 (48+(d:Int))] 5)).grown m (Lib.ownsRow_kind HO.o));(have R4:B<=w1.heap.size:=by have:=m.size;simp at this;omega);clear H m G;go_wp2_with fail;go_roundw;(case rel=>exact⟨k+1,u / 10,v2,by omega,rfl,by go_num,a2.o,R1.o,R4,R2.o,R3.o⟩);case measure=>simp[intOf];omega
  . (obtain rfl:u=0:=by omega);have V:k=9:=by
     rcases Nat.lt_or_ge k 9 with V|V
     . have:=D7 (show k<=8 by omega);have:=y.o;omega
     . omega
    subst V;go_wp2_with fail;go_ret;exact⟨_,rfl,ho,hb,Z⟩
