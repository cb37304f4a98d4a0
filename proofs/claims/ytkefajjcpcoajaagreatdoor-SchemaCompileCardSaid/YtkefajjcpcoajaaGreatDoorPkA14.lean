/- -/
import Derived.Test.YtkefajjcpcoajaaGreatDoorPkA0
import Derived.Deep.AppendLies
import Derived.Maps.AppendAt
import Derived.BigQuiet
import Derived.Deep.QuietTactic
import Derived.Deep.RegionHeld3
import Derived.Deep.RegionLaw
import Derived.Laws.AppendOwnNone
import Derived.Test.YtkefajjcpcoajaaGreatDoorPkA9
import Derived.Test.YtkefajjcpcoajaaGreatDoorPkA10
import Derived.Test.YtkefajjcpcoajaaGreatDoorPkA11
import Derived.Test.YtkefajjcpcoajaaGreatDoorPkA12
import Derived.Test.YtkefajjcpcoajaaGreatDoorPkA13
set_option linter.all false
set_option maxRecDepth 100000
set_option maxHeartbeats 6400000
namespace Go.Proofs.YtkefajjcpcoajaaGreatDoor.Q
open Go.RowKit NatMath
variable {bs xs ys out:List Bool}{D:List Int}{N i v j:Nat}
structure ToInv (bs:List Bool) (D:List Int) (N i:Nat):Prop where
 eq:val D=qi (bs.take i)
 len:D.length=N
 ok:Ok D
theorem ToInv.start(bs:List Bool)(N:Nat):ToInv bs (List.replicate N 0) N 0:=⟨by simp[QM,qi],by simp,Ok.zeros N⟩
theorem ToInv.small(h:ToInv bs D N i):(D.getD (i / 32) 0).toNat<2 ^ (i % 32):=by
 rw[VY h.ok];have m:=xT (bs.take i);rw[<- h.eq] at m;have H:(bs.take i).length<=i:=List.length_take_le _ _;have G:val D<2 ^ i:=Nat.lt_of_lt_of_le m (Nat.pow_le_pow_right (by omega) H);have y:val D / 4294967296 ^ (i / 32)<2 ^ (i % 32):=by
  rw[Nat.div_lt_iff_lt_mul (Nat.pow_pos (by omega))];have e:2 ^ (i % 32)*4294967296 ^ (i / 32)=2 ^ i:=by
   rw[show(4294967296:Nat)=2 ^ 32 by decide,<- Nat.pow_mul,<- Nat.pow_add];congr 1;omega
  rw[e];exact G
 exact Nat.lt_of_le_of_lt (Nat.mod_le _ _) y
theorem ToInv.zero(h:ToInv bs D N i)(hb:bs.getD i false=false):ToInv bs D N (i+1):=⟨by rw[zq,hb,h.eq];simp[b2n],h.len,h.ok⟩
theorem ToInv.one(h:ToInv bs D N i)(hi:i / 32<N)(hb:bs.getD i false=true){x:Nat}(hx:(x:Int)=D.getD (i / 32) 0):ToInv bs (D.set (i / 32) ((x+2 ^ (i % 32):Nat):Int)) N (i+1):=by
 have y:=h.small;rw[<- hx,Int.toNat_natCast] at y;have G:2 ^ (i % 32)<=2147483648:=by
  have:2 ^ (i % 32)<=2 ^ 31:=Nat.pow_le_pow_right (by omega) (by omega);exact this
 have m:=gV D (i / 32) ((x+2 ^ (i % 32):Nat):Int) (by rw[h.len];exact hi);rw[<- hx,Int.toNat_natCast,Int.toNat_natCast] at m;refine⟨?_,by simpa using h.len,h.ok.set _ (by omega) (by omega)⟩;rw[zq,hb,<- h.eq];have e:2 ^ (i % 32)*4294967296 ^ (i / 32)=2 ^ i:=by
  rw[show(4294967296:Nat)=2 ^ 32 by decide,<- Nat.pow_mul,<- Nat.pow_add];congr 1;omega
 rw[Nat.add_mul,e] at m;simp only[b2n,if_true,Nat.one_mul];omega
theorem ToInv.done(h:ToInv (qZ v) D (((qZ v).length+31) / 32) (qZ v).length):D=qL v:=by
 have m:=h.eq;rw[List.take_of_length_le (Nat.le_refl _),qx] at m;rw[<- m];refine(ZI h.ok ?_).symm;rw[h.len,m];by_cases y:v=0
 . subst y;rw[jJ,zh];simp
 . (have G:0<(qZ v).length:=by rw[xS y];simp);have H:2 ^ ((qZ v).length-1)<=v:=by
    rcases Nat.lt_or_ge v (2 ^ ((qZ v).length-1)) with hlt|hge
    . have:=za v _ hlt;omega
    . exact hge
   have J:4294967296 ^ (((qZ v).length+31) / 32-1)<=v:=by
    refine Nat.le_trans ?_ H;rw[show(4294967296:Nat)=2 ^ 32 by decide,<- Nat.pow_mul];exact Nat.pow_le_pow_right (by omega) (by omega)
   have:=XK J;omega
theorem GL{X s:Nat}(hs:s<32)(hX:X<2 ^ s):bits .or .u32 (X:Int) (2 ^ s % 4294967296)=((X+2 ^ s:Nat):Int):=by
 have y:2 ^ s<=2 ^ 31:=Nat.pow_le_pow_right (by omega) (by omega);have m:(2:Nat) ^ 31=2147483648:=by decide
 have e:((2:Int) ^ s % 4294967296)=((2 ^ s:Nat):Int):=by
  have:((2:Int) ^ s)=((2 ^ s:Nat):Int):=by simp
  rw[this];omega
 rw[e,u32_or_nat X (2 ^ s) (by omega) (by omega),Nat.or_comm,nat_join s (2 ^ s) X (Nat.mod_self _) hX,Nat.add_comm]
theorem Pn(ao:Option Addr)(n c:Nat)(xs:List Bool)(w:World)(h:LstB w ao n c xs)(hn:n<=1073741824) :
    Calls Tryz.prog 223 #[.slice ao n c] w λe w'=>∃ao' n' c',e=.returned (.slice ao' n' c')/\Own 144 .u32 w.heap.size w' ao' n' c' (qL (qi xs))/\Below w.heap.size w w':=by
 obtain⟨i0,hi,d0,d1,c8⟩:=info_parts Zf;obtain⟨v,hv⟩:=jx2 (qi xs);have a4:=yF ao n c xs w h (by omega);have a3:=QN xs;rw[h.len] at a3;rw[<- hv.o] at a4 a3 |-;have b5:=jA a4;clear a4 h;go_in;go_wp2_with fail;refine b5.o.mono ?_;rintro e Z ⟨a1,n1,c1,rfl,o1,b1⟩;have a9:=jA o1.len;rw[a9.o] at a3;have d4:=o1.lst.room;have d6:=o1.lst.cap;go_wp2_with (at_make;refine wpList_make_full _ rfl _ _ 30 rfl Z.heap.size 144 i0 (.int .u32 0) 1 Tryz.underlying30 hi d0 d1 _ _ _ _ ((n1+31) / 32) rfl rfl (by omega) (by omega) ?b2 ?b3 (Nat.le_refl _) ?_);case b2=>rw[c8];omega
 case b3=>unfold maxLen;omega
 intro w2 a2 a6;have b2:Below Z.heap.size Z w2:=jy (Below.refl _ _) a6 (Nat.le_refl _);have o2:Own 144 .u32 Z.heap.size w2 (some ⟨Z.heap.size,0,none⟩) ((n1+31) / 32) ((n1+31) / 32) (List.replicate ((n1+31) / 32) 0):=Own.made (xL (by omega) (by omega)) a2;obtain⟨N,hN⟩:=jx2 ((n1+31) / 32);rw[<- hN.o] at o2 |-;have hT:=o1.lst.below b2;have b0:=jA (o1.lst.block);have a7:=ToInv.start (qZ v) N;have B2:=kO b1 b2 b1.size;have d3:N<=1073741824:=by rw[hN.o];omega
 have b7:=b1.size;clear a2 a6 b2 b5 o1;go_wp2_with fail;go_loopw [4] (λi wr=>∃ (t:Nat) (D:List Int),t<=n1/\i=.int .i64 t/\ToInv (qZ v) D N t/\Own 144 .u32 Z.heap.size wr (some ⟨Z.heap.size,0,none⟩) N N D/\LstB wr a1 n1 c1 (qZ v)/\Below w.heap.size w wr)
   (λi _=>n1-(intOf i).toNat)
 case atStart=>exact⟨0,_,Nat.zero_le _,rfl,a7,o2,hT,B2⟩
 case round =>
  obtain⟨t,D,ht,rfl,m,V,J,hb⟩:=hrel;clear a7 o2 hT B2 b1;by_cases a8:t<n1
  . have d5:=ixB J t a8;have b6:=J.cell t a8;cases y:(qZ v).getD t false with
    | false =>
     rw[y] at b6;have R1:=jA (m.zero y);clear y m;go_wp2_with fail;go_roundw;(case rel=>exact⟨t+1,D,by omega,by go_num,R1.o,V,J,hb⟩);case measure=>simp[intOf];omega
    | true =>
     rw[y] at b6;(have G:t / 32<N:=by rw[hN.o];omega);have c6:=ix V.lst (t / 32) G;obtain⟨x,HX,b9,d7,d2⟩:=V.lst.at (t / 32) G;obtain⟨X,rfl⟩:=Int.eq_ofNat_of_zero_le b9;have c7:=V.frozen G;rw[jm] at c6 d2 c7;have a5:=m.small;rw[<- HX.o,Int.toNat_natCast] at a5;have b4:=GL (Nat.mod_lt t (show 32 > 0 by omega)) a5;have hs:=m.one G y HX.o;have b8:(Lit.int .u32 ((X+2 ^ (t % 32):Nat):Int)).wf=true:=by
      have:=hs.ok.getD (t / 32);rw[Jb (by rw[m.len];exact G)] at this;exact xL this.1 this.2
     have H:=V.base G;have r2:=V.set G b8;have r3:LstB (wr.setCell (pt (some ⟨Z.heap.size,0,none⟩) (t / 32)) (.int .u32 ((X+2 ^ (t % 32):Nat):Int))) a1 n1 c1 (qZ v) :=
      ⟨J.len,J.cap,J.room,J.isSome,λi hi=>by
       rw[World.cell?_setCell_other _ _ (pt a1 i) _ (λe=>by have:=b0.o i hi;rw[<- e,jm] at this;simp at this)];exact J.cell i hi,J.nil0⟩
     have r4:=hb.setCell (Nat.le_trans b7 H) (.int .u32 ((X+2 ^ (t % 32):Nat):Int));rw[jm] at r2 r3 r4;rw[<- b4] at hs r2 r3 r4;have R1:=jA hs;have R2:=jA r2;have R3:=jA r3;have R4:=jA r4;clear a5 b4 hs b8 H r2 r3 r4 m V J hb y;go_wp2_with fail;go_roundw;(case rel=>exact⟨t+1,_,by omega,by go_num,R1.o,R2.o,R3.o,R4.o⟩);case measure=>simp[intOf];omega
  . (obtain rfl:t=n1:=by omega);have a0:D=qL v:=by
     have h1:=m;rw[hN.o,<- a9.o] at h1;exact h1.done
    have HF:=jA a0;clear a0 m J;go_wp2_with fail;go_ret;refine⟨_,N,N,rfl,?_,hb⟩;rw[<- HF.o];exact⟨vh V.1 b7,V.2⟩
theorem Yt(h:∀t,j<=t->xs.getD t false=ys.getD t false)(k:Nat):qi (xs.take (j+k))+qi (ys.take j)=qi (ys.take (j+k))+qi (xs.take j):=by
 induction k with
 | zero=>simp[Nat.add_comm]
 | succ k ih =>
  rw[<- Nat.add_assoc,zq,zq,h (j+k) (by omega)];omega
theorem Qr(h:∀t,j<=t->xs.getD t false=ys.getD t false):qi xs+qi (ys.take j)=qi ys+qi (xs.take j):=by
 have:=Yt h (xs.length+ys.length)
 rwa [List.take_of_length_le (show xs.length<=j+(xs.length+ys.length) by omega),List.take_of_length_le (show ys.length<=j+(xs.length+ys.length) by omega)] at this
theorem uK(xs:List Bool)(j:Nat):qi (xs.take j)<2 ^ j :=
 Nat.lt_of_lt_of_le (xT _) (Nat.pow_le_pow_right (by omega) (List.length_take_le _ _))
theorem WG(h:∀t,j<t->xs.getD t false=ys.getD t false)(hx:xs.getD j false=true)(hy:ys.getD j false=false):qi ys<qi xs:=by
 have m:=Qr (j:=j+1) (λt y=>h t (by omega));rw[zq,zq,hx,hy] at m;have:=uK ys j;simp[b2n] at m;omega
theorem GM(h:∀t,xs.getD t false=ys.getD t false):qi xs=qi ys:=by
 have:=Qr (j:=0) (λt _=>h t);simpa[qi] using this
theorem KH{n t:Nat}(h:xs.length=n)(ht:n<=t):xs.getD t false=false:=by
 rw[List.getD,List.getElem?_eq_none (by omega)];rfl
theorem Dg(ao bo:Option Addr)(n c m d:Nat)(xs ys:List Bool)(w:World)(h:LstB w ao n c xs)(k:LstB w bo m d ys) :
    Calls Tryz.prog 152 #[.slice ao n c,.slice bo m d] w λe w'=>e=.returned (.int .i64 (jq (qi xs) (qi ys)))/\w=w':=by
 have a8:=h.room;have a9:=h.cap;have a7:=k.room;have b0:=k.cap;have hA:=jA (λj w (hl:LstB w ao n c xs)=>Jf ao n c xs j w hl);have hB:=jA (λj w (hl:LstB w bo m d ys)=>Jf bo m d ys j w hl);have a2:∀t,n<=t->xs.getD t false=false:=λt ht=>KH h.len ht
 have a3:∀t,m<=t->ys.getD t false=false:=λt ht=>KH k.len ht
 have a4:=jA a2;have a5:=jA a3;clear a2 a3;rcases(show n<m\/m<=n by omega) with hnm|hnm
 case' inl =>
  have a1:Hid (∀t,m<=t->xs.getD t false=ys.getD t false):=λt ht=>by rw[a4.o t (by omega),a5.o t ht]
  obtain⟨K,rfl⟩:∃x,x=m:=⟨_,rfl⟩
 case' inr =>
  have a1:Hid (∀t,n<=t->xs.getD t false=ys.getD t false):=λt ht=>by rw[a4.o t ht,a5.o t (by omega)]
  obtain⟨K,rfl⟩:∃x,x=n:=⟨_,rfl⟩
 all_goals
   go_in;go_wp2_with fail;(go_loop [5] (λi=>∃j:Nat,j<=K/\i=.int .i64 ((j:Int)-1)/\Hid (∀t,j<=t->xs.getD t false=ys.getD t false)) (λi=>(intOf i+1).toNat));(case atStart=>exact⟨K,Nat.le_refl _,by first|rfl|(congr 1;omega),a1⟩);case round =>
    obtain⟨j,hj,rfl,hz⟩:=hrel;by_cases h0:0<j
    . have G:=hA.o (j-1) w h;have y:=hB.o (j-1) w k;rw[show((j-1:Nat):Int)=(j:Int)-1 from by omega] at G y;by_cases J:xs.getD (j-1) false=ys.getD (j-1) false
      . rw[<- J] at y;have a6:=jA J;have H:=jA G;have Z:=jA y;obtain⟨b,hb⟩:=jx2 (xs.getD (j-1) false);rw[<- hb.o] at H Z;clear J G y;go_wp2_with fail;refine H.o.mono ?_;rintro e w' ⟨rfl,rfl⟩;go_wp2_with fail;refine Z.o.mono ?_;rintro e w' ⟨rfl,rfl⟩;go_wp2_with fail;go_round;case rel=>exact⟨j-1,by omega,by go_num,λt ht=>by
         by_cases e:t=j-1
         . rw[e];exact a6.o
         . exact hz.o t (by omega)⟩
        case measure=>simp[intOf];omega
      . (have V:∀t,j-1<t->xs.getD t false=ys.getD t false:=λt ht=>hz.o t (by omega));cases hx:xs.getD (j-1) false with
        | true =>
         have hy:ys.getD (j-1) false=false:=by
          cases hy:ys.getD (j-1) false with
          | false=>rfl
          | true=>exact absurd (hx.trans hy.symm) J
         have a0:=WG V hx hy;(have hc:jq (qi xs) (qi ys)=1:=by unfold jq;rw[if_neg (by omega),if_pos (by omega)]);rw[hx] at G;rw[hy] at y;have H:=jA G;have Z:=jA y;have HC:=jA hc;clear hx hy J V a0 hc G y;go_wp2_with fail;refine H.o.mono ?_;rintro e w' ⟨rfl,rfl⟩;go_wp2_with fail;refine Z.o.mono ?_;rintro e w' ⟨rfl,rfl⟩;go_wp2_with fail;refine H.o.mono ?_;rintro e w' ⟨rfl,rfl⟩;go_wp2_with fail;go_ret;exact⟨by rw[HC.o];rfl,rfl⟩
        | false =>
         have hy:ys.getD (j-1) false=true:=by
          cases hy:ys.getD (j-1) false with
          | true=>rfl
          | false=>exact absurd (hx.trans hy.symm) J
         have a0:=WG (λt ht=>(V t ht).symm) hy hx;(have hc:jq (qi xs) (qi ys)=-1:=by unfold jq;rw[if_pos (by omega)]);rw[hx] at G;rw[hy] at y;have H:=jA G;have Z:=jA y;have HC:=jA hc;clear hx hy J V a0 hc G y;go_wp2_with fail;refine H.o.mono ?_;rintro e w' ⟨rfl,rfl⟩;go_wp2_with fail;refine Z.o.mono ?_;rintro e w' ⟨rfl,rfl⟩;go_wp2_with fail;refine H.o.mono ?_;rintro e w' ⟨rfl,rfl⟩;go_wp2_with fail;go_ret;exact⟨by rw[HC.o];rfl,rfl⟩
    . (obtain rfl:j=0:=by omega);have he:=GM (λt=>hz.o t (Nat.zero_le _));(have hc:jq (qi xs) (qi ys)=0:=by rw[he,KG]);have HC:=jA hc;clear he hc;go_wp2_with fail;go_ret;exact⟨by rw[HC.o];rfl,rfl⟩
structure AddT (xs ys out:List Bool) (cr:Bool) (i:Nat):Prop where
 eq:qi out+b2n cr*2 ^ i=qi (xs.take i)+qi (ys.take i)
 len:out.length=i
theorem AddT.start(xs ys:List Bool):AddT xs ys [] false 0:=⟨by simp[qi,b2n],rfl⟩
theorem Dh(x y c:Bool):b2n x+b2n y+b2n c=b2n ((x != y) != c)+2*b2n (x&&y||x&&c||y&&c):=by cases x<;>cases y<;>cases c<;>decide
theorem AddT.step{cr:Bool}(h:AddT xs ys out cr i){x y:Bool}(hx:x=xs.getD i false)(hy:y=ys.getD i false):AddT xs ys (out++[(x != y) != cr]) (x&&y||x&&cr||y&&cr) (i+1):=by
 refine⟨?_,by simp[h.len]⟩;have H:=h.eq;have G:=Dh x y cr;rw[kf,zq,zq,<- hx,<- hy,h.len,Nat.pow_succ];simp only[qi,Nat.mul_zero,Nat.add_zero];generalize 2 ^ i=P at H |-
 have m:=congrArg (· * P) G;simp only[Nat.add_mul] at m;rw[Nat.mul_comm P (b2n _),show b2n (x&&y||x&&cr||y&&cr)*(P*2)=2*b2n (x&&y||x&&cr||y&&cr)*P by rw[Nat.mul_comm P 2,<- Nat.mul_assoc,Nat.mul_comm _ 2]];omega
theorem AddT.done{cr:Bool}{K:Nat}(h:AddT xs ys out cr (K+1))(hx:xs.length<=K)(hy:ys.length<=K):qi out=qi xs+qi ys:=by
 have m:=h.eq;rw[List.take_of_length_le (by omega),List.take_of_length_le (by omega),Nat.pow_succ] at m;have y:=xT xs;have H:=xT ys;have J:2 ^ xs.length<=2 ^ K:=Nat.pow_le_pow_right (by omega) hx;have G:2 ^ ys.length<=2 ^ K:=Nat.pow_le_pow_right (by omega) hy;cases cr with
 | false=>simpa[b2n] using m
 | true=>simp only[b2n,if_true] at m;omega
structure SubT (xs ys out:List Bool) (br:Bool) (i:Nat):Prop where
 eq:qi out+qi (ys.take i)=qi (xs.take i)+b2n br*2 ^ i
 len:out.length=i
theorem SubT.start(xs ys:List Bool):SubT xs ys [] false 0:=⟨by simp[qi,b2n],rfl⟩
theorem Di(x y c:Bool):b2n ((x != y) != c)+b2n y+b2n c=b2n x+2*b2n (!x&&y || !x&&c||y&&c):=by cases x<;>cases y<;>cases c<;>decide
theorem SubT.step{br:Bool}(h:SubT xs ys out br i){x y:Bool}(hx:x=xs.getD i false)(hy:y=ys.getD i false):SubT xs ys (out++[(x != y) != br]) (!x&&y || !x&&br||y&&br) (i+1):=by
 refine⟨?_,by simp[h.len]⟩;have H:=h.eq;have G:=Di x y br;rw[kf,zq,zq,<- hx,<- hy,h.len,Nat.pow_succ];simp only[qi,Nat.mul_zero,Nat.add_zero];generalize 2 ^ i=P at H |-
 have m:=congrArg (· * P) G;simp only[Nat.add_mul] at m;rw[Nat.mul_comm P (b2n _),show b2n (!x&&y || !x&&br||y&&br)*(P*2)=2*b2n (!x&&y || !x&&br||y&&br)*P by rw[Nat.mul_comm P 2,<- Nat.mul_assoc,Nat.mul_comm _ 2]];omega
theorem Jg(ys:List Bool)(n:Nat):qi (ys.take n)=qi ys % 2 ^ n:=by
 by_cases H:n<=ys.length
 . have h:=kf (ys.take n) (ys.drop n);rw[List.take_append_drop] at h;(have m:(ys.take n).length=n:=by simp;omega);rw[m] at h;rw[h,Nat.add_mul_mod_self_left,Nat.mod_eq_of_lt (uK ys n)]
 . have y:=xT ys;have G:2 ^ ys.length<=2 ^ n:=Nat.pow_le_pow_right (by omega) (by omega);rw[List.take_of_length_le (by omega),Nat.mod_eq_of_lt (by omega)]
theorem SubT.done{br:Bool}(h:SubT xs ys out br xs.length)(hle:qi ys<=qi xs):qi out=qi xs-qi ys:=by
 have m:=h.eq;have G:=xT xs;have y:=xT out;rw[h.len] at y;rw[List.take_of_length_le (Nat.le_refl _),Jg,Nat.mod_eq_of_lt (by omega)] at m;cases br with
 | false=>simp[b2n] at m;omega
 | true=>simp only[b2n,if_true] at m;omega
theorem Mo(ao bo:Option Addr)(n c m d:Nat)(xs ys:List Bool)(w:World)(h:LstB w ao n c xs)(k:LstB w bo m d ys)(hn:n<=1073741824)(hm:m<=1073741824) :
    Calls Tryz.prog 249 #[.slice ao n c,.slice bo m d] w λe w'=>∃ao' n' c',e=.returned (.slice ao' n' c')/\OwnT w.heap.size w' ao' n' c' (qZ (qi xs+qi ys))/\Below w.heap.size w w':=by
 obtain⟨i0,hi,b3,b7,b1⟩:=info_parts Zk;have b9:=h.room;have c7:=h.cap;have b8:=k.room;have c8:=k.cap;have a7:=jA h.len;have a9:=jA k.len;have HA:=jA (λj wr (J:Below w.heap.size w wr)=>Jf ao n c xs j wr (h.below J));have HB:=jA (λj wr (J:Below w.heap.size w wr)=>Jf bo m d ys j wr (k.below J));have a3:=AddT.start xs ys;clear h k;rcases(show n<m\/m<=n by omega) with hnm|hnm
 case' inl =>
  have a8:Hid (xs.length<=m):=by rw[a7.o];exact Nat.le_of_lt hnm
  have a4:Hid (ys.length<=m):=by rw[a9.o];exact Nat.le_refl _
  obtain⟨K,rfl⟩:∃x,x=m:=⟨_,rfl⟩;have hk:K<=1073741824:=hm
 case' inr =>
  have a8:Hid (xs.length<=n):=by rw[a7.o];exact Nat.le_refl _
  have a4:Hid (ys.length<=n):=by rw[a9.o];exact hnm
  obtain⟨K,rfl⟩:∃x,x=n:=⟨_,rfl⟩;have hk:K<=1073741824:=hn
 all_goals
   go_in;go_wp2_with fail;go_loopw [5,6,7] (λs5 s6 i wr=>∃ (j:Nat) (cr:Bool) (a:Option Addr) (f:Nat) (out:List Bool),j<=K+1/\i=.int .i64 j/\s6=.bool cr/\s5=.slice a j f/\AddT xs ys out cr j/\OwnT w.heap.size wr a j f out/\Below w.heap.size w wr)
     (λ_ _ i _=>K+1-(intOf i).toNat)
   (case atStart=>exact⟨0,false,none,0,[],Nat.zero_le _,rfl,rfl,rfl,a3,OwnT.nil _ _,Below.refl _ _⟩);case round =>
    obtain⟨j,cr,a,f,out,hj,rfl,rfl,rfl,G,ho,J⟩:=hrel;clear a3;by_cases c6:j<=K
    . have Z:=HA.o j wr J;have a0:=HB.o j wr J;obtain⟨x,hx⟩:=jx2 (xs.getD j false);obtain⟨y,hy⟩:=jx2 (ys.getD j false);rw[<- hx.o] at Z;rw[<- hy.o] at a0;have hs:=G.step hx.o hy.o;have a5:=jA Z;have a6:=jA a0;have HS:=jA hs;have HC:=jA (World.ownsRow.alloc ho (.cells #[Value.bool ((x != y) != cr)] 4));have HO:=jA ho;have H:=jA J;have b0:=J.size;(have b5:Hid (j+1<=maxLen):=by show j+1<=maxLen;unfold maxLen;omega);(have b4:Hid ((j+1)*1<=140737488355328):=by show(j+1)*1<=140737488355328;omega);clear Z a0 hs G ho J hx hy;go_wp2_with fail;refine a5.o.mono ?_;rintro e w' ⟨rfl,rfl⟩;go_wp2_with fail;refine a6.o.mono ?_;rintro e w' ⟨rfl,rfl⟩;clear a5 a6;cases x<;>cases y<;>cases cr;all_goals
        go_wp2_with (at_builtin;refine wpList_append_own _ rfl _ _ 156 rfl w.heap.size 4 i0 (.bool false) 1 1 Tryz.underlying156 hi b3 b7 b1 rfl (by decide) _ _ _ rfl HC.o ⟨wr.heap.size,0,none⟩ 1 1 [.bool _] rfl rfl (cell_one_new _ _ _) (by intro u hu;simp at hu;subst hu;rfl) b5.o b4.o (by simp;omega) ?_);intro v2 w1 V a1 _;obtain⟨a2,f2,rfl⟩:=xR V;have b2:=(H.o.alloc b0 (.cells #[Value.bool _] 4)).grown a1 (by simp;omega) (λg hg=>(HO.o.lt g hg).1);have R2:=jA V;clear V a1 HC HO H;go_wp2_with fail;go_roundw;(case rel=>exact⟨j+1,_,a2,f2,_,by omega,by go_num,rfl,rfl,HS.o,by(show w1.ownsRow _ _ _ _ _ _;rw[List.map_append];exact R2.o),b2⟩);case measure=>simp[intOf];omega
    . (obtain rfl:j=K+1:=by omega);have hv:=G.done a8.o a4.o;have ht:=yF a (K+1) f out wr ho.lst (by omega);rw[hv] at ht;have b6:=jA ht;have H:=jA J;clear hv ht G ho J;go_wp2_with fail;refine b6.o.mono ?_;rintro e w2 ⟨a2,n2,c2,rfl,o2,b2⟩;go_wp2_with fail;go_ret;exact⟨a2,n2,c2,rfl,o2.low H.o.size,kO H.o b2 H.o.size⟩
theorem Dj(ao bo:Option Addr)(n c m d:Nat)(xs ys:List Bool)(w:World)(h:LstB w ao n c xs)(k:LstB w bo m d ys)(hn:n<=1073741824)(hle:qi ys<=qi xs) :
    Calls Tryz.prog 239 #[.slice ao n c,.slice bo m d] w λe w'=>∃ao' n' c',e=.returned (.slice ao' n' c')/\OwnT w.heap.size w' ao' n' c' (qZ (qi xs-qi ys))/\Below w.heap.size w w':=by
 obtain⟨i0,hi,b3,a9,b1⟩:=info_parts Zk;have b6:=h.room;have b7:=h.cap;have b0:=jA h.len;have HA:=jA (λj wr (J:Below w.heap.size w wr)=>Jf ao n c xs j wr (h.below J));have HB:=jA (λj wr (J:Below w.heap.size w wr)=>Jf bo m d ys j wr (k.below J));have a4:=SubT.start xs ys;have b5:=jA hle;clear h k hle;go_in;go_wp2_with fail;go_loopw [5,6,7] (λs5 s6 i wr=>∃ (j:Nat) (cr:Bool) (a:Option Addr) (f:Nat) (out:List Bool),j<=n/\i=.int .i64 j/\s6=.bool cr/\s5=.slice a j f/\SubT xs ys out cr j/\OwnT w.heap.size wr a j f out/\Below w.heap.size w wr)
   (λ_ _ i _=>n-(intOf i).toNat)
 case atStart=>exact⟨0,false,none,0,[],Nat.zero_le _,rfl,rfl,rfl,a4,OwnT.nil _ _,Below.refl _ _⟩
 case round =>
  obtain⟨j,cr,a,f,out,hj,rfl,rfl,rfl,G,ho,J⟩:=hrel;clear a4;by_cases b8:j<n
  . have a0:=HA.o j wr J;have Z:=HB.o j wr J;obtain⟨x,hx⟩:=jx2 (xs.getD j false);obtain⟨y,hy⟩:=jx2 (ys.getD j false);rw[<- hx.o] at a0;rw[<- hy.o] at Z;have hs:=G.step hx.o hy.o;have a1:=jA a0;have a5:=jA Z;have HS:=jA hs;have HC:=jA (World.ownsRow.alloc ho (.cells #[Value.bool ((x != y) != cr)] 4));have HO:=jA ho;have H:=jA J;have a6:=J.size;(have a7:Hid (j+1<=maxLen):=by show j+1<=maxLen;unfold maxLen;omega);(have b4:Hid ((j+1)*1<=140737488355328):=by show(j+1)*1<=140737488355328;omega);clear a0 Z hs G ho J hx hy;go_wp2_with fail;refine a1.o.mono ?_;rintro e w' ⟨rfl,rfl⟩;go_wp2_with fail;refine a5.o.mono ?_;rintro e w' ⟨rfl,rfl⟩;clear a1 a5;cases x<;>cases y<;>cases cr;all_goals
      go_wp2_with (at_builtin;refine wpList_append_own _ rfl _ _ 156 rfl w.heap.size 4 i0 (.bool false) 1 1 Tryz.underlying156 hi b3 a9 b1 rfl (by decide) _ _ _ rfl HC.o ⟨wr.heap.size,0,none⟩ 1 1 [.bool _] rfl rfl (cell_one_new _ _ _) (by intro u hu;simp at hu;subst hu;rfl) a7.o b4.o (by simp;omega) ?_);intro v2 w1 V a3 _;obtain⟨a2,f2,rfl⟩:=xR V;have b2:=(H.o.alloc a6 (.cells #[Value.bool _] 4)).grown a3 (by simp;omega) (λg hg=>(HO.o.lt g hg).1);have R2:=jA V;clear V a3 HC HO H;go_wp2_with fail;go_roundw;(case rel=>exact⟨j+1,_,a2,f2,_,by omega,by go_num,rfl,rfl,HS.o,by(show w1.ownsRow _ _ _ _ _ _;rw[List.map_append];exact R2.o),b2⟩);case measure=>simp[intOf];omega
  . (obtain rfl:j=n:=by omega);have hv:qi out=qi xs-qi ys:=by
     have h1:=G;rw[<- b0.o] at h1;exact h1.done b5.o
    have ht:=yF a j f out wr ho.lst (by omega);rw[hv] at ht;have a8:=jA ht;have H:=jA J;clear hv ht G ho J;go_wp2_with fail;refine a8.o.mono ?_;rintro e w2 ⟨a2,n2,c2,rfl,o2,b2⟩;go_wp2_with fail;go_ret;exact⟨a2,n2,c2,rfl,o2.low H.o.size,kO H.o b2 H.o.size⟩
theorem OwnT.bound{B:Nat}{w:World}{ao:Option Addr}{n c k:Nat}(h:OwnT B w ao n c (qZ v))(hv:v<2 ^ k):n<=k:=by
 have y:=za v k hv;have m:=h.len;omega
theorem Zl{a b k l:Nat}(ha:a<2 ^ k)(hb:b<2 ^ l):a*b<2 ^ (k+l):=by rw[Nat.pow_add];exact Nat.mul_lt_mul'' ha hb
theorem Dk(h:v≠0):(qZ v).length=32*((qL v).length-1)+Lib.bitLen ((qL v).getD ((qL v).length-1) 0).toNat/\Lib.bitLen ((qL v).getD ((qL v).length-1) 0).toNat<=32:=by
 have y:=ve v;obtain⟨n,hn⟩:∃n,(qL v).length=n+1:=by
  refine⟨(qL v).length-1,?_⟩;rw[jx h];simp
 rw[hn,Nat.add_sub_cancel];obtain⟨t,ht⟩:=jx4 (((qL v).getD n 0).toNat);rw[<- ht];have hv:=kv (qL v) n;rw[List.take_of_length_le (by omega),qP,<- ht] at hv;have m:=xI (y.take n);rw[List.length_take,hn,Nat.min_eq_left (by omega)] at m;obtain⟨low,hl⟩:=jx4 (val ((qL v).take n));rw[<- hl] at hv m;have G:4294967296 ^ n=2 ^ (32*n):=by rw[Nat.pow_mul,show(2 ^ 32:Nat)=4294967296 by decide]
 obtain⟨P,H⟩:∃P,P=4294967296 ^ n:=⟨_,rfl⟩;rw[<- H] at hv m;have Z:t≠0:=by
  intro h0;subst h0;have:=yE v n (by rw[<- H];omega);omega
 have a1:t<4294967296:=by
  have hg:(qL v).getD n 0<=4294967295:=by
   have:(qL v).getD n 0∈qL v:=by
    rw[List.getD,List.getElem?_eq_getElem (by omega)];exact List.getElem_mem _
   exact(y _ this).2
  omega
 obtain⟨h1,V,h3⟩:=Lib.bitLenAux_bounds 64 t (by omega) Z;obtain⟨k,hk⟩:∃k,Lib.bitLenAux 64 t=k+1:=⟨Lib.bitLenAux 64 t-1,by omega⟩;show _=32*n+Lib.bitLenAux 64 t/\Lib.bitLenAux 64 t<=32;rw[hk] at V h3 |-;rw[Nat.add_sub_cancel] at V;have J:v<2 ^ (32*n+(k+1)):=by
  rw[Nat.pow_add,<- G,<- H,Nat.mul_comm];have:(t+1)*P<=2 ^ (k+1)*P:=Nat.mul_le_mul_right P h3;rw[Nat.add_mul] at this;omega
 have a0:2 ^ (32*n+k)<=v:=by
  rw[Nat.pow_add,<- G,<- H,Nat.mul_comm];have:2 ^ k*P<=t*P:=Nat.mul_le_mul_right P V;omega
 have e1:=za v _ J;have e2:=gW a0;have e3:k<32:=by
  rcases Nat.lt_or_ge k 32 with h|h
  . exact h
  . have:2 ^ 32<=2 ^ k:=Nat.pow_le_pow_right (by omega) h;omega
 omega
theorem Mp(ao:Option Addr)(n c:Nat)(xs:List Int)(w:World)(h:Lst .u32 w ao n c xs)(hn:n<=1073741824) :
    Calls Tryz.prog 163 #[.slice ao n c] w λe w'=>e=.returned (.int .i64 (qZ (val xs)).length)/\w=w':=by
 obtain⟨v,hv⟩:=jx2 (val xs);have J:=zA h.ok;rw[h.len] at J;have ht:=xC ao n c xs w h;rw[<- hv.o] at ht J |-;have H:=jA ht;clear ht h;by_cases h0:v=0
 . subst h0;rw[jJ];go_in;go_wp2_with fail;refine H.o.mono ?_;rintro e w' ⟨rfl,a1,n1,c1,rfl,y,-⟩;(have hz:n1=0:=by rw[<- y.len,zh];rfl);subst hz;go_wp2_with fail;go_ret;exact⟨rfl,rfl⟩
 . have hb:=jA (Dk h0);go_in;go_wp2_with fail;refine H.o.mono ?_;rintro e w' ⟨rfl,a1,n1,c1,rfl,y,-⟩;have V:=y.len;rw[V] at J;have a3:0<n1:=by
    rw[<- V,jx h0];simp
   have m:=hb.o;rw[V] at m;have HB:=jA m.1;have G:=m.2;have hr:=y.room;have hc:=y.cap;have a2:=ix y (n1-1) (by omega);rw[show((n1-1:Nat):Int)=(n1:Int)-1 by omega] at a2;obtain⟨x,HX,Z,a0,a5⟩:=y.at (n1-1) (by omega);rw[<- HX.o] at HB G;(have a4:((n1:Int) == 0)=false:=by simp;omega);have HL:=jA (Tryz.bits_Len32 x w Z a0);obtain⟨B,hB⟩:=jx3 (Lib.bitLen x.toNat);rw[hB] at HL HB G;clear hb m V y H hB;go_wp2_with fail;refine HL.o.mono ?_;rintro e w' ⟨rfl,rfl⟩;go_wp2_with fail;go_ret;refine⟨?_,rfl⟩;rw[show(((qZ v).length:Nat):Int)=32*((n1:Int)-1)+(B:Int) by rw[HB.o];omega];rfl
section
variable {e : TypeId} {k : IntKind} {B : Nat} {w w' : World} {g n c : Nat} {P S T : List Int}
theorem Own.grown{ao:Option Addr}{row:Option Nat}(h:Own e k B w ao n c P)(hg:w.grownBy w' row)(hne:∀a,ao=some a->row≠some a.block):Own e k B w' ao n c P:=by
 refine⟨h.1.kept hg ?_,h.2⟩;rcases h.cases with ⟨rfl,rfl,rfl,rfl⟩|⟨q,rfl,_⟩
 . exact Or.inl rfl
 . exact Or.inr (λe=>hne _ rfl e.symm)
end
section
variable {k : IntKind} {w w' : World} {bo : Option Addr} {m d : Nat} {ys : List Int}
theorem Lst.grown{row:Option Nat}(h:Lst k w bo m d ys)(hg:w.grownBy w' row)(hne:∀i,i<m->some (pt bo i).block≠row):Lst k w' bo m d ys :=
 ⟨h.len,h.cap,h.room,h.isSome,λi hi=>hg.cell (h.cell i hi) (hne i hi),h.wf⟩
end
end Go.Proofs.YtkefajjcpcoajaaGreatDoor.Q
/-
  nat.Div where the divisor has one limb.
-/
namespace Go.Proofs.YtkefajjcpcoajaaGreatDoor.Q
open Go.RowKit NatMath
theorem ixs{ao:Option Addr}{n c:Nat}{xs:List Int}{w:World}(h:Lst .u32 w ao n c xs){i:Nat}(hi:i<n){j:Int}(hj:j=(i:Int)) :
    ∀W,(Instr.indexAt 30 (.slice ao n c) (.int .i64 j)).run Tryz.prog W=.ok (.pointer (some (pt ao i))) W:=by
 rw[hj];exact ix h i hi
theorem Own.low{e:TypeId}{k:IntKind}{B B':Nat}{w:World}{ao:Option Addr}{n c:Nat}{xs:List Int}(h:Own e k B w ao n c xs)(hB:B'<=B):Own e k B' w ao n c xs:=⟨vh h.1 hB,h.2⟩
theorem XT{v:Nat}(h:(qL v).length=1):qL v=[(v:Int)]/\v<=4294967295/\v≠0:=by
 have m:v≠0:=by
  intro m;subst m;rw[zh] at h;simp at h
 have y:=xI (ve v);rw[qP,h] at y;refine⟨?_,by omega,m⟩;rw[jx m,show v / 4294967296=0 by omega,zh,show v % 4294967296=v by omega]
theorem Vb{v:Nat}(h:v<4294967296):(qL v).length<=1:=by
 by_cases m:v=0
 . subst m;rw[zh];decide
 . rw[jx m,show v / 4294967296=0 by omega,zh];exact Nat.le_refl 1
theorem MV(ao bo:Option Addr)(n c m d:Nat)(xs ys:List Int)(w:World)(h:Lst .u32 w ao n c xs)(k:Lst .u32 w bo m d ys)(hn:n<=1073741820)(hy:val ys≠0)(hs:val ys<4294967296) :
    Calls Tryz.prog 195 #[.slice ao n c,.slice bo m d] w λe w'=>∃ao' n' c' bo' m' d',e=.returned (.tuple #[.slice ao' n' c',.slice bo' m' d',.bool true])/\Own 144 .u32 w.heap.size w' ao' n' c' (qL (val xs / val ys))/\Own 144 .u32 w.heap.size w' bo' m' d' (qL (val xs % val ys))/\Below w.heap.size w w':=by
 obtain⟨A,hA⟩:=jx2 (val xs);obtain⟨V,hV⟩:=jx2 (val ys);have a0:=zA h.ok;rw[h.len] at a0;have a4:=xC bo m d ys w k;have HN:=jA (λq=>Zg ao n c xs (w.drewN q) (h.drewN q) (by omega));have b8:=jA (λq=>xC ao n c xs (w.drewN q) (h.drewN q));have G:=λ(b1:Option Addr) (m1 d1:Nat) (k1:Lst .u32 w b1 m1 d1 (qL V))=>Ze ao b1 n c m1 d1 xs (qL V) w h k1
 rw[<- hV.o] at a4 hy hs |-;rw[<- hA.o] at HN b8 a0 G |-;have b0:=jA a4;have c7:=jA hs;clear hs;have hr:=h.room;have hc:=h.cap;clear k a4;go_in;go_wp2_with fail;refine b0.o.mono ?_;rintro e w' ⟨rfl,b1,m1,d1,rfl,k1,-⟩;have d3:0<m1:=by
  rw[<- k1.len];rw[jx hy];simp
 have hz:((m1:Int) == 0)=false:=by simp;omega
 have G:=G b1 m1 d1 k1;rw[qP] at G;have HC:=jA G;clear G b0 h;have d5:=jA a0;clear a0;rcases Nat.lt_or_ge A V with hlt|hge
 . (have H:jq (A:Int) (V:Int)=-1:=by unfold jq;rw[if_pos (by omega)]);rw[H] at HC;have HQ:=jA (Nat.div_eq_of_lt hlt);have HR:=jA (Nat.mod_eq_of_lt hlt);clear H hlt;go_wp2_with fail;refine HC.o.mono ?_;rintro e w' ⟨rfl,q,rfl⟩;go_wp2_with fail;refine(HN.o q).mono ?_;rintro e w1 ⟨a1,n1,c1,c8,rfl,o1,b1⟩;go_wp2_with fail;(go_ret3);refine⟨none,0,0,a1,n1,c1,rfl,?_,?_,(below_drewN (Below.refl _ _) q).trans b1⟩
   . rw[HQ.o,zh];exact⟨World.ownsRow_nil _ _ _ _,λ_ hx=>by cases hx⟩
   . rw[HR.o];exact o1
 . (have H:0<=jq (A:Int) (V:Int):=by unfold jq;rw[if_neg (by omega)];split<;>omega);obtain⟨g,hg⟩:=jx2 (jq (A:Int) (V:Int));rw[<- hg.o] at HC H;(have d7:decide (g<0)=false:=by simpa using H);have d4:=jA hge;have HY:=jA hy;have a7:=jA k1.len;clear hge hy;by_cases b4:m1=1
   . subst b4;have hs:=XT a7.o;have b6:=hs.2.1;rw[hs.1] at k1;have HS:=jA hs.2;clear hs;have d2:=k1.room;have d6:=k1.cap;have K:=jA k1;clear k1;go_wp2_with fail;refine HC.o.mono ?_;rintro e w' ⟨rfl,q,rfl⟩;go_wp2_with fail;refine(HN.o q).mono ?_;rintro e w1 ⟨a1,n1,c1,c8,rfl,o1,a2⟩;have B1:Below w.heap.size w w1:=(below_drewN (Below.refl _ _) q).trans a2;have k2:=((K.o.drewN q).below a2);have b9:=ixs k2 (show 0<1 by omega) (show(0:Int)=((0:Nat):Int) by rfl);have c6:w1.cell? (pt b1 0)=some (.int .u32 (V:Int)):=k2.cell 0 (by omega);have a6:Own 144 .u32 w.heap.size w1 a1 n1 c1 (qL A):=o1;have hw:=uv w.heap.size a1 n1 c1 (qL A) V w1 a6 (by have:=HS.o.2;omega) b6;rw[qP] at hw;have HW:=jA hw;have O1:=jA a6;clear hw o1 a6 a2 k2 HN HC;go_wp2_with fail;refine HW.o.mono ?_;rintro e w2 ⟨Z,rfl,o2,b2,a8⟩;have B2:Below w.heap.size w w2:=B1.grown a8 B1.size (λk hk=>by
      rcases O1.o.cases with ⟨rfl,rfl,rfl,_⟩|⟨g',rfl,hg',_⟩
      . cases hk
      . simp only[Value.ownBlock,Option.some.injEq] at hk;omega)
     have b7:A % V<=4294967295:=by
      have:=Nat.mod_lt A (show 0<V by have:=HS.o.2;omega);omega
     obtain⟨R,hR⟩:=jx4 (A % V);have d0:=jA hR;rw[<- hR] at b7 |-;have O2:=jA o2;have a9:=jA b2;clear hR o2 b2 HW O1 B1 c6 b9 a8;go_wp2_with fail;refine(xC _ _ _ Z _ O2.o.lst).mono ?_;rintro e w' ⟨rfl,a3,n3,c3,rfl,k3,b3⟩;have y:=k3.len;have J:=zA O2.o.lst.ok;rw[y,O2.o.len] at J;have oq:Own 144 .u32 w.heap.size w2 a3 n3 c3 (Z.take n3):=O2.o.head b3 J;rw[<- y,<- xq O2.o.lst.ok,a9.o] at oq;have OQ:=jA oq;clear oq k3 b3 J;go_wp2_with fail;refine(XO (R:Int) _ (by omega) (by omega)).mono ?_;rintro e w5 ⟨a5,n5,c5,_,rfl,o5,b5⟩;go_wp2_with fail;(go_ret3);refine⟨a3,n3,c3,a5,n5,c5,rfl,?_,?_,B2.trans (b5.mono B2.size)⟩
     . rw[<- y,a9.o];exact OQ.o.kept b5
     . rw[<- d0.o];rw[Int.toNat_natCast] at o5;exact o5.low B2.size
   . exfalso;have h2:=Vb c7.o;have h3:=a7.o;omega
theorem gT(e:TypeId)(k:IntKind)(B:Nat)(w:World):Own e k B w none 0 0 []:=⟨World.ownsRow_nil _ _ _ _,λ_ hx=>by cases hx⟩
theorem MW(ao bo:Option Addr)(n c m d:Nat)(xs ys:List Int)(w:World)(h:Lst .u32 w ao n c xs)(k:Lst .u32 w bo m d ys)(hn:n<=1073741824) :
    Calls Tryz.prog 162 #[.slice ao n c,.slice bo m d] w λe w'=>∃ao' n' c',e=.returned (.tuple #[.slice ao' n' c',.bool (decide (val ys<=val xs))])/\Own 144 .u32 w.heap.size w' ao' n' c' (qL (val xs-val ys))/\Below w.heap.size w w':=by
 by_cases y:val xs<val ys
 . refine(Dd ao bo n c m d xs ys w h k y).mono ?_;rintro e w' ⟨rfl,q,rfl⟩;refine⟨none,0,0,?_,?_,below_drewN (Below.refl _ _) q⟩
   . rw[decide_eq_false (by omega)]
   . rw[Nat.sub_eq_zero_of_le (by omega),zh];exact gT _ _ _ _
 . refine(De ao bo n c m d xs ys w h k hn (by omega)).mono ?_;rintro e w' ⟨a,l,f,_,rfl,o,b⟩;exact⟨a,l,f,by rw[decide_eq_true (by omega)],o,b⟩
section
variable {w : World}
end
