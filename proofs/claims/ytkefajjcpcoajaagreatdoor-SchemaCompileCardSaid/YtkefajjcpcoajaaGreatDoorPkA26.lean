/- -/
import Derived.Test.YtkefajjcpcoajaaGreatDoorPkA0
import Derived.BigQuiet
import Derived.Lib.ItoaNum
import Derived.Test.YtkefajjcpcoajaaGreatDoorPkA2
import Derived.Test.YtkefajjcpcoajaaGreatDoorPkA5
import Derived.Test.YtkefajjcpcoajaaGreatDoorPkA6
import Derived.Test.YtkefajjcpcoajaaGreatDoorPkA24
import Derived.Test.YtkefajjcpcoajaaGreatDoorPkA25
set_option linter.all false
set_option maxRecDepth 100000
set_option maxHeartbeats 6400000
namespace Go.Proofs.YtkefajjcpcoajaaGreatDoor
open Go.RowKit Lx
variable {vs:List (List UInt8)}
theorem Fb{S1 S2:World->Nat->Prop}(xs ys:List (List UInt8))(ao bo:Option Addr)(n c m d:Nat)(w:World)(h:StrL S1 w ao n c xs)(k:StrL S2 w bo m d ys) :
    Calls Tryz.prog 49 #[.slice ao n c,.slice bo m d] w λe w'=>e=.returned (.bool (decide (xs=ys)))/\Below w.heap.size w w':=by
 have b2:=Row.cap h;have b1:=Row.room h;have b3:=Row.cap k;have b0:=Row.room k;have l1:=StrL.len h;have l2:=StrL.len k;have H1:=jA (Row.low (Row.mono h kE));have H2:=jA (Row.low (Row.mono k kE));clear h k;by_cases H:n=m
 . (have a4:((n:Int) != (m:Int))=false:=by rw[H];simp);subst H;have a8:=jA l1;have a9:=jA l2;clear l1 l2;go_in;go_wp2_with fail;(go_loopw [13] (λi wr=>∃j:Nat,j<=n/\i=.int .i64 (j:Int)/\Hid (xs.take j=ys.take j)/\Hid (Below w.heap.size w wr)) (λi _=>n-(intOf i).toNat));(case atStart=>exact⟨0,Nat.zero_le _,rfl,rfl,Below.refl _ _⟩);case round =>
    obtain⟨w1,a5⟩:∃x,x=wr:=⟨_,rfl⟩;subst a5;obtain⟨j,hj,rfl,HE,B⟩:=hrel;by_cases a1:j<n
    . (have a2:(j:Int)<(n:Int):=by omega);obtain⟨x,a,V,i1,c1⟩:=StrL.get (Row.keep H1.o (qp _) (zN B.o)) j a1;obtain⟨y,b,hy,i2,c2⟩:=StrL.get (Row.keep H2.o (qp _) (zN B.o)) j a1;have V:=jA V;have hy:=jA hy;obtain⟨KX,a0⟩:∃K,Hid (stg x=K):=⟨_,rfl⟩;obtain⟨KY,a3⟩:∃K,Hid (stg y=K):=⟨_,rfl⟩;have Z:=kq x y;rw[a0.o,a3.o] at Z;rw[a0.o] at c1;rw[a3.o] at c2;by_cases G:x=y
      . rw[decide_eq_true G] at Z;(have a6:(KX.toList != KY.toList)=false:=by unfold bne;rw[Z];rfl);have a7:Hid (xs.take (j+1)=ys.take (j+1)):=by
         show _=_;rw[qg V.o,qg hy.o,HE.o,G]
        clear G HE;go_wp2_with fail;(go_quiet (fail));go_wp2_with fail;go_roundw;(case rel=>exact⟨j+1,by omega,by go_num,a7,below_drewN B.o _⟩);case measure=>simp[intOf];omega
      . rw[decide_eq_false G] at Z;(have a6:(KX.toList != KY.toList)=true:=by unfold bne;rw[Z];rfl);have hD:Hid (decide (xs=ys)=false):=decide_eq_false (λe=>by
         rw[e,hy.o] at V;have J:=V.o;injection J with J;exact G J.symm)
        clear G HE;go_wp2_with fail;(go_quiet (fail));go_wp2_with fail;go_ret;exact⟨by rw[hD.o];rfl,below_drewN B.o _⟩
    . (have a2:¬ (j:Int)<(n:Int):=by omega);have hD:Hid (decide (xs=ys)=true):=decide_eq_true (by
       have J:=HE.o;rw[List.take_of_length_le (by have:=a8.o;omega),List.take_of_length_le (by have:=a9.o;omega)] at J;exact J)
      clear HE;go_wp2_with fail;go_ret;exact⟨by rw[hD.o];rfl,B.o⟩
 . (have a4:((n:Int) != (m:Int))=true:=by simp;omega);have hD:Hid (decide (xs=ys)=false):=decide_eq_false (λe=>H (by rw[<- l1,<- l2,e]));rw[hD.o];clear l1 l2 H;go_in;go_wp2_with fail;go_ret;exact⟨rfl,Below.refl _ _⟩
theorem Fe{S1 S2:World->Nat->Prop}(xs ys:List Int)(ao bo:Option Addr)(n c m d:Nat)(w:World)(h:IntL .i64 S1 w ao n c xs)(k:IntL .i64 S2 w bo m d ys) :
    Calls Tryz.prog 105 #[.slice ao n c,.slice bo m d] w λe w'=>e=.returned (.bool (decide (xs=ys)))/\Below w.heap.size w w':=by
 have b0:=Row.cap h;have a9:=Row.room h;have b1:=Row.cap k;have a8:=Row.room k;have l1:=IntL.len h;have l2:=IntL.len k;have H1:=jA (Row.low (Row.mono h kE));have H2:=jA (Row.low (Row.mono k kE));clear h k;by_cases H:n=m
 . (have a2:((n:Int) != (m:Int))=false:=by rw[H];simp);subst H;have a6:=jA l1;have a7:=jA l2;clear l1 l2;go_in;go_wp2_with fail;(go_loopw [13] (λi wr=>∃j:Nat,j<=n/\i=.int .i64 (j:Int)/\Hid (xs.take j=ys.take j)/\Hid (Below w.heap.size w wr)) (λi _=>n-(intOf i).toNat));(case atStart=>exact⟨0,Nat.zero_le _,rfl,rfl,Below.refl _ _⟩);case round =>
    obtain⟨w1,a3⟩:∃x,x=wr:=⟨_,rfl⟩;subst a3;obtain⟨j,hj,rfl,Z,B⟩:=hrel;by_cases a0:j<n
    . (have a1:(j:Int)<(n:Int):=by omega);obtain⟨x,a,V,i1,c1⟩:=IntL.get Tryz.underlying58 (show(Tryz.prog.info? 3).map (·.size)=some 1 by kernel_rfl) (Row.keep H1.o (qp _) (zN B.o)) j a0;obtain⟨y,b,hy,i2,c2⟩:=IntL.get Tryz.underlying58 (show(Tryz.prog.info? 3).map (·.size)=some 1 by kernel_rfl) (Row.keep H2.o (qp _) (zN B.o)) j a0;have V:=jA V;have hy:=jA hy;(have hq:(x == y)=decide (x=y):=by by_cases e:x=y<;>simp[e]);by_cases G:x=y
      . rw[decide_eq_true G] at hq;(have a4:(x != y)=false:=by unfold bne;rw[hq];rfl);have a5:Hid (xs.take (j+1)=ys.take (j+1)):=by
         show _=_;rw[qg V.o,qg hy.o,Z.o,G]
        clear G Z;go_wp2_with fail;(go_quiet (fail));go_wp2_with fail;go_roundw;(case rel=>exact⟨j+1,by omega,by go_num,a5,below_drewN B.o _⟩);case measure=>simp[intOf];omega
      . rw[decide_eq_false G] at hq;(have a4:(x != y)=true:=by unfold bne;rw[hq];rfl);have hD:Hid (decide (xs=ys)=false):=decide_eq_false (λe=>by
         rw[e,hy.o] at V;have J:=V.o;injection J with J;exact G J.symm)
        clear G Z;go_wp2_with fail;(go_quiet (fail));go_wp2_with fail;go_ret;exact⟨by rw[hD.o];rfl,below_drewN B.o _⟩
    . (have a1:¬ (j:Int)<(n:Int):=by omega);have hD:Hid (decide (xs=ys)=true):=decide_eq_true (by
       have J:=Z.o;rw[List.take_of_length_le (by have:=a6.o;omega),List.take_of_length_le (by have:=a7.o;omega)] at J;exact J)
      clear Z;go_wp2_with fail;go_ret;exact⟨by rw[hD.o];rfl,B.o⟩
 . (have a2:((n:Int) != (m:Int))=true:=by simp;omega);have hD:Hid (decide (xs=ys)=false):=decide_eq_false (λe=>H (by rw[<- l1,<- l2,e]));rw[hD.o];clear l1 l2 H;go_in;go_wp2_with fail;go_ret;exact⟨rfl,Below.refl _ _⟩
def fC(D:List Value)(f:Nat×Int):List Value:=D++[.int .i64 (f.1:Int),.int .i64 f.2]
structure St (w:World) (g:Nat) (D:List Value) (f:Nat×Int):Prop where
 arr:Arr w g 70 (fC D f)
 len:D.length=17
section
variable {w w' : World} {g : Nat} {D : List Value} {f : Nat × Int}
theorem Mc(h:D.length=17):(fC D f)[17]? = some (.int .i64 (f.1:Int))/\(fC D f)[18]? = some (.int .i64 f.2):=by
 unfold fC;rw[List.getElem?_append_right (by omega),List.getElem?_append_right (by omega),h];exact⟨rfl,rfl⟩
theorem St.c17(h:St w g D f):w.cell? ⟨g,17,none⟩=some (.int .i64 (f.1:Int)):=(h.arr.cell 17).trans (Mc h.len).1
theorem St.c18(h:St w g D f):w.cell? ⟨g,18,none⟩=some (.int .i64 f.2):=(h.arr.cell 18).trans (Mc h.len).2
theorem St.lt(h:St w g D f):g<w.heap.size:=h.arr.lt
theorem St.keep(h:St w g D f)(hb:Below w.heap.size w w'):St w' g D f:=⟨h.arr.kept hb,h.len⟩
theorem uS(w:World)(r:Option Nat):w.grownBy w r:=⟨rfl,rfl,rfl,Nat.le_refl _,λ_ _ _=>rfl⟩
theorem zH(hb:Below w.heap.size w w')(r:Option Nat):w.grownBy w' r:=⟨hb.os,hb.tape,hb.output,hb.size,λk hk _=>hb.block k hk⟩
theorem St.put(h:St w g D f)(e:Nat)(l:Int):∃V,(w.setCell ⟨g,17,none⟩ (.int .i64 (e:Int))).setCell ⟨g,18,none⟩ (.int .i64 l)=V/\St V g D (e,l)/\w.grownBy V (some g)/\w.frozen? ⟨g,17,none⟩=false/\(w.setCell ⟨g,17,none⟩ (.int .i64 (e:Int))).frozen? ⟨g,18,none⟩=false/\(w.setCell ⟨g,17,none⟩ (.int .i64 (e:Int))).cell? ⟨g,18,none⟩=some (.int .i64 f.2):=by
 have m:=h.arr.set 17 (.int .i64 (e:Int));have G:=m.set 18 (.int .i64 l);have y:=h.len;have H:((fC D f).set 17 (.int .i64 (e:Int))).set 18 (.int .i64 l)=fC D (e,l):=by
  unfold fC;rw[List.set_append_right _ _ (by omega),List.set_append_right _ _ (by omega),y];rfl
 refine⟨_,rfl,⟨H ▸ G,y⟩,qC (qM w g 17 _) (qM _ g 18 _),h.arr.frozen 17,m.frozen 18,?_⟩;rw[m.cell 18];unfold fC;rw[List.set_append_right _ _ (by omega),List.getElem?_append_right (by omega),y];rfl
end
theorem jO(D:List Value)(f:Nat×Int)(e:Nat)(l:Int)(g:Nat)(w:World)(h:St w g D f)(he:e≠0)(E:Int)(hE:E=(e:Int)) :
    Calls Tryz.prog 30 #[.pointer (some ⟨g,0,none⟩),.int .i64 E,.int .i64 l] w λx w'=>x=.returned (.tuple #[])/\St w' g D (z7 f e l)/\w.grownBy w' (some g):=by
 subst hE;have c17:=h.c17;by_cases m:f.1=0
 . rw[kK l m he];(have y:((f.1:Int) == 0)=true:=by rw[m];rfl);obtain⟨V,e1,G,H,z1,J,Z⟩:=h.put e l;clear h m;go_in;go_wp2_with fail;go_end0;exact⟨rfl,G,H⟩
 . rw[vB l m];(have y:((f.1:Int) == 0)=false:=by simp[m]);clear m;go_in;go_wp2_with fail;go_end0;exact⟨rfl,h,uS _ _⟩
theorem vZ{S:World->Nat->Prop}(vs:List (List UInt8))(x:List UInt8)(ao:Option Addr)(n c:Nat)(w:World)(h:StrL S w ao n c vs) :
    Calls Tryz.prog 32 #[.slice ao n c,.string (stg x)] w λe w'=>e=.returned (.int .i64 (jV vs x))/\w=w':=by
 have a3:=Row.cap h;have a0:=Row.room h;have y:=jA (StrL.len h);obtain⟨X,hX⟩:=jx1 (stg x);rw[hX.o];have H:=jA h;clear h;go_in;go_wp2_with fail;go_loopw [5] (λi wr=>∃j:Nat,j<=n/\i=.int .i64 (j:Int)/\w=wr/\Hid (∀t:Nat,t<j->vs[t]?≠some x)) (λi _=>n-(intOf i).toNat)
 case atStart=>exact⟨0,Nat.zero_le _,rfl,rfl,λt ht=>absurd ht (by omega)⟩
 case round =>
  obtain⟨j,hj,rfl,rfl,HZ⟩:=hrel;by_cases a1:j<n
  . (have G:(j:Int)<(n:Int):=by omega);obtain⟨v,a,J,i1,c1⟩:=StrL.get H.o j a1;have J:=jA J;by_cases m:v=x
    . (have Z:((stg v).toList == X.toList)=true:=by rw[<- hX.o,m];exact Yh x);obtain⟨V,hV⟩:=jx1 (stg v);rw[hV.o] at c1 Z;have hR:Hid (jV vs x=(j:Int)):=XH (by rw[J.o,m]) HZ.o;clear m;go_wp2_with fail;go_ret;exact⟨by rw[hR.o];rfl,rfl⟩
    . (have Z:((stg v).toList == X.toList)=false:=by rw[<- hX.o];exact Yi m);obtain⟨V,hV⟩:=jx1 (stg v);rw[hV.o] at c1 Z;have a2:Hid (∀t:Nat,t<j+1->vs[t]?≠some x):=by
       intro t ht e;by_cases h1:t=j
       . rw[h1,J.o] at e;injection e with e;exact m e
       . exact HZ.o t (by omega) e
      clear m;go_wp2_with fail;go_roundw;(case rel=>exact⟨j+1,by omega,by go_num,by trivial,a2⟩);case measure=>simp[intOf];omega
  . (have G:¬ (j:Int)<(n:Int):=by omega);have hR:Hid (jV vs x=-1):=XI λt e=>by
     have:=(List.getElem?_eq_some_iff.1 e).1;exact HZ.o t (by have:=y.o;omega) e
    go_wp2_with fail;go_ret;exact⟨by rw[hR.o];rfl,rfl⟩
namespace Lx
def Gj(l:List UInt8):Int:=l.foldl (λn c=>10*n+((c.toNat:Nat):Int)-48) 0
theorem Gk(l:List UInt8)(c:UInt8):Gj (l++[c])=10*Gj l+((c.toNat:Nat):Int)-48:=by
 unfold Gj;rw[List.foldl_append];rfl
theorem Ff{l:List UInt8}(h:l.all kz=true):Gj l=((zz l:Nat):Int):=by
 have:∀ (l:List UInt8) (a:Nat),l.all kz=true->l.foldl (λn c=>10*n+((c.toNat:Nat):Int)-48) (a:Int)=((l.foldl (λn c=>10*n+(c.toNat-48)) a:Nat):Int):=by
  intro l;induction l with
  | nil=>intro a _;rfl
  | cons c r ih =>
   intro a h;rw[List.all_cons,Bool.and_eq_true] at h;have m:=h.1;unfold kz at m;simp only[Bool.and_eq_true,decide_eq_true_eq] at m;rw[List.foldl_cons,List.foldl_cons,<- ih _ h.2];congr 1;omega
 exact this l 0 h
theorem Fg{l:List UInt8}(h:zg l=true):l.all kz=true/\l.length<=6:=by
 cases l with
 | nil=>cases h
 | cons c r =>
  unfold zg at h;simp only[Bool.and_eq_true,decide_eq_true_eq] at h;exact⟨h.1.1,by rw[List.length_cons];omega⟩
theorem Zv(l:List UInt8){j:Nat}{c:UInt8}{r:List UInt8}(h:l.drop j=c :: r):l.take (j+1)=l.take j++[c]:=by
 have:l[j]? = some c:=by
  have:=congrArg (λq=>q[0]?) h;simpa[List.getElem?_drop] using this
 rw[List.take_add_one,this];rfl
end Lx
theorem WW(s:ByteArray)(w:World)(hs:s.size<=1000000) :
    Calls Tryz.prog 127 #[.string s] w λe w'=>e=.returned (.bool (xz (bys s)))/\w=w':=by
 have J:=jA (Wl s w hs);obtain⟨A,H⟩:=jx1 ((bys s).all z8);rw[H.o] at J;have Z:Hid (xz (bys s)=(decide (1<=s.size)&&(decide (s.size<=24)&&A))):=by
  show _=_;unfold xz jw;rw[H.o,zR];congr 1;cases h:bys s with
  | nil =>
   have:=zR s;rw[h] at this;simp only[List.length_nil] at this;simp[<- this]
  | cons c r =>
   have:=zR s;rw[h] at this;simp only[List.length_cons] at this;simp;omega
 rw[Z.o];by_cases m:1<=s.size
 . have t1:decide (1<=(s.size:Int))=true:=decide_eq_true (by omega);by_cases G:s.size<=24
   . have V:decide ((s.size:Int)<=24)=true:=decide_eq_true (by omega);(have y:Hid ((decide (1<=s.size)&&(decide (s.size<=24)&&A))=A):=by show _=_;simp[m,G]);rw[y.o];clear m G;go_in;go_wp2_with (go_at_call 29;(with_reducible refine J.o.mono ?_);rintro e x1 ⟨rfl,rfl⟩);go_ret;exact⟨rfl,rfl⟩
   . have V:decide ((s.size:Int)<=24)=false:=decide_eq_false (by omega);(have y:Hid ((decide (1<=s.size)&&(decide (s.size<=24)&&A))=false):=by show _=_;simp[G]);rw[y.o];clear m G;go_in;go_wp2_with fail;go_ret;exact⟨rfl,rfl⟩
 . have t1:decide (1<=(s.size:Int))=false:=decide_eq_false (by omega);(have y:Hid ((decide (1<=s.size)&&(decide (s.size<=24)&&A))=false):=by show _=_;simp[m]);rw[y.o];clear m;go_in;go_wp2_with fail;go_ret;exact⟨rfl,rfl⟩
theorem Ka(s:ByteArray)(w:World)(hs:s.size<=1000000) :
    Calls Tryz.prog 182 #[.string s] w λe w'=>∃n:Int,e=.returned (.tuple #[.int .i64 n,.bool (zg (bys s))])/\w=w'/\(zg (bys s)=true->n=((zz (bys s):Nat):Int)) /\ -1000000000000000000<=n/\n<=1000000000000000000:=by
 have HP:=jA (Vj s w hs);obtain⟨F,hF⟩:∃A,Hid (zg (bys s)=A):=⟨_,rfl⟩;rw[hF.o] at HP;rw[hF.o];have J:=jA (zR s);go_in;go_wp2_with fail;go_loop [4,5] (λn i=>∃ (j:Nat) (N:Int),j<=s.size/\j<=6/\i=.int .i64 j/\n=.int .i64 N/\Hid (N=Gj ((bys s).take j))/\Hid (-((1000 ^ j:Nat):Int)<=N)/\Hid (N<=((1000 ^ j:Nat):Int))) (λ_ i=>6-(intOf i).toNat)
 case atStart=>exact⟨0,0,Nat.zero_le _,Nat.zero_le _,rfl,rfl,rfl,by show _<=_;decide,by show _<=_;decide⟩
 case round =>
  obtain⟨j,N,hj,h6,rfl,rfl,hN,y,G⟩:=hrel;have hp:Hid (1000 ^ j<=1000 ^ 6):=Nat.pow_le_pow_right (by decide) h6;by_cases a6:j<s.size;have V:(j:Int)<(s.size:Int):=by omega
  by_cases h7:j<6
  . (have a7:(j:Int)<6:=by omega);obtain⟨d,hd,x1⟩:=ZH s j a6;have a0:Hid (1000 ^ j<=1000 ^ 5):=Nat.pow_le_pow_right (by decide) (by omega);(have a8:Hid (Gj ((bys s).take (j+1))=10*N+((d.toNat:Nat):Int)-48):=by show _=_;rw[Zv _ hd.o,Gk,<- hN.o]);have a3:Hid (1000 ^ (j+1)=1000 ^ j*1000):=Nat.pow_succ _ _;have Z:Hid (1<=1000 ^ j):=Nat.one_le_pow _ _ (by decide);have a5:d.toNat<256:=d.toNat_lt;obtain⟨P,hP⟩:∃P:Nat,1000 ^ j=P:=⟨_,rfl⟩;(have a1:N<=1000000000000000:=by have H:=G.o;have h2:=a0.o;rw[hP] at H h2;omega);(have a2 : -1000000000000000<=N:=by have H:=y.o;have h2:=a0.o;rw[hP] at H h2;omega);obtain⟨m,hm⟩:∃m:Nat,Hid (d.toNat=m):=⟨_,rfl⟩;rw[hm.o] at x1 a5;clear hN;go_wp2_with fail;go_round;case rel =>
     refine⟨j+1,10*N+(m:Int)-48,by omega,by omega,by go_num,by go_num,?_,?_,?_⟩
     . show _=_;rw[a8.o,hm.o]
     . show _<=_;have H:=y.o;have h3:=a3.o;have h4:=Z.o;rw[h3];rw[hP] at H h4 |-;omega
     . show _<=_;have H:=G.o;have h3:=a3.o;have h4:=Z.o;rw[h3];rw[hP] at H h4 |-;omega
    case measure=>simp[intOf];omega
  have a7:¬ (j:Int)<6:=by omega
  rotate_left
  have V:¬ (j:Int)<(s.size:Int):=by omega
  rotate_left
  all_goals
    have a4:Hid ((F=true->N=((zz (bys s):Nat):Int)) /\ -1000000000000000000<=N/\N<=1000000000000000000):=by
     have H:=y.o;have h2:=G.o;have h3:=hp.o;refine⟨λhf=>?_,by omega,by omega⟩;have:=Fg (hF.o.trans hf);have hl:=J.o;rw[hN.o,List.take_of_length_le (by omega),Ff this.1]
    clear hN y G;go_wp2_with (go_at_call 141;(with_reducible refine HP.o.mono ?_);rintro e x1 ⟨rfl,rfl⟩);go_ret2;exact⟨N,rfl,rfl,a4.o⟩
def vF(k:ByteArray)(vo:Option Addr)(vn vc:Nat)(l:Int):Value:=.agg #[.string k,.slice vo vn vc,.int .i64 l]
theorem gl(K:ByteArray)(vs:List (List UInt8))(vo:Option Addr)(vn vc:Nat)(l:Int)(D:List Value)(f:Nat×Int)(g:Nat)(w:World)(hv:StrL qU w vo vn vc vs)(h:St w g D f) :
    Calls Tryz.prog 181 #[.pointer (some ⟨g,0,none⟩),vF K vo vn vc l] w λx w'=>x=.returned (.string (stg (vD vs)))/\St w' g D (z7 f (jt vs λ_=>0) l)/\w.grownBy w' (some g):=by
 show Calls Tryz.prog 181 #[.pointer (some ⟨g,0,none⟩),.agg #[.string K,.slice vo vn vc,.int .i64 l]] w _;obtain⟨U,e1,J,G,hz⟩:=qG w 63 [.string K,.slice vo vn vc,.int .i64 l];have y1:U.cell? ⟨w.heap.size,1,none⟩=some (.slice vo vn vc):=J.cell 1;have y2:U.cell? ⟨w.heap.size,2,none⟩=some (.int .i64 l):=J.cell 2;have m:=jA (StrL.len hv);have a1:=Row.cap hv;have a0:=Row.room hv;have SU:=jA (h.keep G);have GU:=jA (zH G (some g));have HV:=jA (StrL.below hv G);by_cases y:vs.length=1
 . (have t1:((vn:Int) != 1)=false:=by rw[<- m.o,y];rfl);(have hR:Hid (z7 f (jt vs λ_=>0) l=f):=by show _=_;unfold jt;rw[if_neg (by omega),jG]);rw[hR.o];obtain⟨v,a,H,i0,c1⟩:=StrL.get HV.o 0 (by have:=m.o;omega);have i1:∀W,(Instr.indexAt 26 (.slice vo vn vc) (.int .i64 0)).run Tryz.prog W=.ok (.pointer (some a)) W:=i0;(have hV:Hid (vD vs=v):=by show _=_;unfold vD;rw[if_neg (by omega),H];rfl);rw[hV.o];obtain⟨V,Z⟩:∃K,Hid (stg v=K):=⟨_,rfl⟩;rw[Z.o] at c1 |-;clear h hv y H J G hz;go_in;go_wp2_with fail;go_ret;exact⟨rfl,SU.o,GU.o⟩
 . (have t1:((vn:Int) != 1)=true:=by simp;have:=m.o;omega);(have hR:Hid (z7 f (jt vs λ_=>0) l=z7 f 7 l):=by show _=_;unfold jt;rw[if_pos y]);rw[hR.o];(have hV:Hid (vD vs=[]):=by show _=_;unfold vD;rw[if_pos y]);rw[hV.o];have HF:=jA (jO D f 7 l g U SU.o (by decide) 7 rfl);clear h hv y J G hz;go_in;go_wp2_with (go_at_call 30;(with_reducible refine HF.o.mono ?_);rintro e x1 ⟨rfl,SX,GX⟩);go_ret;exact⟨rfl,SX,qC GU.o GX⟩
def neF(g:Nat):World->Nat->Prop:=λ_ k=>k≠g
theorem ky(g:Nat):jR (neF g):=λ_ _ _ _ _ h=>h
theorem wG{g:Nat}{w w':World}(h:w.grownBy w' (some g)):Keeps (neF g) w w':=jL h (λk hk e=>hk (by injection e with e;exact e.symm))
theorem xV{g:Nat}{w w':World}{p:Addr}{v:Value}(hc:w.cell? p=some v)(h:w.grownBy w' (some g))(hp:p.block≠g):w'.cell? p=some v :=
 (World.cell?_of_block (h.block _ (World.block_lt_of_cell? w _ hc) (λe=>hp (by injection e)))).trans hc
namespace Lx
theorem wY(h:vs.length=1):vD vs=(vs[0]?).getD []:=if_neg (λk=>k h)
theorem Xn(h:vs.length=1)(g:List UInt8->Nat):jt vs g=g (vD vs):=by rw[wY h];exact if_neg (λk=>k h)
theorem Xo(h:vs.length≠1)(g:List UInt8->Nat):jt vs g=7:=if_pos h
theorem vS{g:List UInt8->Nat}(h:jt vs g=0):vs.length=1/\g (vD vs)=0:=by
 by_cases m:vs.length=1
 . rw[Xn m] at h;exact⟨m,h⟩
 . rw[Xo m] at h;cases h
theorem NU(f:Nat×Int)(vs:List (List UInt8))(g:List UInt8->Nat)(l:Int):z7 (z7 f (jt vs λ_=>0) l) (g (vD vs)) l=z7 f (jt vs g) l:=by
 by_cases h:vs.length=1
 . rw[Xn h,Xn h,jG]
 . rw[Xo h,Xo h];by_cases m:f.1=0
   . rw[kK l m (by decide)];exact vB l (by show(7:Nat)≠0;decide)
   . rw[vB l m,vB l m]
theorem Zw(h:∀v∈vs,v.length<=1000000):(vD vs).length<=1000000:=by
 unfold vD;split
 . simp
 . cases m:vs[0]? with
   | none=>simp
   | some v=>exact h v (List.mem_of_getElem? m)
end Lx
theorem kt(v:List UInt8):(stg v).size=v.length:=by rw[<- zR,zL]
theorem Md(K:ByteArray)(vs:List (List UInt8))(vo:Option Addr)(vn vc:Nat)(l:Int)(lo hi:Nat)(LO HI:Int)(hLO:LO=lo)(hHI:HI=hi)(D:List Value)(f:Nat×Int)(g:Nat)(w:World)(hv:StrL qU w vo vn vc vs)(hsz:∀v∈vs,v.length<=1000000)(h:St w g D f) :
    Calls Tryz.prog 126 #[.pointer (some ⟨g,0,none⟩),vF K vo vn vc l,.int .i64 LO,.int .i64 HI] w λx w'=>∃n:Int,x=.returned (.int .i64 n)/\St w' g D (z7 f (jt vs (gJ lo hi)) l)/\w.grownBy w' (some g)/\(jt vs (gJ lo hi)=0->n=((zz (vD vs):Nat):Int)):=by
 show Calls Tryz.prog 126 #[.pointer (some ⟨g,0,none⟩),.agg #[.string K,.slice vo vn vc,.int .i64 l],.int .i64 LO,.int .i64 HI] w _;obtain⟨U,e1,AU,BU,hz⟩:=qG w 63 [.string K,.slice vo vn vc,.int .i64 l];obtain⟨y0,y1,y2⟩:=AU.c3;have hg:=jA h.lt;have J:Hid (w.heap.size≠g):=λe=>by have:=hg.o;omega
 have GU:=jA (zH BU (some g));have HV:Hid (jC 181 #[.pointer (some ⟨g,0,none⟩),.agg #[.string K,.slice vo vn vc,.int .i64 l]] U λx w'=>x=.returned (.string (stg (vD vs)))/\St w' g D (z7 f (jt vs λ_=>0) l)/\U.grownBy w' (some g)):=gl K vs vo vn vc l D f g U (StrL.below hv BU) (h.keep BU);have hs:=Zw hsz;obtain⟨V,G⟩:∃X,X=vD vs:=⟨_,rfl⟩;have hO:Hid (z7 (z7 f (jt vs λ_=>0) l) (gJ lo hi V) l=z7 f (jt vs (gJ lo hi)) l):=by show _=_;rw[G];exact NU f vs (gJ lo hi) l
 obtain⟨F1,a0⟩:∃X,X=z7 f (jt vs λ_=>0) l:=⟨_,rfl⟩;have hZ:Hid (jt vs (gJ lo hi)=0->gJ lo hi V=0):=λe=>by rw[G];exact(vS e).2
 rw[<- G] at HV hs |-;rw[<- a0] at HV hO;rw[<- hO.o];have H:Hid (∀W,jC 182 #[.string (stg V)] W λe w'=>∃n:Int,e=.returned (.tuple #[.int .i64 n,.bool (zg V)])/\W=w'/\(zg V=true->n=((zz V:Nat):Int)) /\ -1000000000000000000<=n/\n<=1000000000000000000):=λW=>by
  have:=Ka (stg V) W (by rw[kt];exact hs);rw[zL] at this;exact this
 obtain⟨SV,a1⟩:∃X,X=stg V:=⟨_,rfl⟩;rw[<- a1] at HV H;clear h hv hsz hs AU BU hz a0 hO a1 G;obtain⟨R,hR⟩:∃X,Hid (gJ lo hi V=X):=⟨_,rfl⟩;obtain⟨M,hM⟩:∃X,Hid (zz V=X):=⟨_,rfl⟩;have y:Hid (R=if !zg V then 5 else if M<lo||hi<M then 4 else 0):=by show _=_;rw[<- hR.o,<- hM.o];rfl
 rw[hM.o] at H |-;rw[hR.o] at hZ |-;subst hLO hHI;rcases Bool.eq_false_or_eq_true (zg V) with hB|hB
 rw[hB] at H y;by_cases h1:M<lo;have t1:decide ((M:Int)<(lo:Int))=true:=decide_eq_true (by omega);have m:R=4:=by rw[y.o];simp[h1]
 rotate_left
 have t1:decide ((M:Int)<(lo:Int))=false:=decide_eq_false (by omega);by_cases h2:hi<M;have t2:decide ((M:Int) > (hi:Int))=true:=decide_eq_true (by omega);have m:R=4:=by rw[y.o];simp[h2]
 rotate_left
 . have t2:decide ((M:Int) > (hi:Int))=false:=decide_eq_false (by omega);(have m:R=0:=by rw[y.o];simp[h1,h2]);subst m;clear hB;go_in;go_wp2_with (first
     | (go_at_call 181;(with_reducible refine HV.o.mono ?_);rintro e Z ⟨rfl,S1,G1⟩;have z2:=xV y2 G1 J.o)
     | (go_at_call 182;(with_reducible refine(H.o Z).mono ?_);rintro e w2 ⟨n,rfl,rfl,hn,_,_⟩;obtain rfl:=hn trivial)
     | fail)
   go_ret;exact⟨_,rfl,by rw[jG];exact S1,qC GU.o G1,λ_=>rfl⟩
 . rw[hB] at H y;(have m:R=5:=by rw[y.o];rfl);subst m;clear hB;go_in;go_wp2_with (first
     | (go_at_call 181;(with_reducible refine HV.o.mono ?_);rintro e Z ⟨rfl,S1,G1⟩;have z2:=xV y2 G1 J.o;have HF:=jA (jO D F1 5 l g Z S1 (by decide) 5 rfl))
     | (go_at_call 182;(with_reducible refine(H.o Z).mono ?_);rintro e w2 ⟨n,rfl,rfl,_,_,_⟩)
     | (go_at_call 30;(with_reducible refine HF.o.mono ?_);rintro e w3 ⟨rfl,S3,G3⟩)
     | fail)
   go_ret;exact⟨n,rfl,S3,qC GU.o (qC G1 G3),λe=>absurd (hZ.o e) (by decide)⟩
 all_goals
   subst m;clear hB;go_in;go_wp2_with (first
     | (go_at_call 181;(with_reducible refine HV.o.mono ?_);rintro e Z ⟨rfl,S1,G1⟩;have z2:=xV y2 G1 J.o;have HF:=jA (jO D F1 4 l g Z S1 (by decide) 4 rfl))
     | (go_at_call 182;(with_reducible refine(H.o Z).mono ?_);rintro e w2 ⟨n,rfl,rfl,hn,_,_⟩;obtain rfl:=hn trivial)
     | (go_at_call 30;(with_reducible refine HF.o.mono ?_);rintro e w3 ⟨rfl,S3,G3⟩)
     | fail)
   go_ret;exact⟨_,rfl,S3,qC GU.o (qC G1 G3),λ_=>rfl⟩
theorem Gl(K:ByteArray)(vs ws:List (List UInt8))(vo:Option Addr)(vn vc:Nat)(so:Option Addr)(sn sc:Nat)(l:Int)(D:List Value)(f:Nat×Int)(g:Nat)(w:World)(hv:StrL qU w vo vn vc vs)(hs:StrL (neF g) w so sn sc ws)(hn:sn<=1000)(h:St w g D f) :
    Calls Tryz.prog 125 #[.pointer (some ⟨g,0,none⟩),vF K vo vn vc l,.slice so sn sc] w λx w'=>x=.returned (.int .i64 (jV ws (vD vs)+1))/\St w' g D (z7 f (jt vs (chE ws)) l)/\w.grownBy w' (some g):=by
 show Calls Tryz.prog 125 #[.pointer (some ⟨g,0,none⟩),.agg #[.string K,.slice vo vn vc,.int .i64 l],.slice so sn sc] w _;obtain⟨U,e1,AU,Z,hz⟩:=qG w 63 [.string K,.slice vo vn vc,.int .i64 l];obtain⟨y0,y1,y2⟩:=AU.c3;have hg:=jA h.lt;have a0:Hid (w.heap.size≠g):=λe=>by have:=hg.o;omega
 have GU:=jA (zH Z (some g));have G:Hid (jC 181 #[.pointer (some ⟨g,0,none⟩),.agg #[.string K,.slice vo vn vc,.int .i64 l]] U λx w'=>x=.returned (.string (stg (vD vs)))/\St w' g D (z7 f (jt vs λ_=>0) l)/\U.grownBy w' (some g)):=gl K vs vo vn vc l D f g U (StrL.below hv Z) (h.keep Z);have HS:Hid (∀W,U.grownBy W (some g)->StrL (neF g) W so sn sc ws):=λW hW=>Row.keep (Row.keep hs (ky g) (qD _ Z)) (ky g) (wG hW)
 obtain⟨V,y⟩:∃X,X=vD vs:=⟨_,rfl⟩;have hO:Hid (z7 (z7 f (jt vs λ_=>0) l) (chE ws V) l=z7 f (jt vs (chE ws)) l):=by show _=_;rw[y];exact NU f vs (chE ws) l
 obtain⟨F1,H⟩:∃X,X=z7 f (jt vs λ_=>0) l:=⟨_,rfl⟩;rw[<- y] at G |-;rw[<- H] at G hO;rw[<- hO.o];have HN:Hid (∀W,U.grownBy W (some g)->Calls Tryz.prog 32 #[.slice so sn sc,.string (stg V)] W λe w'=>e=.returned (.int .i64 (jV ws V))/\W=w'):=λW hW=>vZ ws V so sn sc W (HS.o W hW)
 have a2:Hid (∀k,vt V ws=some k->k<sn):=λk hk=>by
  have:=(List.getElem?_eq_some_iff.1 (ZY hk)).1;have:=StrL.len hs;omega
 obtain⟨SV,a1⟩:∃X,X=stg V:=⟨_,rfl⟩;rw[<- a1] at G HN;clear h hv hs AU Z hz H hO HS a1 y;cases hi:vt V ws with
 | none =>
  have J:jV ws V=-1:=by unfold jV;rw[hi]
  have m:chE ws V=2:=by unfold chE;rw[hi];rfl
  rw[J] at HN |-;rw[m];clear J m hi;go_in;go_wp2_with (first
    | (go_at_call 181;(with_reducible refine G.o.mono ?_);rintro e w1 ⟨rfl,S1,G1⟩;have z2:=xV y2 G1 a0.o;have HF:=jA (jO D F1 2 l g w1 S1 (by decide) 2 rfl))
    | (go_at_call 32;(with_reducible refine(HN.o w1 G1).mono ?_);rintro e w2 ⟨rfl,rfl⟩)
    | (go_at_call 30;(with_reducible refine HF.o.mono ?_);rintro e w3 ⟨rfl,S3,G3⟩)
    | fail)
  go_ret;exact⟨rfl,S3,qC GU.o (qC G1 G3)⟩
 | some k =>
  have J:jV ws V=(k:Int):=by unfold jV;rw[hi]
  have m:chE ws V=0:=by unfold chE;rw[hi];rfl
  have hk:k<=1000:=by have:=a2.o k hi;omega
  rw[J] at HN |-;rw[m,jG];have t1:decide ((k:Int)<0)=false:=decide_eq_false (by omega);clear J m hi;go_in;go_wp2_with (first
    | (go_at_call 181;(with_reducible refine G.o.mono ?_);rintro e w1 ⟨rfl,S1,G1⟩;have z2:=xV y2 G1 a0.o)
    | (go_at_call 32;(with_reducible refine(HN.o w1 G1).mono ?_);rintro e w2 ⟨rfl,rfl⟩)
    | fail)
  go_ret;exact⟨rfl,S1,qC GU.o G1⟩
theorem NV(K:ByteArray)(vs:List (List UInt8))(vo:Option Addr)(vn vc:Nat)(l:Int)(D:List Value)(f:Nat×Int)(g:Nat)(w:World)(hv:StrL qU w vo vn vc vs)(hsz:∀v∈vs,v.length<=1000000)(h:St w g D f) :
    Calls Tryz.prog 129 #[.pointer (some ⟨g,0,none⟩),vF K vo vn vc l] w λx w'=>x=.returned (.string (stg (vD vs)))/\St w' g D (z7 f (jt vs gj) l)/\w.grownBy w' (some g):=by
 show Calls Tryz.prog 129 #[.pointer (some ⟨g,0,none⟩),.agg #[.string K,.slice vo vn vc,.int .i64 l]] w _;obtain⟨U,e1,AU,BU,hz⟩:=qG w 63 [.string K,.slice vo vn vc,.int .i64 l];obtain⟨y0,y1,y2⟩:=AU.c3;have hg:=jA h.lt;have H:Hid (w.heap.size≠g):=λe=>by have:=hg.o;omega
 have GU:=jA (zH BU (some g));have Z:Hid (jC 181 #[.pointer (some ⟨g,0,none⟩),.agg #[.string K,.slice vo vn vc,.int .i64 l]] U λx w'=>x=.returned (.string (stg (vD vs)))/\St w' g D (z7 f (jt vs λ_=>0) l)/\U.grownBy w' (some g)):=gl K vs vo vn vc l D f g U (StrL.below hv BU) (h.keep BU);have hs:=Zw hsz;obtain⟨V,G⟩:∃X,X=vD vs:=⟨_,rfl⟩;have hO:Hid (z7 (z7 f (jt vs λ_=>0) l) (gj V) l=z7 f (jt vs gj) l):=by show _=_;rw[G];exact NU f vs gj l
 obtain⟨F1,a0⟩:∃X,X=z7 f (jt vs λ_=>0) l:=⟨_,rfl⟩;rw[<- G] at Z hs |-;rw[<- a0] at Z hO;rw[<- hO.o];have HN:Hid (∀W,jC 127 #[.string (stg V)] W λe w'=>e=.returned (.bool (xz V))/\W=w'):=λW=>by
  have:=WW (stg V) W (by rw[kt];exact hs);rw[zL] at this;exact this
 have hE:Hid (gj V=if !(decide (V=[])||xz V) then 8 else 0):=by
  show _=_;unfold gj xz;cases V with
  | nil=>rfl
  | cons c r=>simp
 obtain⟨R,hR⟩:∃X,Hid (gj V=X):=⟨_,rfl⟩;rw[hR.o] at hE |-;have y:((stg V).toList=[])↔V=[]:=by rw[xH,zL]
 obtain⟨SV,a1⟩:∃X,X=stg V:=⟨_,rfl⟩;rw[<- a1] at Z HN y |-;clear h hv hsz hs AU BU hz a0 hO a1 G;by_cases J:V=[]
 . have s1:SV.toList=[]:=y.2 J;(have s2:SV.toList.isEmpty=true:=by rw[s1];rfl);(have m:R=0:=by rw[hE.o,J];rfl);subst m;rw[jG];clear y J;go_in;go_wp2_with (first
     | (go_at_call 181;(with_reducible refine Z.o.mono ?_);rintro e w1 ⟨rfl,S1,G1⟩;have z2:=xV y2 G1 H.o)
     | fail)
   go_ret;exact⟨rfl,S1,qC GU.o G1⟩
 . (have s1:¬ SV.toList=[]:=λe=>J (y.1 e));(have s2:SV.toList.isEmpty=false:=by simpa using s1);(have m:R=if !xz V then 8 else 0:=by rw[hE.o];simp[J]);obtain⟨N,hN⟩:∃X,X=xz V:=⟨_,rfl⟩;rw[<- hN] at HN m;clear y J hN;cases N with
   | true =>
    replace m:R=0:=m;subst m;rw[jG];go_in;go_wp2_with (first
      | (go_at_call 181;(with_reducible refine Z.o.mono ?_);rintro e w1 ⟨rfl,S1,G1⟩;have z2:=xV y2 G1 H.o)
      | (go_at_call 127;(with_reducible refine(HN.o w1).mono ?_);rintro e w2 ⟨rfl,rfl⟩)
      | fail)
    go_ret;exact⟨rfl,S1,qC GU.o G1⟩
   | false =>
    replace m:R=8:=m;subst m;go_in;go_wp2_with (first
      | (go_at_call 181;(with_reducible refine Z.o.mono ?_);rintro e w1 ⟨rfl,S1,G1⟩;have z2:=xV y2 G1 H.o;have HF:=jA (jO D F1 8 l g w1 S1 (by decide) 8 rfl))
      | (go_at_call 127;(with_reducible refine(HN.o w1).mono ?_);rintro e w2 ⟨rfl,rfl⟩)
      | (go_at_call 30;(with_reducible refine HF.o.mono ?_);rintro e w3 ⟨rfl,S3,G3⟩)
      | fail)
    go_ret;exact⟨rfl,S3,qC GU.o (qC G1 G3)⟩
end Go.Proofs.YtkefajjcpcoajaaGreatDoor
namespace Go.Proofs.YtkefajjcpcoajaaGreatDoor.Lx
def atI(l:List (List UInt8))(i:Int):List UInt8:=if 0<=i then (l[i.toNat]?).getD [] else []
def dsV(k v:List UInt8):zC:=⟨k,[v],0⟩
def fN(k:List UInt8)(n:Int):zC:=dsV k (Lib.itoa n)
def dsC(k:List UInt8)(code:Int):zC:=dsV k (atI (jP k) code)
def xv(l:List (List UInt8))(is:List Int):List (List UInt8):=is.map (atI l)
def yN(c:Cst):List zC:=[dsC zG c.method,fN zO c.seats,fN kp c.ranks]++(if c.method=2 then [fN qY c.digits] else [])++[dsC xO c.ties,dsC zj c.over,dsC kX c.skip,⟨zm,c.cands,0⟩]
def uj(c:Cst):qK:=⟨qF,c.name,yN c,0⟩
def wH(P C:List (List UInt8))(s:Sty):qK:=⟨qI,s.name,[⟨qB,xv P s.precs,0⟩,⟨qO,xv C s.conts,0⟩],0⟩
def vi(e:Elc):List qK:=[⟨zT,[],[fN yW e.dots,fN jo e.blank,fN jT e.marked],0⟩,⟨qe,[],[fN xu e.scanners,fN vI e.batch],0⟩,⟨qB,[],[⟨zy,e.precs,0⟩],0⟩]
def gm(e:Elc)(risk:List UInt8):List qK:=[⟨ql,[],[dsV jN risk,dsV yX e.seed],0⟩,⟨qy,[],[fN yg e.cell],0⟩]
def kR(e:Elc):List (List UInt8):=e.conts.map Cst.name
def jb(e:Elc)(risk:List UInt8):ke:=⟨e.title,vi e++e.conts.map uj++e.stys.map (wH e.precs (kR e))++gm e risk⟩
end Go.Proofs.YtkefajjcpcoajaaGreatDoor.Lx
