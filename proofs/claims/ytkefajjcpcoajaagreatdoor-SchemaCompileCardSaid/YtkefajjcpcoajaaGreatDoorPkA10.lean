/- -/
import Derived.Test.YtkefajjcpcoajaaGreatDoorPkA0
import Derived.Test.YtkefajjcpcoajaaGreatDoorProg
import Derived.WalkKit
import Derived.WalkSpells
import Derived.WalkLawsBesides
import Derived.Lib.Hide
import Derived.Deep.Draws
import Derived.Deep.QuietTactic
import Derived.BigQuiet
import Derived.Outline
set_option linter.all false
set_option maxHeartbeats 400000
namespace Go.Proofs.YtkefajjcpcoajaaGreatDoor.Q.NatMath
variable {x d:Int}{xs L M D:List Int}{n m i W:Nat}
def B:Nat:=4294967296
def val:List Int->Nat
  | []=>0
  | x :: xs=>x.toNat+4294967296*val xs
def qL(n:Nat):List Int :=
 if h:n=0 then [] else (↑(n % 4294967296):Int) :: qL (n / 4294967296)
termination_by n
decreasing_by omega
def Ok(xs:List Int):Prop:=∀x∈xs,0<=x/\x<=4294967295
theorem Ok.nil:Ok []:=λ_ h=>by cases h
theorem Ok.cons(h0:0<=x)(h1:x<=4294967295)(h:Ok xs):Ok (x :: xs):=by
 intro y m;rcases List.mem_cons.1 m with rfl|m
 . exact⟨h0,h1⟩
 . exact h y m
theorem Ok.head(h:Ok (x :: xs)):0<=x/\x<=4294967295:=h x (List.mem_cons_self ..)
theorem Ok.tail(h:Ok (x :: xs)):Ok xs:=λy hy=>h y (List.mem_cons_of_mem _ hy)
theorem Ok.take(h:Ok xs)(n:Nat):Ok (xs.take n):=λy hy=>h y (List.mem_of_mem_take hy)
theorem Ok.append{ys:List Int}(h:Ok xs)(k:Ok ys):Ok (xs++ys):=by
 intro y m;rcases List.mem_append.1 m with m|m
 . exact h y m
 . exact k y m
theorem Ok.getD(h:Ok xs)(i:Nat):0<=xs.getD i 0/\xs.getD i 0<=4294967295:=by
 by_cases hi:i<xs.length
 . (have e:xs.getD i 0=xs[i]:=by simp[List.getD,hi]);rw[e];exact h _ (List.getElem_mem hi)
 . simp[List.getD,List.getElem?_eq_none (by omega:xs.length<=i)]
theorem zh:qL 0=[]:=by rw[qL];simp
theorem jx(h:n≠0):qL n=(↑(n % 4294967296):Int) :: qL (n / 4294967296):=by rw[qL];simp[h]
theorem ve(n:Nat):Ok (qL n):=by
 induction n using Nat.strongRecOn with
 | ind n ih =>
  by_cases h:n=0
  . subst h;rw[zh];exact Ok.nil
  . rw[jx h];exact Ok.cons (by omega) (by omega) (ih _ (by omega))
theorem qP(n:Nat):val (qL n)=n:=by
 induction n using Nat.strongRecOn with
 | ind n ih =>
  by_cases h:n=0
  . subst h;rw[zh];rfl
  . rw[jx h,val,ih _ (by omega)];omega
def Nf(xs:List Int):Prop:=xs.getLast?≠some 0
theorem VV(h:Ok xs):val xs=0↔∀x∈xs,x=0:=by
 induction xs with
 | nil=>simp[val]
 | cons x xs ih =>
  have J:=h.head;rw[val];constructor
  . intro e;(have H:x.toNat=0:=by omega);(have G:val xs=0:=by omega);intro y m;rcases List.mem_cons.1 m with rfl|m
    . omega
    . exact(ih h.tail).1 G y m
  . intro e;have H:=e x (List.mem_cons_self ..);have G:=(ih h.tail).2 (λy m=>e y (List.mem_cons_of_mem _ m));omega
theorem Wv(h:Ok xs)(hn:Nf xs):qL (val xs)=xs:=by
 induction xs with
 | nil=>exact zh
 | cons x xs ih =>
  have h0:=h.head;have m:val (x :: xs)≠0:=by
   intro e;have J:=(VV h).1 e;have hl:=List.getLast?_isSome.2 (show(x :: xs)≠[] by simp);obtain⟨y,H⟩:=Option.isSome_iff_exists.1 hl;have G:=J y (List.mem_of_getLast? H);subst G;exact hn H
  rw[jx m];rw[val] at m |-;have Z:(x.toNat+4294967296*val xs) % 4294967296=x.toNat:=by omega
  have V:(x.toNat+4294967296*val xs) / 4294967296=val xs:=by omega
  rw[Z,V];congr 1
  . omega
  . cases xs with
    | nil=>exact zh
    | cons y ys =>
     refine ih h.tail ?_;intro e;exact hn (by rw[List.getLast?_cons_cons];exact e)
theorem wy(xs ys:List Int):val (xs++ys)=val xs+4294967296 ^ xs.length*val ys:=by
 induction xs with
 | nil=>simp[val]
 | cons x xs ih =>
  rw[List.cons_append,val,val,ih,List.length_cons,Nat.pow_succ,Nat.mul_add,<- Nat.mul_assoc,Nat.mul_comm 4294967296 (4294967296 ^ xs.length),Nat.add_assoc]
theorem xI(h:Ok xs):val xs<4294967296 ^ xs.length:=by
 induction xs with
 | nil=>simp[val]
 | cons x xs ih =>
  have y:=h.head;have m:=ih h.tail;rw[val,List.length_cons,Nat.pow_succ];omega
theorem QM(n:Nat):val (List.replicate n 0)=0:=by
 induction n with
 | zero=>rfl
 | succ n ih=>rw[List.replicate_succ,val,ih];rfl
theorem yE(n k:Nat)(h:n<4294967296 ^ k):(qL n).length<=k:=by
 induction k generalizing n with
 | zero =>
  have:n=0:=by simpa using h
  subst this;rw[zh];simp
 | succ k ih =>
  by_cases m:n=0
  . subst m;rw[zh];simp
  . rw[jx m,List.length_cons];have:=ih (n / 4294967296) (by rw[Nat.pow_succ] at h;omega);omega
theorem wj(h:Ok xs)(n:Nat)(hn:n<=xs.length)(hz:∀i,n<=i->xs.getD i 0=0)(hl:n=0\/xs.getD (n-1) 0≠0):qL (val xs)=xs.take n:=by
 have e:xs=xs.take n++List.replicate (xs.length-n) 0:=by
  apply List.ext_getElem
  . simp;omega
  . intro i y H;by_cases hi:i<n
    . rw[List.getElem_append_left (by simp;omega)];simp
    . rw[List.getElem_append_right (by simp;omega)];have:=hz i (by omega);rw[List.getD,List.getElem?_eq_getElem y] at this;simpa using this
 have G:val xs=val (xs.take n):=by
  rw[e,wy,QM];simp[Nat.min_eq_left hn]
 rw[G];refine Wv (h.take n) ?_;intro m;rcases hl with h0|h0
 . subst h0;simp at m
 . apply h0;(have:n≠0:=by intro e;subst e;simp at m);rw[List.getLast?_eq_getElem?] at m;simp only[List.length_take,Nat.min_eq_left hn] at m;rw[List.getElem?_take,if_pos (by omega)] at m;rw[List.getD,m];rfl
theorem ki(h:(qL m).length<(qL n).length):m<n:=by
 have y:=xI (ve m);rw[qP] at y;by_cases G:n<4294967296 ^ (qL m).length
 . have:=yE n _ G;omega
 . omega
theorem KE(L:List Int):∀ (M:List Int) (i:Nat),Ok L->Ok M->L.length=M.length->(∀j,i<j->L.getD j 0=M.getD j 0)->L.getD i 0<M.getD i 0->val L<val M:=by
 induction L with
 | nil =>
  intro M i V H G J m;have:M=[]:=List.eq_nil_of_length_eq_zero (by simpa using G.symm);subst this;simp at m
 | cons x L ih =>
  intro M i V H G J m;cases M with
  | nil=>simp at G
  | cons y M =>
   have hx:=V.head;have hy:=H.head;rw[val,val];cases i with
   | zero =>
    have e:L=M:=by
     apply List.ext_getElem
     . simpa using G
     . intro j Z h2;have:=J (j+1) (by omega);simpa[List.getD,Z,h2] using this
    rw[e];simp at m;omega
   | succ i =>
    have:=ih M i V.tail H.tail (by simpa using G) (λj hj=>by simpa using J (j+1) (by omega)) (by simpa using m);omega
theorem wz(hl:L.length=M.length)(he:∀j,L.getD j 0=M.getD j 0):L=M:=by
 apply List.ext_getElem hl;intro j y m;have:=he j;simpa[List.getD,y,m] using this
def jq(x y:Int):Int:=if x<y then -1 else if y<x then 1 else 0
theorem DV(h:(qL m).length≠(qL n).length):jq ((qL m).length:Int) ((qL n).length:Int)=jq (m:Int) (n:Int):=by
 unfold jq;by_cases y:(qL m).length<(qL n).length
 . have:=ki y;rw[if_pos (by omega),if_pos (by omega)]
 . have:=ki (show(qL n).length<(qL m).length by omega);rw[if_neg (by omega),if_pos (by omega),if_neg (by omega),if_pos (by omega)]
theorem Bs(hL:Ok L)(hM:Ok M)(hl:L.length=M.length)(he:∀j,i<j->L.getD j 0=M.getD j 0)(hne:L.getD i 0≠M.getD i 0):jq (L.getD i 0) (M.getD i 0)=jq (val L:Int) (val M:Int):=by
 unfold jq;by_cases m:L.getD i 0<M.getD i 0
 . have:=KE L M i hL hM hl he m;rw[if_pos m,if_pos (by omega)]
 . have:=KE M L i hM hL hl.symm (λj y=>(he j y).symm) (by omega);rw[if_neg m,if_pos (by omega),if_neg (by omega),if_pos (by omega)]
theorem KG(x:Int):jq x x=0:=by unfold jq;rw[if_neg (by omega),if_neg (by omega)]
theorem xq(h:Ok xs):qL (val xs)=xs.take (qL (val xs)).length:=by
 induction xs with
 | nil=>rw[val,zh];rfl
 | cons x xs ih =>
  by_cases m:val (x :: xs)=0
  . rw[m,zh];rfl
  . have H:=h.head;have i:=ih h.tail;rw[jx m];rw[val] at m |-;(have G:(x.toNat+4294967296*val xs) % 4294967296=x.toNat:=by omega);(have y:(x.toNat+4294967296*val xs) / 4294967296=val xs:=by omega);rw[G,y,List.length_cons,List.take_succ_cons,<- i];congr 1;omega
theorem zA(h:Ok xs):(qL (val xs)).length<=xs.length:=yE _ _ (xI h)
theorem gV:∀ (D:List Int) (i:Nat) (d:Int),i<D.length->val (D.set i d)+(D.getD i 0).toNat*4294967296 ^ i=val D+d.toNat*4294967296 ^ i:=by
 intro D;induction D with
 | nil=>intro i d hi;simp at hi
 | cons x D ih =>
  intro i d hi;cases i with
  | zero=>simp[val];omega
  | succ i =>
   have h:=ih i d (by simpa using hi);rw[List.set_cons_succ,val,val,List.getD_cons_succ,Nat.pow_succ];(generalize 4294967296 ^ i=P at h |-);(have m:(D.getD i 0).toNat*(P*4294967296)=4294967296*((D.getD i 0).toNat*P):=by rw[Nat.mul_comm P,<- Nat.mul_assoc,Nat.mul_comm _ 4294967296,Nat.mul_assoc]);(have y:d.toNat*(P*4294967296)=4294967296*(d.toNat*P):=by rw[Nat.mul_comm P,<- Nat.mul_assoc,Nat.mul_comm _ 4294967296,Nat.mul_assoc]);rw[m,y];omega
theorem kv(M:List Int)(i:Nat):val (M.take (i+1))=val (M.take i)+(M.getD i 0).toNat*4294967296 ^ i:=by
 by_cases hi:i<M.length
 . rw[List.take_succ_eq_append_getElem hi,wy,List.length_take,Nat.min_eq_left (by omega),show M.getD i 0=M[i] by simp[List.getD,hi],Nat.mul_comm (M[i]).toNat];simp[val]
 . rw[List.take_of_length_le (by omega),List.take_of_length_le (by omega),List.getD,List.getElem?_eq_none (by omega)];simp
theorem Ok.set(h:Ok D)(i:Nat)(h0:0<=d)(h1:d<=4294967295):Ok (D.set i d):=by
 intro y m;rcases List.mem_or_eq_of_mem_set m with m|rfl
 . exact h y m
 . exact⟨h0,h1⟩
structure SubInv (L M D:List Int) (r:Int) (i:Nat):Prop where
 eq:val D+val (M.take i)=val L+r.toNat*4294967296 ^ i
 len:D.length=L.length
 ok:Ok D
 r0:0<=r
 r1:r<=1
theorem SubInv.start(M:List Int)(h:Ok L):SubInv L M L 0 0:=⟨by simp[val],rfl,h,by omega,by omega⟩
theorem SubInv.step{r:Int}(h:SubInv L M D r i)(hM:Ok M)(hi:i<L.length){y:Int}(hx:x=D.getD i 0)(hy:y=M.getD i 0){b:Int}(hb:b=if x<y+r then 1 else 0) :
    SubInv L M (D.set i ((x-y-r) % 4294967296)) b (i+1):=by
 have H:=h.ok.getD i;have J:=hM.getD i;have r0:=h.r0;have r1:=h.r1;rw[<- hx] at H;rw[<- hy] at J;have Z:=gV D i ((x-y-r) % 4294967296) (by rw[h.len];exact hi);have V:=kv M i;have he:=h.eq;rw[<- hx] at Z;rw[<- hy] at V;have m:0<=b/\b<=1:=by rw[hb];split<;>omega
 have hk:((x-y-r) % 4294967296).toNat+y.toNat+r.toNat=x.toNat+b.toNat*4294967296:=by
  rw[hb];split<;>omega
 refine⟨?_,by simpa using h.len,h.ok.set i (by omega) (by omega),m.1,m.2⟩;rw[V,Nat.pow_succ];generalize 4294967296 ^ i=P at Z he |-
 have G:=congrArg (· * P) hk;simp only[Nat.add_mul] at G;have e:b.toNat*(P*4294967296)=b.toNat*4294967296*P:=by rw[Nat.mul_comm P,Nat.mul_assoc]
 rw[e];omega
theorem SubInv.more{r:Int}(h:SubInv L M D r i)(hM:M.length<=i)(hle:val M<=val L)(hi:i<=L.length)(hr:r≠0):i<L.length:=by
 have m:=h.eq;have r0:=h.r0;have r1:=h.r1;rw[List.take_of_length_le hM] at m;rcases Nat.lt_or_ge i L.length with h1|h1
 . exact h1
 . (have:i=L.length:=by omega);subst this;have y:=xI h.ok;rw[h.len] at y;(have:r.toNat=1:=by omega);rw[this] at m;omega
theorem SubInv.done(h:SubInv L M D 0 i)(hM:M.length<=i):val D=val L-val M:=by
 have m:=h.eq;rw[List.take_of_length_le hM] at m;simp at m;omega
structure DivInv (L D:List Int) (W r:Nat) (j:Nat):Prop where
 eq:val (D.drop j)*W+r=val (L.drop j)
 low:∀i,i<j->D.getD i 0=L.getD i 0
 len:D.length=L.length
 ok:Ok D
 lt:r<W
theorem DivInv.start(h:Ok L)(hW:0<W)(hn:L.length<=n):DivInv L L W 0 n:=⟨by rw[List.drop_of_length_le hn];simp[val],λ_ _=>rfl,rfl,h,hW⟩
theorem Ja(hi:i<D.length)(q:Int):(D.set i q).drop i=q :: D.drop (i+1):=by
 rw[List.drop_eq_getElem_cons (by simpa using hi),List.drop_set_of_lt (by omega)];simp
theorem Ww(hi:i<D.length):D.drop i=D.getD i 0 :: D.drop (i+1):=by
 rw[List.drop_eq_getElem_cons hi];simp[List.getD,hi]
theorem DivInv.step{r j:Nat}(h:DivInv L D W r j)(hj:0<j)(hjl:j<=L.length)(hx:x=D.getD (j-1) 0)(hW:W<=4294967295) :
    DivInv L (D.set (j-1) (((r:Int)*4294967296+x) / (W:Int))) W (((r:Int)*4294967296+x) % (W:Int)).toNat (j-1):=by
 obtain⟨i,rfl⟩:∃i,j=i+1:=⟨j-1,by omega⟩;simp only[Nat.add_sub_cancel] at hx |-;have m:=h.ok.getD i;rw[<- hx] at m;have J:=h.eq;have a0:=h.lt;have G:L.getD i 0=x:=by rw[hx];exact(h.low i (by omega)).symm
 obtain⟨X,rfl⟩:=Int.eq_ofNat_of_zero_le m.1;have Z:((r:Int)*4294967296+(X:Int)) / (W:Int)=((r*4294967296+X) / W:Nat):=by simp
 have H:((r:Int)*4294967296+(X:Int)) % (W:Int)=((r*4294967296+X) % W:Nat):=by simp
 rw[Z,H,Int.toNat_natCast];have hq:(r*4294967296+X) / W<4294967296:=by
  rw[Nat.div_lt_iff_lt_mul (by omega)];have h5:=Nat.mul_le_mul_right 4294967296 (show r+1<=W by omega);omega
 have V:=Nat.div_add_mod (r*4294967296+X) W;have y:=Nat.mod_lt (r*4294967296+X) (show 0<W by omega);generalize (r*4294967296+X) / W=q at *
 generalize (r*4294967296+X) % W=r2 at *
 refine⟨?_,λt ht=>?_,by simpa using h.len,h.ok.set i (by omega) (by omega),y⟩
 . rw[Ja (by rw[h.len];omega),Ww (D:=L) (by omega),val,val,G,<- J,Nat.add_mul,Nat.mul_comm _ W];simp only[Int.toNat_natCast];rw[Nat.mul_assoc,Nat.mul_add];omega
 . rw[<- h.low t (by omega)];simp[List.getD,show i≠t by omega]
theorem DivInv.done{r:Nat}(h:DivInv L D W r 0):val D=val L / W/\r=val L % W:=by
 have y:=h.eq;have m:=h.lt;simp only[List.drop_zero] at y;rw[<- y];constructor
 . rw[Nat.mul_comm,Nat.mul_add_div (by omega),Nat.div_eq_of_lt m];omega
 . rw[Nat.mul_comm,Nat.mul_add_mod,Nat.mod_eq_of_lt m]
theorem XK{k:Nat}(h:4294967296 ^ k<=m):k<(qL m).length:=by
 have G:=xI (ve m);rw[qP] at G;have y:4294967296 ^ k<4294967296 ^ (qL m).length:=by omega
 exact(Nat.pow_lt_pow_iff_right (by omega)).1 y
theorem xJ{a b:Nat}(h:a<=b):(qL a).length<=(qL b).length:=by
 rcases Nat.lt_or_ge (qL b).length (qL a).length with h1|h1
 . have:=ki h1;omega
 . exact h1
theorem ZI{ys:List Int}(h:Ok ys)(hl:ys.length<=(qL (val ys)).length):qL (val ys)=ys:=by
 rw[xq h,List.take_of_length_le hl]
theorem Jb(h:i<D.length):(D.set i d).getD i 0=d:=by simp[List.getD,h]
theorem vf{j:Nat}(h:i≠j):(D.set i d).getD j 0=D.getD j 0:=by simp[List.getD,h]
end Go.Proofs.YtkefajjcpcoajaaGreatDoor.Q.NatMath
/-
  Plain mathematics for Add and Mul. No program,no world.
-/
namespace Go.Proofs.YtkefajjcpcoajaaGreatDoor.Q.NatMath
variable {L M D:List Int}{i cy:Nat}
structure AddInv (L M D:List Int) (c:Int) (i:Nat):Prop where
 eq:val D+c.toNat*4294967296 ^ i=val L+val (M.take i)
 len:D.length=L.length+1
 ok:Ok D
 c0:0<=c
 c1:c<=1
theorem AddInv.start(M:List Int)(h:Ok L):AddInv L M (L++[0]) 0 0:=⟨by simp[val,wy],by simp,h.append (Ok.cons (by omega) (by omega) Ok.nil),by omega,by omega⟩
theorem AddInv.step{c:Int}(h:AddInv L M D c i)(hM:Ok M)(hi:i<L.length+1){x y:Int}(hx:x=D.getD i 0)(hy:y=M.getD i 0) :
    AddInv L M (D.set i ((x+y+c) % 4294967296)) ((x+y+c) / 4294967296) (i+1):=by
 have G:=h.ok.getD i;have H:=hM.getD i;have c0:=h.c0;have c1:=h.c1;rw[<- hx] at G;rw[<- hy] at H;have V:=gV D i ((x+y+c) % 4294967296) (by rw[h.len];exact hi);have J:=kv M i;have he:=h.eq;rw[<- hx] at V;rw[<- hy] at J;have Z:((x+y+c) % 4294967296).toNat+((x+y+c) / 4294967296).toNat*4294967296=x.toNat+y.toNat+c.toNat:=by omega
 refine⟨?_,by simpa using h.len,h.ok.set i (by omega) (by omega),by omega,by omega⟩;rw[J,Nat.pow_succ];generalize 4294967296 ^ i=P at V he |-
 generalize ((x+y+c) / 4294967296).toNat=b at Z |-
 have m:=congrArg (· * P) Z;simp only[Nat.add_mul] at m;have e:b*(P*4294967296)=b*4294967296*P:=by rw[Nat.mul_comm P,Nat.mul_assoc]
 rw[e];omega
theorem AddInv.more{c:Int}(h:AddInv L M D c i)(hL:Ok L)(hM:Ok M)(hlen:M.length<=L.length)(hi:i<=L.length+1)(hc:c≠0):i<L.length+1:=by
 have m:=h.eq;have c0:=h.c0;have c1:=h.c1;rcases Nat.lt_or_ge i (L.length+1) with h1|h1
 . exact h1
 . (have:i=L.length+1:=by omega);subst this;have H:=xI hL;have G:=xI hM;have y:4294967296 ^ M.length<=4294967296 ^ L.length:=Nat.pow_le_pow_right (by omega) hlen;rw[List.take_of_length_le (by omega),Nat.pow_succ] at m;(have:c.toNat=1:=by omega);rw[this] at m;omega
theorem AddInv.done(h:AddInv L M D 0 i)(hM:M.length<=i):val D=val L+val M:=by
 have m:=h.eq;rw[List.take_of_length_le hM] at m;simpa using m
structure OutInv (L M D:List Int) (i:Nat):Prop where
 eq:val D=val (L.take i)*val M
 zero:∀t,i+M.length<=t->D.getD t 0=0
 len:D.length=L.length+M.length
 ok:Ok D
structure InInv (L M D:List Int) (x:Nat) (i cy j:Nat):Prop where
 eq:val D+cy*4294967296 ^ (i+j)=val (L.take i)*val M+x*val (M.take j)*4294967296 ^ i
 zero:∀t,i+M.length<=t->D.getD t 0=0
 len:D.length=L.length+M.length
 ok:Ok D
 cy1:cy<=4294967295
theorem Ok.zeros(n:Nat):Ok (List.replicate n 0):=by
 intro y m;have:=List.eq_of_mem_replicate m;omega
theorem OutInv.start(L M:List Int):OutInv L M (List.replicate (L.length+M.length) 0) 0:=by
 refine⟨by simp[val,QM],λt _=>?_,by simp,Ok.zeros _⟩;rw[List.getD,List.getElem?_replicate];split<;>rfl
theorem InInv.start(h:OutInv L M D i)(x:Nat):InInv L M D x i 0 0:=⟨by rw[h.eq];simp[val],h.zero,h.len,h.ok,by omega⟩
theorem Zd{X Y p:Nat}(hX:X<=4294967295)(hY:Y<=4294967295)(hp:p<=4294967295)(hc:cy<=4294967295):X*Y<=18446744065119617025/\(X*Y+p+cy) / 4294967296<=4294967295:=by
 have m:=Nat.mul_le_mul hX hY;constructor<;>omega
theorem InInv.step{x j:Nat}(h:InInv L M D x i cy j)(hi:i<L.length)(hj:j<M.length)(hx:x<=4294967295)(hM:Ok M){p y:Nat}(hp:(p:Int)=D.getD (i+j) 0)(hy:(y:Int)=M.getD j 0) :
    InInv L M (D.set (i+j) (((x*y+p+cy) % 4294967296:Nat):Int)) x i ((x*y+p+cy) / 4294967296) (j+1):=by
 have H:=h.ok.getD (i+j);have Z:=hM.getD j;rw[<- hp] at H;rw[<- hy] at Z;have hb:=Zd hx (show y<=4294967295 by omega) (show p<=4294967295 by omega) h.cy1;refine⟨?_,λt G=>?_,by simpa using h.len,h.ok.set _ (by omega) (by omega),hb.2⟩
 . have J:=gV D (i+j) (((x*y+p+cy) % 4294967296:Nat):Int) (by rw[h.len];omega);have G:=kv M j;have he:=h.eq;rw[<- hp,Int.toNat_natCast,Int.toNat_natCast] at J;rw[<- hy,Int.toNat_natCast] at G;rw[G,show i+(j+1)=i+j+1 by omega,Nat.pow_succ];rw[Nat.pow_add] at J he |-;(generalize 4294967296 ^ i=P at *);(generalize 4294967296 ^ j=R at *);have m:=Nat.div_add_mod (x*y+p+cy) 4294967296;(generalize (x*y+p+cy) / 4294967296=q at m |-);(generalize (x*y+p+cy) % 4294967296=r at m J |-);(generalize val (L.take i)*val M=A at he |-);(generalize val (M.take j)=V at he |-);(generalize D.set (i+j) (r:Int)=D' at *);have h2:=congrArg (· * (P*R)) m;simp only[Nat.add_mul] at h2;have e1:q*(P*R*4294967296)=4294967296*q*(P*R):=by
    rw[<- Nat.mul_assoc,Nat.mul_comm (q*(P*R)) 4294967296,Nat.mul_assoc]
   have e2:x*(V+y*R)*P=x*V*P+x*y*(P*R):=by
    rw[Nat.mul_add,Nat.add_mul];congr 1;rw[<- Nat.mul_assoc x y R,Nat.mul_assoc (x*y) R P,Nat.mul_comm R P]
   rw[e1,e2];omega
 . rw[vf (by omega)];exact h.zero t G
theorem InInv.done{x:Nat}(h:InInv L M D x i cy M.length)(hi:i<L.length)(hx:(x:Int)=L.getD i 0):OutInv L M (D.set (i+M.length) (cy:Int)) (i+1):=by
 have J:=h.cy1;have y:=h.zero (i+M.length) (Nat.le_refl _);have m:=gV D (i+M.length) (cy:Int) (by rw[h.len];omega);have G:=h.eq;rw[y,Int.toNat_natCast] at m;rw[List.take_of_length_le (Nat.le_refl _)] at G;refine⟨?_,λt H=>?_,by simpa using h.len,h.ok.set _ (by omega) (by omega)⟩
 . rw[kv L i,<- hx,Int.toNat_natCast,Nat.add_mul];(have e:x*4294967296 ^ i*val M=x*val M*4294967296 ^ i:=by rw[Nat.mul_assoc,Nat.mul_comm (4294967296 ^ i),<- Nat.mul_assoc]);rw[e];simp at m;omega
 . rw[vf (by omega)];exact h.zero t (by omega)
theorem OutInv.done(h:OutInv L M D L.length):val D=val L*val M:=by
 have:=h.eq
 rwa [List.take_of_length_le (Nat.le_refl _)] at this
end Go.Proofs.YtkefajjcpcoajaaGreatDoor.Q.NatMath
/-
  Numbers in binary,the least significant bit first. No program,no world.
-/
namespace Go.Proofs.YtkefajjcpcoajaaGreatDoor.Q.NatMath
def b2n(b:Bool):Nat:=if b then 1 else 0
theorem XL(b:Bool):b2n b<=1:=by cases b<;>decide
def qi:List Bool->Nat
  | []=>0
  | b :: bs=>b2n b+2*qi bs
def qZ(n:Nat):List Bool:=if h:n=0 then [] else decide (n % 2=1) :: qZ (n / 2)
termination_by n
decreasing_by omega
theorem jJ:qZ 0=[]:=by rw[qZ];simp
theorem xS{n:Nat}(h:n≠0):qZ n=decide (n % 2=1) :: qZ (n / 2):=by rw[qZ];simp[h]
theorem qx(n:Nat):qi (qZ n)=n:=by
 induction n using Nat.strongRecOn with
 | ind n ih =>
  by_cases h:n=0
  . subst h;rw[jJ];rfl
  . rw[xS h,qi,ih _ (by omega),b2n];by_cases m:n % 2=1
    . rw[if_pos (by simpa using m)];omega
    . rw[if_neg (by simpa using m)];omega
theorem kf(xs ys:List Bool):qi (xs++ys)=qi xs+2 ^ xs.length*qi ys:=by
 induction xs with
 | nil=>simp[qi]
 | cons x xs ih=>rw[List.cons_append,qi,qi,ih,List.length_cons,Nat.pow_succ,Nat.mul_add,<- Nat.mul_assoc,Nat.mul_comm 2 (2 ^ xs.length),Nat.add_assoc]
theorem xT(xs:List Bool):qi xs<2 ^ xs.length:=by
 induction xs with
 | nil=>simp[qi]
 | cons x xs ih =>
  have:=XL x;rw[qi,List.length_cons,Nat.pow_succ];omega
theorem Qp(n:Nat):qi (List.replicate n false)=0:=by
 induction n with
 | zero=>rfl
 | succ n ih=>rw[List.replicate_succ,qi,ih];rfl
theorem za(n k:Nat)(h:n<2 ^ k):(qZ n).length<=k:=by
 induction k generalizing n with
 | zero =>
  have:n=0:=by simpa using h
  subst this;rw[jJ];simp
 | succ k ih =>
  by_cases m:n=0
  . subst m;rw[jJ];simp
  . rw[xS m,List.length_cons];have:=ih (n / 2) (by rw[Nat.pow_succ] at h;omega);omega
theorem gW{m k:Nat}(h:2 ^ k<=m):k<(qZ m).length:=by
 have G:=xT (qZ m);rw[qx] at G;have y:2 ^ k<2 ^ (qZ m).length:=by omega
 exact(Nat.pow_lt_pow_iff_right (by omega)).1 y
theorem Yk(xs:List Bool):qZ (qi xs)=xs.take (qZ (qi xs)).length:=by
 induction xs with
 | nil=>rw[qi,jJ];rfl
 | cons x xs ih =>
  by_cases m:qi (x :: xs)=0
  . rw[m,jJ];rfl
  . rw[xS m];rw[qi] at m |-;have H:=XL x;(have G:(b2n x+2*qi xs) / 2=qi xs:=by omega);(have y:(b2n x+2*qi xs) % 2=b2n x:=by omega);rw[G,y,List.length_cons,List.take_succ_cons,<- ih];congr 1;cases x<;>decide
theorem QN(xs:List Bool):(qZ (qi xs)).length<=xs.length:=za _ _ (xT xs)
theorem ZJ{ys:List Bool}(hl:ys.length<=(qZ (qi ys)).length):qZ (qi ys)=ys:=by
 rw[Yk ys,List.take_of_length_le hl]
theorem gA{m n:Nat}(h:(qZ m).length<(qZ n).length):m<n:=by
 have y:=xT (qZ m);rw[qx] at y;by_cases G:n<2 ^ (qZ m).length
 . have:=za n _ G;omega
 . omega
theorem Jc{xs:List Bool}(n:Nat)(hn:n<=xs.length)(hz:∀i,n<=i->xs.getD i false=false)(hl:n=0\/xs.getD (n-1) false=true):qZ (qi xs)=xs.take n:=by
 have e:xs=xs.take n++List.replicate (xs.length-n) false:=by
  apply List.ext_getElem
  . simp;omega
  . intro i G V;by_cases hi:i<n
    . rw[List.getElem_append_left (by simp;omega)];simp
    . rw[List.getElem_append_right (by simp;omega)];have:=hz i (by omega);rw[List.getD,List.getElem?_eq_getElem G] at this;simpa using this
 have J:qi xs=qi (xs.take n):=by
  rw[e,kf,Qp];simp[Nat.min_eq_left hn]
 rw[J];refine ZJ ?_;rcases hl with h0|h0
 . subst h0;simp
 . have H:n≠0:=by
    intro h;subst h;have:=hz 0 (Nat.le_refl _);simp at h0;rw[List.getD] at this;simp[h0] at this
   (have y:(xs.take n).length=n:=by simp;omega);rw[y];have m:xs.take n=xs.take (n-1)++[true]:=by
    (have G:n-1<xs.length:=by omega);have:=List.take_succ_eq_append_getElem G;rw[show n-1+1=n by omega] at this;rw[this];congr 2;rw[List.getD,List.getElem?_eq_getElem G] at h0;simpa using h0
   have:2 ^ (n-1)<=qi (xs.take n):=by
    rw[m,kf];simp[qi,b2n,Nat.min_eq_left (show n-1<=xs.length by omega)]
   have:=gW this;omega
theorem zq(M:List Bool)(i:Nat):qi (M.take (i+1))=qi (M.take i)+b2n (M.getD i false)*2 ^ i:=by
 by_cases hi:i<M.length
 . rw[List.take_succ_eq_append_getElem hi,kf,List.length_take,Nat.min_eq_left (by omega),show M.getD i false=M[i] by simp[List.getD,hi],Nat.mul_comm (b2n M[i])];simp[qi]
 . rw[List.take_of_length_le (by omega),List.take_of_length_le (by omega),List.getD,List.getElem?_eq_none (by omega)];simp[b2n]
def vQ(v k:Nat):List Bool:=(List.range k).map λt=>v.testBit t
theorem VW(v:Nat):vQ v 0=[]:=rfl
theorem Qq(v k:Nat):vQ v (k+1)=vQ v k++[v.testBit k]:=by simp[vQ,List.range_succ]
theorem Jd(v k:Nat):(vQ v k).length=k:=by simp[vQ]
theorem VX(v k:Nat):qi (vQ v k)=v % 2 ^ k:=by
 induction k with
 | zero=>simp[VW,qi,Nat.mod_one]
 | succ k ih =>
  rw[Qq,kf,ih,Jd];simp only[qi,Nat.mul_zero,Nat.add_zero];rw[Nat.pow_succ,Nat.mod_mul,Nat.testBit_eq_decide_div_mod_eq];congr 2;have:=Nat.mod_lt (v / 2 ^ k) (show 2 > 0 by omega);unfold b2n;by_cases h:v / 2 ^ k % 2=1
  . simp[h]
  . (have m:v / 2 ^ k % 2=0:=by omega);simp[m]
theorem VY{D:List Int}(h:Ok D):∀t,((D.getD t 0).toNat)=val D / 4294967296 ^ t % 4294967296:=by
 induction D with
 | nil=>intro t;simp[val]
 | cons x D ih =>
  intro t;have m:=h.head;cases t with
  | zero=>rw[val];simp;omega
  | succ t =>
   rw[List.getD_cons_succ,ih h.tail,val,Nat.pow_succ,Nat.mul_comm (4294967296 ^ t),<- Nat.div_div_eq_div_mul];congr 2;omega
theorem DW{D:List Int}(h:Ok D)(i k:Nat)(hk:k<32):(D.getD i 0).toNat / 2 ^ k % 2=val D / 2 ^ (32*i+k) % 2:=by
 rw[VY h,Nat.pow_add,Nat.pow_mul,show(2 ^ 32:Nat)=4294967296 by decide,<- Nat.div_div_eq_div_mul];generalize val D / 4294967296 ^ i=m
 have e:m % 4294967296 / 2 ^ k % 2=m / 2 ^ k % 2:=by
  have G:(4294967296:Nat)=2 ^ k*2 ^ (32-k):=by rw[<- Nat.pow_add,show k+(32-k)=32 by omega]
  rw[G,Nat.mod_mul_right_div_self];have y:2 ∣ 2 ^ (32-k):=⟨2 ^ (32-k-1),by rw[<- Nat.pow_succ',show(32-k-1).succ=32-k by omega]⟩;exact Nat.mod_mod_of_dvd _ y
 exact e
end Go.Proofs.YtkefajjcpcoajaaGreatDoor.Q.NatMath
/-
  Plain mathematics for division by several qL: the estimate of a Zh,a step,and the whole. No program,no world.
-/
namespace Go.Proofs.YtkefajjcpcoajaaGreatDoor.Q.NatMath
end Go.Proofs.YtkefajjcpcoajaaGreatDoor.Q.NatMath
/-
  Plain mathematics for shifting numbers by less than a limb,and for the places of a long division. No program,no world.
-/
namespace Go.Proofs.YtkefajjcpcoajaaGreatDoor.Q.NatMath
end Go.Proofs.YtkefajjcpcoajaaGreatDoor.Q.NatMath
namespace Go.Proofs.YtkefajjcpcoajaaGreatDoor.Q
open Go.RowKit
variable {k:IntKind}{w:World}{ao:Option Addr}{n c i:Nat}{xs:List Int}
def pt(ao:Option Addr)(i:Nat):Addr:=(ao.getD ⟨0,0,none⟩).add i
structure Lst (k:IntKind) (w:World) (ao:Option Addr) (n c:Nat) (xs:List Int):Prop where
 len:xs.length=n
 cap:n<=c
 room:c<=9223372036854775807
 isSome:0<n->∃a,ao=some a
 cell:∀i,i<n->w.cell? (pt ao i)=some (.int k (xs.getD i 0))
 wf:∀x∈xs,(Lit.int k x).wf=true
theorem Lst.block(h:Lst k w ao n c xs)(i:Nat)(hi:i<n):(pt ao i).block<w.heap.size :=
 World.block_lt_of_cell? w _ (h.cell i hi)
theorem Lst.below{w':World}(h:Lst k w ao n c xs)(hb:Below w.heap.size w w'):Lst k w' ao n c xs :=
 ⟨h.len,h.cap,h.room,h.isSome,λi hi=>(hb.cell (h.block i hi)).trans (h.cell i hi),h.wf⟩
theorem Lst.ok(h:Lst .u32 w ao n c xs):NatMath.Ok xs:=by
 intro x m;have:=h.wf x m;simpa[Lit.wf,IntKind.min,IntKind.max,IntKind.signed,IntKind.bits] using this
theorem xL{x:Int}(h0:0<=x)(h1:x<=4294967295):(Lit.int .u32 x).wf=true:=by
 simp[Lit.wf,IntKind.min,IntKind.max,IntKind.signed,IntKind.bits,h0,h1]
theorem Lst.take(h:Lst k w ao n c xs){m:Nat}(hm:m<=n):Lst k w ao m c (xs.take m):=by
 have J:=h.len;have H:=h.cap;refine⟨by simp;omega,by omega,h.room,λG=>h.isSome (by omega),λi hi=>?_,λx y=>h.wf x (List.mem_of_mem_take y)⟩;rw[h.cell i (by omega)];simp[List.getD,hi]
theorem Lst.nil(k:IntKind)(w:World):Lst k w none 0 0 [] :=
 ⟨rfl,Nat.le_refl _,by omega,λh=>absurd h (by omega),λi hi=>absurd hi (by omega),λx hx=>by cases hx⟩
theorem Lst.at(h:Lst .u32 w ao n c xs)(i:Nat)(hi:i<n) :
    ∃x:Int,Hid (x=xs.getD i 0)/\0<=x/\x<=4294967295/\w.cell? (pt ao i)=some (.int .u32 x) :=
 ⟨_,rfl,(h.ok.getD i).1,(h.ok.getD i).2,h.cell i hi⟩
theorem Lst.drewN(h:Lst k w ao n c xs)(q:Nat):Lst k (w.drewN q) ao n c xs:=⟨h.len,h.cap,h.room,h.isSome,h.cell,h.wf⟩
def Head(ao:Option Addr)(c:Nat)(ao':Option Addr)(n' c':Nat):Prop:=(ao'=none/\n'=0/\c'=0)\/(ao'=ao/\c'=c)
def Own(e:TypeId)(k:IntKind)(B:Nat)(w:World)(ao:Option Addr)(n c:Nat)(xs:List Int):Prop :=
 w.ownsRow B e 1 (.slice ao n c) n (xs.map (Value.int k))/\∀x∈xs,(Lit.int k x).wf=true
section
variable {e : TypeId} {k : IntKind} {B : Nat} {w w' : World} {ao : Option Addr} {n c : Nat} {xs : List Int}
theorem Own.len(h:Own e k B w ao n c xs):xs.length=n:=by simpa using h.1.1
theorem Own.cases(h:Own e k B w ao n c xs):(ao=none/\n=0/\c=0/\xs=[])\/∃g,ao=some ⟨g,0,none⟩/\B<=g/\g<w.heap.size/\n<=c/\c<=maxLen:=by
 have m:=h.len;rcases h.1.2 with ⟨hv,hn⟩|⟨g,cap,cur,hv,hg,hh,hn,hc,_⟩
 . injection hv with h1 h2 h3;exact Or.inl ⟨h1,hn,h3,List.eq_nil_of_length_eq_zero (by omega)⟩
 . injection hv with h1 h2 h3;subst h3;exact Or.inr ⟨g,h1,hg,(Array.getElem?_eq_some_iff.1 hh).1,hn,hc⟩
theorem Own.lst(h:Own e k B w ao n c xs):Lst k w ao n c xs:=by
 have m:=h.len;rcases h.cases with ⟨rfl,rfl,rfl,rfl⟩|⟨g,rfl,hg,hgs,hn,hc⟩
 . exact Lst.nil _ _
 . refine⟨m,hn,by simpa[maxLen] using hc,λ_=>⟨_,rfl⟩,λi hi=>?_,h.2⟩;have e:pt (some ⟨g,0,none⟩) i=⟨g,i,none⟩:=by
    simp only[pt,Option.getD_some];unfold Addr.add;split<;>simp_all
   rw[e,h.1.cellAt i (by omega)];simp[List.getD,show i<xs.length by omega]
theorem Own.kept(h:Own e k B w ao n c xs)(hb:Below w.heap.size w w'):Own e k B w' ao n c xs :=
 ⟨h.1.kept (row:=none) ⟨hb.os,hb.tape,hb.output,hb.size,λj hj _=>hb.block j hj⟩ (by cases (Value.slice ao n c).ownBlock<;>simp),h.2⟩
theorem Own.drewN(h:Own e k B w ao n c xs)(q:Nat):Own e k B (w.drewN q) ao n c xs:=h
theorem Own.head{ao':Option Addr}{n' c':Nat}(h:Own e k B w ao n c xs)(hh:Head ao c ao' n' c')(hn:n'<=n):Own e k B w ao' n' c' (xs.take n'):=by
 refine⟨?_,λx m=>h.2 x (List.mem_of_mem_take m)⟩;rcases hh with ⟨rfl,rfl,rfl⟩|⟨rfl,rfl⟩
 . simpa using World.ownsRow_nil w B e 1
 . have y:=h.len;refine⟨by simp;omega,?_⟩;rcases h.1.2 with ⟨hv,h0⟩|⟨g,cap,cur,hv,hg,hhp,hn1,hc,hsz,ht⟩
   . injection hv with h1 h2 h3;subst h1;subst h3;exact Or.inl ⟨by rw[show n'=0 by omega],by omega⟩
   . injection hv with h1 h2 h3;subst h1;subst h3;refine Or.inr ⟨g,c',cur,rfl,hg,hhp,by omega,hc,hsz,?_⟩;rw[List.map_take,<- ht,List.take_take];congr 1;omega
end
theorem jm(g i:Nat):pt (some ⟨g,0,none⟩) i=⟨g,i,none⟩:=by
 simp only[pt,Option.getD_some];unfold Addr.add;split<;>simp_all
section
variable {e : TypeId} {k : IntKind} {B : Nat} {w w' : World} {ao : Option Addr} {n c : Nat} {xs : List Int}
def blk(ao:Option Addr):Nat:=(pt ao 0).block
theorem Own.spot(h:Own e k B w ao n c xs)(hi:i<n):∃g,ao=some ⟨g,0,none⟩/\pt ao i=⟨g,i,none⟩/\B<=g/\g<w.heap.size:=by
 rcases h.cases with ⟨rfl,rfl,rfl,rfl⟩|⟨g,rfl,hg,hgs,hn,hc⟩
 . omega
 . exact⟨g,rfl,jm g i,hg,hgs⟩
theorem Own.frozen(h:Own e k B w ao n c xs)(hi:i<n):w.frozen? (pt ao i)=false:=by
 obtain⟨g,rfl,m,_⟩:=h.spot hi;rw[m];exact h.1.frozenAt i
theorem Own.base(h:Own e k B w ao n c xs)(hi:i<n):B<=(pt ao i).block:=by
 obtain⟨g,rfl,m,y,_⟩:=h.spot hi;rw[m];exact y
theorem Own.set(h:Own e k B w ao n c xs)(hi:i<n){d:Int}(hd:(Lit.int k d).wf=true):Own e k B (w.setCell (pt ao i) (.int k d)) ao n c (xs.set i d):=by
 obtain⟨g,rfl,y,G,_⟩:=h.spot hi;rw[y];refine⟨?_,λx m=>?_⟩
 . have:=(h.1.stored i (.int k d)).1;rw[List.map_set];exact this
 . rcases List.mem_or_eq_of_mem_set m with m|rfl
   . exact h.2 x m
   . exact hd
theorem Own.setOnly(h:Own e k B w ao n c xs)(hi:i<n)(u:Value):w.grownBy (w.setCell (pt ao i) u) (Value.slice ao n c).ownBlock:=by
 obtain⟨g,rfl,m,y,_⟩:=h.spot hi;rw[m];exact(h.1.stored i u).2
theorem Lst.stored{k':IntKind}{bo:Option Addr}{m d:Nat}{ys:List Int}(h:Lst k' w bo m d ys)(hlow:∀i,i<m->(pt bo i).block<B){p:Addr}(hp:B<=p.block)(u:Value):Lst k' (w.setCell p u) bo m d ys :=
 ⟨h.len,h.cap,h.room,h.isSome,λi hi=>by
  rw[World.cell?_setCell_other w p (pt bo i) u (λe=>by have:=hlow i hi;rw[<- e] at this;omega)];exact h.cell i hi,h.wf⟩
end
theorem Lst.head{ao':Option Addr}{n' c':Nat}(h:Lst k w ao n c xs)(hh:Head ao c ao' n' c')(hn:n'<=n):Lst k w ao' n' c' (xs.take n'):=by
 rcases hh with ⟨rfl,rfl,rfl⟩|⟨rfl,rfl⟩
 . simpa using Lst.nil k w
 . exact h.take hn
theorem QO{P:Program}{t e:TypeId}(ht:P.underlying t=some (.slice e))(he:(P.info? e).map (·.size)=some 1)(h:Lst k w ao n c xs)(i:Nat)(hi:i<n)(W:World) :
    (Instr.indexAt t (.slice ao n c) (.int .i64 (i:Int))).run P W=.ok (.pointer (some (pt ao i))) W:=by
 obtain⟨a,rfl⟩:=h.isSome (by omega);obtain⟨y,m,G⟩:=Option.map_eq_some_iff.1 he;have H:(0:Int)<=(i:Int)/\(i:Int)<(n:Int):=by omega
 simp[Instr.indexAt,run_underlying ht,asIntOf,sizeOf,typeInfo,m,G,pt,hi]
theorem dd(w:World)(a b:Nat):∃q,w.drewN q=(w.drewN a).drewN b:=⟨a+b,(World.drewN_drewN w a b).symm⟩
theorem ddd(w:World)(a b c:Nat):∃q,w.drewN q=((w.drewN a).drewN b).drewN c:=⟨a+b+c,by rw[World.drewN_drewN,World.drewN_drewN,Nat.add_assoc]⟩
theorem VZ{P:Program}{f:FuncId}{args:Array Value}{a:Nat}{v:Value}
    (h:Calls P f args (w.drewN (a+n)) λe w'=>e=.returned v/\w.drewN (a+n)=w') :
    Calls P f args (w.drewN (a+n)) λe w''=>e=.returned v/\∃m,w''=w.drewN (a+m) :=
 h.mono λ_ _ ⟨he,hm⟩=>⟨he,n,hm.symm⟩
theorem qC{a b d:World}{row:Option Nat}(h:a.grownBy b row)(k:b.grownBy d row):a.grownBy d row :=
 ⟨k.os.trans h.os,k.tape.trans h.tape,k.output.trans h.output,Nat.le_trans h.size k.size,λi hi hne=>(k.block i (Nat.lt_of_lt_of_le hi h.size) hne).trans (h.block i hi hne)⟩
theorem ZK{a:World}{row:Option Nat}{p:Addr}{u:Value}(h:a.grownBy (w.setCell p u) row)(q:Nat):a.grownBy ((w.drewN q).setCell p u) row:=⟨h.os,h.tape,h.output,h.size,h.block⟩
end Go.Proofs.YtkefajjcpcoajaaGreatDoor.Q
/-
  One stretch of a run after another.
-/
namespace Go.Proofs.YtkefajjcpcoajaaGreatDoor.Q
open Go.RowKit NatMath
theorem XM:(Tryz.prog.info? 144).map (·.size)=some 1:=by kernel_rfl
theorem xC(ao:Option Addr)(n c:Nat)(xs:List Int)(w:World)(h:Lst .u32 w ao n c xs) :
    Calls Tryz.prog 200 #[.slice ao n c] w λe w'=>w=w'/\∃ao' n' c',e=.returned (.slice ao' n' c')/\Lst .u32 w ao' n' c' (qL (val xs))/\Head ao c ao' n' c':=by
 have V:=h.room;have a0:=h.cap;go_in;go_wp2
 go_loop [3] (λi=>∃m:Nat,m<=n/\i=.int .i64 m/\∀j,m<=j->xs.getD j 0=0) (λi=>(intOf i).toNat)
 case atStart=>exact⟨n,Nat.le_refl _,rfl,λj hj=>by simp[List.getD,List.getElem?_eq_none (show xs.length<=j by rw[h.len];omega)]⟩
 case round =>
  obtain⟨m,hm,rfl,y⟩:=hrel;by_cases h0:0<m
  . have a4:∀W,(Instr.indexAt 30 (.slice ao n c) (.int .i64 ((m:Int)-1))).run Tryz.prog W=.ok (.pointer (some (pt ao (m-1)))) W:=λW=>by
     have:=QO (P:=Tryz.prog) Tryz.underlying30 XM h (m-1) (by omega) W
     rwa [show((m-1:Nat):Int)=(m:Int)-1 from by omega] at this
    obtain⟨x,Z,a1,a3,a2⟩:=h.at (m-1) (by omega);have H:=jA y;clear y;by_cases G:x=0
    . subst G;(go_wp2);go_round;case rel=>exact⟨m-1,by omega,by go_num,λj hj=>by
       by_cases e:j=m-1
       . rw[e];exact Z.o.symm
       . exact H.o j (by omega)⟩
      case measure=>simp[intOf];omega
    . (have hb:(x == 0)=false:=by simpa using G);have e:qL (val xs)=xs.take m:=wj h.ok m (by rw[h.len];exact hm) H.o (Or.inr (by rw[<- Z.o];exact G));have J:=jA e;clear e;(go_wp2);go_ret;exact⟨rfl,ao,m,c,rfl,by rw[J.o];exact h.take hm,Or.inr ⟨rfl,rfl⟩⟩
  . (obtain rfl:m=0:=by omega);have e:qL (val xs)=[]:=by
     rw[wj h.ok 0 (Nat.zero_le _) (λj _=>y j (Nat.zero_le _)) (Or.inl rfl)];rfl
    have J:=jA e;clear e;have H:=jA y;clear y;(go_wp2);go_ret;exact⟨rfl,none,0,0,rfl,by rw[J.o];exact Lst.nil _ _,Or.inl ⟨rfl,rfl,rfl⟩⟩
