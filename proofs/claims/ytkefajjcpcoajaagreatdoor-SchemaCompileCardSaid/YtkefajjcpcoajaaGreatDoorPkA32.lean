/- -/
import Derived.Test.YtkefajjcpcoajaaGreatDoorPkA0
import Derived.Test.YtkefajjcpcoajaaGreatDoorPkA19
import Derived.Test.YtkefajjcpcoajaaGreatDoorPkA31
set_option linter.all false
namespace Go.Proofs.YtkefajjcpcoajaaGreatDoor
open Go.RowKit Lx
variable {T:TypeId}{cs:List Value}{w:World}{f':Nat×Int}
section
variable {B : Nat} {K : Option Nat} {v : Value} {w w' : World} {r : RSt} {z : RSl} {L : List Txt}
def yJ(z:RSl)(q:Nat):Prop:=(Value.slice z.s.co z.s.cn z.s.cc).ownBlock≠some q/\(Value.slice z.s.so z.s.sn z.s.sc).ownBlock≠some q/\(Value.slice z.lo z.ln z.lc).ownBlock≠some q/\(Value.slice z.no z.nn z.nc).ownBlock≠some q
theorem RR.boxq{q:Nat}(h:RR B K w r z)(hA:Arr w q T cs)(hT:T∉[9,144])(hs:yJ z q)(hg:w.grownBy w' (some q)):RR B K w' r z:=by
 obtain⟨us,H,Z⟩:=h.conts;obtain⟨ns,J,V⟩:=h.names;simp only[List.mem_cons,List.not_mem_nil,or_false,not_or] at hT;obtain⟨G,t3⟩:=hT;have m:Keeps (qS B [9]) w w':=zD hA (by simpa using G) hg;have y:Keeps (qS B [144]) w w':=zD hA (by simpa using t3) hg;exact⟨Row.keep h.precs (zE _ _ _) (jE m),⟨us,World.ownsRow.kept H hg (Or.inr hs.1),Z.keep (zE _ _ _) (jE m)⟩,World.ownsRow.kept h.stys hg (Or.inr hs.2.1),Row.keep h.num (qE _ _) y,Row.keep h.den (qE _ _) y,World.ownsRow.kept h.seen hg (Or.inr (zI h.seen hA G)),World.ownsRow.kept h.lines hg (Or.inr hs.2.2.1),⟨ns,World.ownsRow.kept J hg (Or.inr hs.2.2.2),V.keep (zE _ _ _) (jE m)⟩⟩
theorem RR.apart{q:Nat}(h:RR B K w r z)(hq:w.heap.size<=q):yJ z q:=by
 obtain⟨us,m,_⟩:=h.conts;obtain⟨ns,y,_⟩:=h.names;exact⟨λe=>by have:=yP m _ e;omega,λe=>by have:=yP h.stys _ e;omega,λe=>by have:=yP h.lines _ e;omega,λe=>by have:=yP y _ e;omega⟩
theorem LR.boxq{q:Nat}(h:LR B v w r z L)(hA:Arr w q T cs)(hT:T∉[9,144])(hs:yJ z q)(hg:w.grownBy w' (some q)):LR B v w' r z L :=
 ⟨h.rr.boxq hA hT hs hg,h.sep,λx hx=>Row.keep (h.more x hx) (zE _ _ _) (jE (zD hA (by simp only[List.mem_cons,List.not_mem_nil,or_false,not_or] at hT;simpa using hT.1) hg))⟩
theorem yl{a b:Nat}{U:TypeId}{ds:List Value}(h:Arr w a T cs)(k:Arr w b U ds)(hne:T≠U):a≠b:=λe=>by
 subst e;have e1:some (Obj.cells cs.toArray T (0,0))=some (Obj.cells ds.toArray U (0,0)):=h.symm.trans k;injection e1 with e1;injection e1 with _ e2 _;exact hne e2
end
theorem JH{B:Nat}{w':World}(hb:Below B w w'):Keeps (ya B) w w':=λk _ h=>hb.block k h
structure BW where
 g:Nat
 p:Nat
 pc:Nat
 pn:Nat
 pl:Nat
 fo:Option Addr
 fn:Nat
 fc:Nat
structure BD where
 f:Nat×Int
 r:RSt
 z:RSl
 ko:Option Addr
 kn:Nat
 kc:Nat
 ks:List (List UInt8)
 X:Hst
 co:Option Addr
 cn:Nat
 cc:Nat
 no:Option Addr
 nn:Nat
 nc:Nat
 mo:Option Addr
 mn:Nat
 mc:Nat
def BD.k(d:BD):Value:=.slice d.ko d.kn d.kc
def BD.L(d:BD):List Txt:=[(d.co,d.cn,d.cc,d.X.c.cands),(d.no,d.nn,d.nc,d.X.n1),(d.mo,d.mn,d.mc,d.X.n2)]
structure BJ (B:Nat) (b:qK) (a:BW) (E:List (Nat×List Value)) (w0 w:World) (d:BD):Prop where
 lr:LR B d.k w d.r d.z d.L
 kn:w.ownsRow B 9 1 d.k d.kn (d.ks.map λv=>.string (stg v))
 c:Arr w a.pc 76 (kC d.X.c d.co d.cn d.cc)
 n:Arr w a.pn 122 [.slice d.no d.nn d.nc,.slice d.mo d.mn d.mc]
 l:Arr w a.pl 123 [.int .i64 d.X.l1,.int .i64 d.X.l2]
 p:Arr w a.p 55 [.string (stg b.kind),.string (stg b.name),.slice a.fo a.fn a.fc,.int .i64 b.line]
 bw:Below B w0 w
 hB:B<=w.heap.size/\B<=a.g/\B<=a.p/\B<=a.pc/\B<=a.pn/\B<=a.pl
 ac:yJ d.z a.pc
 an:yJ d.z a.pn
 al:yJ d.z a.pl
 e:∀x∈E,Arr w x.1 63 x.2
structure BI (B:Nat) (b:qK) (a:BW) (E:List (Nat×List Value)) (w0 w:World) (d:BD):Prop where
 st:St w a.g (rC d.r d.z) d.f
 j:BJ B b a E w0 w d
section
variable {B : Nat} {b : qK} {a : BW} {E : List (Nat × List Value)} {w0 w w' w1 : World} {d : BD}
theorem BI.below(h:BI B b a E w0 w d)(hb:Below w.heap.size w w'):BI B b a E w0 w' d :=
 ⟨h.st.keep hb,h.j.lr.below hb,qQ h.j.kn hb,h.j.c.kept hb,h.j.n.kept hb,h.j.l.kept hb,h.j.p.kept hb,h.j.bw.trans (hb.mono h.j.hB.1),⟨Nat.le_trans h.j.hB.1 hb.size,h.j.hB.2⟩,h.j.ac,h.j.an,h.j.al,λx hx=>(h.j.e x hx).kept hb⟩
theorem BJ.q{q:Nat}(h:BJ B b a E w0 w d)(hA:Arr w q T cs)(hT:T≠9)(hq:B<=q)(hg:w.grownBy w' (some q)) :
    w'.ownsRow B 9 1 d.k d.kn (d.ks.map λv=>.string (stg v))/\Below B w0 w'/\B<=w'.heap.size/\∀ {y:Nat} {U:TypeId} {ds:List Value},Arr w y U ds->U≠T->Arr w' y U ds :=
 ⟨World.ownsRow.kept h.kn hg (Or.inr (zI h.kn hA hT)),h.bw.grown hg h.hB.1 (λk e=>by injection e with e;omega),Nat.le_trans h.hB.1 hg.size,λhy hU=>kl hy hg (yl hy hA hU)⟩
theorem BJ.gr(h:BJ B b a E w0 w d)(hA:Arr w a.g 70 cs)(hg:w.grownBy w' (some a.g)):BJ B b a E w0 w' d:=by
 obtain⟨G,J,y,m⟩:=h.q hA (by decide) h.hB.2.1 hg;exact⟨h.lr.box hA (by decide) hg,G,m h.c (by decide),m h.n (by decide),m h.l (by decide),m h.p (by decide),J,⟨y,h.hB.2⟩,h.ac,h.an,h.al,λx H=>m (h.e x H) (by decide)⟩
theorem BI.fail(h:BI B b a E w0 w d)(hS:St w' a.g (rC d.r d.z) f')(hg:w.grownBy w' (some a.g)):BI B b a E w0 w' { d with f:=f' }:=by
 have j:=h.j.gr h.st.arr hg;exact⟨hS,j.lr,j.kn,j.c,j.n,j.l,j.p,j.bw,j.hB,j.ac,j.an,j.al,j.e⟩
theorem BI.field{e':Elc}{s':ESl}(h:BI B b a E w0 w d)(hS:St w' a.g (eC e' s'++[.slice d.z.qo d.z.qn d.z.qc,.slice d.z.lo d.z.ln d.z.lc,.slice d.z.no d.z.nn d.z.nc]) f')(hU:Upd w w' d.r.e d.z.s e' s')(hg:w.grownBy w' (some a.g)):BI B b a E w0 w' { d with f:=f',r:={ d.r with e:=e' },z:={ d.z with s:=s' } }:=by
 have k:=h.j.gr h.st.arr hg;have hv:∀k,d.k.ownBlock=some k->k<w.heap.size:=yP h.j.kn;have m:∀q,yJ d.z q->yJ { d.z with s:=s' } q:=λq y=>by
  obtain⟨_,H,a3,G⟩:=hU.conts;obtain⟨_,J,Z,V⟩:=hU.stys;refine⟨?_,?_,y.2.2⟩
  . show(Value.slice s'.co s'.cn s'.cc).ownBlock≠_;rw[H,a3,G];exact y.1
  . show(Value.slice s'.so s'.sn s'.sc).ownBlock≠_;rw[J,Z,V];exact y.2.1
 exact⟨hS,h.j.lr.upd h.st.arr hg hU h.j.hB.1 hv,k.kn,k.c,k.n,k.l,k.p,k.bw,k.hB,m _ h.j.ac,m _ h.j.an,m _ h.j.al,k.e⟩
theorem BI.cst{c':Cst}{co':Option Addr}{cn' cc':Nat}(h:BI B b a E w0 w d)(g1:w.grownBy w1 (some a.g))(g2:w1.grownBy w' (some a.pc))(hS:St w' a.g (rC d.r d.z) f')(hA:Arr w' a.pc 76 (kC c' co' cn' cc'))
    (hc:(c'.cands=d.X.c.cands/\co'=d.co/\cn'=d.cn/\cc'=d.cc)\/StrL (qS w.heap.size [9]) w' co' cn' cc' c'.cands):BI B b a E w0 w' { d with f:=f',X:={ d.X with c:=c' },co:=co',cn:=cn',cc:=cc' }:=by
 have j:=h.j.gr h.st.arr g1;have l2:=j.lr.boxq j.c (by decide) j.ac g2;obtain⟨J,V,H,m⟩:=j.q j.c (by decide) j.hB.2.2.2.1 g2;refine⟨hS,?_,J,hA,m j.n (by decide),m j.l (by decide),m j.p (by decide),V,⟨H,j.hB.2⟩,j.ac,j.an,j.al,λx y=>m (j.e x y) (by decide)⟩;rcases hc with ⟨e1,e2,e3,e4⟩|y
 . (have:BD.L { d with f:=f',X:={ d.X with c:=c' },co:=co',cn:=cn',cc:=cc' }=d.L:=by unfold BD.L;rw[e2,e3,e4];show _=[_,_,_];rw[<- e1]);rw[this];exact l2
 . exact(l2.ext y h.j.hB.1 (yP h.j.lr.rr.seen) (yP h.j.kn)).sub λx G=>by
    rcases List.mem_cons.1 G with rfl|G
    . exact List.mem_cons_self ..
    . exact List.mem_cons_of_mem _ (List.mem_cons_of_mem _ G)
theorem BI.app{x:List UInt8}{ao':Option Addr}{c':Nat}(h:BI B b a E w0 w d)(ho:w'.ownsRow B 9 1 (.slice ao' (d.kn+1) c') (d.kn+1) ((d.ks.map λv=>Value.string (stg v))++[.string (stg x)]))(hg:w.grownBy w' d.k.ownBlock)
    (hob:(Value.slice ao' (d.kn+1) c').ownBlock=d.k.ownBlock\/(Value.slice ao' (d.kn+1) c').ownBlock=some (w.heap.size+1)):BI B b a E w0 w' { d with ko:=ao',kn:=d.kn+1,kc:=c',ks:=d.ks++[x] }:=by
 have m:∀ {y:Nat} {U:TypeId} {ds:List Value},Arr w y U ds->U≠9 -> Arr w' y U ds:=λJ H=>Arr.row J h.j.kn H hg
 exact⟨⟨m h.st.arr (by decide),h.st.len⟩,h.j.lr.known h.j.kn (Nat.le_refl _) hg hob,by rw[List.map_append];exact ho,m h.j.c (by decide),m h.j.n (by decide),m h.j.l (by decide),m h.j.p (by decide),h.j.bw.grown hg h.j.hB.1 (λk e=>(World.ownsRow.lt h.j.kn k e).1),⟨Nat.le_trans h.j.hB.1 hg.size,h.j.hB.2⟩,h.j.ac,h.j.an,h.j.al,λx G=>m (h.j.e x G) (by decide)⟩
theorem BI.lst{vs:List (List UInt8)}{ro:Option Addr}{m c:Nat}(h:BI B b a E w0 w d)(hS:St w1 a.g (rC d.r d.z) f')(g1:w.grownBy w1 (some a.g))(hx:StrL (qS w.heap.size [9]) w1 ro m c vs)(i:Nat)(hi:i<2)(ln:Int) :
    ∃V1 V2 u1 u2,w1.setCell ⟨a.pn,i,none⟩ (.slice ro m c)=V1/\V1.setCell ⟨a.pl,i,none⟩ (.int .i64 ln)=V2/\w1.cell? ⟨a.pn,i,none⟩=some u1/\w1.frozen? ⟨a.pn,i,none⟩=false/\V1.cell? ⟨a.pl,i,none⟩=some u2/\V1.frozen? ⟨a.pl,i,none⟩=false/\(∀x∈E,Arr V1 x.1 63 x.2) /\
      BI B b a E w0 V2 (if i=0 then { d with f:=f',X:={ d.X with n1:=vs,l1:=ln },no:=ro,nn:=m,nc:=c } else { d with f:=f',X:={ d.X with n2:=vs,l2:=ln },mo:=ro,mn:=m,mc:=c }):=by
 have j:=h.j.gr h.st.arr g1;have l0:=j.lr.ext hx h.j.hB.1 (yP h.j.lr.rr.seen) (yP h.j.kn);have m1:∃u1,[Value.slice d.no d.nn d.nc,.slice d.mo d.mn d.mc][i]? = some u1:=⟨_,List.getElem?_eq_getElem hi⟩;have m2:∃u2,[Value.int .i64 d.X.l1,.int .i64 d.X.l2][i]? = some u2:=⟨_,List.getElem?_eq_getElem hi⟩;obtain⟨u1,a1⟩:=m1;obtain⟨u2,a3⟩:=m2;obtain⟨V1,e1,A1,G1,z1,z2⟩:=wZ j.n i (.slice ro m c) u1 a1;have l1:=l0.boxq j.n (by decide) j.an G1;obtain⟨q1,q2,q3,J⟩:=j.q j.n (by decide) j.hB.2.2.2.2.1 G1;have H:=J j.l (by decide);have V:=J j.c (by decide);have a0:=J j.p (by decide);have a2:=J hS.arr (by decide);obtain⟨V2,e2,A2,G2,z3,z4⟩:=wZ H i (.int .i64 ln) u2 a3;have l2:=l1.boxq H (by decide) j.al G2;have G:∀ {y:Nat} {U:TypeId} {ds:List Value},Arr V1 y U ds->U≠123 -> Arr V2 y U ds:=λhy hU=>kl hy G2 (yl hy H hU)
 have k2:V2.ownsRow B 9 1 d.k d.kn (d.ks.map λv=>.string (stg v)):=World.ownsRow.kept q1 G2 (Or.inr (zI q1 H (by decide)));have f2:Below B w0 V2:=q2.grown G2 q3 (λk e=>by injection e with e;have:=j.hB.2.2.2.2.2;omega);have S2:St V2 a.g (rC d.r d.z) f':=⟨G a2 (by decide),hS.len⟩;refine⟨V1,V2,u1,u2,e1,e2,z1,z2,z3,z4,λx hx=>J (j.e x hx) (by decide),?_⟩
 match i,hi,A1,A2 with
 | 0,_,A1,A2 =>
  exact⟨S2,l2.sub λx Z=>by
   simp only[BD.L,List.mem_cons,List.not_mem_nil,or_false] at Z |-;rcases Z with rfl|rfl|rfl<;>simp[BD.L],k2,G V (by decide),G A1 (by decide),A2,G a0 (by decide),f2,⟨Nat.le_trans q3 G2.size,j.hB.2⟩,j.ac,j.an,j.al,λx hx=>G (J (j.e x hx) (by decide)) (by decide)⟩
 | 1,_,A1,A2 =>
  exact⟨S2,l2.sub λx Z=>by
   simp only[BD.L,List.mem_cons,List.not_mem_nil,or_false] at Z |-;rcases Z with rfl|rfl|rfl<;>simp[BD.L],k2,G V (by decide),G A1 (by decide),A2,G a0 (by decide),f2,⟨Nat.le_trans q3 G2.size,j.hB.2⟩,j.ac,j.an,j.al,λx hx=>G (J (j.e x hx) (by decide)) (by decide)⟩
theorem BI.cells(h:BI B b a E w0 w d):w.cell? ⟨a.g,17,none⟩=some (.int .i64 (d.f.1:Int))/\w.cell? ⟨a.p,0,none⟩=some (.string (stg b.kind))/\w.cell? ⟨a.p,1,none⟩=some (.string (stg b.name))/\w.cell? ⟨a.p,2,none⟩=some (.slice a.fo a.fn a.fc)/\w.cell? ⟨a.p,3,none⟩=some (.int .i64 b.line):=⟨h.st.c17,h.j.p.cell 0,h.j.p.cell 1,h.j.p.cell 2,h.j.p.cell 3⟩
theorem BI.fcells{pf:Nat}{K:ByteArray}{v:Value}{l:Int}(h:BI B b a [(pf,[.string K,v,.int .i64 l])] w0 w d):w.cell? ⟨pf,0,none⟩=some (.string K)/\w.cell? ⟨pf,1,none⟩=some v/\w.cell? ⟨pf,2,none⟩=some (.int .i64 l) :=
 have A:Arr w pf 63 [.string K,v,.int .i64 l]:=h.j.e _ (List.mem_singleton.2 rfl)
 ⟨A.cell 0,A.cell 1,A.cell 2⟩
theorem BI.drop(h:BI B b a E w0 w d):BI B b a [] w0 w d:=⟨h.st,h.j.lr,h.j.kn,h.j.c,h.j.n,h.j.l,h.j.p,h.j.bw,h.j.hB,h.j.ac,h.j.an,h.j.al,λ_ hx=>by cases hx⟩
theorem BI.with{pf:Nat}(h:BI B b a [] w0 w d)(hA:Arr w pf 63 cs):BI B b a [(pf,cs)] w0 w d:=⟨h.st,h.j.lr,h.j.kn,h.j.c,h.j.n,h.j.l,h.j.p,h.j.bw,h.j.hB,h.j.ac,h.j.an,h.j.al,λx hx=>by rw[List.mem_singleton.1 hx];exact hA⟩
theorem BI.known(h:BI B b a E w0 w d):StrL qU w d.ko d.kn d.kc d.ks:=Row.mono (Row.own (s:=1) h.j.kn (by decide)) (λ_ _=>trivial)
end
theorem JI{g:Nat}{t:TypeId}{v0 v1 v2 v3 v4 v5 v6 v7 v8:Value}(h:Arr w g t [v0,v1,v2,v3,v4,v5,v6,v7,v8])(u0 u1 u2 u3 u4 u5 u6 u7 u8:Value):∃Z0 Z1 Z2 Z3 Z4 Z5 Z6 Z7 Z8,w.setCell ⟨g,0,none⟩ u0=Z0/\Z0.setCell ⟨g,1,none⟩ u1=Z1/\Z1.setCell ⟨g,2,none⟩ u2=Z2/\Z2.setCell ⟨g,3,none⟩ u3=Z3/\Z3.setCell ⟨g,4,none⟩ u4=Z4/\Z4.setCell ⟨g,5,none⟩ u5=Z5/\Z5.setCell ⟨g,6,none⟩ u6=Z6/\Z6.setCell ⟨g,7,none⟩ u7=Z7/\Z7.setCell ⟨g,8,none⟩ u8=Z8/\Arr Z8 g t [u0,u1,u2,u3,u4,u5,u6,u7,u8]/\w.grownBy Z8 (some g)/\(∀ (B:Nat) (a:World),Below B a w->B<=g->Below B a Z8)/\w.cell? ⟨g,0,none⟩=some v0/\w.frozen? ⟨g,0,none⟩=false/\Z0.cell? ⟨g,1,none⟩=some v1/\Z0.frozen? ⟨g,1,none⟩=false/\Z1.cell? ⟨g,2,none⟩=some v2/\Z1.frozen? ⟨g,2,none⟩=false/\Z2.cell? ⟨g,3,none⟩=some v3/\Z2.frozen? ⟨g,3,none⟩=false/\Z3.cell? ⟨g,4,none⟩=some v4/\Z3.frozen? ⟨g,4,none⟩=false/\Z4.cell? ⟨g,5,none⟩=some v5/\Z4.frozen? ⟨g,5,none⟩=false/\Z5.cell? ⟨g,6,none⟩=some v6/\Z5.frozen? ⟨g,6,none⟩=false/\Z6.cell? ⟨g,7,none⟩=some v7/\Z6.frozen? ⟨g,7,none⟩=false/\Z7.cell? ⟨g,8,none⟩=some v8/\Z7.frozen? ⟨g,8,none⟩=false:=by
 obtain⟨V,e,A,G,L,r⟩:=Vg h u0 u1 u2 u3 u4 u5 u6 u7 u8;subst e;exact⟨_,_,_,_,_,_,_,_,_,rfl,rfl,rfl,rfl,rfl,rfl,rfl,rfl,rfl,A,G,L,r⟩
theorem kS{g:Nat}{t:TypeId}{v0 v1 v2 v3 v4 v5 v6 v7 v8 v9 v10 v11 v12 v13:Value}(h:Arr w g t [v0,v1,v2,v3,v4,v5,v6,v7,v8,v9,v10,v11,v12,v13])(u0 u1 u2 u3 u4 u5 u6 u7 u8 u9 u10 u11 u12 u13:Value):∃Z0 Z1 Z2 Z3 Z4 Z5 Z6 Z7 Z8 Z9 Z10 Z11 Z12 Z13,w.setCell ⟨g,0,none⟩ u0=Z0/\Z0.setCell ⟨g,1,none⟩ u1=Z1/\Z1.setCell ⟨g,2,none⟩ u2=Z2/\Z2.setCell ⟨g,3,none⟩ u3=Z3/\Z3.setCell ⟨g,4,none⟩ u4=Z4/\Z4.setCell ⟨g,5,none⟩ u5=Z5/\Z5.setCell ⟨g,6,none⟩ u6=Z6/\Z6.setCell ⟨g,7,none⟩ u7=Z7/\Z7.setCell ⟨g,8,none⟩ u8=Z8/\Z8.setCell ⟨g,9,none⟩ u9=Z9/\Z9.setCell ⟨g,10,none⟩ u10=Z10/\Z10.setCell ⟨g,11,none⟩ u11=Z11/\Z11.setCell ⟨g,12,none⟩ u12=Z12/\Z12.setCell ⟨g,13,none⟩ u13=Z13/\Arr Z13 g t [u0,u1,u2,u3,u4,u5,u6,u7,u8,u9,u10,u11,u12,u13]/\w.grownBy Z13 (some g)/\(∀ (B:Nat) (a:World),Below B a w->B<=g->Below B a Z13)/\w.cell? ⟨g,0,none⟩=some v0/\w.frozen? ⟨g,0,none⟩=false/\Z0.cell? ⟨g,1,none⟩=some v1/\Z0.frozen? ⟨g,1,none⟩=false/\Z1.cell? ⟨g,2,none⟩=some v2/\Z1.frozen? ⟨g,2,none⟩=false/\Z2.cell? ⟨g,3,none⟩=some v3/\Z2.frozen? ⟨g,3,none⟩=false/\Z3.cell? ⟨g,4,none⟩=some v4/\Z3.frozen? ⟨g,4,none⟩=false/\Z4.cell? ⟨g,5,none⟩=some v5/\Z4.frozen? ⟨g,5,none⟩=false/\Z5.cell? ⟨g,6,none⟩=some v6/\Z5.frozen? ⟨g,6,none⟩=false/\Z6.cell? ⟨g,7,none⟩=some v7/\Z6.frozen? ⟨g,7,none⟩=false/\Z7.cell? ⟨g,8,none⟩=some v8/\Z7.frozen? ⟨g,8,none⟩=false/\Z8.cell? ⟨g,9,none⟩=some v9/\Z8.frozen? ⟨g,9,none⟩=false/\Z9.cell? ⟨g,10,none⟩=some v10/\Z9.frozen? ⟨g,10,none⟩=false/\Z10.cell? ⟨g,11,none⟩=some v11/\Z10.frozen? ⟨g,11,none⟩=false/\Z11.cell? ⟨g,12,none⟩=some v12/\Z11.frozen? ⟨g,12,none⟩=false/\Z12.cell? ⟨g,13,none⟩=some v13/\Z12.frozen? ⟨g,13,none⟩=false:=by
 obtain⟨V,e,A,G,L,r⟩:=GO h u0 u1 u2 u3 u4 u5 u6 u7 u8 u9 u10 u11 u12 u13;subst e;exact⟨_,_,_,_,_,_,_,_,_,_,_,_,_,_,rfl,rfl,rfl,rfl,rfl,rfl,rfl,rfl,rfl,rfl,rfl,rfl,rfl,rfl,A,G,L,r⟩
