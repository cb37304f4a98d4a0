/- -/
import Derived.Test.YtkefajjcpcoajaaGreatDoorPkA0
import Derived.Maps.AppendAt
import Derived.Lib.ItoaNum
import Derived.Test.YtkefajjcpcoajaaGreatDoorPkA5
import Derived.Test.YtkefajjcpcoajaaGreatDoorPkA7
import Derived.Test.YtkefajjcpcoajaaGreatDoorPkA9
import Derived.Test.YtkefajjcpcoajaaGreatDoorPkA12
import Derived.Test.YtkefajjcpcoajaaGreatDoorPkA19
import Derived.Test.YtkefajjcpcoajaaGreatDoorPkA24
import Derived.Test.YtkefajjcpcoajaaGreatDoorPkA25
import Derived.Test.YtkefajjcpcoajaaGreatDoorPkA26
import Derived.Test.YtkefajjcpcoajaaGreatDoorPkA32
import Derived.Test.YtkefajjcpcoajaaGreatDoorPkA33
set_option linter.all false
set_option maxRecDepth 100000
set_option maxHeartbeats 6400000
namespace Go.Proofs.YtkefajjcpcoajaaGreatDoor
open Go.RowKit Lx
namespace Lx
def GS(bs:List qK)(b:qK)(j:Nat)(f:Nat×Int):Prop:=(f.1=0/\xm bs b=0/\jZ b.kind [] b.flds=jZ b.kind (b.flds.take j) (b.flds.drop j))\/(f.1≠0/\f=zP bs b)
section
variable {bs : List qK} {b : qK} {j : Nat} {f : Nat × Int} {x : zC}
theorem GS.start(h:f.1=0):GS bs b 0 (z7 f (xm bs b) b.line):=by
 by_cases m:xm bs b=0
 . rw[m,jG];exact Or.inl ⟨h,m,rfl⟩
 . rw[kK _ h m];refine Or.inr ⟨m,?_⟩;unfold zP;rw[if_pos m]
theorem GS.step(h:GS bs b j f)(h0:f.1=0)(hx:b.flds[j]? = some x){e:Nat}(he:jp b.kind (b.flds.take j) x=e):GS bs b (j+1) (z7 f e x.line):=by
 subst he;rcases h with ⟨_,h1,h2⟩|⟨h1,_⟩
 . (have e:b.flds.drop j=x :: b.flds.drop (j+1):=by rw[List.drop_eq_getElem?_toList_append,hx];rfl);rw[e,Vy] at h2;by_cases m:jp b.kind (b.flds.take j) x=0
   . rw[if_neg (λk=>k m)] at h2;rw[m,jG];exact Or.inl ⟨h0,h1,by rw[h2,qg hx]⟩
   . rw[if_pos m] at h2;rw[kK _ h0 m];refine Or.inr ⟨m,?_⟩;unfold zP;rw[if_neg (λk=>k h1),h2,if_pos m]
 . exact absurd h0 h1
theorem GS.done(h:GS bs b j f)(hj:b.flds.length<=j)(h0:f.1=0):zP bs b=if jv b then (6,b.line) else yr b:=by
 rcases h with ⟨_,h1,h2⟩|⟨h1,_⟩
 . (have:(jZ b.kind [] b.flds).1=0:=by rw[h2,List.drop_of_length_le hj];rfl);unfold zP;rw[if_neg (λk=>k h1),if_neg (λk=>k this)]
 . exact absurd h0 h1
theorem GS.bad(h:GS bs b j f)(h0:f.1≠0):f=zP bs b:=by
 rcases h with ⟨h1,_⟩|⟨_,h2⟩
 . exact absurd h1 h0
 . exact h2
end
theorem gx(l:List (List UInt8))(v:List UInt8):decide (jV l v<0) = !l.contains v:=by
 have h:=ug l v;by_cases e:jV l v<0
 . rw[decide_eq_true e,<- h,decide_eq_false (by omega)];rfl
 . rw[decide_eq_false e,<- h,decide_eq_true (by omega)];rfl
theorem Q8{α:Type}(n:Nat)(l:List α):(l.map λ_=>n).sum=l.length*n:=by
 induction l with
 | nil=>simp
 | cons x l ih=>rw[List.map_cons,List.sum_cons,ih,List.length_cons,Nat.succ_mul];omega
def uk(b:qK)(k:List UInt8):Bool := !(decide (k=qY) && !decide (kL b zG=2)) && !xQ b k
theorem Kg(b:qK):jv b=(zb b.kind).any (uk b):=U3 b
theorem U7(k:List UInt8):(zb k).length<=19:=by
 unfold zb;rw[List.length_map];exact Nat.le_trans (List.length_filter_le _ _) (by decide)
theorem YD{k:List UInt8}(h:qY∈zb k):k=qF:=by
 have m:(zb k).contains qY=true:=by simpa using h
 rw[JD] at m;obtain⟨r,G⟩:=Option.isSome_iff_exists.1 m;obtain⟨J,H,y⟩:=yH G;rw[<- J];exact(show ∀r∈zf,r.key=qY->r.kind=qF by decide) r y H
theorem YE(b:qK)(hk:b.kind=qF):(xX b b.flds).c={ j6 b with name:=[] }/\(xX b b.flds).dg=zx b qY/\(xX b b.flds).st=zx b zO:=by
 unfold xX;rw[if_pos hk,if_pos hk,if_pos hk];exact⟨rfl,rfl,rfl⟩
def LKS(bs:List qK)(b:qK)(f:Nat×Int)(i:Nat)(F:Nat×Int):Prop:=(F.1=0/\f.1=0/\∀q∈(zb b.kind).take i,uk b q=false)\/(F.1≠0/\F=zP bs b)
section
variable {bs : List qK} {b : qK} {f F : Nat × Int} {i : Nat} {v : List UInt8}
theorem LKS.next(h:LKS bs b f i F)(h0:F.1=0)(hv:(zb b.kind)[i]? = some v)(hl:uk b v=false):LKS bs b f (i+1) F:=by
 rcases h with ⟨_,h1,h2⟩|⟨h1,_⟩
 . refine Or.inl ⟨h0,h1,λq m=>?_⟩;rw[qg hv,List.mem_append,List.mem_singleton] at m;rcases m with m|rfl
   . exact h2 q m
   . exact hl
 . exact absurd h0 h1
theorem LKS.miss(hb:zP bs b=if jv b then (6,b.line) else yr b)(h0:F.1=0)(hv:(zb b.kind)[i]? = some v)(hl:uk b v=true)(k:Nat):LKS bs b f k (z7 F 6 b.line):=by
 have:jv b=true:=by rw[Kg,List.any_eq_true];exact⟨v,List.mem_of_getElem? hv,hl⟩
 rw[kK _ h0 (by decide)];exact Or.inr ⟨by show(6:Nat)≠0;decide,by rw[hb,this];rfl⟩
theorem LKS.done(h:LKS bs b f i F)(hi:(zb b.kind).length<=i)(h0:F.1=0):jv b=false:=by
 rcases h with ⟨_,h1,h2⟩|⟨h1,_⟩
 . rw[Kg,List.any_eq_false];intro q m;rw[List.take_of_length_le hi] at h2;rw[h2 q m];decide
 . exact absurd h0 h1
end
structure ShB (b:qK):Prop where
 name:b.name.length<=1000000
 flds:b.flds.length<=2000000
 vals:∀f∈b.flds,f.vals.length<=4000000/\∀v∈f.vals,v.length<=1000000
end Lx
theorem BI.init{B:Nat}{b:qK}{w0 w2:World}{g p:Nat}{f':Nat×Int}{r:RSt}{z:RSl}{fo:Option Addr}{fn fc:Nat}(hS:St w2 g (rC r z) f')(hR:RR B none w2 r z)(hp:Arr w2 p 55 [.string (stg b.kind),.string (stg b.name),.slice fo fn fc,.int .i64 b.line])(hb:Below B w0 w2)(h1:B<=w2.heap.size)(h2:B<=g)(h3:B<=p) :
    ∃V1 V2 V3,w2.alloc (.cells #[.string ⟨#[]⟩,.slice none 0 0,.int .i64 0,.int .i64 0,.int .i64 0,.int .i64 0,.int .i64 0,.int .i64 0,.int .i64 0] 76)=V1/\V1.alloc (.cells #[.slice none 0 0,.slice none 0 0] 122)=V2/\V2.alloc (.cells #[.int .i64 0,.int .i64 0] 123)=V3 /\
      BI B b ⟨g,p,w2.heap.size,V1.heap.size,V2.heap.size,fo,fn,fc⟩ [] w0 V3 ⟨f',r,z,none,0,0,[],⟨Fw,[],[],0,0,0,0⟩,none,0,0,none,0,0,none,0,0⟩:=by
 obtain⟨V1,e1,A1,H,_⟩:=qG w2 76 [.string ⟨#[]⟩,.slice none 0 0,.int .i64 0,.int .i64 0,.int .i64 0,.int .i64 0,.int .i64 0,.int .i64 0,.int .i64 0];obtain⟨V2,e2,A2,V,_⟩:=qG V1 122 [.slice none 0 0,.slice none 0 0];obtain⟨V3,e3,A3,J,_⟩:=qG V2 123 [.int .i64 0,.int .i64 0];have y:=H.trans (V.mono H.size);have m:=y.trans (J.mono y.size);have Z:=LR.start (hR.below m);have n0:∀S,StrL S V3 none 0 0 []:=λS=>Row.nil _ _ _
 refine⟨V1,V2,V3,e1,e2,e3,hS.keep m,⟨Z.rr,Z.sep,?_⟩,World.ownsRow_nil _ _ _ _,(A1.kept V).kept J,A2.kept J,A3,hp.kept m,hb.trans (m.mono h1),⟨Nat.le_trans h1 m.size,h2,h3,h1,Nat.le_trans h1 H.size,Nat.le_trans h1 y.size⟩,hR.apart (Nat.le_refl _),hR.apart H.size,hR.apart y.size,λ_ G=>by cases G⟩;intro x G;simp only[BD.L,List.mem_cons,List.not_mem_nil,or_false] at G;rcases G with rfl|rfl|rfl<;>exact n0 _
section
variable {B : Nat} {b : qK} {a : BW} {E : List (Nat × List Value)} {w0 w1 w : World} {d : BD}
theorem BI.base(h:BI B b a E w0 w d):BI B b a E w w d:=⟨h.st,h.j.lr,h.j.kn,h.j.c,h.j.n,h.j.l,h.j.p,Below.refl _ _,h.j.hB,h.j.ac,h.j.an,h.j.al,h.j.e⟩
theorem BI.num(h:BI B b a E w0 w d)(dg st:Int):BI B b a E w0 w { d with X:={ d.X with dg:=dg,st:=st } }:=⟨h.st,h.j.lr,h.j.kn,h.j.c,h.j.n,h.j.l,h.j.p,h.j.bw,h.j.hB,h.j.ac,h.j.an,h.j.al,h.j.e⟩
theorem BI.rebase(h:BI B b a E w1 w d)(hb:Below B w0 w1):BI B b a E w0 w d:=⟨h.st,h.j.lr,h.j.kn,h.j.c,h.j.n,h.j.l,h.j.p,hb.trans h.j.bw,h.j.hB,h.j.ac,h.j.an,h.j.al,h.j.e⟩
end
theorem U8:(Tryz.prog.info? 122).map (λi=>(i.zero,i.size,i.bytes))=some (some (.agg #[.slice none 0 0,.slice none 0 0]),2,48):=by kernel_rfl
theorem PQ:(Tryz.prog.info? 123).map (λi=>(i.zero,i.size,i.bytes))=some (some (.agg #[.int .i64 0,.int .i64 0]),2,16):=by kernel_rfl
section
variable {w : World} {ops : Array Oper} {o : Oper} {a : Act} {K : Act -> World -> Prop} {Q : Exit -> Act -> World -> Prop}
theorem uV{T E:TypeId}{s bytes:Nat}{z:Value}(ht:Tryz.prog.underlying T=some (.slice E))(hinfo:(Tryz.prog.info? E).map (λi=>(i.zero,i.size,i.bytes))=some (some z,s,bytes))(hzs:z.cells.size=s)(hs:0<s)(hby:bytes<=1000)
    (p q:Operand) (hop:o.op=.call { callee:=.builtin .append,args:=#[p,q],argTypes:=#[T,T] })
    {B k:Nat} {ao:Option Addr} {n c:Nat} {us vs:List Value} (hX:Arr w k E vs) (hO:w.ownsRow B E s (.slice ao n c) n us) (hB:B<=w.heap.size) (hn:n<=4000000) (hv:vs.length=s) (h1:∀u∈vs,u.oneCell'=true)
    (hp:a.eval p=.slice ao n c) (hq:a.eval q=.slice (some ⟨k,0,none⟩) 1 1)
    (h:∀ao' c' w',w'.ownsRow B E s (.slice ao' (n+1) c') (n+1) (us++vs)->w.grownBy w' (Value.slice ao n c).ownBlock->((Value.slice ao' (n+1) c').ownBlock=(Value.slice ao n c).ownBlock\/(Value.slice ao' (n+1) c').ownBlock=some w.heap.size)->Below B w w'->K (a.put o.dst (.slice ao' (n+1) c')) w') :
    Oper.wp Tryz.prog o a w K Q:=by
 obtain⟨i0,hi,y,G,J⟩:=info_parts hinfo;have a0:(n+1)*bytes<=(4000000+1)*1000:=Nat.mul_le_mul (by omega) hby;have hc:∀j u,vs[j]? = some u->w.cell? ((⟨k,0,none⟩:Addr).add j)=some u:=by
  intro j u hj;have e:=jm k j;simp only[pt,Option.getD_some] at e;rw[e,hX.cell];exact hj
 obtain⟨v',w',hr,m,V,_,H⟩:=run_append_own_at (P:=Tryz.prog) w B T o.type E i0 z s bytes ht hi y G J hzs hs _ n _ hO ⟨k,0,none⟩ 1 1 vs (by omega) hc h1 (by unfold maxLen;omega) (by omega) hB;obtain⟨av,Z,rfl⟩:∃ao c,v'=.slice ao (n+1) c:=by
  rcases m.2 with ⟨hv,h0⟩|⟨g,cap,_,hv,_⟩
  . omega
  . exact⟨_,cap,hv⟩
 unfold Oper.wp execOp;simp only[hop,resolve,invoke,builtin,Sem.run_bind,Sem.run_pure,Result.andThen_ok,List.map_toArray,List.map_cons,List.map_nil,hp,hq,hr];exact h av Z w' m V H ((Below.refl _ _).grown V hB (λk hk=>(World.ownsRow.lt hO k hk).1))
theorem Q9{T E:TypeId}{s bytes:Nat}{z:Value}(ht:Tryz.prog.underlying T=some (.slice E))(hinfo:(Tryz.prog.info? E).map (λi=>(i.zero,i.size,i.bytes))=some (some z,s,bytes))(hzs:z.cells.size=s)(hs:0<s)(hby:bytes<=1000)
    {E2:Prop} (p q:Operand) (hgd:o.guard=none) (hop:o.op=.call { callee:=.builtin .append,args:=#[p,q],argTypes:=#[T,T] })
    {B k:Nat} {ao:Option Addr} {n c:Nat} {us vs:List Value} (hX:Arr w k E vs) (hO:w.ownsRow B E s (.slice ao n c) n us) (hB:B<=w.heap.size) (hn:n<=4000000) (hv:vs.length=s) (h1:∀u∈vs,u.oneCell'=true)
    (hp:a.eval p=.slice ao n c) (hq:a.eval q=.slice (some ⟨k,0,none⟩) 1 1)
    (h:∀ao' c' w',w'.ownsRow B E s (.slice ao' (n+1) c') (n+1) (us++vs)->w.grownBy w' (Value.slice ao n c).ownBlock->((Value.slice ao' (n+1) c').ownBlock=(Value.slice ao n c).ownBlock\/(Value.slice ao' (n+1) c').ownBlock=some w.heap.size)->Below B w w'->K (a.put o.dst (.slice ao' (n+1) c')) w') :
    if Region.wanted o (yielded ops a.tmps)=true then Oper.wp Tryz.prog o a w K Q else E2:=by
 have m:Region.wanted o (yielded ops a.tmps)=true:=by simp[Region.wanted,hgd]
 rw[if_pos m];exact uV ht hinfo hzs hs hby p q hop hX hO hB hn hv h1 hp hq h
end
end Go.Proofs.YtkefajjcpcoajaaGreatDoor
namespace Go.Proofs.YtkefajjcpcoajaaGreatDoor
open Go.RowKit Go.ChangeShapes Go.WideShapes Lx
variable {W:World}{v:Value}
def PS(W:World)(g:List Value)(f:zC):Prop:=∃vo vn vc,g=[.string (stg f.key),.slice vo vn vc,.int .i64 f.line]/\StrL qU W vo vn vc f.vals
def PT(W:World)(g:List Value)(b:qK):Prop:=∃fo fn fc,g=[.string (stg b.kind),.string (stg b.name),.slice fo fn fc,.int .i64 b.line]/\FldS qU W fo fn fc b.flds
theorem CE:∀ {fs:List zC} {us:List Value},Grp (PS W) fs us->FC qU W fs us
  | [],_,h=>h
  | _ :: _,_,⟨g,r,h1,⟨vo,vn,vc,h2,h3⟩,h4⟩=>by
   subst h1 h2;exact⟨vo,vn,vc,r,rfl,h3,CE h4⟩
theorem CF:∀ {bs:List qK} {us:List Value},Grp (PT W) bs us->BC qU W bs us
  | [],_,h=>h
  | _ :: _,_,⟨g,r,h1,⟨vo,vn,vc,h2,h3⟩,h4⟩=>by
   subst h1 h2;exact⟨vo,vn,vc,r,rfl,h3,CF h4⟩
section
variable {H : Type} {enc : TypeId × Value -> H} {W : World} {x : DataW H × List MemPlace} {fuel : Nat}
theorem Gw{cs:List Value}(hl:cs.length=3)(hf:DataW.trod enc Tryz.prog W 0 (λ_=>true) true fuel 63 cs=some x):∃f,PS W cs f:=by
 obtain⟨a,b,c,rfl⟩:=Be hl;obtain⟨xs,n,rfl,rfl,_,H,m⟩:=DataW.trod_struct Tryz.underlying63 hf;replace H:xs.length=3:=H;have G:=m 0 _ rfl;have y:=m 1 _ rfl;have J:=m 2 _ rfl;rw[List.getElem?_eq_getElem (by omega)] at G y J;obtain⟨s,V,_,_⟩:=DataW.trod_string (P:=Tryz.prog) Tryz.underlying9 (cs:=[a]) G;obtain⟨vo,vn,vc,vs,e1,hv⟩:=DD Tryz.underlying26 (v:=b) y;obtain⟨z,Z,_,_⟩:=DataW.trod_int (P:=Tryz.prog) Tryz.underlying3 (cs:=[c]) J;simp at V Z;subst V e1 Z;exact⟨⟨bys s,vs,z⟩,vo,vn,vc,by rw[yD],hv⟩
theorem U9(hf:DataW.trod enc Tryz.prog W 0 (λ_=>true) true fuel 53 [v]=some x):∃ao l c fs,v=.slice ao l c/\FldS qU W ao l c fs:=by
 obtain⟨ao,l,c,us,zs,rfl,m,_,H⟩:=JZ (R:=PS W) Tryz.underlying53 (s:=3) (by kernel_rfl) (by omega) (λn V y J G=>Gw J G) hf;exact⟨ao,l,c,zs,rfl,us,m,CE H⟩
theorem Gx{cs:List Value}(hl:cs.length=4)(hf:DataW.trod enc Tryz.prog W 0 (λ_=>true) true fuel 55 cs=some x):∃b,PT W cs b:=by
 obtain⟨a,b,c,d,rfl⟩:=Bf hl;obtain⟨xs,n,rfl,rfl,_,J,m⟩:=DataW.trod_struct Tryz.underlying55 hf;replace J:xs.length=4:=J;have H:=m 0 _ rfl;have y:=m 1 _ rfl;have V:=m 2 _ rfl;have h3:=m 3 _ rfl;rw[List.getElem?_eq_getElem (by omega)] at H y V h3;obtain⟨s,e0,_,_⟩:=DataW.trod_string (P:=Tryz.prog) Tryz.underlying9 (cs:=[a]) H;obtain⟨s2,Z,_,_⟩:=DataW.trod_string (P:=Tryz.prog) Tryz.underlying9 (cs:=[b]) y;obtain⟨fo,fn,fc,fs,e2,hv⟩:=U9 (v:=c) V;obtain⟨z,G,_,_⟩:=DataW.trod_int (P:=Tryz.prog) Tryz.underlying3 (cs:=[d]) h3;simp at e0 Z G;subst e0 Z e2 G;exact⟨⟨bys s,bys s2,fs,z⟩,fo,fn,fc,by rw[yD,yD],hv⟩
theorem Ua(hf:DataW.trod enc Tryz.prog W 0 (λ_=>true) true fuel 22 [v]=some x):∃ao l c bs,v=.slice ao l c/\BlkS qU W ao l c bs:=by
 obtain⟨ao,l,c,us,zs,rfl,m,_,H⟩:=JZ (R:=PT W) Tryz.underlying22 (s:=4) (by kernel_rfl) (by omega) (λn V y J G=>Gx J G) hf;exact⟨ao,l,c,zs,rfl,us,m,CF H⟩
end
theorem Gy{H:Type}{enc:TypeId×Value->H}{r:Reach}{b0:Nat}{d:DataW H}{ps:List MemPlace}
    (hv:Value.okWide Tryz.prog W r b0 24 v) (h:DataW.Trod enc Tryz.prog W 0 (λ_=>true) true 24 v d ps) :
    ∃t a n c bs,v=.agg #[.string (stg t),.slice a n c]/\BlkS qU W a n c bs:=by
 obtain⟨V,J,Z,y1,n,rfl,_,_,G,y⟩:=Joins.open_agg2 Tryz.underlying24 (by kernel_rfl) (by kernel_rfl) hv h;obtain⟨s,m,_,_⟩:=DataW.trod_string Tryz.underlying9 G;obtain⟨a,l,c,bs,rfl,L⟩:=Ua y;simp at m;subst m;exact⟨bys s,a,l,c,bs,by rw[yD],L⟩
namespace Lx
structure CutIn (s:ke):Prop where
 title:s.title.length<=40
 blks:s.blks.length<=12
 name:∀b∈s.blks,b.name.length<=30
 flds:∀b∈s.blks,b.flds.length<=12
 vals:∀b∈s.blks,∀f∈b.flds,f.vals.length<=12
 each:∀b∈s.blks,∀f∈b.flds,∀v∈f.vals,v.length<=30
theorem PU(s:ke):CutIn (Wo s):=by
 have m:∀ {α:Type} (l:List α) (n:Nat),(l.take n).length<=n:=λl n=>by rw[List.length_take];omega
 refine⟨m _ _,by show((s.blks.take 12).map QI).length<=12;rw[List.length_map];exact m _ _,λb G=>?_,λb G=>?_,λb G f H=>?_,λb G f H v J=>?_⟩;all_goals obtain⟨y,_,rfl⟩:=List.mem_map.1 G
 . exact m _ _
 . show((y.flds.take 12).map J3).length<=12;rw[List.length_map];exact m _ _
 . obtain⟨g,_,rfl⟩:=List.mem_map.1 H;show((g.vals.take 12).map (List.take 30)).length<=12;rw[List.length_map];exact m _ _
 . obtain⟨g,_,rfl⟩:=List.mem_map.1 H;obtain⟨u,_,rfl⟩:=List.mem_map.1 J;exact m _ _
end Lx
end Go.Proofs.YtkefajjcpcoajaaGreatDoor
namespace Go.Proofs.YtkefajjcpcoajaaGreatDoor
open Go.RowKit Lx
theorem gy(k:ByteArray)(vo:Option Addr)(vn vc:Nat)(w:World) :
    Calls Tryz.prog 91 #[.string k,.slice vo vn vc] w λe w'=>e=.returned (.agg #[.string k,.slice vo vn vc,.int .i64 0])/\Below w.heap.size w w':=by
 obtain⟨V,e1,H,G,hz⟩:=qG w 63 [.string ⟨#[]⟩,.slice none 0 0,.int .i64 0];obtain⟨Z,m5,m,y,q0,q1,q2,q3,q4,q5⟩:=jY H (.string k) (.slice vo vn vc) (.int .i64 0);obtain⟨r0,r1,r2⟩:=y.c3;have J:Hid (Below w.heap.size w Z):=by
  show Below _ _ _;rw[m.o];exact((G.setCell (p:=⟨_,0,none⟩) (Nat.le_refl _) _).setCell (p:=⟨_,1,none⟩) (Nat.le_refl _) _).setCell (p:=⟨_,2,none⟩) (Nat.le_refl _) _
 clear H G hz y m;go_in;go_wp2_with fail;refine bodyPost_ret (v:=.agg #[.string k,.slice vo vn vc,.int .i64 0]) (by simp[results,Tryz.results91,go_sem,r0,r1,r2]) rfl ?_;exact⟨rfl,J.o⟩
theorem YF(k m:ByteArray)(fo:Option Addr)(fn fc:Nat)(w:World) :
    Calls Tryz.prog 89 #[.string k,.string m,.slice fo fn fc] w λe w'=>e=.returned (.agg #[.string k,.string m,.slice fo fn fc,.int .i64 0])/\Below w.heap.size w w':=by
 obtain⟨V,e1,J,H,hz⟩:=qG w 55 [.string ⟨#[]⟩,.string ⟨#[]⟩,.slice none 0 0,.int .i64 0];obtain⟨Z,m5,y,G,q0,q1,q2,q3,q4,q5,q6,q7⟩:=yT J (.string k) (.string m) (.slice fo fn fc) (.int .i64 0);obtain⟨r0,r1,r2,r3⟩:=G.c4;have BZ:Hid (Below w.heap.size w Z):=by
  show Below _ _ _;rw[y.o];exact(((H.setCell (p:=⟨_,0,none⟩) (Nat.le_refl _) _).setCell (p:=⟨_,1,none⟩) (Nat.le_refl _) _).setCell (p:=⟨_,2,none⟩) (Nat.le_refl _) _).setCell (p:=⟨_,3,none⟩) (Nat.le_refl _) _
 clear J H hz G y;go_in;go_wp2_with fail;refine bodyPost_ret (v:=.agg #[.string k,.string m,.slice fo fn fc,.int .i64 0]) (by simp[results,Tryz.results89,go_sem,r0,r1,r2,r3]) rfl ?_;exact⟨rfl,BZ.o⟩
theorem PW {w : World} (hT : Tabs w) : Lib.TabIs Tryz.prog w "internal/strconv.uint64pow10" .u64 Lib.pow10Tab := hT.pow
theorem vE(w:World)(v:List UInt8):∃V,w.alloc (.cells #[.string (stg v)] 9)=V/\StrL (qS w.heap.size [9]) V (some ⟨w.heap.size,0,none⟩) 1 1 [v]/\Below w.heap.size w V :=
 kQ w [v] (by simp) (by simp)
theorem CG(w:World)(k:Nat)(os:Array Obj):Below w.heap.size w (Go.Sort.grow (w.drewN k) os) :=
 ⟨rfl,rfl,rfl,by show w.heap.size<=(w.heap++os).size;rw[Array.size_append];omega,λg hg=>by show(w.heap++os)[g]? = _;rw[Array.getElem?_append_left hg]⟩
theorem Kh{w V W:World}{b:Nat}{k:ByteArray}{vo:Option Addr}{vn vc:Nat}{vs:List (List UInt8)}(AV:Arr V b 63 [.string ⟨#[]⟩,.slice none 0 0,.int .i64 0])(hb:w.heap.size=b)(BV:Below w.heap.size w V)(hz:V.heap.size=w.heap.size+1)(BW:Below V.heap.size V W)(SL:StrL (qS V.heap.size [9]) W vo vn vc vs) :
    ∃Z,((W.setCell ⟨b,0,none⟩ (.string k)).setCell ⟨b,1,none⟩ (.slice vo vn vc)).setCell ⟨b,2,none⟩ (.int .i64 0)=Z /\
      W.cell? ⟨b,0,none⟩=some (.string ⟨#[]⟩)/\W.frozen? ⟨b,0,none⟩=false/\(W.setCell ⟨b,0,none⟩ (.string k)).cell? ⟨b,1,none⟩=some (.slice none 0 0)/\(W.setCell ⟨b,0,none⟩ (.string k)).frozen? ⟨b,1,none⟩=false /\
      ((W.setCell ⟨b,0,none⟩ (.string k)).setCell ⟨b,1,none⟩ (.slice vo vn vc)).cell? ⟨b,2,none⟩=some (.int .i64 0)/\((W.setCell ⟨b,0,none⟩ (.string k)).setCell ⟨b,1,none⟩ (.slice vo vn vc)).frozen? ⟨b,2,none⟩=false /\
      Z.cell? ⟨b,0,none⟩=some (.string k)/\Z.cell? ⟨b,1,none⟩=some (.slice vo vn vc)/\Z.cell? ⟨b,2,none⟩=some (.int .i64 0) /\
      Hid (StrL (qS w.heap.size [9]) Z vo vn vc vs/\Below w.heap.size w Z):=by
 subst hb;have G:=AV.kept BW;obtain⟨Z,m5,m,y,J,q1,q2,H,q4,q5⟩:=jY G (.string k) (.slice vo vn vc) (.int .i64 0);refine⟨Z,m5,J,q1,q2,H,q4,q5,y.cell 0,y.cell 1,y.cell 2,?_,?_⟩
 . refine Row.keep (qw SL (by omega)) (qE _ _) ?_;rw[m.o];exact JY G (by decide) _ _ _
 . rw[m.o];exact(((BV.trans (BW.mono BV.size)).setCell (p:=⟨_,0,none⟩) (Nat.le_refl _) _).setCell (p:=⟨_,1,none⟩) (Nat.le_refl _) _).setCell (p:=⟨_,2,none⟩) (Nat.le_refl _) _
theorem xY(k:ByteArray)(n:Int)(w:World)(h0 : -9223372036854775808<=n)(h1:n<=9223372036854775807)(hT:Tabs w) :
    Calls Tryz.prog 90 #[.string k,.int .i64 n] w λe w'=>∃vo vn vc,e=.returned (.agg #[.string k,.slice vo vn vc,.int .i64 0])/\StrL (qS w.heap.size [9]) w' vo vn vc [Lib.itoa n]/\Below w.heap.size w w':=by
 obtain⟨V,e1,AV,BV,hz⟩:=qG w 63 [.string ⟨#[]⟩,.slice none 0 0,.int .i64 0];have G:=Tryz.strconv_Itoa n h0 h1 V (PW (hT.below BV));obtain⟨N,hN⟩:=jx1 (Lib.itoa n);rw[show(⟨(Lib.itoa n).toArray⟩:ByteArray)=stg N by rw[<- hN.o];rfl] at G;rw[hN.o];obtain⟨KN,J⟩:∃K,Hid (stg N=K):=⟨_,rfl⟩;rw[J.o] at G;replace G:=jA G;have HA:=jA (And.intro AV (And.intro BV hz));clear AV BV hz hT;go_in;go_wp2_with (first
   | (go_at_call 145;(with_reducible refine G.o.mono ?_);rintro e w1 ⟨rfl,kk,os,H⟩;have B1:Below V.heap.size V w1:=(by rw[H];exact CG _ _ _);obtain⟨V2,e2,SL,B2⟩:=vE w1 N;rw[J.o] at e2;have y:=jA (And.intro SL (And.intro B2 B1));have HF:=jA (λsl=>gy k (some ⟨sl,0,none⟩) 1 1 V2);clear SL B2 H B1)
   | (go_at_call 91;(with_reducible refine(HF.o _).mono ?_);rintro e w3 ⟨rfl,B3⟩;obtain⟨Z,m5,q0,q1,q2,q3,q4,q5,r0,r1,r2,m⟩:=Kh (k:=k) HA.o.1 rfl HA.o.2.1 HA.o.2.2 ((y.o.2.2.trans (y.o.2.1.mono y.o.2.2.size)).trans (B3.mono (Nat.le_trans y.o.2.2.size y.o.2.1.size))) (qw (qT y.o.1 B3) y.o.2.2.size);clear B3))
 refine bodyPost_ret (v:=.agg #[.string k,.slice (some ⟨w1.heap.size,0,none⟩) 1 1,.int .i64 0]) (by simp[results,Tryz.results90,go_sem,r0,r1,r2]) rfl ?_;exact⟨_,1,1,rfl,m.o.1,m.o.2⟩
theorem gz(k:List UInt8)(code:Int)(w:World) :
    Calls Tryz.prog 146 #[.string (stg k),.int .i64 code] w λe w'=>∃vo vn vc,e=.returned (.agg #[.string (stg k),.slice vo vn vc,.int .i64 0])/\StrL (qS w.heap.size [9]) w' vo vn vc [atI (jP k) code]/\Below w.heap.size w w':=by
 obtain⟨V,e1,AV,BV,hz⟩:=qG w 63 [.string ⟨#[]⟩,.slice none 0 0,.int .i64 0];have HI:=jA (WF k V);have y:=jA (λao n c W (h:StrL qU W ao n c (jP k))=>Jf (jP k) code ao n c W h);obtain⟨N,hN⟩:=jx1 (atI (jP k) code);have H:(if 0<=code then ((jP k)[code.toNat]?).getD [] else [])=N:=hN.o;rw[H] at y;rw[hN.o];obtain⟨KN,J⟩:∃K,Hid (stg N=K):=⟨_,rfl⟩;rw[J.o] at y;obtain⟨KK,a1⟩:∃K,Hid (stg k=K):=⟨_,rfl⟩;rw[a1.o] at HI |-;have HA:=jA (And.intro AV (And.intro BV hz));clear AV BV hz H;go_in;go_wp2_with (first
   | (go_at_call 197;(with_reducible refine HI.o.mono ?_);rintro e w1 ⟨ao,n,c,rfl,SW,B1⟩;have a0:=jA (y.o ao n c w1 SW);have a2:=jA B1;clear SW B1)
   | (go_at_call 123;(with_reducible refine a0.o.mono ?_);rintro e a3 ⟨rfl,rfl⟩;obtain⟨V2,e2,SL,B2⟩:=vE w1 N;rw[J.o] at e2;have G:=jA (And.intro SL (And.intro B2 a2.o));have HF:=jA (λsl=>gy KK (some ⟨sl,0,none⟩) 1 1 V2);clear SL B2)
   | (go_at_call 91;(with_reducible refine(HF.o _).mono ?_);rintro e w3 ⟨rfl,B3⟩;obtain⟨Z,m5,q0,q1,q2,q3,q4,q5,r0,r1,r2,m⟩:=Kh (k:=KK) HA.o.1 rfl HA.o.2.1 HA.o.2.2 ((G.o.2.2.trans (G.o.2.1.mono G.o.2.2.size)).trans (B3.mono (Nat.le_trans G.o.2.2.size G.o.2.1.size))) (qw (qT G.o.1 B3) G.o.2.2.size);clear B3))
 refine bodyPost_ret (v:=.agg #[.string KK,.slice (some ⟨w1.heap.size,0,none⟩) 1 1,.int .i64 0]) (by simp[results,Tryz.results146,go_sem,r0,r1,r2]) rfl ?_;exact⟨_,1,1,rfl,m.o.1,m.o.2⟩
theorem CH{S1 S2:World->Nat->Prop}(L:List (List UInt8))(xs:List Int)(lo ao:Option Addr)(ln lc n c:Nat)(w:World)(hl:StrL S1 w lo ln lc L)(h:IntL .i64 S2 w ao n c xs)(hn:n<=4000000) :
    Calls Tryz.prog 94 #[.slice lo ln lc,.slice ao n c] w λe w'=>∃ro m d,e=.returned (.slice ro m d)/\StrL (qS w.heap.size [9]) w' ro m d (xv L xs)/\Below w.heap.size w w':=by
 have a5:=Row.cap h;have a2:=Row.room h;have J:=jA (IntL.len h);have H:=jA (Row.low (Row.mono h kE));have a1:=jA (Row.low (Row.mono hl kE));clear h hl;go_in;go_wp2_with fail;go_loopw [5,7,10] (λv _ i wr=>∃ (j:Nat) (ro:Option Addr) (d:Nat),j<=n/\i=.int .i64 (j:Int)/\v=.slice ro j d/\wr.ownsRow w.heap.size 9 1 (.slice ro j d) j ((xs.take j).map λx=>.string (stg (atI L x)))/\Below w.heap.size w wr) (λ_ _ i _=>n-(intOf i).toNat)
 case atStart=>exact⟨0,none,0,Nat.zero_le _,rfl,rfl,World.ownsRow_nil _ _ _ _,Below.refl _ _⟩
 case round =>
  obtain⟨w1,a3⟩:∃x,x=wr:=⟨_,rfl⟩;subst a3;obtain⟨j,ro,d,hj,rfl,rfl,O,B⟩:=hrel;by_cases a4:j<n
  . (have V:(j:Int)<(n:Int):=by omega);obtain⟨x,a,hv,i1,c1⟩:=IntL.get Tryz.underlying58 (show(Tryz.prog.info? 3).map (·.size)=some 1 by kernel_rfl) (Row.keep H.o (qp _) (zN B)) j a4;have y:=Jf L x lo ln lc w1 (Row.keep a1.o (qp _) (zN B));obtain⟨R,Z⟩:=jx1 (stg (atI L x));have G:stg (if 0<=x then (L[x.toNat]?).getD [] else [])=R:=Z.o;rw[G] at y;have HS:Hid ((xs.take (j+1)).map (λx=>Value.string (stg (atI L x)))=(xs.take j).map (λx=>Value.string (stg (atI L x)))++[.string R]):=by
     show _=_;rw[qg hv,List.map_append,<- Z.o];rfl
    replace y:=jA y;have hz:w.heap.size<=w1.heap.size:=B.size;clear hv G;go_wp2_with fail;refine y.o.mono ?_;rintro e w2 ⟨rfl,rfl⟩;clear y;go_wp2_with (at_builtin;refine xM (vs:=[.string R]) Tryz.underlying26 QW rfl (by decide) (by decide) O hz (by omega) rfl (by intro u hu;simp at hu;subst hu;rfl) rfl rfl ?_);intro a0 d3 w3 O3 G3 B3;have B4:Hid (Below w.heap.size w w3):=B.trans B3;rw[<- HS.o] at O3;have O4:=jA O3;clear O3 G3 B3 c1 i1 hz O B;go_wp2_with fail;go_roundw;(case rel=>exact⟨j+1,a0,d3,by omega,by go_num,rfl,O4.o,B4.o⟩);case measure=>simp[intOf];omega
  . (have V:¬ (j:Int)<(n:Int):=by omega);have Z:Hid (xs.take j=xs):=List.take_of_length_le (by have:=J.o;omega);rw[Z.o] at O;have O2:Hid (StrL (qS w.heap.size [9]) w1 ro j d (xv L xs)):=by
     show Row _ _ _ _ _ _ _;have:=Row.own O (by decide);unfold xv;rw[List.map_map];exact this
    replace B:=jA B;clear O;go_wp2_with fail;go_ret;exact⟨ro,j,d,rfl,O2.o,B.o⟩
