/- -/
import Derived.Test.YtkefajjcpcoajaaGreatDoorPkA0
import Derived.Deep.CutBlock
import Derived.Deep.DeepCutAuto
import Derived.Test.YtkefajjcpcoajaaGreatDoorPkA43
set_option linter.all false
set_option maxRecDepth 100000
set_option maxHeartbeats 51200000
namespace Go.Proofs.YtkefajjcpcoajaaGreatDoor
open Go.RowKit Lx
theorem Cy(t:List UInt8)(bs:List qK)(b:qK)(fo:Option Addr)(fn fc B:Nat)(z:RSl)(f:Nat×Int)(g:Nat)(w:World)(hR:RR B none w (rOf t bs) z)(h:St w g (rC (rOf t bs) z) f)(hf:f.1=0)(hF:FldS (ya B) w fo fn fc b.flds)(hbs:bs.length<=1000000)(hsm:ShB b)(hB:B<=w.heap.size)(hg:B<=g) :
    Calls Tryz.prog 31 #[.pointer (some ⟨g,0,none⟩),.agg #[.string (stg b.kind),.string (stg b.name),.slice fo fn fc,.int .i64 b.line]] w λx w'=>x=.returned (.tuple #[])/\∃F' r' z',St w' g (rC r' z') F'/\RR B none w' r' z'/\Below B w w'/\((F'.1=0/\(zP bs b).1=0/\r'=rOf t (bs++[b]))\/(F'.1≠0/\F'=zP bs b)):=by
 obtain⟨U,e1,AU,BU,zU⟩:=qG w 55 [.string (stg b.kind),.string (stg b.name),.slice fo fn fc,.int .i64 b.line];have HH:=jA (Na t bs b fo fn fc B none z f g U (hR.below BU) hbs hsm.name (h.keep BU));have i7:Hid (b.flds.length=fn):=hF.len;have o8:Hid (fn<=2000000):=by show _<=_;rw[<- i7.o];exact hsm.flds
 have B8:Hid (∀W,Below B w W->FldS (ya B) W fo fn fc b.flds):=λW hb=>hF.keep (qp _) (JH hb)
 have s7:=jA (hR.below BU);have o6:=jA (h.keep BU);have k2:=jA AU;have u5:Hid (Below B w U):=BU.mono hB;have x5:Hid (B<=U.heap.size/\B<=w.heap.size):=⟨Nat.le_trans hB BU.size,hB⟩;have i0:=jA (GS.start (bs:=bs) (b:=b) hf);have w3:=jA hsm.vals;replace hg:=jA hg;have a5:Hid (z.qn<=1000000):=by
  have:=hR.seen.1;rw[List.length_map] at this;have e:(rOf t bs).seen.length=bs.length:=List.length_map _;show _<=_;omega
 obtain⟨F0,B1⟩:∃X,Hid (z7 f (xm bs b) b.line=X):=⟨_,rfl⟩;rw[B1.o] at HH i0;obtain⟨KD,a4⟩:∃X,Hid (stg b.kind=X):=⟨_,rfl⟩;obtain⟨KN,d9⟩:∃X,Hid (stg b.name=X):=⟨_,rfl⟩;obtain⟨LN,g3⟩:∃X,Hid (b.line=X):=⟨_,rfl⟩;obtain⟨p,hp⟩:∃x,w.heap.size=x:=⟨_,rfl⟩;have y0:U.cell? ⟨p,0,none⟩=some (.string KD):=by rw[<- hp,<- a4.o];exact AU.cell 0
 have y1:U.cell? ⟨p,1,none⟩=some (.string KN):=by rw[<- hp,<- d9.o];exact AU.cell 1
 have y2:U.cell? ⟨p,2,none⟩=some (.slice fo fn fc):=by rw[<- hp];exact AU.cell 2
 have y3:U.cell? ⟨p,3,none⟩=some (.int .i64 LN):=by rw[<- hp,<- g3.o];exact AU.cell 3
 rw[hp] at k2;have A0:Hid (B<=p):=by show _<=_;rw[<- hp];exact hB
 rw[a4.o,d9.o,g3.o] at HH e1;have HC:Hid (∀ (pc pn pl:Nat) (E:List (Nat×List Value)) (v W:World) (d:BD),BI B b ⟨g,p,pc,pn,pl,fo,fn,fc⟩ E v W d->W.cell? ⟨g,17,none⟩=some (.int .i64 (d.f.1:Int))/\W.cell? ⟨p,0,none⟩=some (.string KD)/\W.cell? ⟨p,1,none⟩=some (.string KN)/\W.cell? ⟨p,2,none⟩=some (.slice fo fn fc)/\W.cell? ⟨p,3,none⟩=some (.int .i64 LN)):=λpc pn pl E v W d hI=>by
  have:=hI.cells;rw[a4.o,d9.o,g3.o] at this;exact this
 rw[a4.o,d9.o,g3.o];replace hbs:=jA hbs;clear h hR hF hsm AU BU zU hB;go_in;go_upto_block 0 with (first
   | (go_at_call 70;(with_reducible refine HH.o.mono ?_);rintro e w2 ⟨rfl,S2,G2⟩;obtain⟨V1,V2,V3,m1,m2,m3,y6⟩:=BI.init (w0:=w) (p:=p) S2 (s7.o.box o6.o.arr (by decide) G2) (kl k2.o G2 (yl k2.o o6.o.arr (by decide))) (u5.o.grown G2 x5.o.1 (λk e=>by injection e with e;have:=hg.o;omega)) (Nat.le_trans x5.o.1 G2.size) hg.o A0.o;have BC:=jA y6;clear y6 S2 G2;obtain⟨pc,H5⟩:∃x,w2.heap.size=x:=⟨_,rfl⟩;obtain⟨pn,H3⟩:∃x,V1.heap.size=x:=⟨_,rfl⟩;obtain⟨pl,F1⟩:∃x,V2.heap.size=x:=⟨_,rfl⟩;rw[H5,H3,F1] at BC)
   | fail)
 go_cut [4,8,9,10,11] from 17 to 117 (λk dg sg _ _ wx=>∃d:BD,Hid (BI B b ⟨g,p,pc,pn,pl,fo,fn,fc⟩ [] w wx d)/\k=.slice d.ko d.kn d.kc/\dg=.int .i64 d.X.dg/\sg=.int .i64 d.X.st/\Hid (d.z.qn<=1000000)/\Hid ((d.f.1=0/\d.r=vT t bs b b.flds/\d.X=xX b b.flds/\d.ks=b.flds.map zC.key/\zP bs b=if jv b then (6,b.line) else yr b)\/(d.f.1≠0/\d.f=zP bs b)))
 case first =>
  go_wp2_with fail;go_loopw [4,8,9,10,11] (λk dg sg i _ wr=>∃ (j:Nat) (d:BD),j<=fn/\Hid (BI B b ⟨g,p,pc,pn,pl,fo,fn,fc⟩ [] w wr d)/\k=.slice d.ko d.kn d.kc/\dg=.int .i64 d.X.dg/\sg=.int .i64 d.X.st/\i=.int .i64 (j:Int)/\Hid (GS bs b j d.f)/\Hid (d.f.1=0->d.r=vT t bs b (b.flds.take j)/\d.X=xX b (b.flds.take j)/\d.ks=(b.flds.take j).map zC.key)/\Hid (d.kn<=j)/\Hid (d.z.qn<=1000000)) (λ_ _ _ i _ _=>fn-(intOf i).toNat)
  case atStart =>
   refine⟨0,_,Nat.zero_le _,BC,rfl,rfl,rfl,rfl,i0,λe0=>?_,Nat.le_refl _,a5⟩;have hh:xm bs b=0:=by
    rcases i0.o with ⟨_,h1,_⟩|⟨h1,_⟩
    . exact h1
    . exact absurd e0 h1
   exact⟨(Gs hh).symm,(Gt b).symm,rfl⟩
  case round =>
   clear HH s7 o6 k2 u5 i0 BC m1 m2 m3 e1 y0 y1 y2 y3 a5;obtain⟨w1,r9⟩:∃x,x=wr:=⟨_,rfl⟩;subst r9;obtain⟨j,d,hj,BC,rfl,rfl,rfl,rfl,GJ,CU,g7,a5⟩:=hrel;have I9:fn<=2000000:=o8.o;obtain⟨f8,p8,q6,p5,p9⟩:=HC.o _ _ _ _ _ _ _ BC.o;obtain⟨N1,e8⟩:∃X,Hid ((d.f.1:Int)=X):=⟨_,rfl⟩;rw[e8.o] at f8;by_cases he:d.f.1=0
   rotate_left
   (have u4:(N1 == 0)=false:=by rw[<- e8.o];simp[he]);have x8:Hid (d.f=zP bs b):=GJ.o.bad he;have t8:Hid (d.f.1≠0):=he;clear GJ CU he;by_cases d3:(j:Int)<(fn:Int)<;>(go_wp2_with fail;go_meet;case rel=>exact⟨d,BC,rfl,rfl,rfl,a5,Or.inr ⟨t8.o,x8.o⟩⟩);(have u4:(N1 == 0)=true:=by rw[<- e8.o,he];rfl);(have q0:(N1 != 0)=false:=by rw[<- e8.o,he];rfl);by_cases d6:j<fn
   rotate_left
   . (have d3:¬ (j:Int)<(fn:Int):=by omega);have D0:Hid (zP bs b=if jv b then (6,b.line) else yr b):=GJ.o.done (by have:=i7.o;omega) he;have q9:b.flds.take j=b.flds:=List.take_of_length_le (by have:=i7.o;omega);(have CV:Hid (d.r=vT t bs b b.flds/\d.X=xX b b.flds/\d.ks=b.flds.map zC.key):=by have:=CU.o he;rwa [q9] at this);clear GJ CU q9;go_wp2_with fail;(go_meet);case rel=>exact⟨d,BC,rfl,rfl,rfl,a5,Or.inl ⟨he,CV.o.1,CV.o.2.1,CV.o.2.2,D0.o⟩⟩
   (have d3:(j:Int)<(fn:Int):=by omega);obtain⟨x,a',vo,vn,vc,n0,i1,c0,c1,c2,SL⟩:=(B8.o w1 BC.o.j.bw).get j d6;have hx:=jA n0;have o5:=jA (w3.o x (List.mem_of_getElem? n0));(have r4:Hid (vn<=4000000):=by show _<=_;rw[<- StrL.len SL];exact o5.o.1);(have d7:Hid (∀W,Below B w1 W->StrL (neF g) W vo vn vc x.vals):=λW hb=>Row.mono (Row.keep SL (qp _) (JH hb)) (λk hk=>by have h1:k<B:=hk;have:=hg.o;show k≠g;omega));obtain⟨KF,b4⟩:∃X,Hid (stg x.key=X):=⟨_,rfl⟩;obtain⟨LF,g8⟩:∃X,Hid (x.line=X):=⟨_,rfl⟩;rw[b4.o] at c0;rw[g8.o] at c2;obtain⟨V,W1,e3,e4,AW,BW,zW,f0,f1,f2,f3,f4,f5⟩:=ze w1 63 (.string ⟨#[]⟩) (.slice none 0 0) (.int .i64 0) (.string KF) (.slice vo vn vc) (.int .i64 LF);obtain⟨pf,E7⟩:∃x,w1.heap.size=x:=⟨_,rfl⟩;rw[E7] at AW e4 f0 f1 f2 f3 f4 f5;obtain⟨W2,F8⟩:∃x,W1.drew=x:=⟨_,rfl⟩;(have HD:Below W1.heap.size W1 W2:=by rw[<- F8];exact(Below.refl _ _).drew);have u3:=jA ((BC.o.base.below BW).with AW);have s8:=jA (u3.o.below HD);(have b9:Hid (∀ (v W:World) (J:BD),BI B b ⟨g,p,pc,pn,pl,fo,fn,fc⟩ [(pf,[.string KF,.slice vo vn vc,.int .i64 LF])] v W J->W.cell? ⟨pf,0,none⟩=some (.string KF)/\W.cell? ⟨pf,1,none⟩=some (.slice vo vn vc)/\W.cell? ⟨pf,2,none⟩=some (.int .i64 LF)):=λv W J h=>h.fcells);have j0:=jA BC.o.j.bw;have HK:Hid (∀W,jC 71 #[.string KD] W λe w'=>∃ao n c,e=.returned (.slice ao n c)/\StrL qU w' ao n c (zb b.kind)/\Below W.heap.size W w'):=λW=>by
    rw[<- a4.o];exact(gp b.kind W).mono λe w' ⟨ao,n,c,h1,h2,h3,_⟩=>⟨ao,n,c,h1,Row.mono h2 (λ_ _=>trivial),h3⟩
   obtain⟨I2,z6⟩:∃X,Hid (jV (zb b.kind) x.key=X):=⟨_,rfl⟩;obtain⟨I3,y5⟩:∃X,Hid (jV d.ks x.key=X):=⟨_,rfl⟩;(have H6:Hid (∀W ao n c,StrL qU W ao n c (zb b.kind)->Calls Tryz.prog 32 #[.slice ao n c,.string KF] W λe w'=>e=.returned (.int .i64 I2)/\W=w'):=λW ao n c hs=>by rw[<- b4.o,<- z6.o];exact vZ _ _ _ _ _ _ hs);(have H9:Hid (∀W,StrL qU W d.ko d.kn d.kc d.ks->Calls Tryz.prog 32 #[.slice d.ko d.kn d.kc,.string KF] W λe w'=>e=.returned (.int .i64 I3)/\W=w'):=λW hs=>by rw[<- b4.o,<- y5.o];exact vZ _ _ _ _ _ _ hs);(have t2:decide (I2<0) = !(zi b.kind x.key).isSome:=by rw[<- z6.o,gx,JD]);(have t3:decide (I3>=0)=(b.flds.take j).any λq=>decide (q.key=x.key):=by rw[<- y5.o,ug,(CU.o he).2.2,gv]);(have HX:Hid (∀ (W:World) (J:BD) (e:Nat),e≠0->BI B b ⟨g,p,pc,pn,pl,fo,fn,fc⟩ [(pf,[.string KF,.slice vo vn vc,.int .i64 LF])] w1 W J->∀EI:Int,EI=(e:Int)->Calls Tryz.prog 30 #[.pointer (some ⟨g,0,none⟩),.int .i64 EI,.int .i64 LF] W λy W'=>y=.returned (.tuple #[])/\BI B b ⟨g,p,pc,pn,pl,fo,fn,fc⟩ [(pf,[.string KF,.slice vo vn vc,.int .i64 LF])] w1 W' { J with f:=z7 J.f e LF }):=λW J e h0 hI EI hE=>(jO _ J.f e LF g W hI.st h0 EI hE).mono λy W' ⟨h1,h2,h3⟩=>⟨h1,hI.fail h2 h3⟩);(have GX:Hid (∀e,jp b.kind (b.flds.take j) x=e->GS bs b (j+1) (z7 d.f e LF)):=λe h=>by rw[<- g8.o];exact GJ.o.step he hx.o h);have t4:=jA (qg n0);have u0:W2.cell? ⟨p,0,none⟩=some (.string KD):=(HC.o _ _ _ _ _ _ _ s8.o).2.1;have u1:W2.cell? ⟨pf,0,none⟩=some (.string KF):=(b9.o _ _ _ s8.o).1;obtain⟨E1,x0,_,_,_⟩:=HC.o _ _ _ _ _ _ _ u3.o;have x1:=(b9.o _ _ _ u3.o).1;rw[e8.o] at E1;have he:=jA he;clear SL n0 AW BW zW HD GJ;rcases hr:zi b.kind x.key with _|r
   rw[hr] at t2;replace t2:decide (I2<0)=true:=t2;have GE:=jA (GX.o 2 (JE hr));clear hr GX d7;(have j5:Hid ((z7 d.f 2 LF).1≠0):=by show _≠_;intro e;exact absurd (gi.1 e).2 (by decide));have H4:Hid (z7 (z7 d.f 2 LF) 3 LF=z7 d.f 2 LF):=vB LF j5.o;obtain⟨N2,h9⟩:∃X,Hid (((z7 d.f 2 LF).1:Int)=X):=⟨_,rfl⟩;(have E5:(N2 != 0)=true:=by have:=j5.o;rw[<- h9.o];simp[this]);obtain⟨TD,v6⟩:∃X,(b.flds.take j).any (λq=>decide (q.key=x.key))=X:=⟨_,rfl⟩;rw[v6] at t3;clear v6;cases TD
   rotate_left 2
   rw[hr] at t2;replace t2:decide (I2<0)=false:=t2;rcases hd:(b.flds.take j).any (λq=>decide (q.key=x.key)) with _|_
   rotate_left
   rw[hd] at t3;have GE:=jA (GX.o 3 (Xx hr hd));clear hr hd GX d7;(have j5:Hid ((z7 d.f 3 LF).1≠0):=by show _≠_;intro e;exact absurd (gi.1 e).2 (by decide));obtain⟨N2,h9⟩:∃X,Hid (((z7 d.f 3 LF).1:Int)=X):=⟨_,rfl⟩;have E5:(N2 != 0)=true:=by have:=j5.o;rw[<- h9.o];simp[this]
   rotate_right
   rw[hd] at t3;have GE:=jA (GX.o (xi r x.vals) (UX hr hd));replace hr:=jA hr;replace hd:=jA hd;clear GX;by_cases a3:b.kind=qF;(have q1:(KD.toList == [99,111,110,116,101,115,116])=true:=by rw[<- a4.o,a3];exact j9 qF);have E0:Hid (∀ (W:World) (J:BD),BI B b ⟨g,p,pc,pn,pl,fo,fn,fc⟩ [(pf,[.string KF,.slice vo vn vc,.int .i64 LF])] w1 W J->Calls Tryz.prog 72 #[.pointer (some ⟨g,0,none⟩),.pointer (some ⟨pc,0,none⟩),.agg #[.string KF,.slice vo vn vc,.int .i64 LF]] W λy W'=>y=.returned (.tuple #[])/\∃c' co' cn' cc',BI B b ⟨g,p,pc,pn,pl,fo,fn,fc⟩ [(pf,[.string KF,.slice vo vn vc,.int .i64 LF])] w1 W' { J with f:=z7 J.f (xi r x.vals) LF,X:={ J.X with c:=c' },co:=co',cn:=cn',cc:=cc' }/\(xi r x.vals=0->c'=Vu x J.X.c)):=λW J hI=>by
    have v8:=hr.o;rw[a3] at v8;have:=PO x r v8 vo vn vc J.X.c J.co J.cn J.cc _ J.f g pc W (d7.o W hI.j.bw) o5.o.2 r4.o hI.st hI.j.c (yl hI.j.c hI.st.arr (by decide));rw[b4.o,g8.o] at this;exact this.mono λy W' ⟨h1,⟨wm,g1,g2⟩,h3,c',co',cn',cc',h4,h5,h6⟩=>⟨h1,c',co',cn',cc',hI.cst g1 g2 h3 h4 h5,h6⟩
   have CX:=jA (YA (t:=t) (bs:=bs) a3 hr.o hd.o);clear d7;have hq:Hid ((x.key=qY/\x.key≠zO)\/(x.key≠qY/\x.key=zO)\/(x.key≠qY/\x.key≠zO)):=by
    by_cases e1:x.key=qY
    . exact Or.inl ⟨e1,by rw[e1];decide⟩
    . by_cases e2:x.key=zO
      . exact Or.inr (Or.inl ⟨e1,e2⟩)
      . exact Or.inr (Or.inr ⟨e1,e2⟩)
   rcases hq.o with ⟨Z,d8⟩|⟨Z,d8⟩|⟨Z,d8⟩
   (have q3:(KF.toList == [100,105,103,105,116,115])=true:=by rw[<- b4.o,Z];exact j9 qY);(have q4:(KF.toList == [115,101,97,116,115])=false:=by rw[<- b4.o];exact jh (v:=zO) d8);obtain⟨DG,o2⟩:∃X,Hid (X=LF):=⟨_,rfl⟩;obtain⟨SG,m8⟩:∃X,Hid (X=d.X.st):=⟨_,rfl⟩
   rotate_left
   (have q3:(KF.toList == [100,105,103,105,116,115])=false:=by rw[<- b4.o];exact jh (v:=qY) Z);(have q4:(KF.toList == [115,101,97,116,115])=true:=by rw[<- b4.o,d8];exact j9 zO);obtain⟨DG,o2⟩:∃X,Hid (X=d.X.dg):=⟨_,rfl⟩;obtain⟨SG,m8⟩:∃X,Hid (X=LF):=⟨_,rfl⟩
   rotate_left
   (have q3:(KF.toList == [100,105,103,105,116,115])=false:=by rw[<- b4.o];exact jh (v:=qY) Z);(have q4:(KF.toList == [115,101,97,116,115])=false:=by rw[<- b4.o];exact jh (v:=zO) d8);obtain⟨DG,o2⟩:∃X,Hid (X=d.X.dg):=⟨_,rfl⟩;obtain⟨SG,m8⟩:∃X,Hid (X=d.X.st):=⟨_,rfl⟩
   rotate_left
   (have q1:(KD.toList == [99,111,110,116,101,115,116])=false:=by rw[<- a4.o];exact jh (v:=qF) a3);by_cases a9:b.kind=qI;(have q2:(KD.toList == [115,116,121,108,101])=true:=by rw[<- a4.o,a9];exact j9 qI);have s0:Hid (∀ (W:World) (J:BD) (most:Nat) (MO:Int),MO=(most:Int)->BI B b ⟨g,p,pc,pn,pl,fo,fn,fc⟩ [(pf,[.string KF,.slice vo vn vc,.int .i64 LF])] w1 W J->Calls Tryz.prog 73 #[.pointer (some ⟨g,0,none⟩),.agg #[.string KF,.slice vo vn vc,.int .i64 LF],.int .i64 MO] W λy W'=>∃ro m c,y=.returned (.slice ro m c)/\St W' g (rC J.r J.z) (z7 J.f (yw most x.vals) LF)/\W.grownBy W' (some g)/\StrL (qS W.heap.size [9]) W' ro m c x.vals):=λW J most MO hM hI =>
    Xq KF x.vals vo vn vc LF most MO hM _ J.f g W (d7.o W hI.j.bw) o5.o.2 r4.o hI.st
   by_cases Z:x.key=qB;(have q3:(KF.toList == [112,114,101,99,105,110,99,116,115])=true:=by rw[<- b4.o,Z];exact j9 qB);have CX:=jA (Fx (t:=t) (bs:=bs) a9 hd.o Z);(have j3:Hid (xi r x.vals=yw 12 x.vals):=by show _=_;rw[Gu a9 hr.o Z];exact wa rfl rfl _);rw[j3.o] at GE;clear d7 hr hd j3 Z
   rotate_left
   (have q3:(KF.toList == [112,114,101,99,105,110,99,116,115])=false:=by rw[<- b4.o];exact jh (v:=qB) Z);obtain⟨d8,v3,x7,y8⟩:=Fy (t:=t) (bs:=bs) a9 hr.o hd.o Z;have CX:=jA (And.intro x7 y8);(have j3:Hid (xi r x.vals=yw 4 x.vals):=by show _=_;rw[v3];exact wa rfl rfl _);rw[j3.o] at GE;clear d7 hr hd j3 Z d8 v3 x7 y8
   rotate_left
   (have q2:(KD.toList == [115,116,121,108,101])=false:=by rw[<- a4.o];exact jh (v:=qI) a9);have B5:Hid (∀ (W:World) (J:BD),BI B b ⟨g,p,pc,pn,pl,fo,fn,fc⟩ [(pf,[.string KF,.slice vo vn vc,.int .i64 LF])] w1 W J->Calls Tryz.prog 74 #[.pointer (some ⟨g,0,none⟩),.string KD,.agg #[.string KF,.slice vo vn vc,.int .i64 LF]] W λy W'=>y=.returned (.tuple #[])/\∃e' s',BI B b ⟨g,p,pc,pn,pl,fo,fn,fc⟩ [(pf,[.string KF,.slice vo vn vc,.int .i64 LF])] w1 W' { J with f:=z7 J.f (xi r x.vals) LF,r:={ J.r with e:=e' },z:={ J.z with s:=s' } }/\(xi r x.vals=0->e'=Xm b.kind x J.r.e)):=λW J hI=>by
    have:=Ft b.kind a3 a9 x r hr.o vo vn vc J.r.e J.z.s _ rfl J.f g W (d7.o W hI.j.bw) o5.o.2 r4.o hI.st;rw[a4.o,b4.o,g8.o] at this;exact this.mono λy W' ⟨h1,h2,e',s',h3,h4,h5⟩=>⟨h1,e',s',hI.field h3 h4 h2,h5⟩
   have CX:=jA (Gv (t:=t) (bs:=bs) a3 a9 hr.o hd.o);clear d7 hr hd
   rotate_left
   all_goals as_aux_lemma =>
    go_wp2_with fail;go_region_held3 (λw'=>w'.cell? ⟨p,0,none⟩=some (.string KD)/\w'.cell? ⟨pf,0,none⟩=some (.string KF)) (go_keep) (first
      | (go_at_call 71;(with_reducible refine(HK.o W2).mono ?_);rintro e w4 ⟨qo,qn,qc,rfl,QL,B4⟩;have k0:=qA u0 B4;have k1:=qA u1 B4;have a6:=jA (s8.o.below B4);obtain⟨b8,r2,q7,q5,q8⟩:=HC.o _ _ _ _ _ _ _ a6.o;obtain⟨p7,r3,p4⟩:=b9.o _ _ _ a6.o;rw[e8.o] at b8)
      | (go_at_call 32;(with_reducible refine(H6.o w4 _ _ _ QL).mono ?_);rintro e w5 ⟨rfl,rfl⟩)
      | fail)
    go_wp2_with (first
      | (go_at_call 30;(with_reducible refine(HX.o w4 _ 2 (by decide) a6.o 2 rfl).mono ?_);rintro e w4 ⟨rfl,B_⟩;have a6:=jA B_;clear B_;obtain⟨b8,r2,q7,q5,q8⟩:=HC.o _ _ _ _ _ _ _ a6.o;obtain⟨p7,r3,p4⟩:=b9.o _ _ _ a6.o;rw[h9.o] at b8)
      | (go_at_call 30;(with_reducible refine(HX.o w4 _ 3 (by decide) a6.o 3 rfl).mono ?_);rintro e w4 ⟨rfl,B_⟩;(try (dsimp only at B_;rw[H4.o] at B_));have a6:=jA B_;clear B_;obtain⟨b8,r2,q7,q5,q8⟩:=HC.o _ _ _ _ _ _ _ a6.o;obtain⟨p7,r3,p4⟩:=b9.o _ _ _ a6.o;rw[h9.o] at b8)
      | (go_at_call 32;(with_reducible refine(H9.o w4 a6.o.known).mono ?_);rintro e wq ⟨rfl,rfl⟩)
      | (at_builtin;refine uT (x:=.string KF) (us:=d.ks.map λv=>.string (stg v)) (ao:=d.ko) (n:=d.kn) (c:=d.kc) a6.o.j.kn a6.o.j.hB.1 (by have:=g7.o;have:=o8.o;omega) rfl rfl rfl ?_;intro m4 c8 w8 O8 G8 u6 _;rw[<- b4.o] at O8;have g6:=jA (BI.app a6.o O8 G8 u6);clear O8 G8 u6;obtain⟨k4,I1,I8,L6,M0⟩:=HC.o _ _ _ _ _ _ _ g6.o;obtain⟨L5,L2,K1⟩:=b9.o _ _ _ g6.o;first|rw[h9.o] at k4|rw[e8.o] at k4)
      | (go_at_call 72;(with_reducible refine(E0.o w8 _ g6.o).mono ?_);rintro e w9 ⟨rfl,c9,C3,H7,A2,B9,j1⟩;have n9:=jA B9;have UP:=jA j1;clear j1;obtain⟨L8,K3,L0⟩:=b9.o _ _ _ n9.o)
      | (go_at_call 74;(with_reducible refine(B5.o w8 _ g6.o).mono ?_);rintro e w9 ⟨rfl,e9,s9,B9,j1⟩;have n9:=jA B9;have UP:=jA j1;clear j1)
      | fail)
    try
      have C5:=s0;clear C5;obtain⟨W8,F7⟩:∃x,w8.drew=x:=⟨_,rfl⟩;(have v5:Below w8.heap.size w8 W8:=by rw[<- F7];exact(Below.refl _ _).drew);have BD:=jA (g6.o.below v5);obtain⟨a0,a1,a2⟩:=b9.o _ _ _ BD.o;clear v5;go_region_held3 (λw'=>w'.cell? ⟨pf,0,none⟩=some (.string KF)/\w'.cell? ⟨pf,1,none⟩=some (.slice vo vn vc)/\w'.cell? ⟨pf,2,none⟩=some (.int .i64 LF)) (go_keep) (first
        | (go_at_call 73;(first
            | ((with_reducible refine(s0.o W8 _ 12 12 rfl BD.o).mono ?_);rintro e w9 ⟨r6,m9,c9,rfl,S9,G9,X9⟩;have BL:=BD.o.lst S9 G9 X9 0 (by decide) LF)
            | ((with_reducible refine(s0.o W8 _ 4 4 rfl BD.o).mono ?_);rintro e w9 ⟨r6,m9,c9,rfl,S9,G9,X9⟩;have BL:=BD.o.lst S9 G9 X9 1 (by decide) LF));obtain⟨Z1,Z2,M6,M5,n1,n2,n3,n4,n5,n6,n7,x9⟩:=BL;have BZ:=jA x9;clear x9;obtain⟨b0,b1,b2⟩:=b9.o _ _ _ (BD.o.fail S9 G9);have d0:=(n7 _ (List.mem_singleton.2 rfl)).cell 0;have d1:=(n7 _ (List.mem_singleton.2 rfl)).cell 1;have d2:=(n7 _ (List.mem_singleton.2 rfl)).cell 2;obtain⟨g0,g1,g2⟩:=b9.o _ _ _ BZ.o;clear S9 G9 X9 n7)
        | fail)
      go_wp2_with fail
    go_roundw;(case measure=>simp[intOf];omega);case rel=>first
      | exact⟨j+1,_,by omega,g6.o.drop.rebase j0.o,rfl,rfl,rfl,by go_num,GE,λe0=>absurd e0 j5.o,by show _<=_;have:=g7.o;dsimp only;omega,a5⟩
      | (refine⟨j+1,{ d with ko:=m4,kn:=d.kn+1,kc:=c8,ks:=d.ks++[x.key],f:=_,X:={ d.X with c:=c9,dg:=DG,st:=SG },co:=C3,cn:=H7,cc:=A2 },by omega,(n9.o.drop.rebase j0.o).num _ _,rfl,by rw[o2.o],by rw[m8.o],by go_num,GE,λe0=>?_,by show _<=_;have:=g7.o;dsimp only;omega,a5⟩
         rw[t4.o,CX.o.1,CX.o.2,List.map_append];refine⟨(CU.o he.o).1,?_,by rw[(CU.o he.o).2.2];rfl⟩;rw[<- (CU.o he.o).2.1,UP.o (gi.1 e0).2];simp only[o2.o,m8.o,g8.o,Z,d8,if_true,if_false,ne_eq,not_false_eq_true,show ¬ qY=zO by decide,show ¬ zO=qY by decide])
      | (refine⟨j+1,{ d with ko:=m4,kn:=d.kn+1,kc:=c8,ks:=d.ks++[x.key],f:=_,r:={ d.r with e:=e9 },z:={ d.z with s:=s9 } },by omega,n9.o.drop.rebase j0.o,rfl,rfl,rfl,by go_num,GE,λe0=>?_,by show _<=_;have:=g7.o;dsimp only;omega,a5⟩
         rw[t4.o,CX.o.1,CX.o.2,List.map_append];exact⟨by rw[<- (CU.o he.o).1,UP.o (gi.1 e0).2],(CU.o he.o).2.1,by rw[(CU.o he.o).2.2];rfl⟩)
      | ((first
          | refine⟨j+1,{ d with ko:=m4,kn:=d.kn+1,kc:=c8,ks:=d.ks++[x.key],f:=_,X:={ d.X with n1:=x.vals,l1:=LF },no:=r6,nn:=m9,nc:=c9 },by omega,BZ.o.drop.rebase j0.o,rfl,rfl,rfl,by go_num,GE,λe0=>?_,by show _<=_;have:=g7.o;dsimp only;omega,a5⟩
          | refine⟨j+1,{ d with ko:=m4,kn:=d.kn+1,kc:=c8,ks:=d.ks++[x.key],f:=_,X:={ d.X with n2:=x.vals,l2:=LF },mo:=r6,mn:=m9,mc:=c9 },by omega,BZ.o.drop.rebase j0.o,rfl,rfl,rfl,by go_num,GE,λe0=>?_,by show _<=_;have:=g7.o;dsimp only;omega,a5⟩)
         rw[t4.o,CX.o.1,CX.o.2,List.map_append];exact⟨(CU.o he.o).1,by rw[<- (CU.o he.o).2.1,<- g8.o],by rw[(CU.o he.o).2.2];rfl⟩)
 case rest =>
  clear HH s7 o6 k2 u5 i0 BC m1 m2 m3 e1 y0 y1 y2 y3 a5;obtain⟨d,BC,rfl,rfl,rfl,a5,HL⟩:=hcut;obtain⟨w1,r9⟩:∃x,x=wc:=⟨_,rfl⟩;subst r9;obtain⟨f8,p8,q6,p5,p9⟩:=HC.o _ _ _ _ _ _ _ BC.o;have v7:Hid (jC 71 #[.string KD] w1 λe w'=>∃ao n c,e=.returned (.slice ao n c)/\StrL (neF g) w' ao n c (zb b.kind)/\Below w1.heap.size w1 w'):=by
   have E8:=BC.o.st.lt;rw[<- a4.o];exact(gp b.kind w1).mono λe w' ⟨ao,n,c,h1,h2,h3,_⟩=>⟨ao,n,c,h1,Row.mono h2 (λk hk=>by have h1:w1.heap.size<=k:=hk.1;dsimp only at E8;show k≠g;omega),h3⟩
  go_upto_block 3 with (first
    | (go_at_call 71;(with_reducible refine v7.o.mono ?_);rintro e w4 ⟨qo,qn,qc,rfl,v4,B4⟩;have QL:=jA v4;have a6:=jA (BC.o.below B4);clear v4 B4)
    | fail)
  clear f8 p8 q6 p5 p9 v7 BC;go_cut [13] from 121 to 157 (λ_ wx=>∃F2:Nat×Int,Hid (BI B b ⟨g,p,pc,pn,pl,fo,fn,fc⟩ [] w wx { d with f:=F2 })/\Hid ((F2.1=0/\d.r=vT t bs b b.flds/\d.X=xX b b.flds/\d.ks=b.flds.map zC.key/\zP bs b=yr b)\/(F2.1≠0/\F2=zP bs b)))
  case first =>
   have u8:Hid ((zb b.kind).length=qn):=StrL.len QL.o;(have O0:qn<=19:=by rw[<- u8.o];exact U7 _);obtain⟨M,hM⟩:∃X,Hid (d.X.c.method=X):=⟨_,rfl⟩;go_wp2_with fail;(go_loopw [13] (λi wr=>∃ (i2:Nat) (F2:Nat×Int),i2<=qn/\i=.int .i64 (i2:Int)/\Hid (BI B b ⟨g,p,pc,pn,pl,fo,fn,fc⟩ [] w wr { d with f:=F2 })/\Hid (StrL (neF g) wr qo qn qc (zb b.kind))/\Hid (LKS bs b d.f i2 F2)) (λi _=>qn-(intOf i).toNat));case atStart =>
    refine⟨0,d.f,Nat.zero_le _,rfl,a6,QL,?_⟩;rcases HL.o with ⟨h1,_⟩|⟨h1,h2⟩
    . exact Or.inl ⟨h1,h1,λq hq=>by rw[List.take_zero] at hq;cases hq⟩
    . exact Or.inr ⟨h1,h2⟩
   case round =>
    clear a6 QL;obtain⟨w5,t9⟩:∃x,x=wr:=⟨_,rfl⟩;subst t9;obtain⟨i2,F2,N4,rfl,c6,k6,LK⟩:=hrel;obtain⟨b3,k3,j2,i9,k9⟩:=HC.o _ _ _ _ _ _ _ c6.o;obtain⟨N5,g4⟩:∃X,Hid ((F2.1:Int)=X):=⟨_,rfl⟩;(have g5:w5.cell? ⟨g,17,none⟩=some (.int .i64 N5):=by rw[<- g4.o];exact b3);clear b3;by_cases G:F2.1=0
    . (have u4:(N5 == 0)=true:=by rw[<- g4.o,G];rfl);have HV:Hid (d.r=vT t bs b b.flds/\d.X=xX b b.flds/\d.ks=b.flds.map zC.key/\zP bs b=if jv b then (6,b.line) else yr b):=by
       have hf:d.f.1=0:=by
        rcases LK.o with ⟨_,h1,_⟩|⟨h1,_⟩
        . exact h1
        . exact absurd G h1
       rcases HL.o with ⟨_,h2⟩|⟨h1,_⟩
       . exact h2
       . exact absurd hf h1
      replace G:=jA G;by_cases d6:i2<qn
      . (have d3:(i2:Int)<(qn:Int):=by omega);obtain⟨v,a',z4,i1,c1⟩:=StrL.get k6.o i2 d6;have hv:=jA z4;clear z4;obtain⟨KV,s2⟩:∃X,Hid (stg v=X):=⟨_,rfl⟩;rw[s2.o] at c1;obtain⟨I5,y4⟩:∃X,Hid (jV d.ks v=X):=⟨_,rfl⟩;(have o3:Hid (jC 32 #[.slice d.ko d.kn d.kc,.string KV] w5 λe w'=>e=.returned (.int .i64 I5)/\w5=w'):=by rw[<- s2.o,<- y4.o];exact vZ _ _ _ _ _ _ c6.o.known);(have t5:decide (I5<0) = !xQ b v:=by rw[<- y4.o,gx,HV.o.2.2.1,Vz]);(have N3:w5.cell? ⟨pc,2,none⟩=some (.int .i64 M):=by rw[<- hM.o];exact c6.o.j.c.cell 2);(have z0:Hid (jC 30 #[.pointer (some ⟨g,0,none⟩),.int .i64 6,.int .i64 LN] w5 λy W'=>y=.returned (.tuple #[])/\BI B b ⟨g,p,pc,pn,pl,fo,fn,fc⟩ [] w W' { d with f:=z7 F2 6 LN }/\w5.grownBy W' (some g)):=(jO _ F2 6 LN g w5 c6.o.st (by decide) 6 rfl).mono λy W' ⟨h1,h2,h3⟩=>⟨h1,c6.o.fail h2 h3,h3⟩);have qd:=xN v qY;rw[s2.o] at qd;cases hh:xQ b v with
        | true =>
         rw[hh] at t5;replace t5:decide (I5<0)=false:=t5;(have f7:Hid (uk b v=false):=by show _=_;unfold uk;rw[hh];simp);clear hh qd;go_wp2_with (first
           | (go_at_call 32;(with_reducible refine o3.o.mono ?_);rintro e wq ⟨rfl,rfl⟩)
           | fail)
         go_roundw;(case rel=>exact⟨i2+1,F2,by omega,by go_num,c6,k6,LK.o.next G.o hv.o f7.o⟩);case measure=>simp[intOf];omega
        | false =>
         rw[hh] at t5;replace t5:decide (I5<0)=true:=t5;by_cases e5:v=qY
         . rw[decide_eq_true e5] at qd;replace qd:(KV.toList == [100,105,103,105,116,115])=true:=qd;(have A4:(KV.toList != [100,105,103,105,116,115])=false:=by unfold bne;rw[qd];rfl);have r7:b.kind=qF:=YD (by rw[<- e5];exact List.mem_of_getElem? hv.o);(have b7:M=((kL b zG:Nat):Int):=by rw[<- hM.o,HV.o.2.1,(YE b r7).1];rfl);by_cases hm:kL b zG=2
           . (have tM:(M == 2)=true:=by rw[b7,hm];rfl);(have f7:Hid (uk b v=true):=by show _=_;unfold uk;rw[hh,decide_eq_true hm];simp);clear b7 hh hm e5 r7;go_wp2_with (first
               | (go_at_call 32;(with_reducible refine o3.o.mono ?_);rintro e wq ⟨rfl,rfl⟩)
               | (go_at_call 30;(with_reducible refine z0.o.mono ?_);rintro e w6 ⟨rfl,B6,G6⟩)
               | fail)
             go_roundw;(case rel=>exact⟨i2+1,z7 F2 6 LN,by omega,by go_num,B6,Row.keep k6.o (ky g) (wG G6),by rw[<- g3.o];exact LKS.miss HV.o.2.2.2 G.o hv.o f7.o _⟩);case measure=>simp[intOf];omega
           . (have tM:(M == 2)=false:=by rw[b7];simp;omega);(have f7:Hid (uk b v=false):=by show _=_;unfold uk;rw[decide_eq_false hm,decide_eq_true e5];simp);clear b7 hh hm e5 r7;go_wp2_with (first
               | (go_at_call 32;(with_reducible refine o3.o.mono ?_);rintro e wq ⟨rfl,rfl⟩)
               | fail)
             go_roundw;(case rel=>exact⟨i2+1,F2,by omega,by go_num,c6,k6,LK.o.next G.o hv.o f7.o⟩);case measure=>simp[intOf];omega
         . rw[decide_eq_false e5] at qd;replace qd:(KV.toList == [100,105,103,105,116,115])=false:=qd;(have A4:(KV.toList != [100,105,103,105,116,115])=true:=by unfold bne;rw[qd];rfl);(have f7:Hid (uk b v=true):=by show _=_;unfold uk;rw[hh,decide_eq_false e5];simp);clear hh e5;go_wp2_with (first
             | (go_at_call 32;(with_reducible refine o3.o.mono ?_);rintro e wq ⟨rfl,rfl⟩)
             | (go_at_call 30;(with_reducible refine z0.o.mono ?_);rintro e w6 ⟨rfl,B6,G6⟩)
             | fail)
           go_roundw;(case rel=>exact⟨i2+1,z7 F2 6 LN,by omega,by go_num,B6,Row.keep k6.o (ky g) (wG G6),by rw[<- g3.o];exact LKS.miss HV.o.2.2.2 G.o hv.o f7.o _⟩);case measure=>simp[intOf];omega
      . (have d3:¬ (i2:Int)<(qn:Int):=by omega);have z5:=LK.o.done (by have:=u8.o;omega) G.o;(have b5:Hid (zP bs b=yr b):=by show _=_;rw[HV.o.2.2.2,z5];rfl);clear z5;go_wp2_with fail;(go_meet);case rel=>exact⟨F2,c6,Or.inl ⟨G.o,HV.o.1,HV.o.2.1,HV.o.2.2.1,b5.o⟩⟩
    . (have u4:(N5 == 0)=false:=by rw[<- g4.o];simp[G]);have b5:Hid (F2.1≠0/\F2=zP bs b):=by
       rcases LK.o with ⟨h1,_⟩|h
       . exact absurd h1 G
       . exact h
      clear G;by_cases d6:i2<qn
      . (have d3:(i2:Int)<(qn:Int):=by omega);go_wp2_with fail;(go_meet);case rel=>exact⟨F2,c6,Or.inr b5.o⟩
      . (have d3:¬ (i2:Int)<(qn:Int):=by omega);go_wp2_with fail;(go_meet);case rel=>exact⟨F2,c6,Or.inr b5.o⟩
  case rest =>
   clear a6 QL HL;obtain⟨F2,BC,HL⟩:=hcut;obtain⟨w5,t9⟩:∃x,x=wc:=⟨_,rfl⟩;subst t9;(go_upto_block 5 with fail);(go_cut [] from 159 to 264 (λwx=>∃ (F':Nat×Int) (r':RSt) (z':RSl),Hid (SE B b g p fo fn fc w wx F' r' z')/\Hid ((F'.1=0/\(zP bs b).1=0/\({ r' with seen:=r'.seen++[b.kind] }:RSt)=rOf t (bs++[b]))\/(F'.1≠0/\F'=zP bs b))));case first =>
    obtain⟨b3,k3,j2,i9,k9⟩:=HC.o _ _ _ _ _ _ _ BC.o;obtain⟨N5,g4⟩:∃X,Hid ((F2.1:Int)=X):=⟨_,rfl⟩;(have g5:w5.cell? ⟨g,17,none⟩=some (.int .i64 N5):=by rw[<- g4.o];exact b3);clear b3;by_cases G:F2.1=0
    . (have q0:(N5 != 0)=false:=by rw[<- g4.o,G];rfl);have HV:Hid (d.r=vT t bs b b.flds/\d.X=xX b b.flds/\d.ks=b.flds.map zC.key/\zP bs b=yr b):=by
       rcases HL.o with ⟨_,h2⟩|⟨h1,_⟩
       . exact h2
       . exact absurd G h1
      replace G:=jA G;clear HL;by_cases a3:b.kind=qF
      . (have q1:(KD.toList == [99,111,110,116,101,115,116])=true:=by rw[<- a4.o,a3];exact j9 qF);(have i4:Hid (d.r=rOf t bs):=by show _=_;rw[HV.o.1];unfold vT;rw[if_pos (Or.inl a3)]);have H8:Hid (d.z.s.cn<=1000000):=by
         show _<=_;have e:=BC.o.j.lr.rr.cst.len;(have e2:d.r.e.conts.length<=bs.length:=by rw[i4.o];show((qH qF bs).map j6).length<=_;rw[List.length_map];exact jn _ _);have:=hbs.o;dsimp only at e;omega
        obtain⟨M,hM⟩:∃X,Hid (d.X.c.method=X):=⟨_,rfl⟩;obtain⟨S,H⟩:∃X,Hid (d.X.c.seats=X):=⟨_,rfl⟩;(have b7:Hid (M=((kL b zG:Nat):Int)):=by show _=_;rw[<- hM.o,HV.o.2.1,(YE b a3).1];rfl);(have x2:Hid (S=((qR b zO:Nat):Int)):=by show _=_;rw[<- H.o,HV.o.2.1,(YE b a3).1];rfl);(have H0:Hid (d.X.dg=zx b qY):=by show _=_;rw[HV.o.2.1,(YE b a3).2.1]);(have C0:Hid (d.X.st=zx b zO):=by show _=_;rw[HV.o.2.1,(YE b a3).2.2]);(have g9:Hid (({ { d.r with e:={ d.r.e with conts:=d.r.e.conts++[{ d.X.c with name:=b.name }] } } with seen:=d.r.seen++[b.kind] }:RSt)=rOf t (bs++[b])):=by show _=_;rw[U4 a3,i4.o,HV.o.2.1]);obtain⟨I6,z3⟩:∃X,Hid (jV d.ks qY=X):=⟨_,rfl⟩;(have m5:Hid (jC 32 #[.slice d.ko d.kn d.kc,.string ⟨#[100,105,103,105,116,115]⟩] w5 λe w'=>e=.returned (.int .i64 I6)/\w5=w'):=by rw[<- z3.o];exact vZ d.ks qY _ _ _ _ BC.o.known);(have t6:decide (I6>=0)=xQ b qY:=by rw[<- z3.o,ug,HV.o.2.2.1,<- Vz]);(have HX:Hid (∀ (W:World) (J:BD) (e:Nat) (l:Int),e≠0->∀EI:Int,EI=(e:Int)->BI B b ⟨g,p,pc,pn,pl,fo,fn,fc⟩ [] w W J->Calls Tryz.prog 30 #[.pointer (some ⟨g,0,none⟩),.int .i64 EI,.int .i64 l] W λy W'=>y=.returned (.tuple #[])/\BI B b ⟨g,p,pc,pn,pl,fo,fn,fc⟩ [] w W' { J with f:=z7 J.f e l }):=λW J e l h0 EI hE hI=>(jO _ J.f e l g W hI.st h0 EI hE).mono λy W' ⟨h1,h2,h3⟩=>⟨h1,hI.fail h2 h3⟩);obtain⟨T5,o1⟩:∃X,Hid ((xQ b qY && !decide (kL b zG=2))=X):=⟨_,rfl⟩;obtain⟨T4,o0⟩:∃X,Hid ((decide (kL b zG=1)&&decide (1<qR b zO))=X):=⟨_,rfl⟩;(have d4:Hid (zP bs b=if T5 then (5,d.X.dg) else if T4 then (4,d.X.st) else (0,0)):=by show _=_;rw[HV.o.2.2.2,H0.o,C0.o,<- o1.o,<- o0.o];unfold yr;rw[if_pos a3]);have i3:=BC.o.j.c.cell 2;dsimp only[kC] at i3;rw[hM.o] at i3;(go_upto_region 36 with fail);(go_cut [176] from 169 to 176 (λs wx=>s=.bool T5/\wx=w5));case first =>
         cases hh:xQ b qY with
         | true =>
          rw[hh] at t6;by_cases hm:kL b zG=2
          . (have A3:(M != 2)=false:=by rw[b7.o,hm];rfl);(have hf:Hid (T5=false):=by show _=_;rw[<- o1.o,hh,hm];rfl);clear hm hh;go_wp2_with (first|(go_at_call 32;(with_reducible refine m5.o.mono ?_);rintro e wq ⟨rfl,rfl⟩)|fail);(go_meet);case rel=>exact⟨by rw[hf.o],rfl⟩
          . (have A3:(M != 2)=true:=by rw[b7.o];simp;omega);(have hf:Hid (T5=true):=by show _=_;rw[<- o1.o,hh,decide_eq_false hm];rfl);clear hm hh;go_wp2_with (first|(go_at_call 32;(with_reducible refine m5.o.mono ?_);rintro e wq ⟨rfl,rfl⟩)|fail);(go_meet);case rel=>exact⟨by rw[hf.o],rfl⟩
         | false =>
          rw[hh] at t6;(have hf:Hid (T5=false):=by show _=_;rw[<- o1.o,hh];rfl);clear hh;go_wp2_with (first|(go_at_call 32;(with_reducible refine m5.o.mono ?_);rintro e wq ⟨rfl,rfl⟩)|fail);(go_meet);case rel=>exact⟨by rw[hf.o],rfl⟩
        case rest =>
        obtain⟨rfl,rfl⟩:=hcut;clear t6 m5 i3 g5 k3 j2 i9 k9;(go_upto_if 176 with fail);(go_cut [] from 177 to 179 (λwx=>∃F3:Nat×Int,Hid (BI B b ⟨g,p,pc,pn,pl,fo,fn,fc⟩ [] w wx { d with f:=F3 })/\Hid (F3=if T5 then z7 F2 5 d.X.dg else F2)));case first =>
         cases T5 with
         | true =>
          go_wp2_with (first|(go_at_call 30;(with_reducible refine(HX.o _ _ 5 d.X.dg (by decide) 5 rfl BC.o).mono ?_);rintro e w6 ⟨rfl,B6⟩)|fail);(go_meet);case rel=>exact⟨_,B6,rfl⟩
         | false =>
          go_wp2_with fail;(go_meet);case rel=>exact⟨_,BC,rfl⟩
        case rest =>
        clear BC;obtain⟨F3,BC,A5⟩:=hcut;obtain⟨w6,r8⟩:∃x,x=wc:=⟨_,rfl⟩;subst r8;have j4:=BC.o.j.c.cell 2;have i6:=BC.o.j.c.cell 3;dsimp only[kC] at j4 i6;rw[hM.o] at j4;rw[H.o] at i6;(go_upto_region 38 with fail);(go_cut [187] from 180 to 187 (λs wx=>s=.bool T4/\wx=w6));case first =>
         by_cases hm:kL b zG=1
         . (have D4:(M == 1)=true:=by rw[b7.o,hm];rfl);by_cases hs:1<qR b zO
           . (have tS:decide (S > 1)=true:=by rw[x2.o];exact decide_eq_true (by omega));(have hf:Hid (T4=true):=by show _=_;rw[<- o0.o,hm,decide_eq_true hs];rfl);clear hm hs;go_wp2_with fail;(go_meet);case rel=>exact⟨by rw[hf.o],rfl⟩
           . (have tS:decide (S > 1)=false:=by rw[x2.o];exact decide_eq_false (by omega));(have hf:Hid (T4=false):=by show _=_;rw[<- o0.o,decide_eq_false hs,Bool.and_false]);clear hm hs;go_wp2_with fail;(go_meet);case rel=>exact⟨by rw[hf.o],rfl⟩
         . (have D4:(M == 1)=false:=by rw[b7.o];simp;omega);(have hf:Hid (T4=false):=by show _=_;rw[<- o0.o,decide_eq_false hm];rfl);clear hm;go_wp2_with fail;(go_meet);case rel=>exact⟨by rw[hf.o],rfl⟩
        case rest =>
        obtain⟨rfl,rfl⟩:=hcut;clear j4 i6;(go_upto_if 187 with fail);(go_cut [] from 188 to 190 (λwx=>∃F4:Nat×Int,Hid (BI B b ⟨g,p,pc,pn,pl,fo,fn,fc⟩ [] w wx { d with f:=F4 })/\Hid (F4=if T4 then z7 F3 4 d.X.st else F3)));case first =>
         cases T4 with
         | true =>
          go_wp2_with (first|(go_at_call 30;(with_reducible refine(HX.o _ _ 4 d.X.st (by decide) 4 rfl BC.o).mono ?_);rintro e w7 ⟨rfl,B7⟩)|fail);(go_meet);case rel=>exact⟨_,B7,rfl⟩
         | false =>
          go_wp2_with fail;(go_meet);case rel=>exact⟨_,BC,rfl⟩
        case rest =>
        clear BC;obtain⟨F4,BC,D9⟩:=hcut;obtain⟨w7,t7⟩:∃x,x=wc:=⟨_,rfl⟩;subst t7;have b5:Hid ((F4.1=0/\(zP bs b).1=0)\/(F4.1≠0/\F4=zP bs b)):=by
         show _\/_;rw[d4.o,D9.o,A5.o];cases T5<;>cases T4<;>simp[z7,G.o]
        have e6:=g9.o;dsimp only at e6;rw[hM.o,H.o] at e6;replace e6:=jA e6;obtain⟨I0,I7,K2,L1,L3⟩:=HC.o _ _ _ _ _ _ _ BC.o;obtain⟨N7,M1,I4,A7,M2,N8,a7,u9,_,k7,s5,N6,z2,u2,x6,b6⟩:=BC.o.putC a5.o H8.o;dsimp only[kC] at u9 a7 k7 b6;rw[d9.o,hM.o,H.o] at u9 a7 k7 b6;rw[d9.o] at A7;have l0:=a7.cell 0;have l1:=a7.cell 1;have l2:=a7.cell 2;have l3:=a7.cell 3;have l4:=a7.cell 4;have l5:=a7.cell 5;have l6:=a7.cell 6;have l7:=a7.cell 7;have l8:=a7.cell 8;go_wp2_with fail;go_region_law (first
          | (refine Q9 (vs:=[.string KN,.slice d.co d.cn d.cc,.int .i64 M,.int .i64 S,.int .i64 d.X.c.ranks,.int .i64 d.X.c.digits,.int .i64 d.X.c.ties,.int .i64 d.X.c.over,.int .i64 d.X.c.skip]) Tryz.underlying27 CA rfl (by decide) (by decide) _ _ rfl rfl k7 z2 u2 x6 rfl (by intro u hu;simp at hu;rcases hu with rfl|rfl|rfl|rfl|rfl|rfl|rfl|rfl|rfl<;>rfl) rfl rfl ?_;intro d5 c7 r5 O7 G7 o7 _;obtain⟨V7,m7,c14,z1,t0⟩:=b6 d5 c7 r5 O7 ⟨G7.os,G7.tape,G7.output,G7.size,G7.block⟩))
        all_goals
          go_wp2_with fail;(go_meet);case rel=>exact⟨_,_,_,t0,by
           rcases b5.o with ⟨h1,h2⟩|h
           . exact Or.inl ⟨h1,h2,e6.o⟩
           . exact Or.inr h⟩
      (have q1:(KD.toList == [99,111,110,116,101,115,116])=false:=by rw[<- a4.o];exact jh (v:=qF) a3);by_cases a9:b.kind=qI
      . (have q2:(KD.toList == [115,116,121,108,101])=true:=by rw[<- a4.o,a9];exact j9 qI);(have i4:Hid (d.r=rOf t bs):=by show _=_;rw[HV.o.1];unfold vT;rw[if_pos (Or.inr a9)]);have f9:Hid (d.z.s.sn<=1000000/\d.z.ln<=1000000/\d.z.nn<=1000000):=by
         have e1:=BC.o.j.lr.rr.stys.1;have e2:=BC.o.j.lr.rr.lines.1;obtain⟨us,hr,hc⟩:=BC.o.j.lr.rr.names;have e3:=hr.1;have e4:=hc.len;have l1:d.r.e.stys.length<=bs.length/\d.r.lines.length<=bs.length/\d.r.names.length<=bs.length:=by
          rw[i4.o];show((qH qI bs).map _).length<=_/\((qH qI bs).map _).length<=_/\((qH qI bs).map _).length<=_;rw[List.length_map,List.length_map,List.length_map];exact⟨jn _ _,jn _ _,jn _ _⟩
         (have l2:(yZ d.r.e.stys).length=d.r.e.stys.length*3:=by unfold yZ;rw[List.length_flatMap];exact Q8 3 _);(have l3:(wI d.r.lines).length=d.r.lines.length*2:=by unfold wI;rw[List.length_flatMap];exact Q8 2 _);have:=hbs.o;dsimp only at e1 e2 e3 e4;show _/\_/\_;omega
        (have d4:Hid (zP bs b=(0,0)):=by show _=_;rw[HV.o.2.2.2];unfold yr;rw[if_neg a3,if_neg (by rw[a9];decide)]);(have g9:Hid ((⟨{ d.r.e with stys:=d.r.e.stys++[⟨b.name,[],[]⟩] },d.r.seen++[b.kind],d.r.lines++[(d.X.l1,d.X.l2)],d.r.names++[(d.X.n1,d.X.n2)]⟩:RSt)=rOf t (bs++[b])):=by show _=_;rw[U5 a9,i4.o,HV.o.2.1]);obtain⟨M4,x4,k5,s6,C1,k1,p6,i8,o9,b6⟩:=BC.o.putS f9.o.1;rw[d9.o] at x4 k5 k1;(go_upto_region 43 with fail);(go_cut [] from 210 to 223 (λwx=>∃ (d5:Option Addr) (c7:Nat),Hid (BI B b ⟨g,p,pc,pn,pl,fo,fn,fc⟩ [] w wx { d with f:=F2,r:={ d.r with e:={ d.r.e with stys:=d.r.e.stys++[⟨b.name,[],[]⟩] } },z:={ d.z with s:={ d.z.s with so:=d5,sn:=d.z.s.sn+1,sc:=c7 } } })));case first =>
         go_region_law (first
           | (refine Q9 (vs:=[.string KN,.slice none 0 0,.slice none 0 0]) Tryz.underlying28 CB rfl (by decide) (by decide) _ _ rfl rfl k5 p6 i8 o9 rfl (by intro u hu;simp only[List.mem_cons,List.not_mem_nil,or_false] at hu;rcases hu with rfl|rfl|rfl<;>rfl) rfl rfl ?_;intro d5 c7 r5 O7 G7 o7 _;rw[<- d9.o] at O7;obtain⟨V7,m7,c14,z1,B7⟩:=b6 d5 c7 r5 O7 ⟨G7.os,G7.tape,G7.output,G7.size,G7.block⟩ o7))
         all_goals
           go_wp2_with fail;(go_meet);case rel=>exact⟨d5,c7,B7⟩
        case rest =>
        clear BC x4 k5 s6 C1 k1 p6 i8 o9 b6 g5 k3 j2 i9 k9;obtain⟨d5,c7,BC⟩:=hcut;obtain⟨w7,t7⟩:∃x,x=wc:=⟨_,rfl⟩;subst t7;have t1:=BC.o.j.lr.rr.lines;obtain⟨us,e7,m6⟩:=BC.o.j.lr.rr.names;have h8:=BC.o.j.l;have n8:=BC.o.j.n;have o4:=BC.o.st.arr;dsimp only at t1 e7 m6 h8 n8 o4;have zB:=BC.o.j.hB.1;have s4:w7.cell? ⟨g,15,none⟩=some (.slice d.z.lo d.z.ln d.z.lc):=BC.o.st.cellD 15 (by decide);have x3:w7.cell? ⟨g,16,none⟩=some (.slice d.z.no d.z.nn d.z.nc):=BC.o.st.cellD 16 (by decide);obtain⟨XA,eA,AA,BA,D5⟩:=qG w7 122 [.slice d.no d.nn d.nc,.slice d.mo d.mn d.mc];obtain⟨XB,eB,AB,BB,D3⟩:=qG w7 123 [.int .i64 d.X.l1,.int .i64 d.X.l2];obtain⟨s3,N0,A9,y7,C2⟩:=qG XA 123 [.int .i64 d.X.l1,.int .i64 d.X.l2];obtain⟨s1,O3,A8,v9,C9⟩:=qG XB 122 [.slice d.no d.nn d.nc,.slice d.mo d.mn d.mc];clear D5 D3 C2 C9;have B2:=BA.trans (y7.mono BA.size);have B3:=BB.trans (v9.mono BB.size);(have HY:∀W,Below w7.heap.size w7 W->W.cell? ⟨g,15,none⟩=some (.slice d.z.lo d.z.ln d.z.lc)/\W.cell? ⟨g,16,none⟩=some (.slice d.z.no d.z.nn d.z.nc)/\W.cell? ⟨pn,0,none⟩=some (.slice d.no d.nn d.nc)/\W.cell? ⟨pn,1,none⟩=some (.slice d.mo d.mn d.mc)/\W.cell? ⟨pl,0,none⟩=some (.int .i64 d.X.l1)/\W.cell? ⟨pl,1,none⟩=some (.int .i64 d.X.l2):=λW hb=>⟨qA s4 hb,qA x3 hb,(n8.kept hb).cell 0,(n8.kept hb).cell 1,(h8.kept hb).cell 0,(h8.kept hb).cell 1⟩);have HZ:∀X w1,Below w7.heap.size w7 X->X.grownBy w1 (Value.slice d.z.no d.z.nn d.z.nc).ownBlock->w1.cell? ⟨g,15,none⟩=some (.slice d.z.lo d.z.ln d.z.lc)/\w1.cell? ⟨pl,0,none⟩=some (.int .i64 d.X.l1)/\w1.cell? ⟨pl,1,none⟩=some (.int .i64 d.X.l2)/\w1.ownsRow B 123 2 (.slice d.z.lo d.z.ln d.z.lc) d.z.ln (wI d.r.lines)/\B<=w1.heap.size/\∀ {y:Nat} {ds:List Value},Arr X y 123 ds->Arr w1 y 123 ds:=λX w1 hX hG=>by
         have hr:=qQ e7 hX;have hl:=qQ t1 hX;exact⟨((Arr.row (o4.kept hX) hr (by decide) hG).cell 15).trans ((o4.cell 15).symm.trans s4),(Arr.row (h8.kept hX) hr (by decide) hG).cell 0,(Arr.row (h8.kept hX) hr (by decide) hG).cell 1,World.ownsRow.kept hl hG (qv hl hr (by decide)),Nat.le_trans zB (Nat.le_trans hX.size hG.size),λhy=>Arr.row hy hr (by decide) hG⟩
        obtain⟨C6,E3,p0,p1,p2,p3⟩:=HY w7 (Below.refl _ _);obtain⟨H2,D6,qa,qb,E6,qd⟩:=HY XA BA;obtain⟨G0,E4,ra,rb,rc,rd⟩:=HY XB BB;obtain⟨D2,B0,sa,sb,sc,sd⟩:=HY s3 B2;obtain⟨E9,A1,ta,tb,tc,td⟩:=HY s1 B3;have RA:=qQ e7 BA;have H1:=qQ e7 B2;have E2:=qQ e7 B3;have NA:=Nat.le_trans zB BA.size;have C4:=Nat.le_trans zB B2.size;have A6:=Nat.le_trans zB B3.size;have C8:=AA.kept y7;replace HZ:=jA HZ;replace e7:=jA e7;replace m6:=jA m6;replace f9:=jA f9.o;clear HY t1 h8 n8 o4 s4 x3;(go_upto_region 44 with fail);refine wL [(8,λw'=>w'.cell? ⟨g,16,none⟩=some (.slice d.z.no d.z.nn d.z.nc)),(7,λw'=>w'.cell? ⟨pn,0,none⟩=some (.slice d.no d.nn d.nc)/\w'.cell? ⟨pn,1,none⟩=some (.slice d.mo d.mn d.mc)),(15,λw'=>w'.cell? ⟨g,15,none⟩=some (.slice d.z.lo d.z.ln d.z.lc)),(14,λw'=>w'.cell? ⟨pl,0,none⟩=some (.int .i64 d.X.l1)/\w'.cell? ⟨pl,1,none⟩=some (.int .i64 d.X.l2))] (by kernel_rfl) (sl4 (λ_=>E3) (λ_=>⟨p0,p1⟩) (λ_=>C6) (λ_=>⟨p2,p3⟩)) (λH=>?_);refine k8 (i:=0) (v:=?_) rfl rfl (by kernel_rfl) (by rfl) (λ_ _ _ h=>h) H ?_ ?_
        rotate_left
        intro w';go_simp<;>(try rfl);intro H;(try simp only[Act.put,jx5]);refine k8 (i:=1) (v:=?_) rfl rfl (by kernel_rfl) (by rfl) (λ_ _ _ h=>h) H ?_ ?_
        rotate_left
        intro w';go_simp<;>(try rfl);intro H;(try simp only[Act.put,jx5]);refine k8 (i:=2) (v:=?_) rfl rfl (by kernel_rfl) (by rfl) (λ_ _ _ h=>h) H ?_ ?_
        rotate_left
        intro w';go_simp<;>(try rfl);intro H;(try simp only[Act.put,jx5]);refine k8 (i:=3) (v:=?_) rfl rfl (by kernel_rfl) (by rfl) (λ_ _ _ h=>h) H ?_ ?_
        rotate_left
        intro w';go_simp<;>(try rfl);intro H;(try simp only[Act.put,jx5]);refine k8 (i:=4) (v:=?_) rfl rfl (by kernel_rfl) (by rfl) (λ_ _ _ h=>h) H ?_ ?_
        rotate_left
        intro w';go_simp<;>(try rfl);intro H;(try simp only[Act.put,jx5]);refine Ju (i:=5) (k:=0) (v:=?_) rfl rfl rfl (by kernel_rfl) (by rfl) (by rfl) (λ_ _ _ h=>h) H ?_ ?_
        rotate_left
        intro w' hc;dsimp only at hc;go_simp<;>(try rfl);intro H;(try simp only[Act.put,jx5]);refine Ju (i:=6) (k:=1) (v:=?_) rfl rfl rfl (by kernel_rfl) (by rfl) (by rfl) (λ_ _ _ h=>h) H ?_ ?_
        rotate_left
        intro w' hc;dsimp only at hc;go_simp<;>(try rfl);intro H;(try simp only[Act.put,jx5]);refine k8 (i:=9) (v:=?_) rfl rfl (by kernel_rfl) (by rfl) (λ_ _ _ h=>h) H ?_ ?_
        rotate_left
        intro w';go_simp<;>(try rfl);intro H;(try simp only[Act.put,jx5]);refine k8 (i:=10) (v:=?_) rfl rfl (by kernel_rfl) (by rfl) (λ_ _ _ h=>h) H ?_ ?_
        rotate_left
        intro w';go_simp<;>(try rfl);intro H;(try simp only[Act.put,jx5]);refine k8 (i:=11) (v:=?_) rfl rfl (by kernel_rfl) (by rfl) (λ_ _ _ h=>h) H ?_ ?_
        rotate_left
        intro w';go_simp<;>(try rfl);intro H;(try simp only[Act.put,jx5]);refine Ju (i:=12) (k:=2) (v:=?_) rfl rfl rfl (by kernel_rfl) (by rfl) (by rfl) (λ_ _ _ h=>h) H ?_ ?_
        rotate_left
        intro w' hc;dsimp only at hc;go_simp<;>(try rfl);intro H;(try simp only[Act.put,jx5]);refine Ju (i:=13) (k:=3) (v:=?_) rfl rfl rfl (by kernel_rfl) (by rfl) (by rfl) (λ_ _ _ h=>h) H ?_ ?_
        rotate_left
        intro w' hc;dsimp only at hc;go_simp<;>(try rfl);intro H;(try simp only[Act.put,jx5]);refine jF (rs:=[7,14]) (by kernel_rfl) (by simp) ?_;refine jH rfl (by rfl) (λK hK=>?_) (jH rfl (by rfl) (λK hK=>?_) jg);(go_simp);refine hK.o _ _ (sl4 (λ_=>D6) nof (λ_=>H2) (λ_=>⟨E6,qd⟩)) ?_;clear hK K;intro H;(try simp only[Act.put,jx5]);refine jF (rs:=[8,14]) (by kernel_rfl) (by simp) ?_;refine jH rfl (by rfl) (λK hK=>?_) (jH rfl (by rfl) (λK hK=>?_) jg);refine uV (vs:=[.slice d.no d.nn d.nc,.slice d.mo d.mn d.mc]) Tryz.underlying68 U8 rfl (by decide) (by decide) _ _ rfl AA RA NA (Nat.le_trans f9.o.2.2 (by decide)) rfl (by intro u hu;simp only[List.mem_cons,List.not_mem_nil,or_false] at hu;rcases hu with rfl|rfl<;>rfl) rfl rfl ?_;intro a1 c1 w1 O1 a8 _ _;have G1:XA.grownBy w1 (Value.slice d.z.no d.z.nn d.z.nc).ownBlock:=⟨a8.os,a8.tape,a8.output,a8.size,a8.block⟩;have BX:=BA;obtain⟨h7,v0,v1,yL,yB,vK⟩:=HZ.o XA w1 BX G1;refine hK.o _ _ (sl4 nof nof (λ_=>h7) (λ_=>⟨v0,v1⟩)) ?_;clear hK K;intro H;(try simp only[Act.put,jx5]);refine jF (rs:=[14]) (by kernel_rfl) (by simp) ?_;refine jH rfl (by rfl) (λK hK=>?_) jg;obtain⟨Y,eY,AY,BY,F5⟩:=qG w1 123 [.int .i64 d.X.l1,.int .i64 d.X.l2];clear F5;have F6:=qA h7 BY;replace yL:=qQ yL BY;replace yB:=Nat.le_trans yB BY.size;(go_simp);refine hK.o _ _ (sl4 nof nof (λ_=>F6) nof) ?_;clear hK K;intro H;try simp only[Act.put,jx5]
        rotate_left
        (go_simp);refine hK.o _ _ (sl4 (λ_=>B0) nof (λ_=>D2) nof) ?_;clear hK K;intro H;(try simp only[Act.put,jx5]);refine jF (rs:=[8]) (by kernel_rfl) (by simp) ?_;refine jH rfl (by rfl) (λK hK=>?_) jg;refine uV (vs:=[.slice d.no d.nn d.nc,.slice d.mo d.mn d.mc]) Tryz.underlying68 U8 rfl (by decide) (by decide) _ _ rfl C8 H1 C4 (Nat.le_trans f9.o.2.2 (by decide)) rfl (by intro u hu;simp only[List.mem_cons,List.not_mem_nil,or_false] at hu;rcases hu with rfl|rfl<;>rfl) rfl rfl ?_;intro a1 c1 w1 O1 a8 _ _;have G1:s3.grownBy w1 (Value.slice d.z.no d.z.nn d.z.nc).ownBlock:=⟨a8.os,a8.tape,a8.output,a8.size,a8.block⟩;have BX:=B2;obtain⟨h7,v0,v1,yL,yB,vK⟩:=HZ.o s3 w1 BX G1;have AY:=vK A9;have BY:=Below.refl w1.heap.size w1;refine hK.o _ _ (sl4 nof nof (λ_=>h7) nof) ?_;clear hK K;intro H;try simp only[Act.put,jx5]
        rotate_left
        (go_simp);refine hK.o _ _ (sl4 (λ_=>E4) (λ_=>⟨ra,rb⟩) (λ_=>G0) nof) ?_;clear hK K;intro H;(try simp only[Act.put,jx5]);refine jF (rs:=[7]) (by kernel_rfl) (by simp) ?_;refine jH rfl (by rfl) (λK hK=>?_) jg;(go_simp);refine hK.o _ _ (sl4 (λ_=>A1) nof (λ_=>E9) nof) ?_;clear hK K;intro H;(try simp only[Act.put,jx5]);refine jF (rs:=[8]) (by kernel_rfl) (by simp) ?_;refine jH rfl (by rfl) (λK hK=>?_) jg;refine uV (vs:=[.slice d.no d.nn d.nc,.slice d.mo d.mn d.mc]) Tryz.underlying68 U8 rfl (by decide) (by decide) _ _ rfl A8 E2 A6 (Nat.le_trans f9.o.2.2 (by decide)) rfl (by intro u hu;simp only[List.mem_cons,List.not_mem_nil,or_false] at hu;rcases hu with rfl|rfl<;>rfl) rfl rfl ?_;intro a1 c1 w1 O1 a8 _ _;have G1:s1.grownBy w1 (Value.slice d.z.no d.z.nn d.z.nc).ownBlock:=⟨a8.os,a8.tape,a8.output,a8.size,a8.block⟩;have BX:=B3;obtain⟨h7,v0,v1,yL,yB,vK⟩:=HZ.o s1 w1 BX G1;have AY:=vK (AB.kept v9);have BY:=Below.refl w1.heap.size w1;refine hK.o _ _ (sl4 nof nof (λ_=>h7) nof) ?_;clear hK K;intro H;(try simp only[Act.put,jx5]);all_goals as_aux_lemma =>
         refine jF (rs:=[15]) (by kernel_rfl) (by simp) ?_;refine jH rfl (by rfl) (λK hK=>?_) jg;refine uV (vs:=[.int .i64 d.X.l1,.int .i64 d.X.l2]) Tryz.underlying67 PQ rfl (by decide) (by decide) _ _ rfl AY yL yB (Nat.le_trans f9.o.2.1 (by decide)) rfl (by intro u hu;simp only[List.mem_cons,List.not_mem_nil,or_false] at hu;rcases hu with rfl|rfl<;>rfl) rfl rfl ?_;intro a2 c2 w2 O2 i5 _ _;refine hK.o _ _ (sl4 nof nof nof nof) ?_;clear hK K;intro H;(try simp only[Act.put,jx5]);obtain⟨Z1,Z2,f1,f2,f3,f4,f5,f6,t0⟩:=BC.o.putN a5.o e7.o m6.o BX O1 G1 BY O2 ⟨i5.os,i5.tape,i5.output,i5.size,i5.block⟩;refine k8 (i:=16) (v:=?_) rfl rfl (by kernel_rfl) (by rfl) (λ_ _ _ h=>h) H ?_ ?_
         rotate_left
         intro w';go_simp<;>(try rfl);intro H;(try simp only[Act.put,jx5]);refine k8 (i:=17) (v:=?_) rfl rfl (by kernel_rfl) (by rfl) (λ_ _ _ h=>h) H ?_ ?_
         rotate_left
         intro w';go_simp<;>(try rfl);intro H;(try simp only[Act.put,jx5]);refine jF (rs:=[18]) (by kernel_rfl) (by simp) ?_;refine jH rfl (by rfl) (λK hK=>?_) jg;(go_simp);refine hK.o _ _ (sl4 nof nof nof nof) ?_;clear hK K;intro H;(try simp only[Act.put,jx5]);refine k8 (i:=19) (v:=?_) rfl rfl (by kernel_rfl) (by rfl) (λ_ _ _ h=>h) H ?_ ?_
         rotate_left
         intro w';go_simp<;>(try rfl);intro H;(try simp only[Act.put,jx5]);refine k8 (i:=20) (v:=?_) rfl rfl (by kernel_rfl) (by rfl) (λ_ _ _ h=>h) H ?_ ?_
         rotate_left
         intro w';go_simp<;>(try rfl);intro H;(try simp only[Act.put,jx5]);refine jF (rs:=[21]) (by kernel_rfl) (by simp) ?_;refine jH rfl (by rfl) (λK hK=>?_) jg;(go_simp);refine hK.o _ _ (sl4 nof nof nof nof) ?_;clear hK K;intro H;(try simp only[Act.put,jx5]);refine Qh (by kernel_rfl) ?_ _;go_wp2_with fail;(go_meet);exact⟨_,_,_,t0,Or.inl ⟨G.o,by rw[d4.o],g9.o⟩⟩
      (have q2:(KD.toList == [115,116,121,108,101])=false:=by rw[<- a4.o];exact jh (v:=qI) a9);(have g9:Hid (({ d.r with seen:=d.r.seen++[b.kind] }:RSt)=rOf t (bs++[b])):=by show _=_;rw[U6 a3 a9,HV.o.1]);by_cases Z:b.kind=zT
      . (have q3:(KD.toList == [115,99,97,110])=true:=by rw[<- a4.o,Z];exact j9 zT);obtain⟨BK,v2⟩:∃X,Hid (d.r.e.blank=X):=⟨_,rfl⟩;obtain⟨MK,u7⟩:∃X,Hid (d.r.e.marked=X):=⟨_,rfl⟩;(have he:d.r.e=eOf t (bs++[b]):=by rw[HV.o.1];unfold vT;rw[if_neg (λh=>h.elim a3 a9)];rfl);(have z9:Hid (BK=((qR b jo:Nat):Int)):=by show _=_;rw[<- v2.o,he];show((qR (zJ zT (bs++[b])) jo:Nat):Int)=_;rw[kw,if_pos Z]);(have b7:Hid (MK=((qR b jT:Nat):Int)):=by show _=_;rw[<- u7.o,he];show((qR (zJ zT (bs++[b])) jT:Nat):Int)=_;rw[kw,if_pos Z]);(have n2:w5.cell? ⟨g,2,none⟩=some (.int .i64 BK):=by rw[<- v2.o];exact BC.o.st.cellD 2 (by decide));(have n3:w5.cell? ⟨g,3,none⟩=some (.int .i64 MK):=by rw[<- u7.o];exact BC.o.st.cellD 3 (by decide));(have HX:Hid (∀W,Below w5.heap.size w5 W->Calls Tryz.prog 30 #[.pointer (some ⟨g,0,none⟩),.int .i64 4,.int .i64 LN] W λy W'=>y=.returned (.tuple #[])/\BI B b ⟨g,p,pc,pn,pl,fo,fn,fc⟩ [] w W' { d with f:=z7 F2 4 LN }):=λW hb=>(jO _ F2 4 LN g W (BC.o.below hb).st (by decide) 4 rfl).mono λy W' ⟨h1,h2,h3⟩=>⟨h1,(BC.o.below hb).fail h2 h3⟩);(have d4:Hid (zP bs b=if qR b jT<qR b jo then (4,b.line) else (0,0)):=by show _=_;rw[HV.o.2.2.2];unfold yr;rw[if_neg a3,if_pos Z]);(have m0:Hid (∀n,Below w5.heap.size w5 (w5.drewN n)):=λn=>below_drewN (Below.refl w5.heap.size w5) n);clear he;by_cases d6:qR b jT<qR b jo
        . (have tg:decide (BK > MK)=true:=by rw[z9.o,b7.o];exact decide_eq_true (by omega));(have l9:Hid (zP bs b=(4,b.line)):=by show _=_;rw[d4.o,if_pos d6]);clear d6;go_wp2_with fail;(go_quiet (fail));go_wp2_with (first|(go_at_call 30;(with_reducible refine(HX.o _ (m0.o _)).mono ?_);rintro e w6 ⟨rfl,B6⟩)|fail);(go_meet);case rel=>exact⟨_,_,_,B6.se a5.o,Or.inr ⟨λe=>absurd (gi.1 e).2 (by decide),by show z7 F2 4 LN=_;rw[kK _ G.o (by decide),l9.o,g3.o]⟩⟩
        . (have tg:decide (BK > MK)=false:=by rw[z9.o,b7.o];exact decide_eq_false (by omega));(have l9:Hid (zP bs b=(0,0)):=by show _=_;rw[d4.o,if_neg d6]);clear d6;go_wp2_with fail;(go_quiet (fail));go_wp2_with fail;(go_meet);case rel=>exact⟨_,_,_,(BC.o.below (m0.o _)).se a5.o,Or.inl ⟨G.o,by rw[l9.o],g9.o⟩⟩
      . (have q3:(KD.toList == [115,99,97,110])=false:=by rw[<- a4.o];exact jh (v:=zT) Z);(have l9:Hid (zP bs b=(0,0)):=by show _=_;rw[HV.o.2.2.2];unfold yr;rw[if_neg a3,if_neg Z]);(have m0:Hid (∀n,Below w5.heap.size w5 (w5.drewN n)):=λn=>below_drewN (Below.refl w5.heap.size w5) n);go_wp2_with fail;(go_quiet (fail));go_wp2_with fail;(go_meet);case rel=>exact⟨_,_,_,(BC.o.below (m0.o _)).se a5.o,Or.inl ⟨G.o,by rw[l9.o],g9.o⟩⟩
    . (have q0:(N5 != 0)=true:=by rw[<- g4.o];simp[G]);have b5:Hid (F2=zP bs b):=by
       rcases HL.o with ⟨h1,_⟩|⟨_,h⟩
       . exact absurd h1 G
       . exact h
      have t8:Hid (F2.1≠0):=G;clear G HL;go_wp2_with fail;(go_meet);case rel=>exact⟨F2,d.r,d.z,BC.o.se a5.o,Or.inr ⟨t8.o,b5.o⟩⟩
   case rest =>
    clear BC HL a5;obtain⟨F',r',z',F9,HL⟩:=hcut;obtain⟨w6,r8⟩:∃x,x=wc:=⟨_,rfl⟩;subst r8;obtain⟨X,eX,AX,M3,L4,k0,D1,OX,C7,y9,b6⟩:=F9.o.see;rw[a4.o] at eX AX k0 D1;go_wp2_with fail;go_region_law (first
      | (refine Q9 (vs:=[.string KD]) Tryz.underlying26 QW rfl (by decide) (by decide) _ _ rfl rfl AX OX C7 y9 rfl (by intro u hu;rw[List.mem_singleton.1 hu];rfl) rfl rfl ?_;intro d5 c7 w7 O7 G7 o7 _;rw[<- a4.o] at O7;obtain⟨V7,m7,c14,z1,S7,R7,B7⟩:=b6 d5 c7 w7 O7 ⟨G7.os,G7.tape,G7.output,G7.size,G7.block⟩ o7))
    all_goals
      go_wp2_with fail;go_end0;exact⟨rfl,_,_,_,S7,R7,B7,HL.o⟩
