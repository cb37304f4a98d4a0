/- -/
import Derived.Test.YtkefajjcpcoajaaGreatDoorPkA0
import Derived.Test.YtkefajjcpcoajaaGreatDoorPkA18
import Derived.Test.YtkefajjcpcoajaaGreatDoorPkA26
import Derived.Test.YtkefajjcpcoajaaGreatDoorPkA32
import Derived.Test.YtkefajjcpcoajaaGreatDoorPkA38
set_option linter.all false
set_option maxRecDepth 100000
set_option maxHeartbeats 51200000
namespace Go.Proofs.YtkefajjcpcoajaaGreatDoor
open Go.RowKit Lx
namespace Lx
def Qd(e:Elc):Bool:=decide (e.rnum.length=1)&&(decide (e.rden.length=1)&&(Q.QQ e.rneg e.rnum e.rden&&(decide ((jM (jb e (jr e))).1.1=0)&&eqE (jM (jb e (jr e))).2 e)))
end Lx
structure SrcOk (e:Elc) (s:ESl):Prop where
 nums:I64 e.dots/\I64 e.blank/\I64 e.marked/\I64 e.scanners/\I64 e.batch/\I64 e.cell
 precs:e.precs.length<=4000000
 sm:LC e
 cst:∀x∈e.conts,x.cands.length<=4000000/\I64 x.seats/\I64 x.ranks/\I64 x.digits
 sty:∀x∈e.stys,x.precs.length<=4000000/\x.conts.length<=4000000
 rat:ul e s
theorem SrcOk.ds{e:Elc}{s:ESl}(h:SrcOk e s)(h1:s.un<=1)(h2:s.dn<=1):Ni e s:=⟨h.nums,h.precs,by have:=h.sm.rows;omega,by have:=h.sm.rows;omega,h.cst,h.sty,h.rat,h1,h2⟩
theorem nb0{b:Bool}(h:(!b)=true):b=false:=by simpa using h
theorem nb2{b:Bool}(h:(!b)=false):b=true:=by simpa using h
theorem Nk{W Z:World}{B b:Nat}{u0 u1:Value}{bs:List qK}{bo:Option Addr}{bn bc:Nat}(hZ:Hid (Z=put2 W b u0 u1))(h:BlkS (geF B) W bo bn bc bs)(hb:b<B):Hid (BlkS qU Z bo bn bc bs):=by
 have m:W.grownBy Z (some b):=by
  rw[hZ.o];exact qC (qM W b 0 u0) (qM _ b 1 u1)
 have:=h.keep (vV B) (jL m (λk (hs:B<=k) e=>by injection e with e;omega));exact this.mono λ_ _=>trivial
theorem JO{w U W Z:World}{b:Nat}{v0 v1 u0 u1:Value}(hZ:Hid (Z=put2 W b u0 u1))(E:Below U.heap.size U W)(HB:Below w.heap.size w U)(hle:w.heap.size<=b)(_:Arr W b 24 [v0,v1]):Hid (Below w.heap.size w Z):=by
 have m:=HB.trans (E.mono HB.size);show Below _ _ _;rw[hZ.o];exact(m.setCell (p:=⟨_,0,none⟩) hle _).setCell (p:=⟨_,1,none⟩) hle _
theorem Uh(e:Elc)(s:ESl)(w:World)(h:ElcS qU w e s)(hok:SrcOk e s)(hT:Tabs w)(N1 N2 R3 F4 Q5:Bool)(hN1:((s.un:Int) != 1)=N1)(hN2:((s.dn:Int) != 1)=N2)(hR3:Q.QQ e.rneg e.rnum e.rden=R3)(hF4:(((jM (jb e (jr e))).1.1:Int) != 0)=F4)(hQ5:eqE (jM (jb e (jr e))).2 e=Q5):Calls Tryz.prog 18 #[eV e s] w λr w'=>∃bo bn bc,r=.returned (.tuple #[.agg #[.string (stg (if (!N1&&(!N2&&(R3&&(!F4&&Q5)))) then e.title else [])),.slice bo bn bc],.bool (!N1&&(!N2&&(R3&&(!F4&&Q5))))])/\BlkS qU w' bo bn bc (if (!N1&&(!N2&&(R3&&(!F4&&Q5)))) then (jb e (jr e)).blks else [])/\Below w.heap.size w w':=by
 show Calls Tryz.prog 18 #[.agg #[.string (stg e.title),.int .i64 e.dots,.int .i64 e.blank,.int .i64 e.marked,.slice s.po s.pn s.pc,.slice s.co s.cn s.cc,.slice s.so s.sn s.sc,.int .i64 e.scanners,.int .i64 e.batch,.bool e.rneg,.slice s.uo s.un s.uc,.slice s.dO s.dn s.dc,.int .i64 e.cell,.string (stg e.seed)]] w _;obtain⟨V,e1,AV,BV,hz⟩:=qG w 34 [.string (stg e.title),.int .i64 e.dots,.int .i64 e.blank,.int .i64 e.marked,.slice s.po s.pn s.pc,.slice s.co s.cn s.cc,.slice s.so s.sn s.sc,.int .i64 e.scanners,.int .i64 e.batch,.bool e.rneg,.slice s.uo s.un s.uc,.slice s.dO s.dn s.dc,.int .i64 e.cell,.string (stg e.seed)];obtain⟨U,e2,AU,BU,h4⟩:=qG V 24 [.string ⟨#[]⟩,.slice none 0 0];obtain⟨KT,a4⟩:∃K,Hid (stg e.title=K):=⟨_,rfl⟩;obtain⟨KS,a7⟩:∃K,Hid (stg e.seed=K):=⟨_,rfl⟩;rw[a4.o,a7.o] at e1 AV;rw[a4.o,a7.o];have HT:=jA ((hT.below BV).below BU);have HE:Hid (∀W,Below U.heap.size U W->ElcS qU W e s):=λW H=>((h.below BV).below BU).below H
 obtain⟨bb,a2⟩:∃b,w.heap.size=b:=⟨_,rfl⟩;rw[a2] at AV hz;rw[hz] at AU;have A0:=jA (AV.kept BU);have A1:=jA AU;have HB:Hid (Below w.heap.size w U):=BV.trans (BU.mono BV.size);have a6:Hid (w.heap.size<=bb+1):=by show _<=_;omega
 have i1:Hid (bb+1<U.heap.size):=by show _<_;omega
 have g4:=IntL.len h.num;have g6:=IntL.len h.den;have g1:N1=false->e.rnum.length=1:=λhn=>by rw[hn] at hN1;have:(s.un:Int)=1:=(by simpa using hN1);omega
 have g2:N2=false->e.rden.length=1:=λhn=>by rw[hn] at hN2;have:(s.dn:Int)=1:=(by simpa using hN2);omega
 have HV:Hid (N1=false->N2=false->∀W,Below U.heap.size U W->Calls Tryz.prog 44 #[.agg #[.bool e.rneg,.slice s.uo s.un s.uc,.slice s.dO s.dn s.dc]] W λr w'=>r=.returned (.bool (Q.QQ e.rneg e.rnum e.rden))/\Below W.heap.size W w'):=λa b W H=>Q.NH e.rneg _ _ _ _ _ _ e.rnum e.rden W (um (HE.o W H).num hok.rat.num) (um (HE.o W H).den hok.rat.den) (by have:=g1 a;omega) (by have:=g2 b;omega)
 have HY:Hid (∀W,Below U.heap.size U W->W.cell? ⟨bb,0,none⟩=some (.string KT)/\W.cell? ⟨bb,1,none⟩=some (.int .i64 e.dots)/\W.cell? ⟨bb,2,none⟩=some (.int .i64 e.blank)/\W.cell? ⟨bb,3,none⟩=some (.int .i64 e.marked)/\W.cell? ⟨bb,4,none⟩=some (.slice s.po s.pn s.pc)/\W.cell? ⟨bb,5,none⟩=some (.slice s.co s.cn s.cc)/\W.cell? ⟨bb,6,none⟩=some (.slice s.so s.sn s.sc)/\W.cell? ⟨bb,7,none⟩=some (.int .i64 e.scanners)/\W.cell? ⟨bb,8,none⟩=some (.int .i64 e.batch)/\W.cell? ⟨bb,9,none⟩=some (.bool e.rneg)/\W.cell? ⟨bb,10,none⟩=some (.slice s.uo s.un s.uc)/\W.cell? ⟨bb,11,none⟩=some (.slice s.dO s.dn s.dc)/\W.cell? ⟨bb,12,none⟩=some (.int .i64 e.cell)/\W.cell? ⟨bb,13,none⟩=some (.string KS)):=λW H=>⟨(A0.o.kept H).cell 0,(A0.o.kept H).cell 1,(A0.o.kept H).cell 2,(A0.o.kept H).cell 3,(A0.o.kept H).cell 4,(A0.o.kept H).cell 5,(A0.o.kept H).cell 6,(A0.o.kept H).cell 7,(A0.o.kept H).cell 8,(A0.o.kept H).cell 9,(A0.o.kept H).cell 10,(A0.o.kept H).cell 11,(A0.o.kept H).cell 12,(A0.o.kept H).cell 13⟩
 obtain⟨y0,y1,y2,y3,y4,y5,y6,y7,y8,y9,u5,n6,l9,u3⟩:=HY.o U (Below.refl _ _);rw[hR3] at HV;have d7:=jA hok.rat;obtain⟨RV,a1⟩:∃b,Hid ((!N1&&(!N2&&(R3&&(!F4&&Q5))))=b):=⟨_,rfl⟩;rw[a1.o];obtain⟨TT,a3⟩:∃t,Hid ((if RV then e.title else [])=t):=⟨_,rfl⟩;obtain⟨BB,a0⟩:∃t,Hid ((if RV then (jb e (jr e)).blks else [])=t):=⟨_,rfl⟩;rw[a3.o,a0.o];have HD:Hid (N1=false->N2=false->∀W,Below U.heap.size U W->Calls Tryz.prog 45 #[.agg #[.string KT,.int .i64 e.dots,.int .i64 e.blank,.int .i64 e.marked,.slice s.po s.pn s.pc,.slice s.co s.cn s.cc,.slice s.so s.sn s.sc,.int .i64 e.scanners,.int .i64 e.batch,.bool e.rneg,.slice s.uo s.un s.uc,.slice s.dO s.dn s.dc,.int .i64 e.cell,.string KS]] W λr w'=>∃bo bn bc,r=.returned (.agg #[.string KT,.slice bo bn bc])/\BlkS (geF W.heap.size) w' bo bn bc (jb e (jr e)).blks/\Below W.heap.size W w'):=λa b W H=>by
  have:=Ub e s W (HE.o W H) (hok.ds (by have:=g1 a;omega) (by have:=g2 b;omega)) (HT.o.below H);rw[<- a4.o,<- a7.o];exact this
 have b6:Hid (N1=false->N2=false->∀W bo bn bc,Below U.heap.size U W->BlkS qU W bo bn bc (jb e (jr e)).blks->Calls Tryz.prog 12 #[.agg #[.string KT,.slice bo bn bc]] W λr w'=>∃m,r=.returned (.tuple #[eV (jM (jb e (jr e))).2 m,.agg #[.int .i64 (((jM (jb e (jr e))).1.1:Nat):Int),.int .i64 (jM (jb e (jr e))).1.2]])/\ElcS qU w' (jM (jb e (jr e))).2 m/\Below W.heap.size W w'):=λa b W bo bn bc H hv=>by
  have d9:=hok.ds (by have:=g1 a;omega) (by have:=g2 b;omega);have:=Qc (jb e (jr e)) bo bn bc W hv (Uf d9 hok.sm (Ug (g1 a) (g2 b) hok.rat.num hok.rat.den)) (He d9) (HT.o.below H);rw[<- a4.o];exact this
 have e3:Hid (∀W m,ElcS qU W (jM (jb e (jr e))).2 m->ul (jM (jb e (jr e))).2 m):=λW m hs=>gM hs
 obtain⟨SB,d8⟩:∃S,Hid ((jb e (jr e)).blks=S):=⟨_,rfl⟩;rw[d8.o] at HD b6 a0;obtain⟨CC,f3⟩:∃C,Hid (jM (jb e (jr e))=C):=⟨_,rfl⟩;rw[f3.o] at b6 e3 hF4 hQ5;obtain⟨⟨er,ln⟩,y⟩:=CC;replace hF4:(((er:Nat):Int) != 0)=F4:=hF4;replace hQ5:Hid (eqE y e=Q5):=hQ5;clear h hok hT AV AU BV BU h4 g4 g6 d8 f3 g1 g2 hR3;obtain⟨Z1,m1,f4,h9,s7,r7,q9,t4⟩:=zl (A1.o.kept (Below.refl U.heap.size U)) (.string ⟨#[]⟩) (.slice none 0 0);obtain⟨i2,h3⟩:=h9.c2;have e7:=JO f4 (Below.refl U.heap.size U) HB.o a6.o (A1.o.kept (Below.refl U.heap.size U));go_in;iterate 6 all_goals
   (try (first|cases ‹N1=true› | cases (eq_false_of_ne_true ‹¬N1=true›)|cases ‹N1=false› | cases ‹N2=true› | cases (eq_false_of_ne_true ‹¬N2=true›)|cases ‹N2=false› | cases ‹R3=true› | cases (eq_false_of_ne_true ‹¬R3=true›)|cases ‹R3=false› | cases ‹F4=true› | cases (eq_false_of_ne_true ‹¬F4=true›)|cases ‹F4=false› | cases ‹Q5=true› | cases (eq_false_of_ne_true ‹¬Q5=true›)|cases ‹Q5=false› | cases (nb0 ‹(!R3)=true›)|cases (nb1 ‹¬(!R3)=true›)|cases (nb2 ‹(!R3)=false›)|cases (nb2 ‹(!Q5)=false›)|cases (nb0 ‹(!Q5)=true›)|cases (nb1 ‹¬(!Q5)=true›)|fail)
    go_wp2_with (first
     | (go_at_call 44;(with_reducible refine(HV.o (by first|rfl|trivial) (by first|rfl|trivial) U (Below.refl _ _)).mono ?_);rintro r v1 ⟨rfl,B1⟩;obtain⟨p0,p1,p2,p3,p4,J,p6,p7,p8,p9,q2,u7,o1,t0⟩:=HY.o v1 B1;obtain⟨Z2,m2,i0,e8,o0,u8,s1,u9⟩:=zl (A1.o.kept B1) (.string ⟨#[]⟩) (.slice none 0 0);have h5:Z2.cell? ⟨bb+1,0,none⟩=some (.string ⟨#[]⟩):=e8.cell 0;have g9:Z2.cell? ⟨bb+1,1,none⟩=some (.slice none 0 0):=e8.cell 1;have d6:=JO i0 B1 HB.o a6.o (A1.o.kept B1);have h8:=jA (HD.o (by first|rfl|trivial) (by first|rfl|trivial) v1 B1);have b9:=jA B1;clear B1)
     | (go_at_call 45;(with_reducible refine h8.o.mono ?_);rintro r v2 ⟨bo,bn,bc,rfl,BL,B2⟩;obtain⟨V3,W3,f1,f2,AW,BW,zW,g0,g1,g2,g3⟩:=xj v2 24 (.string ⟨#[]⟩) (.slice none 0 0) (.string KT) (.slice bo bn bc);obtain⟨p4,i6⟩:∃p,v2.heap.size=p:=⟨_,rfl⟩;rw[i6] at f2 AW g0 g1 g2 g3;have b5:=b9.o.trans (B2.mono b9.o.size);have b7:=jA (b5.trans (BW.mono b5.size));have c7:=jA (BL.keep (vV _) (qD _ BW));have i4:=jA (c7.o.mono λ_ _=>trivial:BlkS qU W3 bo bn bc SB);have f6:=jA AW;have j4:W3.cell? ⟨p4,0,none⟩=some (.string KT):=AW.cell 0;have i7:W3.cell? ⟨p4,1,none⟩=some (.slice bo bn bc):=AW.cell 1;have f9:=jA (b6.o (by first|rfl|trivial) (by first|rfl|trivial) W3 bo bn bc b7.o i4.o);clear B2 BL AW BW zW b5)
     | (go_at_call 12;(with_reducible refine f9.o.mono ?_);rintro r v4 ⟨m,he,ES,B4⟩;obtain⟨b2,b0⟩:∃K,Hid (stg y.title=K):=⟨_,rfl⟩;obtain⟨b3,a9⟩:∃K,Hid (stg y.seed=K):=⟨_,rfl⟩;replace he:r=.returned (.tuple #[.agg #[.string (stg y.title),.int .i64 y.dots,.int .i64 y.blank,.int .i64 y.marked,.slice m.po m.pn m.pc,.slice m.co m.cn m.cc,.slice m.so m.sn m.sc,.int .i64 y.scanners,.int .i64 y.batch,.bool y.rneg,.slice m.uo m.un m.uc,.slice m.dO m.dn m.dc,.int .i64 y.cell,.string (stg y.seed)],.agg #[.int .i64 ((er:Nat):Int),.int .i64 ln]]):=he;rw[b0.o,a9.o] at he;subst he;obtain⟨X1,d1,A5,B5,z5⟩:=qG v4 34 [.string ⟨#[]⟩,.int .i64 0,.int .i64 0,.int .i64 0,.slice none 0 0,.slice none 0 0,.slice none 0 0,.int .i64 0,.int .i64 0,.bool false,.slice none 0 0,.slice none 0 0,.int .i64 0,.string ⟨#[]⟩];obtain⟨X2,d2,A6,B6,z6⟩:=qG X1 37 [.int .i64 0,.int .i64 0];obtain⟨J,i5⟩:∃p,v4.heap.size=p:=⟨_,rfl⟩;obtain⟨p6,f8⟩:∃p,X1.heap.size=p:=⟨_,rfl⟩;have b8:p6≠J:=(by omega);rw[i5] at A5;rw[f8] at A6;obtain⟨x0,x1,x2,x3,x4,x5,x6,x7,x8,x9,l7,o3,t8,b4,u4,m7,r2,q0,u2,q6,v3,t6,s8,v0,k9,j0,k7,k6,AX,GX,LX,q8,r9,m0,u1,n3,n5,s5,o5,s3,s6,s4,m8,o9,s0,t9,o8,q7,q3,u6,t2,l0,l3,j1,j2,i8,i9,j5,j3⟩:=kS (A5.kept B6) (.string b2) (.int .i64 y.dots) (.int .i64 y.blank) (.int .i64 y.marked) (.slice m.po m.pn m.pc) (.slice m.co m.cn m.cc) (.slice m.so m.sn m.sc) (.int .i64 y.scanners) (.int .i64 y.batch) (.bool y.rneg) (.slice m.uo m.un m.uc) (.slice m.dO m.dn m.dc) (.int .i64 y.cell) (.string b3);obtain⟨Y,my,e6,AY,k0,k1,k2,k3⟩:=zl (A6.other GX b8) (.int .i64 ((er:Nat):Int)) (.int .i64 ln);have GY:b4.grownBy Y (some p6):=(by rw[e6.o];exact qC (qM b4 p6 0 _) (qM _ p6 1 _));have G:=AX.other GY b8.symm;have e4:Below v4.heap.size v4 X2:=B5.trans (B6.mono B5.size);have b1:Below v4.heap.size v4 b4:=LX _ _ e4 (by omega);have BY:Below v4.heap.size v4 Y:=(by rw[e6.o];exact(b1.setCell (p:=⟨_,0,none⟩) (by show _<=p6;omega) _).setCell (p:=⟨_,1,none⟩) (by show _<=p6;omega) _);have a8:=B4.trans (BY.mono B4.size);have Z:=jA (b7.o.trans (a8.mono b7.o.size));have e0:=jA (ES.below BY);have u0:Y.cell? ⟨p6,0,none⟩=some (.int .i64 ((er:Nat):Int)):=AY.cell 0;have g8:=jA (c7.o.keep (vV _) (qD _ a8));have g7:=jA (f6.o.kept a8);have o4:=jA G;obtain⟨w0,w1,w2,w3,w4,w5,w6,w7,w8,w9,l6,r6,o6,q4⟩:=HY.o Y Z.o;have q1:Y.cell? ⟨J,0,none⟩=some (.string b2):=G.cell 0;have n0:Y.cell? ⟨J,1,none⟩=some (.int .i64 y.dots):=G.cell 1;have m9:Y.cell? ⟨J,2,none⟩=some (.int .i64 y.blank):=G.cell 2;have s9:Y.cell? ⟨J,3,none⟩=some (.int .i64 y.marked):=G.cell 3;have o2:Y.cell? ⟨J,4,none⟩=some (.slice m.po m.pn m.pc):=G.cell 4;have v7:Y.cell? ⟨J,5,none⟩=some (.slice m.co m.cn m.cc):=G.cell 5;have q5:Y.cell? ⟨J,6,none⟩=some (.slice m.so m.sn m.sc):=G.cell 6;have l8:Y.cell? ⟨J,7,none⟩=some (.int .i64 y.scanners):=G.cell 7;have n7:Y.cell? ⟨J,8,none⟩=some (.int .i64 y.batch):=G.cell 8;have v5:Y.cell? ⟨J,9,none⟩=some (.bool y.rneg):=G.cell 9;have k4:Y.cell? ⟨J,10,none⟩=some (.slice m.uo m.un m.uc):=G.cell 10;have l5:Y.cell? ⟨J,11,none⟩=some (.slice m.dO m.dn m.dc):=G.cell 11;have k5:Y.cell? ⟨J,12,none⟩=some (.int .i64 y.cell):=G.cell 12;have l4:Y.cell? ⟨J,13,none⟩=some (.string b3):=G.cell 13;have g5:Hid (jC 23 #[.agg #[.string b2,.int .i64 y.dots,.int .i64 y.blank,.int .i64 y.marked,.slice m.po m.pn m.pc,.slice m.co m.cn m.cc,.slice m.so m.sn m.sc,.int .i64 y.scanners,.int .i64 y.batch,.bool y.rneg,.slice m.uo m.un m.uc,.slice m.dO m.dn m.dc,.int .i64 y.cell,.string b3],.agg #[.string KT,.int .i64 e.dots,.int .i64 e.blank,.int .i64 e.marked,.slice s.po s.pn s.pc,.slice s.co s.cn s.cc,.slice s.so s.sn s.sc,.int .i64 e.scanners,.int .i64 e.batch,.bool e.rneg,.slice s.uo s.un s.uc,.slice s.dO s.dn s.dc,.int .i64 e.cell,.string KS]] Y λr w'=>r=.returned (.bool Q5)/\Below Y.heap.size Y w'):=(by have:=ZS y e m s Y e0.o (HE.o Y Z.o) (e3.o _ m e0.o) d7.o;rw[hQ5.o] at this;rw[<- a4.o,<- a7.o,<- b0.o,<- a9.o];exact this);obtain⟨Z3,m3,h0,c8,m6,t5,r5,t7⟩:=zl (A1.o.kept Z.o) (.string ⟨#[]⟩) (.slice none 0 0);have h7:Z3.cell? ⟨bb+1,0,none⟩=some (.string ⟨#[]⟩):=c8.cell 0;have h2:Z3.cell? ⟨bb+1,1,none⟩=some (.slice none 0 0):=c8.cell 1;have d5:=JO h0 Z.o HB.o a6.o (A1.o.kept Z.o);clear ES B4 A5 B5 z5 A6 B6 z6 AX GX LX AY GY e4 b1 BY a8 b8)
     | (go_at_call 23;(with_reducible refine g5.o.mono ?_);rintro r v6 ⟨rfl,B6⟩;have a5:=jA (Z.o.trans (B6.mono Z.o.size));have c6:=g7.o.kept B6;have t1:v6.cell? ⟨p4,0,none⟩=some (.string KT):=c6.cell 0;have r3:v6.cell? ⟨p4,1,none⟩=some (.slice bo bn bc):=c6.cell 1;obtain⟨Z4,m4,h6,d3,t3,n9,s2,n8⟩:=zl (A1.o.kept a5.o) (.string ⟨#[]⟩) (.slice none 0 0);have h1:Z4.cell? ⟨bb+1,0,none⟩=some (.string ⟨#[]⟩):=d3.cell 0;have f7:Z4.cell? ⟨bb+1,1,none⟩=some (.slice none 0 0):=d3.cell 1;have d4:=JO h6 a5.o HB.o a6.o (A1.o.kept a5.o);obtain⟨Z5,m5,f0,e5,n4,r4,o7,r8⟩:=zl (A1.o.kept a5.o) (.string KT) (.slice bo bn bc);have i3:Z5.cell? ⟨bb+1,0,none⟩=some (.string KT):=e5.cell 0;have f5:Z5.cell? ⟨bb+1,1,none⟩=some (.slice bo bn bc):=e5.cell 1;have e9:=JO f0 a5.o HB.o a6.o (A1.o.kept a5.o);have d0:Hid (BlkS qU Z5 bo bn bc SB):=Nk f0 (g8.o.keep (vV _) (qD _ B6)) (by have:=b9.o.size;have:=i1.o;omega))
     | fail))
 all_goals
   repeat (first|cases ‹N1=true› | cases (eq_false_of_ne_true ‹¬N1=true›)|cases ‹N1=false› | cases ‹N2=true› | cases (eq_false_of_ne_true ‹¬N2=true›)|cases ‹N2=false› | cases ‹R3=true› | cases (eq_false_of_ne_true ‹¬R3=true›)|cases ‹R3=false› | cases ‹F4=true› | cases (eq_false_of_ne_true ‹¬F4=true›)|cases ‹F4=false› | cases ‹Q5=true› | cases (eq_false_of_ne_true ‹¬Q5=true›)|cases ‹Q5=false› | cases (nb0 ‹(!R3)=true›)|cases (nb1 ‹¬(!R3)=true›)|cases (nb2 ‹(!R3)=false›)|cases (nb2 ‹(!Q5)=false›)|cases (nb0 ‹(!Q5)=true›)|cases (nb1 ‹¬(!Q5)=true›)|fail)
   first
     | (obtain rfl:true=RV:=a1.o
        obtain rfl:e.title=TT:=a3.o;obtain rfl:SB=BB:=a0.o;refine bodyPost_ret (v:=.tuple #[.agg #[.string KT,.slice bo bn bc],.bool true]) (by simp[results,Tryz.results18,go_sem,i3,f5]) rfl ?_;exact⟨bo,bn,bc,by rw[<- a4.o],d0.o,by first|exact e9.o|(rw[<- a2];exact e9.o)⟩)
     | (obtain rfl:false=RV:=a1.o
        obtain rfl:[]=TT:=a3.o;obtain rfl:[]=BB:=a0.o;refine bodyPost_ret (v:=.tuple #[.agg #[.string ⟨#[]⟩,.slice none 0 0],.bool false]) (by simp[results,Tryz.results18,go_sem,h1,f7]) rfl ?_;exact⟨none,0,0,rfl,⟨[],Row.nilS 4 _,rfl⟩,by first|exact d4.o|(rw[<- a2];exact d4.o)⟩)
     | (obtain rfl:false=RV:=a1.o
        obtain rfl:[]=TT:=a3.o;obtain rfl:[]=BB:=a0.o;refine bodyPost_ret (v:=.tuple #[.agg #[.string ⟨#[]⟩,.slice none 0 0],.bool false]) (by simp[results,Tryz.results18,go_sem,h7,h2]) rfl ?_;exact⟨none,0,0,rfl,⟨[],Row.nilS 4 _,rfl⟩,by first|exact d5.o|(rw[<- a2];exact d5.o)⟩)
     | (obtain rfl:false=RV:=a1.o
        obtain rfl:[]=TT:=a3.o;obtain rfl:[]=BB:=a0.o;refine bodyPost_ret (v:=.tuple #[.agg #[.string ⟨#[]⟩,.slice none 0 0],.bool false]) (by simp[results,Tryz.results18,go_sem,h5,g9]) rfl ?_;exact⟨none,0,0,rfl,⟨[],Row.nilS 4 _,rfl⟩,by first|exact d6.o|(rw[<- a2];exact d6.o)⟩)
     | (obtain rfl:false=RV:=a1.o
        obtain rfl:[]=TT:=a3.o;obtain rfl:[]=BB:=a0.o;refine bodyPost_ret (v:=.tuple #[.agg #[.string ⟨#[]⟩,.slice none 0 0],.bool false]) (by simp[results,Tryz.results18,go_sem,i2,h3]) rfl ?_;exact⟨none,0,0,rfl,⟨[],Row.nilS 4 _,rfl⟩,by first|exact e7.o|(rw[<- a2];exact e7.o)⟩)
theorem CW(e:Elc)(s:ESl)(w:World)(h:ElcS qU w e s)(hok:SrcOk e s)(hT:Tabs w):Calls Tryz.prog 18 #[eV e s] w λr w'=>∃bo bn bc,r=.returned (.tuple #[.agg #[.string (stg (if Qd e then e.title else [])),.slice bo bn bc],.bool (Qd e)])/\BlkS qU w' bo bn bc (if Qd e then (jb e (jr e)).blks else [])/\Below w.heap.size w w':=by
 have m:=IntL.len h.num;have y:=IntL.len h.den;have G:Qd e=(!((s.un:Int) != 1)&&(!((s.dn:Int) != 1)&&(Q.QQ e.rneg e.rnum e.rden&&(!(((jM (jb e (jr e))).1.1:Int) != 0)&&eqE (jM (jb e (jr e))).2 e)))):=by
  unfold Qd;rw[show(!((s.un:Int) != 1))=decide (e.rnum.length=1) from by rw[m];by_cases e:s.un=1<;>simp[e];omega,show(!((s.dn:Int) != 1))=decide (e.rden.length=1) from by rw[y];by_cases e:s.dn=1<;>simp[e];omega,show(!(((jM (jb e (jr e))).1.1:Int) != 0))=decide ((jM (jb e (jr e))).1.1=0) from by by_cases q:(jM (jb e (jr e))).1.1=0<;>simp[q]]
 rw[G];exact Uh e s w h hok hT _ _ _ _ _ rfl rfl rfl rfl rfl
theorem Nl(e:Elc)(s:ESl)(w:World)(h:ElcS qU w e s)(hok:SrcOk e s)(hT:Tabs w):Calls Tryz.prog 20 #[eV e s] w λr w'=>r=.returned (.bool (Qd e))/\Below w.heap.size w w':=by
 show Calls Tryz.prog 20 #[.agg #[.string (stg e.title),.int .i64 e.dots,.int .i64 e.blank,.int .i64 e.marked,.slice s.po s.pn s.pc,.slice s.co s.cn s.cc,.slice s.so s.sn s.sc,.int .i64 e.scanners,.int .i64 e.batch,.bool e.rneg,.slice s.uo s.un s.uc,.slice s.dO s.dn s.dc,.int .i64 e.cell,.string (stg e.seed)]] w _;obtain⟨V,e1,AV,BV,hz⟩:=qG w 34 [.string (stg e.title),.int .i64 e.dots,.int .i64 e.blank,.int .i64 e.marked,.slice s.po s.pn s.pc,.slice s.co s.cn s.cc,.slice s.so s.sn s.sc,.int .i64 e.scanners,.int .i64 e.batch,.bool e.rneg,.slice s.uo s.un s.uc,.slice s.dO s.dn s.dc,.int .i64 e.cell,.string (stg e.seed)];obtain⟨KT,y⟩:∃K,Hid (stg e.title=K):=⟨_,rfl⟩;obtain⟨KS,G⟩:∃K,Hid (stg e.seed=K):=⟨_,rfl⟩;have HS:Hid (jC 18 #[eV e s] V λr w'=>∃bo bn bc,r=.returned (.tuple #[.agg #[.string (stg (if Qd e then e.title else [])),.slice bo bn bc],.bool (Qd e)])/\BlkS qU w' bo bn bc (if Qd e then (jb e (jr e)).blks else [])/\Below V.heap.size V w'):=CW e s V (h.below BV) hok (hT.below BV);obtain⟨T,a0⟩:=jx1 (stg (if Qd e then e.title else []));rw[show eV e s=.agg #[.string (stg e.title),.int .i64 e.dots,.int .i64 e.blank,.int .i64 e.marked,.slice s.po s.pn s.pc,.slice s.co s.cn s.cc,.slice s.so s.sn s.sc,.int .i64 e.scanners,.int .i64 e.batch,.bool e.rneg,.slice s.uo s.un s.uc,.slice s.dO s.dn s.dc,.int .i64 e.cell,.string (stg e.seed)] from rfl,a0.o,y.o,G.o] at HS;rw[y.o,G.o] at e1 AV;rw[y.o,G.o];obtain⟨bb,H⟩:∃b,w.heap.size=b:=⟨_,rfl⟩;rw[H] at AV hz;have Z:Hid (Below w.heap.size w V):=BV;have A0:=jA AV;obtain⟨b1,b4,b5,b2,a9,a8,a7,a6,b0,b3,a4,a5,a2,a3⟩:=A0.o.c14;clear h hok hT AV BV;go_in;go_wp2_with (go_at_call 18;(with_reducible refine HS.o.mono ?_);rintro r v2 ⟨bo,bn,bc,rfl,BL,B2⟩;obtain⟨V3,W3,f1,f2,AW,BW,zW,g0,g1,g2,g3⟩:=xj v2 24 (.string ⟨#[]⟩) (.slice none 0 0) (.string T) (.slice bo bn bc);obtain⟨p4,a1⟩:∃p,v2.heap.size=p:=⟨_,rfl⟩;rw[a1] at f2 AW g0 g1 g2 g3;have m:Hid (Below w.heap.size w W3):=(have J:=Z.o.trans (B2.mono Z.o.size);J.trans (BW.mono J.size)));refine bodyPost_ret (v:=.bool (Qd e)) (by simp[results,Tryz.results20,go_sem]) rfl ?_;exact⟨rfl,by first|exact m.o|(rw[<- H];exact m.o)⟩
namespace Lx
def Jt{α:Type}(q:α->Bool):List α->Option Nat
  | []=>none
  | x :: r=>if q x=true then some 0 else (Jt q r).map (· + 1)
def JP{α:Type}(q:α->Bool)(xs:List α):Int:=match Jt q xs with
 | some i=>i
 | none => -1
theorem Ki{α:Type}{q:α->Bool}:∀ {xs:List α} {j:Nat} {x:α},xs[j]? = some x->q x=true->(∀ (t:Nat) y,t<j->xs[t]? = some y->q y=false)->Jt q xs=some j
  | [],j,x,h,_,_=>by simp at h
  | u :: r,0,x,h,hk,_=>by
   (have:u=x:=by simpa using h);subst this;rw[Jt,if_pos hk]
  | u :: r,j+1,x,h,hk,hz=>by
   (have G:¬ q u=true:=by rw[hz 0 u (by omega) (by simp)];simp);rw[Jt,if_neg G,Ki (xs:=r) (j:=j) (by simpa using h) hk (λt g H m=>hz (t+1) g (by omega) (by simpa using m))];rfl
theorem Kj{α:Type}{q:α->Bool}:∀ {xs:List α},(∀ (t:Nat) y,xs[t]? = some y->q y=false)->Jt q xs=none
  | [],_=>rfl
  | u :: r,hz=>by
   (have hu:¬ q u=true:=by rw[hz 0 u (by simp)];simp);rw[Jt,if_neg hu,Kj (xs:=r) (λt g m=>hz (t+1) g (by simpa using m))];rfl
theorem Kl{α:Type}{q:α->Bool}{xs:List α}{j:Nat}{x:α}(h:xs[j]? = some x)(hq:q x=true)(hz:∀ (t:Nat) y,t<j->xs[t]? = some y->q y=false):JP q xs=(j:Int):=by
 unfold JP;rw[Ki h hq hz]
theorem Km{α:Type}{q:α->Bool}{xs:List α}(hz:∀ (t:Nat) y,xs[t]? = some y->q y=false):JP q xs=-1:=by
 unfold JP;rw[Kj hz]
theorem YJ{α:Type}{q:α->Bool}:∀ (xs:List α),(Jt q xs).isSome=xs.any q
  | []=>rfl
  | u :: r=>by
   rw[Jt,List.any_cons];by_cases hu:q u=true
   . rw[if_pos hu,hu];rfl
   . rw[if_neg hu,Option.isSome_map,YJ r,Bool.eq_false_iff.2 hu,Bool.false_or]
theorem Ca{α:Type}(q:α->Bool)(xs:List α):decide (JP q xs>=0)=xs.any q:=by
 rw[<- YJ];unfold JP;cases h:Jt q xs with
 | none=>rfl
 | some j =>
  show decide ((j:Int)>=0)=true;exact decide_eq_true (by omega)
def Hg(p:Int)(x:Sty):Bool:=x.precs.any (λy=>decide (y=p))
def YK(xs:List Sty)(p:Int):Int:=JP (Hg p) xs
end Lx
theorem Cb{S:World->Nat->Prop}(vs:List Int)(x:Int)(ao:Option Addr)(n c:Nat)(w:World)(h:IntL .i64 S w ao n c vs) :
    Calls Tryz.prog 109 #[.slice ao n c,.int .i64 x] w λe w'=>e=.returned (.int .i64 (JP (λy=>decide (y=x)) vs))/\w=w':=by
 have a4:=Row.cap h;have a0:=Row.room h;have G:=jA (IntL.len h);have H:=jA h;clear h;go_in;go_wp2_with fail;go_loopw [8] (λi wr=>∃j:Nat,j<=n/\i=.int .i64 (j:Int)/\w=wr/\Hid (∀ (t:Nat) y,t<j->vs[t]? = some y->decide (y=x)=false)) (λi _=>n-(intOf i).toNat)
 case atStart=>exact⟨0,Nat.zero_le _,rfl,rfl,λt y ht=>absurd ht (by omega)⟩
 case round =>
  obtain⟨j,hj,rfl,rfl,Z⟩:=hrel;by_cases a1:j<n
  . (have J:(j:Int)<(n:Int):=by omega);obtain⟨v,a,V,i1,c1⟩:=IntL.get Tryz.underlying58 (show(Tryz.prog.info? 3).map (·.size)=some 1 by kernel_rfl) H.o j a1;have V:=jA V;by_cases m:x=v
    . (have hb:(x == v)=true:=by rw[m];exact beq_self_eq_true v);(have a2:(v == x)=true:=by rw[m];exact beq_self_eq_true v);have hR:Hid (JP (λy=>decide (y=x)) vs=(j:Int)):=Kl V.o (decide_eq_true m.symm) Z.o;clear m;go_wp2_with fail;go_ret;exact⟨by rw[hR.o];rfl,rfl⟩
    . have hb:(x == v)=false:=beq_eq_false_iff_ne.2 m;have a2:(v == x)=false:=beq_eq_false_iff_ne.2 (Ne.symm m);have a3:Hid (∀ (t:Nat) y,t<j+1->vs[t]? = some y->decide (y=x)=false):=by
       intro t y ht e;by_cases h1:t=j
       . rw[h1,V.o] at e;injection e with e;rw[<- e];exact decide_eq_false (Ne.symm m)
       . exact Z.o t y (by omega) e
      clear m;go_wp2_with fail;go_roundw;(case rel=>exact⟨j+1,by omega,by go_num,by trivial,a3⟩);case measure=>simp[intOf];omega
  . (have J:¬ (j:Int)<(n:Int):=by omega);have hR:Hid (JP (λy=>decide (y=x)) vs=-1):=Km λt y e=>by
     have:=(List.getElem?_eq_some_iff.1 e).1;have:=G.o;exact Z.o t y (by omega) e
    go_wp2_with fail;go_ret;exact⟨by rw[hR.o];rfl,rfl⟩
theorem YL{S:World->Nat->Prop}(vs:List Int)(x:Int)(ao:Option Addr)(n c:Nat)(w:World)(h:IntL .i64 S w ao n c vs) :
    Calls Tryz.prog 58 #[.slice ao n c,.int .i64 x] w λe w'=>e=.returned (.bool (vs.any λy=>decide (y=x)))/\w=w':=by
 have m:=jA (Cb vs x ao n c w h);have G:=jA (Ca (λy=>decide (y=x)) vs);obtain⟨R,H⟩:∃R,Hid (JP (λy=>decide (y=x)) vs=R):=⟨_,rfl⟩;rw[H.o] at m G;clear h;go_in;go_wp2_with fail;refine m.o.mono ?_;rintro e J ⟨rfl,rfl⟩;go_wp2_with fail;go_ret;exact⟨by rw[<- G.o];rfl,rfl⟩
theorem P5(f:Sty)(x:Int)(po ko:Option Addr)(pn pc kn kc p:Nat)(w:World)(hp:w.cell? ⟨p,0,none⟩=some (.int .i64 x))(h:IntL .i64 qU w po pn pc f.precs) :
    Calls Tryz.prog 57 #[.agg #[.string (stg f.name),.slice po pn pc,.slice ko kn kc],.pointer (some ⟨p,0,none⟩)] w λe w'=>e=.returned (.bool (Hg x f))/\Below w.heap.size w w':=by
 obtain⟨V,e1,y,m,Z⟩:=qG w 60 [.string (stg f.name),.slice po pn pc,.slice ko kn kc];have H:Hid (jC 58 #[.slice po pn pc,.int .i64 x] V λe w'=>e=.returned (.bool (Hg x f))/\V=w'):=YL f.precs x po pn pc V (Row.keep h qJ (qD _ m));obtain⟨K,G⟩:=jx3 (stg f.name);rw[G] at e1 y |-;have y0:V.cell? ⟨w.heap.size,1,none⟩=some (.slice po pn pc):=y.cell 1;have y1:V.cell? ⟨p,0,none⟩=some (.int .i64 x):=(World.cell?_of_block (m.block _ (World.block_lt_of_cell? w _ hp))).trans hp;have J:=jA m;clear y m Z G hp h;go_in;go_wp2_with (go_at_call 58;(with_reducible refine H.o.mono ?_);rintro e w1 ⟨rfl,rfl⟩);go_ret;exact⟨rfl,J.o⟩
theorem Ui(fs:List Sty)(k:Int)(p:Nat)(ao:Option Addr)(n c:Nat)(w:World)(h:StyS qU w ao n c fs)(hp:w.cell? ⟨p,0,none⟩=some (.int .i64 k)) :
    Calls Tryz.prog 56 #[.slice ao n c,.func (.func 57) #[] #[.pointer (some ⟨p,0,none⟩)]] w λe w'=>e=.returned (.int .i64 (YK fs k))/\Below w.heap.size w w':=by
 have a4:n<=c:=by obtain⟨us,hr,_⟩:=h;exact hr.cap
 have a0:c<=9223372036854775807:=by obtain⟨us,hr,_⟩:=h;exact hr.room
 have G:=jA h.len;have H:=jA h;have HP:=jA hp;have a3:Hid (p<w.heap.size):=World.block_lt_of_cell? w _ hp;clear h hp;go_in;go_wp2_with fail;go_loopw [8] (λi wr=>∃j:Nat,j<=n/\i=.int .i64 (j:Int)/\Below w.heap.size w wr/\Hid (∀ (t:Nat) g,t<j->fs[t]? = some g->Hg k g=false)) (λi _=>n-(intOf i).toNat)
 case atStart=>exact⟨0,Nat.zero_le _,rfl,Below.refl _ _,λt g ht=>absurd ht (by omega)⟩
 case round =>
  obtain⟨j,hj,rfl,B,HZ⟩:=hrel;have B:=jA B;by_cases a1:j<n
  . (have J:(j:Int)<(n:Int):=by omega);obtain⟨f,a,po,ko,pn,pc,kn,kc,V,i1,c0,c1,c2,SP,SK⟩:=(StyS.keep H.o qJ (qD _ B.o)).get j a1;have m:=jA (P5 f k po ko pn pc kn kc p wr ((B.o.cell (p:=⟨p,0,none⟩) a3.o).trans HP.o) SP);have V:=jA V;clear SP SK;rcases Bool.eq_false_or_eq_true (Hg k f) with hk|hk
    . rw[hk] at m;have hR:Hid (YK fs k=(j:Int)):=Kl V.o hk HZ.o;obtain⟨K,Z⟩:=jx1 (stg f.name);rw[Z.o] at c0 m;clear hk;go_wp2_with fail;refine m.o.mono ?_;rintro e w1 ⟨rfl,y⟩;replace y:Hid (Below w.heap.size w w1):=B.o.trans (y.mono B.o.size);clear m c0 c1 c2 i1;go_wp2_with fail;go_ret;exact⟨by rw[hR.o];rfl,y.o⟩
    . rw[hk] at m;have a2:Hid (∀ (t:Nat) g,t<j+1->fs[t]? = some g->Hg k g=false):=by
       intro t g ht e;by_cases h1:t=j
       . rw[h1,V.o] at e;injection e with e;rw[<- e];exact hk
       . exact HZ.o t g (by omega) e
      obtain⟨K,Z⟩:=jx1 (stg f.name);rw[Z.o] at c0 m;clear hk;go_wp2_with fail;refine m.o.mono ?_;rintro e w1 ⟨rfl,y⟩;replace y:Hid (Below w.heap.size w w1):=B.o.trans (y.mono B.o.size);clear m c0 c1 c2 i1;go_wp2_with fail;go_roundw;(case rel=>exact⟨j+1,by omega,by go_num,y.o,a2⟩);case measure=>simp[intOf];omega
  . (have J:¬ (j:Int)<(n:Int):=by omega);(have hR:Hid (YK fs k=-1):=Km λt g e=>HZ.o t g (by have:=(List.getElem?_eq_some_iff.1 e).1;have:=G.o;omega) e);go_wp2_with fail;go_ret;exact⟨by rw[hR.o];rfl,B.o⟩
theorem Hh(e:Elc)(s:ESl)(p:Int)(w:World)(h:ElcS qU w e s) :
    Calls Tryz.prog 25 #[eV e s,.int .i64 p] w λr w'=>r=.returned (.int .i64 (YK e.stys p))/\Below w.heap.size w w':=by
 show Calls Tryz.prog 25 #[.agg #[.string (stg e.title),.int .i64 e.dots,.int .i64 e.blank,.int .i64 e.marked,.slice s.po s.pn s.pc,.slice s.co s.cn s.cc,.slice s.so s.sn s.sc,.int .i64 e.scanners,.int .i64 e.batch,.bool e.rneg,.slice s.uo s.un s.uc,.slice s.dO s.dn s.dc,.int .i64 e.cell,.string (stg e.seed)],.int .i64 p] w _;obtain⟨V,e1,AV,m,hz⟩:=qG w 34 [.string (stg e.title),.int .i64 e.dots,.int .i64 e.blank,.int .i64 e.marked,.slice s.po s.pn s.pc,.slice s.co s.cn s.cc,.slice s.so s.sn s.sc,.int .i64 e.scanners,.int .i64 e.batch,.bool e.rneg,.slice s.uo s.un s.uc,.slice s.dO s.dn s.dc,.int .i64 e.cell,.string (stg e.seed)];obtain⟨U,e2,Z,y,H⟩:=qG V 3 [.int .i64 p];have G:=jA (Ui e.stys p V.heap.size s.so s.sn s.sc U ((h.below m).below y).stys (Z.cell 0));have y0:U.cell? ⟨w.heap.size,6,none⟩=some (.slice s.so s.sn s.sc):=(AV.kept y).cell 6;rw[hz] at G;obtain⟨K,hK⟩:=jx1 (stg e.title);obtain⟨N,hN⟩:∃K,Hid (stg e.seed=K):=⟨_,rfl⟩;rw[hK.o,hN.o] at e1;rw[hK.o,hN.o];have HB:Hid (Below w.heap.size w U):=m.trans (y.mono m.size);clear h AV Z m y H;go_in;go_wp2_with fail;refine G.o.mono ?_;rintro e w1 ⟨rfl,J⟩;replace J:Hid (Below w.heap.size w w1):=HB.o.trans (J.mono HB.o.size);clear G;go_wp2_with fail;go_ret;exact⟨rfl,J.o⟩
