/- -/
import Derived.Test.YtkefajjcpcoajaaGreatDoorPkA0
import Derived.Test.YtkefajjcpcoajaaGreatDoorRows
import Derived.OpenShut
import Derived.Lib.LaidTab
import Derived.Lib.LaidU8
import Derived.Test.YtkefajjcpcoajaaGreatDoorCards
import Derived.Test.YtkefajjcpcoajaaGreatDoorTie
import Derived.Lay
import Derived.ProofKit
import Derived.Deep.DeepHandedRow
import Derived.Test.YtkefajjcpcoajaaGreatDoorPkA12
import Derived.Test.YtkefajjcpcoajaaGreatDoorPkA34
import Derived.Test.YtkefajjcpcoajaaGreatDoorPkA42
import Derived.Test.YtkefajjcpcoajaaGreatDoorPkA47
import Derived.Test.YtkefajjcpcoajaaGreatDoorPkA48
set_option linter.all false
set_option maxRecDepth 100000
set_option maxHeartbeats 51200000
namespace Go.Proofs.YtkefajjcpcoajaaGreatDoor
open Go.RowKit Lx
namespace Lx
theorem VL{α β:Type}(f:α->List β)(k:Nat):∀ (l:List α),(∀x∈l,(f x).length<=k)->(l.flatMap f).length<=k*l.length
  | [],_=>Nat.zero_le _
  | x :: l,h=>by
   have h1:=VL f k l (λy hy=>h y (List.mem_cons_of_mem _ hy));have h2:=h x List.mem_cons_self;rw[List.flatMap_cons,List.length_append,List.length_cons,Nat.mul_add];omega
theorem CutIn.or{s:ke}(h:CutIn s){b:qK}(hb:b∈s.blks)(k:List UInt8):(qt b k).vals.length<=12:=by
 unfold qt j7;cases e:b.flds.find? λf=>decide (f.key=k) with
 | none=>exact Nat.zero_le _
 | some f=>exact h.vals b hb f (List.mem_of_find?_eq_some e)
theorem CutIn.small{s:ke}(h:CutIn s):yM s:=by
 have m:=h.blks;refine⟨by omega,λb m f G r _ v J _=>by have:=h.each b m f G v J;omega,?_,?_⟩
 . (have y:∀b∈qH qB s.blks,(qN b zy).length<=12:=λb m=>by rw[kJ];exact h.or (List.mem_filter.1 m).1 _);have H:=VL _ 12 _ y;have V:=jn qB s.blks;show((qH qB s.blks).flatMap _).length<=_;omega
 . (have y:∀b∈qH qI s.blks,((λb:qK=>(qt b qB).vals) b).length<=12:=λb m=>h.or (List.mem_filter.1 m).1 _);have H:=VL _ 12 _ y;have V:=jn qI s.blks;omega
theorem CutIn.shb{s:ke}(h:CutIn s):∀b∈s.blks,ShB b:=λb hb =>
 ⟨by have:=h.name b hb;omega,by have:=h.flds b hb;omega,λf hf=>⟨by have:=h.vals b hb f hf;omega,λv hv=>by have:=h.each b hb f hf v hv;omega⟩⟩
end Lx
theorem VM(t:List UInt8)(ao:Option Addr)(n c:Nat)(bs:List qK)(w:World)(h:BlkS qU w ao n c bs)(hT:Tabs w) :
    Calls Tryz.prog 3 #[.agg #[.string (stg t),.slice ao n c]] w λe w'=>e=.returned (.bool true)/\Below w.heap.size w w':=by
 have a9:=PU ⟨t,bs⟩;have f2:(Wo ⟨t,bs⟩).blks=J4 bs:=rfl;have f8:(Wo ⟨t,bs⟩).title=t.take 40:=rfl;obtain⟨s,hs⟩:=jx3 (Wo ⟨t,bs⟩);rw[hs] at a9 f2 f8;obtain⟨T,e3⟩:=jx3 (stg t);obtain⟨b0,b5⟩:∃T,Hid (stg s.title=T):=⟨_,rfl⟩;obtain⟨SB,e6⟩:∃S,Hid (s.blks=S):=⟨_,rfl⟩;obtain⟨V,e1,AV,BV,hz⟩:=qG w 24 [.string T,.slice ao n c];have h3:Hid (jC 11 #[.agg #[.string T,.slice ao n c]] V λe w'=>∃ (ro:Option Addr) (m d:Nat),e=.returned (.agg #[.string b0,.slice ro m d])/\BlkS (qS V.heap.size [9,63,55]) w' ro m d SB/\Below V.heap.size V w'):=by
  apply jA;have:=MR t ao n c bs V (h.keep qJ (qD _ BV));rw[e3,<- f8,<- f2,b5.o,e6.o] at this;exact this
 rw[e3];obtain⟨⟨en,ln⟩,e8⟩:∃x,(jM s).1=x:=⟨_,rfl⟩;obtain⟨er,h7⟩:∃e:Int,Hid (((en:Nat):Int)=e):=⟨_,rfl⟩;obtain⟨G,c8⟩:∃E,(jM s).2=E:=⟨_,rfl⟩;obtain⟨KT,e9⟩:∃K,Hid (stg G.title=K):=⟨_,rfl⟩;obtain⟨KS,d8⟩:∃K,Hid (stg G.seed=K):=⟨_,rfl⟩;have k5:Hid (∀W bo bn bc,Below w.heap.size w W->BlkS qU W bo bn bc SB->Calls Tryz.prog 12 #[.agg #[.string b0,.slice bo bn bc]] W λr w'=>∃y,r=.returned (.tuple #[eV G y,.agg #[.int .i64 er,.int .i64 ln]])/\ElcS qU w' G y/\Below W.heap.size W w'):=λW bo bn bc hb hv=>by
  rw[<- e6.o] at hv;have:=Qc s bo bn bc W hv a9.small (λb hb f hf=>by have:=a9.vals b hb f hf;omega) (hT.below hb);rw[e8,c8,b5.o] at this;rw[<- h7.o];exact this
 have l5:Hid (∀W bo bn bc,Below w.heap.size w W->BlkS qU W bo bn bc SB->Calls Tryz.prog 13 #[.agg #[.string b0,.slice bo bn bc]] W λr w'=>∃y,r=.returned (.tuple #[eV G y,.agg #[.int .i64 er,.int .i64 ln]])/\ElcS (geF W.heap.size) w' G y/\Below W.heap.size W w'):=λW bo bn bc hb hv=>by
  rw[<- e6.o] at hv;have:=Ur s bo bn bc W hv (by have:=a9.blks;omega) a9.shb (by have:=a9.title;omega);rw[e8,c8,b5.o] at this;rw[<- h7.o];exact this
 have e7:Hid (∀W y,ElcS qU W G y->ul G y):=λW y hh=>by
  rw[<- c8] at hh |-;exact gM hh
 have k4:Hid (∀W y sm,ElcS qU W G y->ElcS qU W G sm->Calls Tryz.prog 15 #[eV G y,eV G sm] W λr w'=>r=.returned (.bool true)/\Below W.heap.size W w'):=λW y sm h1 h2=>by
  refine(LQ G G y sm W h1 h2 (e7.o W y h1) (e7.o W sm h2)).mono ?_;rintro r w' ⟨b,rfl,hb,B⟩;rw[hb.2 rfl];exact⟨rfl,B⟩
 have k9:Hid (∀W,Below w.heap.size w W->Calls Tryz.prog 14 #[] W λe w'=>e=.returned (.bool true)/\Below W.heap.size W w'):=λW hb=>Cv W (hT.below hb)
 obtain⟨c0,c1⟩:=AV.c2;replace AV:=jA AV;replace BV:=jA BV;have t5:(ln == ln)=true:=beq_self_eq_true _;have t4:(er == er)=true:=beq_self_eq_true _;clear h hz hs a9 f2 f8 e3 e8 c8 e7 hT;go_in;go_wp2_with (first
   | (go_at_call 11;(with_reducible refine h3.o.mono ?_);rintro e w1 ⟨ro,m,d,rfl,BL,B1⟩;obtain⟨W,e2,hW,AW,g0,g1,g2,g3⟩:=zl (AV.o.kept B1) (.string b0) (.slice ro m d);have BW:Hid (Below w.heap.size w W):=(by show Below _ _ _;rw[hW.o];exact jX (BV.o.trans (B1.mono BV.o.size)) (Nat.le_refl _) _ _);have i3:Hid (BlkS qU W ro m d SB):=(by show BlkS _ _ _ _ _ _;rw[hW.o];exact(BL.keep (qE _ _) (vY (AV.o.kept B1) (by decide) _ _)).mono (λ_ _=>trivial));have k0:W.cell? ⟨w.heap.size,0,none⟩=some (.string b0):=AW.cell 0;have k1:W.cell? ⟨w.heap.size,1,none⟩=some (.slice ro m d):=AW.cell 1;have g7:=jA AW;clear BL B1 AW)
   | (go_at_call 12;(with_reducible refine(k5.o W ro m d BW.o i3.o).mono ?_);rintro r a4 ⟨y,he,h5,d9⟩;replace he:r=.returned (.tuple #[.agg #[.string KT,.int .i64 G.dots,.int .i64 G.blank,.int .i64 G.marked,.slice y.po y.pn y.pc,.slice y.co y.cn y.cc,.slice y.so y.sn y.sc,.int .i64 G.scanners,.int .i64 G.batch,.bool G.rneg,.slice y.uo y.un y.uc,.slice y.dO y.dn y.dc,.int .i64 G.cell,.string KS],.agg #[.int .i64 er,.int .i64 ln]]):=(by rw[<- e9.o,<- d8.o];exact he);subst he;obtain⟨i5,z5,f4,e4,k2⟩:=qG a4 34 [.string ⟨#[]⟩,.int .i64 0,.int .i64 0,.int .i64 0,.slice none 0 0,.slice none 0 0,.slice none 0 0,.int .i64 0,.int .i64 0,.bool false,.slice none 0 0,.slice none 0 0,.int .i64 0,.string ⟨#[]⟩];obtain⟨k6,w9,f6,f0,k3⟩:=qG i5 37 [.int .i64 0,.int .i64 0];obtain⟨a1,g4⟩:∃p,a4.heap.size=p:=⟨_,rfl⟩;obtain⟨a7,g9⟩:∃p,i5.heap.size=p:=⟨_,rfl⟩;have b8:a7≠a1:=(by omega);rw[g4] at f4;rw[g9] at f6;obtain⟨y7,w2,C0,s0,t2,x3,v6,s6,z3,w8,p3,n6,m3,b2,w7,x7,y5,B3,u3,B4,q2,z9,q7,r9,p7,p9,n9,o0,h0,i9,i4,u0,s7,y2,z0,s4,x6,q6,y1,y8,u4,r6,A3,A5,y4,v0,v2,u5,s2,z6,s8,m9,p6,o6,p4,m5,o2,o4,p5⟩:=kS (f4.kept f0) (.string KT) (.int .i64 G.dots) (.int .i64 G.blank) (.int .i64 G.marked) (.slice y.po y.pn y.pc) (.slice y.co y.cn y.cc) (.slice y.so y.sn y.sc) (.int .i64 G.scanners) (.int .i64 G.batch) (.bool G.rneg) (.slice y.uo y.un y.uc) (.slice y.dO y.dn y.dc) (.int .i64 G.cell) (.string KS);obtain⟨Ya,u8,d3,g6,l9,l3,s9,r3⟩:=zl (f6.other i9 b8) (.int .i64 er) (.int .i64 ln);have i6:b2.grownBy Ya (some a7):=(by rw[d3.o];exact qC (qM b2 a7 0 _) (qM _ a7 1 _));have d2:=h0.other i6 b8.symm;have d1:Below a4.heap.size a4 k6:=e4.trans (f0.mono e4.size);have b9:Below a4.heap.size a4 b2:=i4 _ _ d1 (by omega);have c7:Below a4.heap.size a4 Ya:=(by rw[d3.o];exact(b9.setCell (p:=⟨_,0,none⟩) (by show _<=a7;omega) _).setCell (p:=⟨_,1,none⟩) (by show _<=a7;omega) _);have a8:=d9.trans (c7.mono d9.size);have b7:=jA (BW.o.trans (a8.mono BW.o.size));have h6:Hid (ElcS qU Ya G y):=((h5).below c7);have j0:=jA d2;have g5:=jA g6;have m2:Hid (Below a4.heap.size a4 Ya):=c7;have l0:Ya.cell? ⟨w.heap.size,0,none⟩=some (.string b0):=(g7.o.kept a8).cell 0;have l1:Ya.cell? ⟨w.heap.size,1,none⟩=some (.slice ro m d):=(g7.o.kept a8).cell 1;have k7:Hid (BlkS qU Ya ro m d SB):=i3.o.keep qJ (qD _ a8);clear a8;clear k2 k3 f4 f6 d9 e4 f0 h0 i9 i4 g6 i6 d2 d1 b9 c7 b8 h5)
   | (go_at_call 13;(with_reducible refine(l5.o Ya ro m d b7.o k7.o).mono ?_);rintro r a3 ⟨sm,he,i8,f5⟩;replace he:r=.returned (.tuple #[.agg #[.string KT,.int .i64 G.dots,.int .i64 G.blank,.int .i64 G.marked,.slice sm.po sm.pn sm.pc,.slice sm.co sm.cn sm.cc,.slice sm.so sm.sn sm.sc,.int .i64 G.scanners,.int .i64 G.batch,.bool G.rneg,.slice sm.uo sm.un sm.uc,.slice sm.dO sm.dn sm.dc,.int .i64 G.cell,.string KS],.agg #[.int .i64 er,.int .i64 ln]]):=(by rw[<- e9.o,<- d8.o];exact he);subst he;obtain⟨i7,w6,e5,f7,j3⟩:=qG a3 34 [.string ⟨#[]⟩,.int .i64 0,.int .i64 0,.int .i64 0,.slice none 0 0,.slice none 0 0,.slice none 0 0,.int .i64 0,.int .i64 0,.bool false,.slice none 0 0,.slice none 0 0,.int .i64 0,.string ⟨#[]⟩];obtain⟨l8,B0,e0,f1,j5⟩:=qG i7 37 [.int .i64 0,.int .i64 0];obtain⟨a2,h9⟩:∃p,a3.heap.size=p:=⟨_,rfl⟩;obtain⟨a5,i0⟩:∃p,i7.heap.size=p:=⟨_,rfl⟩;have b4:a5≠a2:=(by omega);rw[h9] at e5;rw[i0] at e0;obtain⟨q4,y6,x5,y3,A9,A0,q8,A7,y9,A4,p1,n4,m1,b1,x1,x8,C1,u6,B5,w3,x4,t3,A6,x0,o3,m7,q0,o5,a0,h8,g8,q5,v4,v8,x2,B2,u1,z1,w5,s3,t1,v3,r4,u7,C2,u2,t0,t6,A1,z2,A2,n3,p2,m6,m8,m4,p8,n7,q1⟩:=kS (e5.kept f1) (.string KT) (.int .i64 G.dots) (.int .i64 G.blank) (.int .i64 G.marked) (.slice sm.po sm.pn sm.pc) (.slice sm.co sm.cn sm.cc) (.slice sm.so sm.sn sm.sc) (.int .i64 G.scanners) (.int .i64 G.batch) (.bool G.rneg) (.slice sm.uo sm.un sm.uc) (.slice sm.dO sm.dn sm.dc) (.int .i64 G.cell) (.string KS);obtain⟨Yb,u9,d5,c6,j4,l6,q3,y0⟩:=zl (e0.other h8 b4) (.int .i64 er) (.int .i64 ln);have f9:b1.grownBy Yb (some a5):=(by rw[d5.o];exact qC (qM b1 a5 0 _) (qM _ a5 1 _));have d6:=a0.other f9 b4.symm;have d4:Below a3.heap.size a3 l8:=f7.trans (f1.mono f7.size);have b6:Below a3.heap.size a3 b1:=g8 _ _ d4 (by omega);have d0:Below a3.heap.size a3 Yb:=(by rw[d5.o];exact(b6.setCell (p:=⟨_,0,none⟩) (by show _<=a5;omega) _).setCell (p:=⟨_,1,none⟩) (by show _<=a5;omega) _);have a6:=f5.trans (d0.mono f5.size);have b3:=jA (b7.o.trans (a6.mono b7.o.size));have i2:Hid (ElcS qU Yb G sm):=(((i8).mono (λ_ _=>trivial)).below d0);have H:=jA d6;have d7:=jA c6;have n0:Hid (Below a3.heap.size a3 Yb):=d0;have a0:=jA (j0.o.kept a6);have c6:=jA (g5.o.kept a6);have f3:Hid (ElcS qU Yb G y):=h6.o.below a6;clear a6;clear j3 j5 e5 e0 f5 f7 f1 h8 g8 f9 d6 d4 b6 d0 b4 i8;have j2:=jA (k9.o Yb b3.o))
   | (go_at_call 14;(with_reducible refine j2.o.mono ?_);rintro r J ⟨rfl,Z⟩;have l9:J.cell? ⟨a7,0,none⟩=some (.int .i64 er):=(c6.kept Z).cell 0;have l3:J.cell? ⟨a7,1,none⟩=some (.int .i64 ln):=(c6.kept Z).cell 1;have j4:J.cell? ⟨a5,0,none⟩=some (.int .i64 er):=(d7.o.kept Z).cell 0;have l6:J.cell? ⟨a5,1,none⟩=some (.int .i64 ln):=(d7.o.kept Z).cell 1;have z4:J.cell? ⟨a1,0,none⟩=some (.string KT):=(a0.kept Z).cell 0;have s5:J.cell? ⟨a1,1,none⟩=some (.int .i64 G.dots):=(a0.kept Z).cell 1;have A8:J.cell? ⟨a1,2,none⟩=some (.int .i64 G.blank):=(a0.kept Z).cell 2;have v5:J.cell? ⟨a1,3,none⟩=some (.int .i64 G.marked):=(a0.kept Z).cell 3;have s1:J.cell? ⟨a1,4,none⟩=some (.slice y.po y.pn y.pc):=(a0.kept Z).cell 4;have t7:J.cell? ⟨a1,5,none⟩=some (.slice y.co y.cn y.cc):=(a0.kept Z).cell 5;have v7:J.cell? ⟨a1,6,none⟩=some (.slice y.so y.sn y.sc):=(a0.kept Z).cell 6;have t9:J.cell? ⟨a1,7,none⟩=some (.int .i64 G.scanners):=(a0.kept Z).cell 7;have w4:J.cell? ⟨a1,8,none⟩=some (.int .i64 G.batch):=(a0.kept Z).cell 8;have B8:J.cell? ⟨a1,9,none⟩=some (.bool G.rneg):=(a0.kept Z).cell 9;have o1:J.cell? ⟨a1,10,none⟩=some (.slice y.uo y.un y.uc):=(a0.kept Z).cell 10;have p0:J.cell? ⟨a1,11,none⟩=some (.slice y.dO y.dn y.dc):=(a0.kept Z).cell 11;have m0:J.cell? ⟨a1,12,none⟩=some (.int .i64 G.cell):=(a0.kept Z).cell 12;have n5:J.cell? ⟨a1,13,none⟩=some (.string KS):=(a0.kept Z).cell 13;have v1:J.cell? ⟨a2,0,none⟩=some (.string KT):=(H.o.kept Z).cell 0;have B7:J.cell? ⟨a2,1,none⟩=some (.int .i64 G.dots):=(H.o.kept Z).cell 1;have B6:J.cell? ⟨a2,2,none⟩=some (.int .i64 G.blank):=(H.o.kept Z).cell 2;have r5:J.cell? ⟨a2,3,none⟩=some (.int .i64 G.marked):=(H.o.kept Z).cell 3;have r7:J.cell? ⟨a2,4,none⟩=some (.slice sm.po sm.pn sm.pc):=(H.o.kept Z).cell 4;have r2:J.cell? ⟨a2,5,none⟩=some (.slice sm.co sm.cn sm.cc):=(H.o.kept Z).cell 5;have x9:J.cell? ⟨a2,6,none⟩=some (.slice sm.so sm.sn sm.sc):=(H.o.kept Z).cell 6;have t8:J.cell? ⟨a2,7,none⟩=some (.int .i64 G.scanners):=(H.o.kept Z).cell 7;have r8:J.cell? ⟨a2,8,none⟩=some (.int .i64 G.batch):=(H.o.kept Z).cell 8;have q9:J.cell? ⟨a2,9,none⟩=some (.bool G.rneg):=(H.o.kept Z).cell 9;have n8:J.cell? ⟨a2,10,none⟩=some (.slice sm.uo sm.un sm.uc):=(H.o.kept Z).cell 10;have o9:J.cell? ⟨a2,11,none⟩=some (.slice sm.dO sm.dn sm.dc):=(H.o.kept Z).cell 11;have o7:J.cell? ⟨a2,12,none⟩=some (.int .i64 G.cell):=(H.o.kept Z).cell 12;have o8:J.cell? ⟨a2,13,none⟩=some (.string KS):=(H.o.kept Z).cell 13;have h4:=jA (b3.o.trans (Z.mono b3.o.size));have l4:Hid (jC 15 #[.agg #[.string KT,.int .i64 G.dots,.int .i64 G.blank,.int .i64 G.marked,.slice y.po y.pn y.pc,.slice y.co y.cn y.cc,.slice y.so y.sn y.sc,.int .i64 G.scanners,.int .i64 G.batch,.bool G.rneg,.slice y.uo y.un y.uc,.slice y.dO y.dn y.dc,.int .i64 G.cell,.string KS],.agg #[.string KT,.int .i64 G.dots,.int .i64 G.blank,.int .i64 G.marked,.slice sm.po sm.pn sm.pc,.slice sm.co sm.cn sm.cc,.slice sm.so sm.sn sm.sc,.int .i64 G.scanners,.int .i64 G.batch,.bool G.rneg,.slice sm.uo sm.un sm.uc,.slice sm.dO sm.dn sm.dc,.int .i64 G.cell,.string KS]] J λr w'=>r=.returned (.bool true)/\Below J.heap.size J w'):=(by have:=k4.o J y sm (f3.o.below Z) (i2.o.below Z);rw[<- e9.o,<- d8.o];exact this);clear a0 c6 Z)
   | (go_at_call 15;(with_reducible refine l4.o.mono ?_);rintro r l7 ⟨rfl,j1⟩;have i1:Hid (Below w.heap.size w l7):=h4.o.trans (j1.mono h4.o.size))
   | fail)
 go_ret;exact⟨rfl,i1.o⟩
namespace Lx
section
variable {P : Program} {w : World} {base : Nat} {sp : Nat -> Bool} {held : Bool} {fuel : Nat} {t : TypeId} {cs : List Value} {x : DataW Unit × List MemPlace}
def Y9:DataW Unit->Value
  | .lit (.string l)=>.string ⟨l.toArray⟩
  | .lit (.int k n)=>.int k n
  | .lit (.bool b)=>.bool b
  | _=>.bool false
def ME:DataW Unit->List Value
  | .agg ds=>ds.map Y9
  | _=>[]
def BN(P:Program)(t:TypeId):Prop:=P.underlying t=some .string\/P.underlying t=some .bool\/∃k,P.underlying t=some (.int k)
theorem MF(ht:BN P t)(h:DataW.trod (λ_=>()) P w base sp held fuel t cs=some x):cs=[Y9 x.1]:=by
 rcases ht with ht|ht|⟨k,ht⟩
 . obtain⟨s,rfl,rfl,_⟩:=DataW.trod_string ht h;cases s;simp[Y9]
 . obtain⟨b,rfl,rfl⟩:=DataW.trod_bool ht h;rfl
 . obtain⟨n,rfl,rfl,_⟩:=DataW.trod_int ht h;rfl
theorem Pc{fs:Array Field}(ht:P.underlying t=some (.struct fs))(hf:∀ (i:Nat) (f:Field),fs[i]? = some f->BN P f.type/\f.offset=i/\P.cellsOf f.type=1)(hct:P.cellsOf t=fs.size)
    (h:DataW.trod (λ_=>()) P w base sp held fuel t cs=some x):cs=ME x.1/\cs.length=fs.size:=by
 obtain⟨xs,n,_,Z,hl,a0,m⟩:=DataW.trod_struct ht h;refine⟨?_,by omega⟩;rw[Z];show cs=(xs.map (·.1)).map Y9;apply List.ext_getElem?;intro i;by_cases hi:i<fs.size
 . obtain⟨b,G⟩:∃b,xs[i]? = some b:=⟨_,List.getElem?_eq_getElem (by omega)⟩;obtain⟨H,h2,h3⟩:=hf i fs[i] (Array.getElem?_eq_getElem hi);have y:=m i fs[i] (Array.getElem?_eq_getElem hi);rw[h2,h3,G] at y;have J:=congrArg (·[0]?) (MF H y);(have V:cs[i]? = some (Y9 b.1):=by simpa[List.getElem?_take,List.getElem?_drop] using J);rw[V,List.getElem?_map,List.getElem?_map,G];rfl
 . rw[List.getElem?_eq_none (by omega),List.getElem?_eq_none (by rw[List.length_map,List.length_map];omega)]
theorem Ky(m:Nat):∀ (xs:List (DataW Unit×List MemPlace)) (cs:List Value),cs.length=xs.length*m->(∀ (i:Nat) b,xs[i]? = some b->(cs.drop (i*m)).take m=ME b.1)->cs=(xs.map (·.1)).flatMap ME
  | [],cs,hl,_=>by
   have:cs=[]:=List.length_eq_zero_iff.1 (by simpa using hl);rw[this];rfl
  | b :: xs,cs,hl,h=>by
   have h0:=h 0 b rfl;rw[Nat.zero_mul,List.drop_zero] at h0;have h1:=Ky m xs (cs.drop m) (by rw[List.length_drop,hl,List.length_cons,Nat.succ_mul];omega) (λi c hc=>by
    have:=h (i+1) c (by simpa using hc);rw[List.drop_drop];rw[Nat.succ_mul,Nat.add_comm] at this;exact this)
   rw[List.map_cons,List.flatMap_cons,<- h0,<- h1,List.take_append_drop]
theorem Yc{n:Nat}{e:TypeId}{fs:Array Field}(ht:P.underlying t=some (.array n e))(he:P.underlying e=some (.struct fs))(hf:∀ (i:Nat) (f:Field),fs[i]? = some f->BN P f.type/\f.offset=i/\P.cellsOf f.type=1)
    (hce:P.cellsOf e=fs.size) (hct:P.cellsOf t=n*fs.size) {ds:List (DataW Unit)} {p:List MemPlace} (h:DataW.trod (λ_=>()) P w base sp held fuel t cs=some (.agg ds,p)):cs=ds.flatMap ME:=by
 obtain⟨xs,m,_,V,hl,G,y⟩:=DataW.trod_array ht h;have Z:ds=xs.map (·.1):=by
  injection V with h1 h2;injection h1
 rw[Z];refine Ky fs.size xs cs (by rw[hl,hct,G]) (λi b H=>?_);have hi:i<n:=by rw[<- G];exact(List.getElem?_eq_some_iff.1 H).1
 have J:=y i hi;rw[hce,H] at J;exact(Pc he hf hce J).1
theorem MH{ms:Array (String×TypeId)}(ht:P.underlying t=some (.interface ms))(h:DataW.trod (λ_=>()) P w base sp held fuel t cs=some x)(hx:∃n d,x.1=.iface n d):∃u v,cs=[.iface u v]:=by
 cases fuel with
 | zero=>simp[DataW.trod] at h
 | succ n =>
  unfold DataW.trod at h;rw[ht] at h;obtain⟨a,d,hx⟩:=hx;split at h<;>first|(cases h;cases hx;done)|simp_all
end
theorem Kz{P:Program}{w:World}{n:String}{g:Nat}{cs:Array Value}(hg:P.globalNamed n=some g)(h:w.var? P n=some cs):∃t fr,w.heap[g]? = some (.cells cs t fr):=by
 unfold World.var? at h;rw[hg] at h;simp only[Option.bind_some] at h;cases e:w.heap[g]? with
 | none=>rw[e] at h;cases h
 | some o =>
  rw[e] at h;cases o with
  | cells c t fr =>
   injection h with h;subst h;exact⟨t,fr,rfl⟩
  | _=>cases h
end Lx
end Go.Proofs.YtkefajjcpcoajaaGreatDoor
namespace Go.Proofs.YtkefajjcpcoajaaGreatDoor.schemaCompile
open Go.ChangeShapes Go.WideShapes Go.ChangeAt Go.RowKit
open Go.ChangeMaps (open_string shut_string)
open Lx
theorem own:ownKnob Tryz.prog.godebug=none:=by kernel_rfl
theorem MI:laidOutB Tryz.prog=true:=by kernel_rfl
theorem Lj : Tryz.prog.globalNamed "internal/strconv.uint64pow10" = some 6 := by kernel_rfl
theorem LU:(Tryz.prog.globals[6]?).map (·.type)=some 284 := by kernel_rfl
theorem LV : Tryz.prog.globalNamed "election/schema.blockRules" = some 0 := by kernel_rfl
theorem LW:(Tryz.prog.globals[0]?).map (·.type)=some 113 := by kernel_rfl
theorem L7 : Tryz.prog.globalNamed "election/schema.fieldRules" = some 1 := by kernel_rfl
theorem L9:(Tryz.prog.globals[1]?).map (·.type)=some 218 := by kernel_rfl
theorem Lk : Tryz.prog.globalNamed "strconv.ErrSyntax" = some 4 := by kernel_rfl
theorem La:(Tryz.prog.globals[4]?).map (·.type)=some 200 := by kernel_rfl
theorem BO:Tryz.prog.cellsOf 284 = 20:=by kernel_rfl
theorem Hw:Tryz.prog.cellsOf 192 = 1:=by kernel_rfl
theorem Hx:∃fs:Array Field,Tryz.prog.underlying 112 = some (.struct fs)/\fs.size=3/\∀ (i:Nat) (f:Field),fs[i]? = some f->BN Tryz.prog f.type/\f.offset=i/\Tryz.prog.cellsOf f.type=1:=by
 refine⟨_,Tryz.underlying112,rfl,λi f m=>?_⟩;rcases i with _|_|_|i
 . obtain rfl:=Option.some.inj m;exact⟨Or.inl (by kernel_rfl),rfl,by kernel_rfl⟩
 . obtain rfl:=Option.some.inj m;exact⟨Or.inr (Or.inr ⟨.i64,by kernel_rfl⟩),rfl,by kernel_rfl⟩
 . obtain rfl:=Option.some.inj m;exact⟨Or.inr (Or.inl (by kernel_rfl)),rfl,by kernel_rfl⟩
 . rw[Array.getElem?_eq_none (by simp)] at m;cases m
theorem Hy:∃fs:Array Field,Tryz.prog.underlying 212 = some (.struct fs)/\fs.size=5/\∀ (i:Nat) (f:Field),fs[i]? = some f->BN Tryz.prog f.type/\f.offset=i/\Tryz.prog.cellsOf f.type=1:=by
 refine⟨_,Tryz.underlying212,rfl,λi f m=>?_⟩;rcases i with _|_|_|_|_|i
 . obtain rfl:=Option.some.inj m;exact⟨Or.inl (by kernel_rfl),rfl,by kernel_rfl⟩
 . obtain rfl:=Option.some.inj m;exact⟨Or.inl (by kernel_rfl),rfl,by kernel_rfl⟩
 rotate_left
 rotate_left
 rotate_left
 . rw[Array.getElem?_eq_none (by simp)] at m;cases m
 all_goals
   obtain rfl:=Option.some.inj m;exact⟨Or.inr (Or.inr ⟨.i64,by kernel_rfl⟩),rfl,by kernel_rfl⟩
theorem Lb{W:World}(h:laidMetH Tryz.prog Rows.schemaCompileRow.laid W):Tabs W:=by
 have hm:laidMet Tryz.prog Rows.schemaCompileRow.laid W:=h;refine⟨?_,?_,?_,?_⟩
 . obtain ⟨g', t', V, H, p, G, y, m, J⟩ := Lib.laidMet.reads hm (n := "internal/strconv.uint64pow10") (d := Rows.laid_internal_strconv_uint64pow10) (by simp [Rows.schemaCompileRow])
   obtain rfl:=Option.some.inj (Lj.symm.trans G);obtain rfl:=Option.some.inj (LU.symm.trans y);(have e:(Rows.laid_internal_strconv_uint64pow10:DataW Unit)=Lib.tabData .u64 Lib.pow10Tab:=by kernel_rfl);rw[e] at J;unfold Q.Tab Lib.TabIs;rw[m,<- Lib.cells_of_tab Tryz.underlying284 Tryz.underlying192 Hw BO J]
 . obtain ⟨g', t', V, H, p, G, y, m, J⟩ := Lib.laidMet.reads hm (n := "strconv.ErrSyntax") (d := Rows.laid_strconv_ErrSyntax) (by simp [Rows.schemaCompileRow])
   obtain rfl:=Option.some.inj (Lk.symm.trans G);obtain rfl:=Option.some.inj (La.symm.trans y);obtain⟨u,v,e⟩:=MH Tryz.underlying200 J ⟨_,_,rfl⟩;refine⟨u,v,?_⟩;rw[m];exact congrArg some (Array.toList_inj.1 e)
 . obtain ⟨g', t', V, H, p, G, y, m, J⟩ := Lib.laidMet.reads hm (n := "election/schema.blockRules") (d := Rows.laid_election_schema_blockRules) (by simp [Rows.schemaCompileRow])
   obtain rfl:=Option.some.inj (LV.symm.trans G);obtain rfl:=Option.some.inj (LW.symm.trans y);obtain⟨fs,h1,Z,h3⟩:=Hx;have e:=Yc Tryz.underlying113 h1 h3 (by rw[Z];kernel_rfl) (by rw[Z];kernel_rfl) J;obtain⟨t,fr,hb⟩:=Kz LV m;refine⟨t,fr,?_⟩;rw[hb];have e2:V=QP.toArray:=by
    apply Array.toList_inj.1;rw[e]
    kernel_rfl
   rw[e2]
 . obtain ⟨g', t', V, H, p, G, y, m, J⟩ := Lib.laidMet.reads hm (n := "election/schema.fieldRules") (d := Rows.laid_election_schema_fieldRules) (by simp [Rows.schemaCompileRow])
   obtain rfl:=Option.some.inj (L7.symm.trans G);obtain rfl:=Option.some.inj (L9.symm.trans y);obtain⟨fs,h1,Z,h3⟩:=Hy;have e:=Yc Tryz.underlying218 h1 h3 (by rw[Z];kernel_rfl) (by rw[Z];kernel_rfl) J;obtain⟨t,fr,hb⟩:=Kz L7 m;refine⟨t,fr,?_⟩;rw[hb];have e2:V=gC.toArray:=by
    apply Array.toList_inj.1;rw[e]
    kernel_rfl
   rw[e2]
def Us : List String := ["math/bits.deBruijn32tab", "math/bits.deBruijn64tab", "internal/strconv.uint64pow10", "strconv.ErrRange", "strconv.ErrSyntax", "election/schema.blockRules", "election/schema.fieldRules"]
theorem BP(H:Type)(enc:TypeId×Value->H)(W:World)(base:Nat)(args:Array Value)(ds gs:List (DataW H))(before:List MemPlace)
    (hval:∀ (j:Nat) t v,Tryz.f3.params[j]? = some t->args[j]? = some v->Value.okWide Tryz.prog W .any base t v)
    (hW:DataW.Whole enc Tryz.prog Tryz.f3.params.toList Rows.schemaCompileSpec.vars false W args.toList ds gs before) (hL:laidMetH Tryz.prog Rows.schemaCompileRow.laid W) :
    Calls Tryz.prog 3 args W λe W'=>∃v,e=.returned v/\Rows.schemaCompileSpec.post enc Tryz.prog Tryz.f3 false true false false W args v W':=by
 have m:=hW;obtain⟨p,q,y,hV,rfl,_,_⟩:=hW;have Z:DataW.TrodAll enc Tryz.prog W 0 (λ_=>true) true Tryz.f3.params.toList args.toList ds p:=y;rw[Tryz.params3] at Z hval;obtain⟨v0,a4,d0,a3,p0,q0,a2,rfl,rfl,h0,r0⟩:=trodAll_cons Z;obtain⟨rfl,rfl,rfl⟩:=trodAll_nil r0;obtain rfl:args=#[v0]:=by cases args;simp_all
 obtain⟨rfl,rfl⟩:=trodVars_none hV;clear y Z r0;have k0:=h0;simp only[List.append_nil] at m;have a1:∀x∈p0,x.block<W.heap.size:=λx J=>by simpa using m.lt x (by simpa using J)
 have G:=Lb hL;obtain⟨t0,a0,l0,c0,V,rfl,L0⟩:=Gy (hval 0 24 v0 rfl rfl) h0;refine(VM t0 a0 l0 c0 V W L0 G).mono λe W' ⟨he,hb⟩=>?_
 subst he;refine⟨_,rfl,_,_,_,_,_,[],m,trodAll_cons_mk (shut_bool Tryz.underlying4 _) trodAll_mk0,(trodAll_cons_mk (Below.trod MI (by kernel_rfl) (of_decide_eq_true (by kernel_rfl)) k0 hb (λx J=>a1 x (by simp[J]))) trodAll_mk0),rfl,hb.frame _,λh=>by cases h⟩
noncomputable def Qi (os:Os):World:=(World.holding Tryz.prog os ⟨#[],#[],[]⟩).layVars Tryz.prog (Rows.schemaCompileRow.laid.filter λx=>Us.contains x.1)
theorem BT(os:Os):laidMet Tryz.prog Rows.schemaCompileRow.laid ((Qi os).forCall (λ_ _=>0) ⟨#[],#[.agg #[.string .empty,.slice none 0 0]],[]⟩).memory :=
 by
 refine laidMet_layVars (w0:=World.holding Tryz.prog os ⟨#[],#[],[]⟩) Us [] rfl (by kernel_rfl) (by kernel_rfl) ?_;have e:(Rows.schemaCompileRow.laid.filter λx => !Us.contains x.1)=[]:=by kernel_rfl
 rw[e];exact LaidIn.none
theorem reads(os:Os){H:Type}(enc:TypeId×Value->H):∃places,DataW.whole enc Tryz.prog ((Qi os).forCall (λ_ _=>0) ⟨#[],#[.agg #[.string .empty,.slice none 0 0]],[]⟩).memory Tryz.f3.params.toList Rows.schemaCompileSpec.vars false (#[.agg #[.string .empty,.slice none 0 0]]:Array Value).toList 8=some ([.agg [.lit (.string []),.nil]],[],places) :=
 ⟨[],by kernel_rfl⟩
theorem Pd(os:Os)(started:os.Started)(H:Type)(enc:TypeId×Value->H)(F:Stop.Interp) :
    ReturnsInHanded {} Tryz.checked os 3 .any ((OpenSpec.ofChange Rows.schemaCompileSpec).preRow enc Tryz.prog Tryz.f3 Rows.schemaCompileRow.domain false Rows.schemaCompileRow.laid) (((OpenSpec.ofChange Rows.schemaCompileSpec).at F).post enc Tryz.prog Tryz.f3 false true false false):=by
 obtain⟨J,Z⟩:=reads os enc;refine returnsInHanded_of_row (C:=Tryz.checked) (s:=OpenSpec.ofChange Rows.schemaCompileSpec) own started (by kernel_rfl) Tryz.func3
   (witness_row_at (enc:=enc) (C:=Tryz.checked) false (Qi os) #[.agg #[.string .empty,.slice none 0 0]] rfl (by kernel_rfl) (by kernel_rfl) (by kernel_rfl)
     (OpenSpec.preRow_of_cond 8 Z (by kernel_rfl) (λk hk=>by cases hk) (by kernel_rfl) (BT os))) ?_
 intro W base G ds gs m y V _ _ _ hL _ _;exact BP H enc W base G ds gs m y V hL
end Go.Proofs.YtkefajjcpcoajaaGreatDoor.schemaCompile
namespace Go.Proofs.YtkefajjcpcoajaaGreatDoor.schemaCompile
open Go.ChangeShapes Go.WideShapes Go.ChangeAt Go.RowKit
open Go.ChangeMaps (open_string shut_string)
theorem Pe:joinedFacts Tryz.pinned.checked.prog 3 Tryz.f3 (OpenSpec.ofChange Rows.schemaCompileSpec).bare Rows.schemaCompileRow=true:=by kernel_rfl
end Go.Proofs.YtkefajjcpcoajaaGreatDoor.schemaCompile
