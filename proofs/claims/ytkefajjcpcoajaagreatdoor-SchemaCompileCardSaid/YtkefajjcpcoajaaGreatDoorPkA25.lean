/- -/
import Derived.Test.YtkefajjcpcoajaaGreatDoorPkA0
import Derived.Test.YtkefajjcpcoajaaGreatDoorPkA6
import Derived.Test.YtkefajjcpcoajaaGreatDoorPkA20
import Derived.Test.YtkefajjcpcoajaaGreatDoorPkA24
set_option linter.all false
set_option maxRecDepth 100000
set_option maxHeartbeats 25600000
namespace Go.Proofs.YtkefajjcpcoajaaGreatDoor
open Go.RowKit Lx
variable {w Z:World}{g:Nat}{T:TypeId}{cs us vs:List Value}
theorem qX{b i:Nat}{v:Value}(h:w.cell? ⟨b,i,none⟩=some v)(hb:b≠g)(hZ:w.grownBy Z (some g)):Z.cell? ⟨b,i,none⟩=some v :=
 (World.cell?_of_block (hZ.block b (World.block_lt_of_cell? w _ h) (λe=>hb (by injection e)))).trans h
theorem zD{lo:Nat}{Es:List TypeId}(h:Arr w g T cs)(hT:T∉Es)(hZ:w.grownBy Z (some g)):Keeps (qS lo Es) w Z:=by
 refine jL hZ (λk ⟨_,E',hE',cs',fz,hk⟩ e=>?_);injection e with e;subst e;rw[show w.heap[g]? = _ from h] at hk;injection hk with hk;injection hk with _ h2 _;exact hT (h2 ▸ hE')
structure Mb (b:qK):Prop where
 seats:qV b zO=[]\/zg (qV b zO)=true
 ranks:qV b kp=[]\/zg (qV b kp)=true
 digits:qV b qY=[]\/zg (qV b qY)=true
theorem Zu(b:qK)(fo:Option Addr)(fn fc:Nat)(w:World)(h:FldS qU w fo fn fc b.flds)(hv:Mb b)(hT:Tabs w)(h1:(qt b zm).vals.length<=4000000) :
    Calls Tryz.prog 66 #[.agg #[.string (stg b.kind),.string (stg b.name),.slice fo fn fc,.int .i64 b.line]] w λe w'=>∃xo xn xc,e=.returned (.agg #[.string (stg b.name),.slice xo xn xc,.int .i64 (j6 b).method,.int .i64 (j6 b).seats,.int .i64 (j6 b).ranks,.int .i64 (j6 b).digits,.int .i64 (j6 b).ties,.int .i64 (j6 b).over,.int .i64 (j6 b).skip]) /\
      StrL (qS w.heap.size [9]) w' xo xn xc (j6 b).cands/\Below w.heap.size w w':=by
 obtain⟨V,e1,AV,BV,hz⟩:=qG w 55 [.string (stg b.kind),.string (stg b.name),.slice fo fn fc,.int .i64 b.line];obtain⟨U,e2,AU,BU,f9⟩:=qG V 76 [.string ⟨#[]⟩,.slice none 0 0,.int .i64 0,.int .i64 0,.int .i64 0,.int .i64 0,.int .i64 0,.int .i64 0,.int .i64 0];have hm:(j6 b).cands=(qt b zm).vals:=kJ b zm;rw[hm];have HL:=jA ((h.below BV).below BU);have HT:=jA ((hT.below BV).below BU);have H0:=λw1 (hb:Below U.heap.size U w1)=>vR b zm fo fn fc w1 (HL.o.below hb)
 have H1:=λvo J vc w1 (hv:StrL qU w1 vo J vc (qt b zm).vals)=>Zt _ vo J vc w1 hv (by rw[<- StrL.len hv];omega)
 have H2:=λw1 (hb:Below U.heap.size U w1)=>wU b zG fo fn fc w1 (HL.o.below hb)
 have H3:=λw1 (hb:Below U.heap.size U w1)=>kH b zO fo fn fc w1 (HL.o.below hb) hv.seats (HT.o.below hb)
 have H4:=λw1 (hb:Below U.heap.size U w1)=>kH b kp fo fn fc w1 (HL.o.below hb) hv.ranks (HT.o.below hb)
 have H5:=λw1 (hb:Below U.heap.size U w1)=>kH b qY fo fn fc w1 (HL.o.below hb) hv.digits (HT.o.below hb)
 have H6:=λw1 (hb:Below U.heap.size U w1)=>wU b xO fo fn fc w1 (HL.o.below hb)
 have H7:=λw1 (hb:Below U.heap.size U w1)=>wU b zj fo fn fc w1 (HL.o.below hb)
 have H8:=λw1 (hb:Below U.heap.size U w1)=>wU b kX fo fn fc w1 (HL.o.below hb)
 obtain⟨F1,c6⟩:∃F,qt b zm=F:=⟨_,rfl⟩;rw[c6] at H0 H1 |-;obtain⟨N2,b7⟩:∃N,Hid (((kL b zG:Nat):Int)=N):=⟨_,rfl⟩;rw[b7.o] at H2;obtain⟨N3,d2⟩:∃N,Hid (((qR b zO:Nat):Int)=N):=⟨_,rfl⟩;rw[d2.o] at H3;obtain⟨N4,d0⟩:∃N,Hid (((qR b kp:Nat):Int)=N):=⟨_,rfl⟩;rw[d0.o] at H4;obtain⟨N5,b0⟩:∃N,Hid (((qR b qY:Nat):Int)=N):=⟨_,rfl⟩;rw[b0.o] at H5;obtain⟨N6,b1⟩:∃N,Hid (((kL b xO:Nat):Int)=N):=⟨_,rfl⟩;rw[b1.o] at H6;obtain⟨N7,f6⟩:∃N,Hid (((kL b zj:Nat):Int)=N):=⟨_,rfl⟩;rw[f6.o] at H7;obtain⟨N8,d5⟩:∃N,Hid (((kL b kX:Nat):Int)=N):=⟨_,rfl⟩;rw[d5.o] at H8;rw[show(((j6 b).method:Int))=N2 from b7.o];rw[show(((j6 b).seats:Int))=N3 from d2.o];rw[show(((j6 b).ranks:Int))=N4 from d0.o];rw[show(((j6 b).digits:Int))=N5 from b0.o];rw[show(((j6 b).ties:Int))=N6 from b1.o];rw[show(((j6 b).over:Int))=N7 from f6.o];rw[show(((j6 b).skip:Int))=N8 from d5.o];obtain⟨bb,a1⟩:∃b,w.heap.size=b:=⟨_,rfl⟩;rw[a1] at AV hz;rw[hz] at AU;have A0:=jA (AV.kept BU);have A1:=jA AU;have HB:Hid (Below w.heap.size w U):=BV.trans (BU.mono BV.size);have g2:Hid (w.heap.size<=bb+1):=by show _<=_;omega
 have a0:Hid (bb≠bb+1):=by show _≠_;omega
 have g1:Hid (w.heap.size<=U.heap.size):=HB.o.size;obtain⟨KD,y⟩:∃K,Hid (stg b.kind=K):=⟨_,rfl⟩;obtain⟨H,m⟩:∃K,Hid (stg b.name=K):=⟨_,rfl⟩;obtain⟨LN,G⟩:∃K,Hid (b.line=K):=⟨_,rfl⟩;obtain⟨e6,a5⟩:∃K,Hid (stg F1.key=K):=⟨_,rfl⟩;rw[y.o,m.o,G.o] at e1 A0;rw[y.o,m.o,G.o,a5.o] at H0;rw[y.o,m.o,G.o] at H2;rw[y.o,m.o,G.o] at H3;rw[y.o,m.o,G.o] at H4;rw[y.o,m.o,G.o] at H5;rw[y.o,m.o,G.o] at H6;rw[y.o,m.o,G.o] at H7;rw[y.o,m.o,G.o] at H8;rw[y.o,m.o,G.o];obtain⟨y0,y1,y2,y3⟩:=A0.o.c4;replace H0:Hid (∀w1 (_:Below U.heap.size U w1),jC 115 #[.agg #[.string KD,.string H,.slice fo fn fc,.int .i64 LN],.string ⟨#[99,97,110,100,105,100,97,116,101,115]⟩] w1 λe w'=>∃vo J vc,e=.returned (.agg #[.string e6,.slice vo J vc,.int .i64 F1.line])/\StrL qU w' vo J vc F1.vals/\Below w1.heap.size w1 w'):=H0;replace H1:=jA H1;replace H2:Hid (∀w1 (_:Below U.heap.size U w1),jC 119 #[.agg #[.string KD,.string H,.slice fo fn fc,.int .i64 LN],.string ⟨#[109,101,116,104,111,100]⟩] w1 λe w'=>e=.returned (.int .i64 N2)/\Below w1.heap.size w1 w'):=H2;replace H3:Hid (∀w1 (_:Below U.heap.size U w1),jC 65 #[.agg #[.string KD,.string H,.slice fo fn fc,.int .i64 LN],.string ⟨#[115,101,97,116,115]⟩] w1 λe w'=>e=.returned (.int .i64 N3)/\Below w1.heap.size w1 w'):=H3;replace H4:Hid (∀w1 (_:Below U.heap.size U w1),jC 65 #[.agg #[.string KD,.string H,.slice fo fn fc,.int .i64 LN],.string ⟨#[114,97,110,107,115]⟩] w1 λe w'=>e=.returned (.int .i64 N4)/\Below w1.heap.size w1 w'):=H4;replace H5:Hid (∀w1 (_:Below U.heap.size U w1),jC 65 #[.agg #[.string KD,.string H,.slice fo fn fc,.int .i64 LN],.string ⟨#[100,105,103,105,116,115]⟩] w1 λe w'=>e=.returned (.int .i64 N5)/\Below w1.heap.size w1 w'):=H5;replace H6:Hid (∀w1 (_:Below U.heap.size U w1),jC 119 #[.agg #[.string KD,.string H,.slice fo fn fc,.int .i64 LN],.string ⟨#[116,105,101,115]⟩] w1 λe w'=>e=.returned (.int .i64 N6)/\Below w1.heap.size w1 w'):=H6;replace H7:Hid (∀w1 (_:Below U.heap.size U w1),jC 119 #[.agg #[.string KD,.string H,.slice fo fn fc,.int .i64 LN],.string ⟨#[111,118,101,114,118,111,116,101]⟩] w1 λe w'=>e=.returned (.int .i64 N7)/\Below w1.heap.size w1 w'):=H7;replace H8:Hid (∀w1 (_:Below U.heap.size U w1),jC 119 #[.agg #[.string KD,.string H,.slice fo fn fc,.int .i64 LN],.string ⟨#[115,107,105,112]⟩] w1 λe w'=>e=.returned (.int .i64 N8)/\Below w1.heap.size w1 w'):=H8;have f1:=λvo J vc=>gZ (.string e6) (.int .i64 F1.line) vo J vc
 have a2:Below U.heap.size U U.drew:=(Below.refl _ _).drew;clear h hT AV AU BV BU f9 hm h1 c6 hv;go_in;go_wp2_with fail;go_region_held3 (λw'=>w'.cell? ⟨bb,0,none⟩=some (.string KD)/\w'.cell? ⟨bb,1,none⟩=some (.string H)/\w'.cell? ⟨bb,2,none⟩=some (.slice fo fn fc)/\w'.cell? ⟨bb,3,none⟩=some (.int .i64 LN)) (go_keep) (first
   | (go_at_call 115;(with_reducible refine(H0.o _ a2).mono ?_);rintro e v0 ⟨vo,J,vc,rfl,SV,B0⟩;have e7:=qA (w:=U.drew) y0 B0;have a8:=qA (w:=U.drew) y1 B0;have e9:=qA (w:=U.drew) y2 B0;have d6:=qA (w:=U.drew) y3 B0;have C0:Below U.heap.size U v0:=a2.trans (B0.mono a2.size);have h0:=f1 vo J vc)
   | (go_at_call 92;(with_reducible refine(H1.o vo J vc v0 SV).mono ?_);rintro e v1 ⟨xo,xn,xc,rfl,X1,B1⟩;have e4:=qA e7 B1;have d9:=qA a8 B1;have e8:=qA e9 B1;have e3:=qA d6 B1;have C1:Below U.heap.size U v1:=C0.trans (B1.mono C0.size))
   | (go_at_call 119;(with_reducible refine(H2.o v1 C1).mono ?_);rintro e v2 ⟨rfl,B2⟩;have a6:=qA e4 B2;have b9:=qA d9 B2;have d3:=qA e8 B2;have b5:=qA e3 B2;have C2:Below U.heap.size U v2:=C1.trans (B2.mono C1.size);have X2:=qT X1 B2)
   | (go_at_call 65;(with_reducible refine(H3.o v2 C2).mono ?_);rintro e v3 ⟨rfl,B3⟩;have f5:=qA a6 B3;have b6:=qA b9 B3;have e5:=qA d3 B3;have a9:=qA b5 B3;have C3:Below U.heap.size U v3:=C2.trans (B3.mono C2.size);have X3:=qT X2 B3)
   | (go_at_call 65;(with_reducible refine(H4.o v3 C3).mono ?_);rintro e v4 ⟨rfl,B4⟩;have f3:=qA f5 B4;have f2:=qA b6 B4;have b8:=qA e5 B4;have f8:=qA a9 B4;have C4:Below U.heap.size U v4:=C3.trans (B4.mono C3.size);have X4:=qT X3 B4)
   | (go_at_call 65;(with_reducible refine(H5.o v4 C4).mono ?_);rintro e v5 ⟨rfl,B5⟩;have d4:=qA f3 B5;have d7:=qA f2 B5;have b4:=qA b8 B5;have c8:=qA f8 B5;have C5:Below U.heap.size U v5:=C4.trans (B5.mono C4.size);have X5:=qT X4 B5)
   | (go_at_call 119;(with_reducible refine(H6.o v5 C5).mono ?_);rintro e v6 ⟨rfl,B6⟩;have c7:=qA d4 B6;have b3:=qA d7 B6;have f4:=qA b4 B6;have f0:=qA c8 B6;have C6:Below U.heap.size U v6:=C5.trans (B6.mono C5.size);have X6:=qT X5 B6)
   | (go_at_call 119;(with_reducible refine(H7.o v6 C6).mono ?_);rintro e v7 ⟨rfl,B7⟩;have a7:=qA c7 B7;have a4:=qA b3 B7;have f7:=qA f4 B7;have d1:=qA f0 B7;have C7:Below U.heap.size U v7:=C6.trans (B7.mono C6.size);have X7:=qT X6 B7)
   | (go_at_call 119;(with_reducible refine(H8.o v7 C7).mono ?_);rintro e v8 ⟨rfl,B8⟩;have e0:=qA a7 B8;have d8:=qA a4 B8;have a3:=qA f7 B8;have b2:=qA d1 B8;have C8:Below U.heap.size U v8:=C7.trans (B8.mono C7.size);have X8:=qT X7 B8;obtain⟨Z,m5,AZ,GZ,LZ,q0,q1,q2,q3,q4,q5,q6,q7,q8,q9,g6,g7,g8,g3,g9,g0,g4,g5⟩:=Vg (A1.o.kept C8) (.string H) (.slice xo xn xc) (.int .i64 N2) (.int .i64 N3) (.int .i64 N4) (.int .i64 N5) (.int .i64 N6) (.int .i64 N7) (.int .i64 N8);have z0:=qX e0 a0.o GZ;have z1:=qX d8 a0.o GZ;have z2:=qX a3 a0.o GZ;have z3:=qX b2 a0.o GZ))
 all_goals
   obtain⟨r0,r1,r2,r3,r4,r5,r6,r7,r8⟩:=AZ.c9;have BZ:Hid (Below w.heap.size w Z):=LZ _ _ (HB.o.trans (C8.mono HB.o.size)) g2.o;have KP:Keeps (qS w.heap.size [9]) v8 Z:=zD (A1.o.kept C8) (by decide) GZ;have XZ:Hid (StrL (qS w.heap.size [9]) Z xo xn xc F1.vals):=(qw X8 (Nat.le_trans g1.o C0.size)).keep (qE _ _) KP;clear X8 KP AZ GZ LZ q0 q1 q2 q3 q4 q5 q6 q7 q8 q9 g6 g7 g8 g3 g9 g0 g4 g5;go_wp2_with fail;refine bodyPost_ret (v:=.agg #[.string H,.slice xo xn xc,.int .i64 N2,.int .i64 N3,.int .i64 N4,.int .i64 N5,.int .i64 N6,.int .i64 N7,.int .i64 N8]) (by simp[results,Tryz.results66,go_sem,r0,r1,r2,r3,r4,r5,r6,r7,r8]) rfl ?_;exact⟨xo,xn,xc,rfl,by first|exact XZ.o|(rw[<- a1];exact XZ.o),by first|exact BZ.o|(rw[<- a1];exact BZ.o)⟩
namespace Lx
def kM(P C:List (List UInt8))(t:List UInt8)(bs:List qK):Elc where
 title:=t
 dots:=qR (zJ zT bs) yW
 blank:=qR (zJ zT bs) jo
 marked:=qR (zJ zT bs) jT
 precs:=P
 conts:=(qH qF bs).map j6
 stys:=(qH qI bs).map (vM P C)
 scanners:=qR (zJ qe bs) xu
 batch:=qR (zJ qe bs) vI
 rneg:=if qH ql bs=[] then false else (kr (qV (zJ ql bs) jN)).s
 rnum:=if qH ql bs=[] then [] else Q.NatMath.qL (kr (qV (zJ ql bs) jN)).p
 rden:=if qH ql bs=[] then [] else Q.NatMath.qL (kr (qV (zJ ql bs) jN)).q
 cell:=qR (zJ qy bs) yg
 seed:=qV (zJ ql bs) yX
theorem jQ(k:List UInt8)(bs:List qK)(b:qK):qH k (bs++[b])=if b.kind=k then qH k bs++[b] else qH k bs:=by
 unfold qH;rw[List.filter_append,List.filter_cons,List.filter_nil];by_cases h:b.kind=k
 . rw[if_pos (by simp[h]),if_pos h]
 . rw[if_neg (by simp[h]),if_neg h,List.append_nil]
theorem kw(k:List UInt8)(bs:List qK)(b:qK):zJ k (bs++[b])=if b.kind=k then b else zJ k bs:=by
 unfold zJ;rw[jQ];by_cases h:b.kind=k
 . rw[if_pos h,if_pos h,List.getLast?_append];rfl
 . rw[if_neg h,if_neg h]
theorem Vs(P C:List (List UInt8))(t:List UInt8):kM P C t []=⟨t,0,0,0,P,[],[],0,0,false,[],[],0,[]⟩:=by
 unfold kM;rfl
section
variable (P C : List (List UInt8)) (t : List UInt8) (bs : List qK) (b : qK)
theorem Gh(h:b.kind=zT):kM P C t (bs++[b])={ kM P C t bs with dots:=qR b yW,blank:=qR b jo,marked:=qR b jT }:=by
 unfold kM;simp[kw,jQ,h,show zT≠qF by decide,show zT≠qI by decide,show zT≠ql by decide,show zT≠qy by decide,show zT≠qe by decide]
theorem Jm(h:b.kind=qe):kM P C t (bs++[b])={ kM P C t bs with scanners:=qR b xu,batch:=qR b vI }:=by
 unfold kM;simp[kw,jQ,h,show qe≠qF by decide,show qe≠qI by decide,show qe≠ql by decide,show qe≠qy by decide,show qe≠zT by decide]
theorem Xk(h:b.kind=qF):kM P C t (bs++[b])={ kM P C t bs with conts:=(kM P C t bs).conts++[j6 b] }:=by
 unfold kM;simp[kw,jQ,h,show qF≠qe by decide,show qF≠qI by decide,show qF≠ql by decide,show qF≠qy by decide,show qF≠zT by decide]
theorem UM(h:b.kind=qI):kM P C t (bs++[b])={ kM P C t bs with stys:=(kM P C t bs).stys++[vM P C b] }:=by
 unfold kM;simp[kw,jQ,h,show qI≠qe by decide,show qI≠qF by decide,show qI≠ql by decide,show qI≠qy by decide,show qI≠zT by decide]
theorem UN(h:b.kind=ql):kM P C t (bs++[b])={ kM P C t bs with rneg:=(kr (qV b jN)).s,rnum:=Q.NatMath.qL (kr (qV b jN)).p,rden:=Q.NatMath.qL (kr (qV b jN)).q,seed:=qV b yX }:=by
 unfold kM;simp[kw,jQ,h,show ql≠qe by decide,show ql≠qF by decide,show ql≠qI by decide,show ql≠qy by decide,show ql≠zT by decide]
theorem Xl(h:b.kind=qy):kM P C t (bs++[b])={ kM P C t bs with cell:=qR b yg }:=by
 unfold kM;simp[kw,jQ,h,show qy≠qe by decide,show qy≠qF by decide,show qy≠qI by decide,show qy≠ql by decide,show qy≠zT by decide]
theorem UO(h1:b.kind≠zT)(h2:b.kind≠qe)(h3:b.kind≠qF)(h4:b.kind≠qI)(h5:b.kind≠ql)(h6:b.kind≠qy):kM P C t (bs++[b])=kM P C t bs:=by
 unfold kM;simp[kw,jQ,h1,h2,h3,h4,h5,h6]
end
end Lx
section
variable {w : World} {ops : Array Oper} {o : Oper} {a : Act} {K : Act -> World -> Prop} {Q : Exit -> Act -> World -> Prop}
theorem K9{E:TypeId}{s bytes:Nat}{z:Value}(ht:Tryz.prog.underlying T=some (.slice E))(hinfo:(Tryz.prog.info? E).map (λi=>(i.zero,i.size,i.bytes))=some (some z,s,bytes))(hzs:z.cells.size=s)(hs:0<s)(hby:bytes<=1000)
    {X:World} {E2:Prop} (p q:Operand) (hgd:o.guard=none) (hop:o.op=.call { callee:=.builtin .append,args:=#[p,q],argTypes:=#[T,T] })
    {B:Nat} {ao:Option Addr} {n c:Nat} {us vs:List Value} (hX:w.alloc (.cells vs.toArray E)=X) (hO:w.ownsRow B E s (.slice ao n c) n us) (hB:B<=w.heap.size) (hn:n<=4000000) (hv:vs.length=s) (h1:∀u∈vs,u.oneCell'=true)
    (hp:a.eval p=.slice ao n c) (hq:a.eval q=.slice (some ⟨w.heap.size,0,none⟩) 1 1)
    (h:∀ao' c' w',w'.ownsRow B E s (.slice ao' (n+1) c') (n+1) (us++vs)->w.grownBy w' (Value.slice ao n c).ownBlock->Below B w w'->K (a.put o.dst (.slice ao' (n+1) c')) w') :
    if Region.wanted o (yielded ops a.tmps)=true then Oper.wp Tryz.prog o a X K Q else E2:=by
 have hw:Region.wanted o (yielded ops a.tmps)=true:=by simp[Region.wanted,hgd]
 rw[if_pos hw];subst hX;obtain⟨i0,hi,Z,J,V⟩:=info_parts hinfo;have m:Below w.heap.size w (w.alloc (.cells vs.toArray E)):=(Below.refl _ _).alloc (Nat.le_refl _) _;have g1:w.grownBy (w.alloc (.cells vs.toArray E)) (Value.slice ao n c).ownBlock:=⟨m.os,m.tape,m.output,m.size,λk H _=>m.block k H⟩;have y:Arr (w.alloc (.cells vs.toArray E)) w.heap.size E vs:=Arr.new w _ vs;have a0:=qQ hO m;have a1:(n+1)*bytes<=(4000000+1)*1000:=Nat.mul_le_mul (by omega) hby;refine wp_append_own _ p q T hop B E i0 z s bytes ht hi Z J V hzs hs _ n _ hp a0 ⟨w.heap.size,0,none⟩ 1 1 vs hq (by omega) ?_ h1 (by unfold maxLen;omega) (by omega) (by simp;omega) ?_
 . intro j u hj;have e:=jm w.heap.size j;simp only[pt,Option.getD_some] at e;rw[e,y.cell];exact hj
 . intro v' w' G hg _;obtain⟨av,cv,hv⟩:∃ao c,v'=.slice ao (n+1) c:=by
    rcases G.2 with ⟨hv,h0⟩|⟨g,cap,_,hv,_⟩
    . omega
    . exact⟨_,cap,hv⟩
   subst hv;exact h av cv w' G (qC g1 hg) ((m.mono hB).trans ((Below.refl _ _).grown hg (by simp;omega) (λk H=>(World.ownsRow.lt hO k H).1)))
end
def Vt(B:Nat):World->Nat->Prop:=λ_ k=>B<=k
theorem wC(B:Nat):jR (Vt B):=λ_ _ _ _ _ h=>h
theorem uR{B B':Nat}{Es:List TypeId}(h:B'<=B):∀k,qS B Es w k->Vt B' w k:=λ_ hk=>Nat.le_trans h hk.1
theorem gI{B:Nat}(h:w.grownBy Z (some g))(hg:g<B):Keeps (Vt B) w Z:=jL h (λk hk e=>by injection e with e;have h1:B<=k:=hk;omega)
structure BRw (B:Nat) (w:World) (e:Elc) (s:ESl) (C:List (List UInt8)) (qo:Option Addr) (qn qc:Nat):Prop where
 precs:StrL (qS B [9]) w s.po s.pn s.pc e.precs
 conts:∃us,w.ownsRow B 76 9 (.slice s.co s.cn s.cc) s.cn us/\CC (qS B [9]) w e.conts us
 stys:∃us,w.ownsRow B 60 3 (.slice s.so s.sn s.sc) s.sn us/\TC (qS B [3]) w e.stys us
 num:IntL .u32 (qS B [144]) w s.uo s.un s.uc e.rnum
 den:IntL .u32 (qS B [144]) w s.dO s.dn s.dc e.rden
 names:StrL (qS B [9]) w qo qn qc C
section
variable {B : Nat} {w w' : World} {e : Elc} {s : ESl} {C : List (List UInt8)} {qo : Option Addr} {qn qc : Nat}
theorem BRw.below(h:BRw B w e s C qo qn qc)(hb:Below w.heap.size w w'):BRw B w' e s C qo qn qc:=by
 obtain⟨us,m,G⟩:=h.conts;obtain⟨vs,H,y⟩:=h.stys;exact⟨qT h.precs hb,⟨us,qQ m hb,G.keep (qE _ _) (qD _ hb)⟩,⟨vs,qQ H hb,y.keep (qE _ _) (qD _ hb)⟩,qT h.num hb,qT h.den hb,qT h.names hb⟩
theorem BRw.box(h:BRw B w e s C qo qn qc)(hA:Arr w g T cs)(hT:T∉[9,3,144,76,60])(hg:w.grownBy w' (some g)):BRw B w' e s C qo qn qc:=by
 obtain⟨us,y,h2⟩:=h.conts;obtain⟨vs,H,Z⟩:=h.stys;simp only[List.mem_cons,List.not_mem_nil,or_false,not_or] at hT;obtain⟨t1,V,t3,t4,t5⟩:=hT;have m:Keeps (qS B [9]) w w':=zD hA (by simpa using t1) hg;have J:Keeps (qS B [3]) w w':=zD hA (by simpa using V) hg;have G:Keeps (qS B [144]) w w':=zD hA (by simpa using t3) hg;exact⟨Row.keep h.precs (qE _ _) m,⟨us,World.ownsRow.kept y hg (Or.inr (zI y hA t4)),h2.keep (qE _ _) m⟩,⟨vs,World.ownsRow.kept H hg (Or.inr (zI H hA t5)),Z.keep (qE _ _) J⟩,Row.keep h.num (qE _ _) G,Row.keep h.den (qE _ _) G,Row.keep h.names (qE _ _) m⟩
theorem qv{E1 E2:TypeId}{s1 s2 n1 n2:Nat}{v1 v2:Value}(h1:w.ownsRow B E1 s1 v1 n1 us)(h2:w.ownsRow B E2 s2 v2 n2 vs)(hE:E1≠E2):v1.ownBlock=none\/v1.ownBlock≠v2.ownBlock:=by
 rcases h1.2 with ⟨hv,_⟩|⟨g,cap,cur,hv,_,hh,_⟩
 . left;rw[hv];rfl
 . right;intro e;rcases h2.2 with ⟨hv2,_⟩|⟨g2,cap2,cur2,hv2,_,hh2,_⟩
   . rw[hv,hv2] at e;cases e
   . rw[hv,hv2] at e;have e':some g=some g2:=e;injection e' with e';subst e';rw[hh] at hh2;injection hh2 with hh2;injection hh2 with _ h2 _;exact hE h2
theorem BRw.contest{x:Cst}{ao':Option Addr}{c':Nat}(h:BRw B w e s C qo qn qc)(hr:w.ownsRow B 76 9 (.slice s.co s.cn s.cc) s.cn us)(hc:CC (qS B [9]) w e.conts us)(hx:CC (qS B [9]) w [x] vs)
    (ho:w'.ownsRow B 76 9 (.slice ao' (s.cn+1) c') (s.cn+1) (us++vs)) (hg:w.grownBy w' (Value.slice s.co s.cn s.cc).ownBlock):BRw B w' { e with conts:=e.conts++[x] } { s with co:=ao',cn:=s.cn+1,cc:=c' } C qo qn qc:=by
 obtain⟨y,H,V⟩:=h.stys;have m:Keeps (qS B [9]) w w':=zS hr hg (by decide);have J:Keeps (qS B [3]) w w':=zS hr hg (by decide);have G:Keeps (qS B [144]) w w':=zS hr hg (by decide);exact⟨Row.keep h.precs (qE _ _) m,⟨_,ho,CC.append (hc.keep (qE _ _) m) (hx.keep (qE _ _) m)⟩,⟨y,World.ownsRow.kept H hg (qv H hr (by decide)),V.keep (qE _ _) J⟩,Row.keep h.num (qE _ _) G,Row.keep h.den (qE _ _) G,Row.keep h.names (qE _ _) m⟩
theorem BRw.style{x:Sty}{ao':Option Addr}{c':Nat}(h:BRw B w e s C qo qn qc)(hr:w.ownsRow B 60 3 (.slice s.so s.sn s.sc) s.sn us)(hc:TC (qS B [3]) w e.stys us)(hx:TC (qS B [3]) w [x] vs)
    (ho:w'.ownsRow B 60 3 (.slice ao' (s.sn+1) c') (s.sn+1) (us++vs)) (hg:w.grownBy w' (Value.slice s.so s.sn s.sc).ownBlock):BRw B w' { e with stys:=e.stys++[x] } { s with so:=ao',sn:=s.sn+1,sc:=c' } C qo qn qc:=by
 obtain⟨y,J,V⟩:=h.conts;have m:Keeps (qS B [9]) w w':=zS hr hg (by decide);have G:Keeps (qS B [3]) w w':=zS hr hg (by decide);have H:Keeps (qS B [144]) w w':=zS hr hg (by decide);exact⟨Row.keep h.precs (qE _ _) m,⟨y,World.ownsRow.kept J hg (qv J hr (by decide)),V.keep (qE _ _) m⟩,⟨_,ho,TC.append (hc.keep (qE _ _) G) (hx.keep (qE _ _) G)⟩,Row.keep h.num (qE _ _) H,Row.keep h.den (qE _ _) H,Row.keep h.names (qE _ _) m⟩
theorem jd{t:TypeId}(h:Arr w g t cs)(i:Nat)(u v:Value)(hv:cs[i]? = some v):∃V,w.setCell ⟨g,i,none⟩ u=V/\Arr V g t (cs.set i u)/\w.grownBy V (some g)/\(∀ (B:Nat) (a:World),Below B a w->B<=g->Below B a V)/\w.cell? ⟨g,i,none⟩=some v/\w.frozen? ⟨g,i,none⟩=false :=
 ⟨_,rfl,h.set i u,qM w g i u,λB a hb hg=>hb.setCell (p:=⟨_,i,none⟩) hg u,(h.cell i).trans hv,h.frozen i⟩
end
end Go.Proofs.YtkefajjcpcoajaaGreatDoor
namespace Go.Proofs.YtkefajjcpcoajaaGreatDoor.Lx
variable {f:Nat×Int}{e:Nat}
def z7(f:Nat×Int)(e:Nat)(l:Int):Nat×Int:=if f.1=0/\e≠0 then (e,l) else f
theorem jG(f:Nat×Int)(l:Int):z7 f 0 l=f:=if_neg (λh=>h.2 rfl)
theorem vB(l:Int)(h:f.1≠0):z7 f e l=f:=if_neg (λh'=>h h'.1)
theorem kK(l:Int)(h:f.1=0)(he:e≠0):z7 f e l=(e,l):=if_pos ⟨h,he⟩
theorem gi{l:Int}:(z7 f e l).1=0↔f.1=0/\e=0:=by
 by_cases m:e=0
 . rw[m,jG];simp
 . by_cases h:f.1=0
   . rw[kK l h m];simp[m]
   . rw[vB l h];simp[h]
def yw(most:Nat)(vs:List (List UInt8)):Nat:=if vs.length<1 then 7 else j8 most [] vs
def jt(vs:List (List UInt8))(g:List UInt8->Nat):Nat:=if vs.length≠1 then 7 else g ((vs[0]?).getD [])
def vD(vs:List (List UInt8)):List UInt8:=if vs.length≠1 then [] else (vs[0]?).getD []
def gJ(lo hi:Nat)(v:List UInt8):Nat:=if !zg v then 5 else if zz v<lo||hi<zz v then 4 else 0
def chE(ws:List (List UInt8))(v:List UInt8):Nat:=if (vt v ws).isNone then 2 else 0
def gj(v:List UInt8):Nat:=if !jw v 24 then 8 else 0
def zb(kind:List UInt8):List (List UInt8):=(zf.filter λr=>decide (r.kind=kind)).map jj.key
structure RSt where
 e:Elc
 seen:List (List UInt8)
 lines:List (Int×Int)
 names:List (List (List UInt8)×List (List UInt8))
def eOf(t:List UInt8)(bs:List qK):Elc where
 title:=t
 dots:=qR (zJ zT bs) yW
 blank:=qR (zJ zT bs) jo
 marked:=qR (zJ zT bs) jT
 precs:=qN (zJ qB bs) zy
 conts:=(qH qF bs).map j6
 stys:=(qH qI bs).map λb=>⟨b.name,[],[]⟩
 scanners:=qR (zJ qe bs) xu
 batch:=qR (zJ qe bs) vI
 rneg:=false
 rnum:=if xQ (zJ ql bs) jN then J1 (qV (zJ ql bs) jN) else []
 rden:=if xQ (zJ ql bs) jN then J2 (qV (zJ ql bs) jN) else []
 cell:=qR (zJ qy bs) yg
 seed:=qV (zJ ql bs) yX
def rOf(t:List UInt8)(bs:List qK):RSt where
 e:=eOf t bs
 seen:=bs.map qK.kind
 lines:=(qH qI bs).map λb=>(zx b qB,zx b qO)
 names:=(qH qI bs).map λb=>(qN b qB,qN b qO)
def Xm(kind:List UInt8)(f:zC)(e:Elc):Elc :=
 let v:=(f.vals[0]?).getD []
 if kind=zT then (if f.key=yW then { e with dots:=zz v } else if f.key=jo then { e with blank:=zz v } else { e with marked:=zz v })
 else if kind=qe then (if f.key=xu then { e with scanners:=zz v } else { e with batch:=zz v })
 else if kind=qB then { e with precs:=f.vals }
 else if kind=ql then (if f.key=jN then { e with rneg:=false,rnum:=J1 v,rden:=J2 v } else { e with seed:=v })
 else { e with cell:=zz v }
def Vu(f:zC)(c:Cst):Cst :=
 let v:=(f.vals[0]?).getD []
 if f.key=zG then { c with method:=xP zG v } else if f.key=zO then { c with seats:=zz v } else if f.key=kp then { c with ranks:=zz v } else if f.key=qY then { c with digits:=zz v }
 else if f.key=xO then { c with ties:=xP xO v } else if f.key=zj then { c with over:=xP zj v } else if f.key=kX then { c with skip:=xP kX v } else { c with cands:=f.vals }
def ju(b:qK)(F:List zC):qK:={ b with flds:=F }
theorem wD(b:qK)(F:List zC)(f:zC)(k:List UInt8)(hf:F.any (λg=>decide (g.key=f.key))=false):j7 (ju b (F++[f])) k=if f.key=k then some f else j7 (ju b F) k:=by
 unfold j7 ju;rw[List.find?_append];by_cases h:f.key=k
 . rw[if_pos h];have:F.find? (λg=>decide (g.key=k))=none:=by
    rw[List.find?_eq_none];intro g m;rw[List.any_eq_false] at hf;have:=hf g m;rw[h] at this;exact this
   show((F.find? _).or _)=_;rw[this];simp[h]
 . rw[if_neg h];show((F.find? _).or _)=_;(have:[f].find? (λg=>decide (g.key=k))=none:=by simp[h]);rw[this,Option.or_none]
section
variable (b : qK) (F : List zC) (f : zC) (k : List UInt8) (hf : F.any (λg => decide (g.key = f.key)) = false)
include hf
theorem kj:qN (ju b (F++[f])) k=if f.key=k then f.vals else qN (ju b F) k:=by
 unfold qN;rw[wD b F f k hf];by_cases h:f.key=k
 . rw[if_pos h,if_pos h]
 . rw[if_neg h,if_neg h]
theorem yG:zx (ju b (F++[f])) k=if f.key=k then f.line else zx (ju b F) k:=by
 unfold zx;rw[wD b F f k hf];by_cases h:f.key=k
 . rw[if_pos h,if_pos h]
 . rw[if_neg h,if_neg h]
theorem FY:xQ (ju b (F++[f])) k=if f.key=k then true else xQ (ju b F) k:=by
 unfold xQ;rw[wD b F f k hf];by_cases h:f.key=k
 . rw[if_pos h,if_pos h];rfl
 . rw[if_neg h,if_neg h]
theorem wE:qV (ju b (F++[f])) k=if f.key=k then (f.vals[0]?).getD [] else qV (ju b F) k:=by
 unfold qV;rw[kj b F f k hf];by_cases h:f.key=k
 . rw[if_pos h,if_pos h]
 . rw[if_neg h,if_neg h]
theorem xU:qR (ju b (F++[f])) k=if f.key=k then zz ((f.vals[0]?).getD []) else qR (ju b F) k:=by
 unfold qR;rw[wE b F f k hf];by_cases h:f.key=k
 . rw[if_pos h,if_pos h]
 . rw[if_neg h,if_neg h]
theorem wX:kL (ju b (F++[f])) k=if f.key=k then xP k ((f.vals[0]?).getD []) else kL (ju b F) k:=by
 unfold kL;rw[wE b F f k hf];by_cases h:f.key=k
 . rw[if_pos h,if_pos h]
 . rw[if_neg h,if_neg h]
end
theorem yH{kind key:List UInt8}{r:jj}(h:zi kind key=some r):r.kind=kind/\r.key=key/\r∈zf:=by
 unfold zi at h;have m:=List.find?_some h;simp only[Bool.and_eq_true,decide_eq_true_eq] at m;exact⟨m.1,m.2,List.mem_of_find?_eq_some h⟩
theorem Gi(b:qK)(F:List zC)(f:zC)(hk:b.kind=qF)(r:jj)(hr:zi b.kind f.key=some r)(hf:F.any (λg=>decide (g.key=f.key))=false):j6 (ju b (F++[f]))=Vu f (j6 (ju b F)):=by
 obtain⟨y,G,H⟩:=yH hr;have m:f.key∈zb qF:=by rw[<- G];exact List.mem_map.2 ⟨r,List.mem_filter.2 ⟨H,by rw[y,hk];rfl⟩,rfl⟩
 unfold j6 Vu;rw[xU b F f _ hf,xU b F f _ hf,xU b F f _ hf,wX b F f _ hf,wX b F f _ hf,wX b F f _ hf,wX b F f _ hf,kj b F f _ hf];have J:(ju b (F++[f])).name=(ju b F).name:=rfl;rw[J];have m:f.key=zG\/f.key=zO\/f.key=kp\/f.key=qY\/f.key=xO\/f.key=zj\/f.key=kX\/f.key=zm:=by
  have e:zb qF=[zG,zO,kp,qY,xO,zj,kX,zm]:=by decide
  rw[e] at m;simpa using m
 rcases m with h|h|h|h|h|h|h|h<;>rw[h]<;>rfl
theorem yI(k:List UInt8)(bs:List qK)(b:qK)(F:List zC):qH k (bs++[ju b F])=if b.kind=k then qH k bs++[ju b F] else qH k bs:=jQ k bs (ju b F)
theorem Vv(k:List UInt8)(bs:List qK)(b:qK)(F:List zC):zJ k (bs++[ju b F])=if b.kind=k then ju b F else zJ k bs:=kw k bs (ju b F)
theorem NT(t:List UInt8)(bs:List qK)(b:qK)(F:List zC)(f:zC)(h1:b.kind≠qF)(h2:b.kind≠qI)(r:jj)(hr:zi b.kind f.key=some r)(hf:F.any (λg=>decide (g.key=f.key))=false):eOf t (bs++[ju b (F++[f])])=Xm b.kind f (eOf t (bs++[ju b F])):=by
 obtain⟨y,H,m⟩:=yH hr;have J:(b.kind=zT/\(f.key=yW\/f.key=jo\/f.key=jT))\/(b.kind=qe/\(f.key=xu\/f.key=vI))\/(b.kind=qB/\f.key=zy)\/(b.kind=ql/\(f.key=jN\/f.key=yX))\/(b.kind=qy/\f.key=yg):=by
  rw[<- y,<- H];rw[<- y] at h1 h2;unfold zf at m;simp only[List.mem_cons,List.not_mem_nil,or_false] at m;rcases m with rfl|rfl|rfl|rfl|rfl|rfl|rfl|rfl|rfl|rfl|rfl|rfl|rfl|rfl|rfl|rfl|rfl|rfl|rfl<;>first|exact absurd rfl h1|exact absurd rfl h2|simp
 have V:qH qF (bs++[ju b (F++[f])])=qH qF (bs++[ju b F]):=by rw[yI,yI,if_neg h1,if_neg h1]
 have G:qH qI (bs++[ju b (F++[f])])=qH qI (bs++[ju b F]):=by rw[yI,yI,if_neg h2,if_neg h2]
 unfold eOf;rw[V,G];simp only[Vv];rcases J with ⟨k,e⟩|⟨k,e⟩|⟨k,e⟩|⟨k,e⟩|⟨k,e⟩
 . rw[k];simp only[Xm,if_true,if_false,show zT≠qe by decide,show zT≠qB by decide,show zT≠ql by decide,show zT≠qy by decide,xU b F f _ hf];rcases e with e|e|e<;>rw[e]<;>rfl
 . rw[k];simp only[Xm,if_true,if_false,show qe≠zT by decide,show qe≠qB by decide,show qe≠ql by decide,show qe≠qy by decide,xU b F f _ hf];rcases e with e|e<;>rw[e]<;>rfl
 . rw[k];simp only[Xm,if_true,if_false,show qB≠zT by decide,show qB≠qe by decide,show qB≠ql by decide,show qB≠qy by decide,kj b F f _ hf];rw[e];rfl
 . rw[k];simp only[Xm,if_true,if_false,show ql≠zT by decide,show ql≠qe by decide,show ql≠qB by decide,show ql≠qy by decide,wE b F f _ hf,FY b F f _ hf];rcases e with e|e<;>rw[e]<;>rfl
 . rw[k];simp only[Xm,if_true,if_false,show qy≠zT by decide,show qy≠qe by decide,show qy≠qB by decide,show qy≠ql by decide,xU b F f _ hf];rw[e];rfl
theorem Fa(t:List UInt8)(bs:List qK)(b:qK)(h1:b.kind≠qF)(h2:b.kind≠qI)(h0:qH b.kind bs=[]):eOf t (bs++[ju b []])=eOf t bs:=by
 have G:qH qF (bs++[ju b []])=qH qF bs:=by rw[yI,if_neg h1]
 have y:qH qI (bs++[ju b []])=qH qI bs:=by rw[yI,if_neg h2]
 have H:∀k,b.kind=k->zJ k bs=⟨[],[],[],0⟩:=λk e=>by unfold zJ;rw[<- e,h0];rfl
 have m:∀k,(∀q,qR (zJ k (bs++[ju b []])) q=qR (zJ k bs) q)/\(∀q,qN (zJ k (bs++[ju b []])) q=qN (zJ k bs) q)/\(∀q,qV (zJ k (bs++[ju b []])) q=qV (zJ k bs) q)/\(∀q,xQ (zJ k (bs++[ju b []])) q=xQ (zJ k bs) q):=λk=>by
  rw[Vv k];by_cases e:b.kind=k
  . rw[if_pos e,H k e];exact⟨λ_=>rfl,λ_=>rfl,λ_=>rfl,λ_=>rfl⟩
  . rw[if_neg e];exact⟨λ_=>rfl,λ_=>rfl,λ_=>rfl,λ_=>rfl⟩
 unfold eOf;rw[G,y,(m _).1,(m _).1,(m _).1,(m _).2.1,(m _).1,(m _).1,(m _).2.2.2,(m _).2.2.1,(m _).1,(m _).2.2.1]
end Go.Proofs.YtkefajjcpcoajaaGreatDoor.Lx
namespace Go.Proofs.YtkefajjcpcoajaaGreatDoor.Lx
def WU(bs:List qK)(b:qK):Nat :=
 if zb b.kind=[] then 2
 else if (decide (b.kind=qF)||decide (b.kind=qI))&&decide (b.name=[]) then 6
 else if (decide (b.kind=qF)||decide (b.kind=qI))&&(!zv b.name||decide (24<b.name.length)) then 8
 else if (decide (b.kind=qF)||decide (b.kind=qI))&&(jk (qH b.kind bs)).contains b.name then 3
 else if (decide (b.kind=qF)&&decide (4<=(qH b.kind bs).length))||(decide (b.kind=qI)&&decide (6<=(qH b.kind bs).length)) then 7
 else if !(decide (b.kind=qF)||decide (b.kind=qI)) && !decide (b.name=[]) then 2
 else if !(decide (b.kind=qF)||decide (b.kind=qI))&&(bs.map qK.kind).contains b.kind then 3 else 0
theorem QY(bs:List qK)(k:List UInt8):(bs.map qK.kind).contains k = !(qH k bs).isEmpty:=by
 unfold qH;induction bs with
 | nil=>rfl
 | cons b r ih =>
  rw[List.map_cons,List.contains_cons,ih,List.filter_cons];by_cases h:b.kind=k
  . rw[if_pos (by simp[h])];simp[h]
  . rw[if_neg (by simp[h]),show(k == b.kind)=false from by simpa using λe=>h (Eq.symm e),Bool.false_or]
theorem Vw(bs:List qK)(b:qK):WU bs b=xm bs b:=by
 unfold WU xm;rw[QY];cases m:vJ b.kind with
 | none =>
  have V:∀r∈zr,r.kind≠b.kind:=λr y e=>by
   unfold vJ at m;rw[List.find?_eq_none] at m;exact m r y (by simp[e])
  have:zb b.kind=[]:=by
   unfold zb;rw[List.map_eq_nil_iff,List.filter_eq_nil_iff];intro r y e;(have e':r.kind=b.kind:=by simpa using e);obtain⟨q,Z,H⟩:=(show ∀r∈zf,∃q∈zr,q.kind=r.kind by decide) r y;exact V q Z (H.trans e')
  rw[if_pos this]
 | some r =>
  have J:r.kind=b.kind:=by
   unfold vJ at m;have:=List.find?_some m;simpa using this
  have G:r∈zr:=List.mem_of_find?_eq_some m;rw[<- J];unfold zr at G;simp only[List.mem_cons,List.not_mem_nil,or_false] at G;have ne:∀l:List qK,(!l.isEmpty)=decide (1<=l.length):=λl=>by cases l<;>simp
  rw[ne];rcases G with rfl|rfl|rfl|rfl|rfl|rfl|rfl <;>
    simp +decide only [if_false,if_true,Bool.or_false,Bool.false_or,Bool.or_true,Bool.true_and,Bool.false_and,Bool.not_true,Bool.not_false,decide_true,decide_false,Bool.false_eq_true,decide_eq_true_eq,Bool.or_eq_true,Bool.not_eq_true',decide_eq_false_iff_not,ne_eq,ite_not,or_comm]
end Go.Proofs.YtkefajjcpcoajaaGreatDoor.Lx
