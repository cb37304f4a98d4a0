/- -/
import Derived.Test.YtkefajjcpcoajaaGreatDoorPkA0
import Derived.Lib.ItoaLen
import Derived.Test.YtkefajjcpcoajaaGreatDoorPkA24
import Derived.Test.YtkefajjcpcoajaaGreatDoorPkA25
import Derived.Test.YtkefajjcpcoajaaGreatDoorPkA27
import Derived.Test.YtkefajjcpcoajaaGreatDoorPkA32
import Derived.Test.YtkefajjcpcoajaaGreatDoorPkA33
import Derived.Test.YtkefajjcpcoajaaGreatDoorPkA35
import Derived.Test.YtkefajjcpcoajaaGreatDoorPkA36
import Derived.Test.YtkefajjcpcoajaaGreatDoorPkA37
set_option linter.all false
set_option maxRecDepth 100000
set_option maxHeartbeats 51200000
namespace Go.Proofs.YtkefajjcpcoajaaGreatDoor
open Go.RowKit Lx
variable {w:World}{e:Elc}{s:ESl}{kd k R:List UInt8}
theorem ElcS.mono{S T:World->Nat->Prop}(h:ElcS S w e s)(hm:∀k,S w k->T w k):ElcS T w e s:=⟨Row.mono h.precs hm,h.conts.mono hm,h.stys.mono hm,Row.mono h.num hm,Row.mono h.den hm⟩
theorem Arr.other{Z:World}{g k:Nat}{t:TypeId}{cs:List Value}(h:Arr w g t cs)(hg:w.grownBy Z (some k))(hk:g≠k):Arr Z g t cs:=(hg.block g h.lt (λe=>hk (by injection e))).trans h
theorem Uc(s:ke)(ao:Option Addr)(n c:Nat)(w:World)(h:BlkS qU w ao n c s.blks)(hsm:yM s)(h0:(jI s).1=0)(hok:∀b∈s.blks,OkB b)(hT:Tabs w) :
    Calls Tryz.prog 12 #[.agg #[.string (stg s.title),.slice ao n c]] w λe w'=>∃sl,e=.returned (.tuple #[eV (kM (zF s.blks) (jD s.blks) s.title s.blks) sl,.agg #[.int .i64 0,.int .i64 0]])/\ElcS qU w' (kM (zF s.blks) (jD s.blks) s.title s.blks) sl/\Below w.heap.size w w':=by
 obtain⟨V,e1,AV,BV,hz⟩:=qG w 24 [.string (stg s.title),.slice ao n c];obtain⟨V2,e2,a1,y,a7⟩:=qG V 34 [.string ⟨#[]⟩,.int .i64 0,.int .i64 0,.int .i64 0,.slice none 0 0,.slice none 0 0,.slice none 0 0,.int .i64 0,.int .i64 0,.bool false,.slice none 0 0,.slice none 0 0,.int .i64 0,.string ⟨#[]⟩];obtain⟨U,e3,AU,BU,f4⟩:=qG V2 37 [.int .i64 0,.int .i64 0];have HL:=jA (((h.below BV).below y).below BU);have HT:=jA (((hT.below BV).below y).below BU);have HC:=WP s ao n c U HL.o hsm HT.o;rw[h0] at HC;have H:=λw1 (hb:Below U.heap.size U w1)=>Nb s ao n c w1 (HL.o.below hb) hsm hok (HT.o.below hb)
 obtain⟨m,d4⟩:∃E,Hid (kM (zF s.blks) (jD s.blks) s.title s.blks=E):=⟨_,rfl⟩;rw[d4.o] at H |-;obtain⟨LF,c6⟩:∃L,Hid ((jI s).2=L):=⟨_,rfl⟩;rw[c6.o] at HC;obtain⟨KT,d3⟩:∃K,Hid (stg s.title=K):=⟨_,rfl⟩;rw[d3.o] at e1 AV HC H |-;obtain⟨bb,b1⟩:∃b,w.heap.size=b:=⟨_,rfl⟩;rw[b1] at AV hz;rw[hz] at a1 a7;rw[a7] at AU;have A0:=jA ((AV.kept y).kept BU);have A1:=jA (a1.kept BU);have A2:=jA AU;have HB:Hid (Below w.heap.size w U):=(BV.trans (y.mono BV.size)).trans (BU.mono (Nat.le_trans BV.size y.size));have a5:Hid (w.heap.size<=bb+1):=by show _<=_;omega
 have Z:Hid (w.heap.size<=bb+1+1):=by show _<=_;omega
 have a2:Hid (bb+1≠bb+1+1):=by show _≠_;omega
 obtain⟨y0,y1⟩:=A0.o.c2;replace HC:Hid (jC 27 #[.agg #[.string KT,.slice ao n c]] U λe w'=>e=.returned (.agg #[.int .i64 0,.int .i64 LF])/\Below U.heap.size U w'):=HC;replace H:=jA H;clear h hT h0 hok hsm AV a1 AU BV y BU f4;go_in;go_wp2_with fail;refine HC.o.mono ?_;rintro e w1 ⟨rfl,B1⟩;obtain⟨V3,X,e4,e5,AX,BX,zX,f0,f1,f2,f3⟩:=xj w1 37 (.int .i64 0) (.int .i64 0) (.int .i64 0) (.int .i64 LF);have G:Hid (Below U.heap.size U X):=B1.trans (BX.mono B1.size);have x0:X.cell? ⟨w1.heap.size,0,none⟩=some (.int .i64 0):=AX.cell 0;obtain⟨k0,k1⟩:=(A0.o.kept G.o).c2;have b2:=jA (H.o X G.o);clear HC H B1 BX AX zX;go_wp2_with fail;clear e1 e2 e3 e4 e5 f0 f1 f2 f3 y0 y1;refine b2.o.mono ?_;rintro e w3 ⟨sl,he,ES,B3⟩;replace he:e=.returned (.agg #[.string (stg m.title),.int .i64 m.dots,.int .i64 m.blank,.int .i64 m.marked,.slice sl.po sl.pn sl.pc,.slice sl.co sl.cn sl.cc,.slice sl.so sl.sn sl.sc,.int .i64 m.scanners,.int .i64 m.batch,.bool m.rneg,.slice sl.uo sl.un sl.uc,.slice sl.dO sl.dn sl.dc,.int .i64 m.cell,.string (stg m.seed)]):=he;subst he;have J:Below U.heap.size U w3:=G.o.trans (B3.mono G.o.size);obtain⟨g9,h2,g3,h1,g2,f7,h6,h4,h5,g6,d9,e7,d6,X9,g1,g5,g0,h3,g7,f8,g8,f9,h7,g4,b8,b9,d8,e0,AX,GX,LX,q0,q1,q2,q3,q4,q5,q6,q7,q8,q9,j4,j5,k2,i9,k3,i1,j1,j3,j0,i6,i2,i3,i7,i0,h9,i8,j2,i4⟩:=kS (A1.o.kept J) (.string (stg m.title)) (.int .i64 m.dots) (.int .i64 m.blank) (.int .i64 m.marked) (.slice sl.po sl.pn sl.pc) (.slice sl.co sl.cn sl.cc) (.slice sl.so sl.sn sl.sc) (.int .i64 m.scanners) (.int .i64 m.batch) (.bool m.rneg) (.slice sl.uo sl.un sl.uc) (.slice sl.dO sl.dn sl.dc) (.int .i64 m.cell) (.string (stg m.seed));obtain⟨Y0,h8,b4,a4,b5,t0,t1⟩:=jd ((A2.o.kept J).other GX a2.o.symm) 0 (.int .i64 0) _ rfl;obtain⟨Y1,i5,b3,a3,b0,t2,t3⟩:=jd b4 1 (.int .i64 0) _ rfl;have AZ:=(AX.other a4 a2.o).other a3 a2.o;obtain⟨e6,d0,c8,d2,d7,c7,d5,e8,e9,d1,a6,a9,a8,b7⟩:=AZ.c14;obtain⟨f6,f5⟩:=b3.c2;have BZ:Hid (Below w.heap.size w Y1):=b0 _ _ (b5 _ _ (LX _ _ (HB.o.trans (J.mono HB.o.size)) a5.o) Z.o) Z.o;have b6:bb+1<X.heap.size:=Nat.lt_of_lt_of_le A1.o.lt G.o.size;have a0:bb+1+1<X.heap.size:=Nat.lt_of_lt_of_le A2.o.lt G.o.size;have EZ:Hid (ElcS qU Y1 m sl):=(((ES.keep (wC _) (gI GX b6)).keep (wC _) (gI a4 a0)).keep (wC _) (gI a3 a0)).mono kE;clear ES AX GX LX b4 a4 b5 b3 a3 b0 AZ B3 J b2 b6 a0;go_wp2_with fail;refine bodyPost_ret (v:=.tuple #[eV m sl,.agg #[.int .i64 0,.int .i64 0]]) (by simp[results,Tryz.results12,go_sem,eV,eC,e6,d0,c8,d2,d7,c7,d5,e8,e9,d1,a6,a9,a8,b7,f6,f5]) rfl ?_;exact⟨sl,rfl,EZ.o,by first|exact BZ.o|(rw[<- b1];exact BZ.o)⟩
theorem Arr.other2{Z:World}{g k:Nat}{t:TypeId}{cs:List Value}(h:Arr w g t cs)(hg:w.grownBy Z (some k))(hk:g≠k):Arr Z g t cs:=(hg.block g h.lt (λe=>hk (by injection e))).trans h
theorem YG(s:ke)(ao:Option Addr)(n c:Nat)(w:World)(h:BlkS qU w ao n c s.blks)(hsm:yM s)(h0:(jI s).1≠0)(hT:Tabs w) :
    Calls Tryz.prog 12 #[.agg #[.string (stg s.title),.slice ao n c]] w λe w'=>e=.returned (.tuple #[.agg #[.string ⟨#[]⟩,.int .i64 0,.int .i64 0,.int .i64 0,.slice none 0 0,.slice none 0 0,.slice none 0 0,.int .i64 0,.int .i64 0,.bool false,.slice none 0 0,.slice none 0 0,.int .i64 0,.string ⟨#[]⟩],.agg #[.int .i64 (((jI s).1:Nat):Int),.int .i64 (jI s).2]])/\Below w.heap.size w w':=by
 obtain⟨V,e1,AV,BV,hz⟩:=qG w 24 [.string (stg s.title),.slice ao n c];obtain⟨V2,e2,J,m,a4⟩:=qG V 34 [.string ⟨#[]⟩,.int .i64 0,.int .i64 0,.int .i64 0,.slice none 0 0,.slice none 0 0,.slice none 0 0,.int .i64 0,.int .i64 0,.bool false,.slice none 0 0,.slice none 0 0,.int .i64 0,.string ⟨#[]⟩];obtain⟨U,e3,AU,BU,e7⟩:=qG V2 37 [.int .i64 0,.int .i64 0];have HL:=jA (((h.below BV).below m).below BU);have HT:=jA (((hT.below BV).below m).below BU);have Z:=WP s ao n c U HL.o hsm HT.o;have qn:=jW (jI s).1 0 0 rfl;rw[decide_eq_false h0] at qn;obtain⟨LE,a1⟩:∃L,((((jI s).1:Nat):Int))=L:=⟨_,rfl⟩;rw[a1] at Z qn |-;have h8:(LE != 0)=true:=by unfold bne;rw[qn];rfl
 replace a1:=jA a1;obtain⟨LF,b8⟩:∃L,Hid ((jI s).2=L):=⟨_,rfl⟩;rw[b8.o] at Z |-;obtain⟨KT,d1⟩:∃K,Hid (stg s.title=K):=⟨_,rfl⟩;rw[d1.o] at e1 AV Z |-;obtain⟨bb,a9⟩:∃b,w.heap.size=b:=⟨_,rfl⟩;rw[a9] at AV hz;rw[hz] at J a4;rw[a4] at AU;have A0:=jA ((AV.kept m).kept BU);have A1:=jA (J.kept BU);have A2:=jA AU;have HB:Hid (Below w.heap.size w U):=(BV.trans (m.mono BV.size)).trans (BU.mono (Nat.le_trans BV.size m.size));have a2:Hid (w.heap.size<=bb+1):=by show _<=_;omega
 have H:Hid (w.heap.size<=bb+1+1):=by show _<=_;omega
 have a0:Hid (bb+1≠bb+1+1):=by show _≠_;omega
 obtain⟨y0,y1⟩:=A0.o.c2;replace Z:Hid (jC 27 #[.agg #[.string KT,.slice ao n c]] U λe w'=>e=.returned (.agg #[.int .i64 LE,.int .i64 LF])/\Below U.heap.size U w'):=Z;clear h hT h0 hsm AV J AU BV m BU e7;go_in;go_wp2_with fail;refine Z.o.mono ?_;rintro e w1 ⟨rfl,B1⟩;obtain⟨V3,X,e4,e5,AX,BX,zX,f0,f1,f2,f3⟩:=xj w1 37 (.int .i64 0) (.int .i64 0) (.int .i64 LE) (.int .i64 LF);have b1:Hid (Below U.heap.size U X):=B1.trans (BX.mono B1.size);have x0:X.cell? ⟨w1.heap.size,0,none⟩=some (.int .i64 LE):=AX.cell 0;obtain⟨W,hW⟩:=jx3 (X.drew);have HD:Below X.heap.size X W:=by rw[<- hW];exact(Below.refl _ _).drew
 have AW:=AX.kept HD;obtain⟨j0,j1⟩:=AW.c2;have y:Below U.heap.size U W:=b1.o.trans (HD.mono b1.o.size);have G:bb+1≠w1.heap.size:=by have h1:=B1.size;have h2:=A1.o.lt;omega
 obtain⟨g6,g8,g0,g7,f9,f4,h5,h3,h4,g3,d6,d9,d3,X9,f8,g2,f7,g9,g4,f5,g5,f6,h6,g1,b6,b7,d5,d7,AY,GY,LY,q0,q1,q2,q3,q4,q5,q6,q7,q8,q9,k2,k3,k4,i9,k5,i1,j5,k1,j4,i6,i2,i3,i7,i0,h9,i8,k0,i4⟩:=kS (A1.o.kept y) (.string ⟨#[]⟩) (.int .i64 0) (.int .i64 0) (.int .i64 0) (.slice none 0 0) (.slice none 0 0) (.slice none 0 0) (.int .i64 0) (.int .i64 0) (.bool false) (.slice none 0 0) (.slice none 0 0) (.int .i64 0) (.string ⟨#[]⟩);obtain⟨j2,j3⟩:=(AW.other2 GY G.symm).c2;obtain⟨Y0,h7,b3,b0,b4,t0,t1⟩:=jd ((A2.o.kept y).other2 GY a0.o.symm) 0 (.int .i64 LE) _ rfl;obtain⟨Y1,i5,b2,a7,a8,t2,t3⟩:=jd b3 1 (.int .i64 LF) _ rfl;have AZ:=(AY.other2 b0 a0.o).other2 a7 a0.o;obtain⟨d8,c7,c6,d0,d4,b9,d2,e0,e6,c8,a3,a6,a5,b5⟩:=AZ.c14;obtain⟨e9,e8⟩:=b2.c2;have BZ:Hid (Below w.heap.size w Y1):=a8 _ _ (b4 _ _ (LY _ _ (HB.o.trans (y.mono HB.o.size)) a2.o) H.o) H.o;clear Z B1 BX AX zX AY GY LY b3 b0 b4 b2 a7 a8 AZ HD AW y G;go_wp2_with fail;go_region
 go_wp2_with fail;refine bodyPost_ret (v:=.tuple #[.agg #[.string ⟨#[]⟩,.int .i64 0,.int .i64 0,.int .i64 0,.slice none 0 0,.slice none 0 0,.slice none 0 0,.int .i64 0,.int .i64 0,.bool false,.slice none 0 0,.slice none 0 0,.int .i64 0,.string ⟨#[]⟩],.agg #[.int .i64 LE,.int .i64 LF]]) (by simp[results,Tryz.results12,go_sem,d8,c7,c6,d0,d4,b9,d2,e0,e6,c8,a3,a6,a5,b5,e9,e8]) rfl ?_;exact⟨rfl,by first|exact BZ.o|(rw[<- a9];exact BZ.o)⟩
theorem P4{s:ke}(h:(jI s).1=0)(hsm:yM s)(hv:∀b∈s.blks,∀f∈b.flds,f.vals.length<=4000000):∀b∈s.blks,OkB b:=by
 intro b G;obtain⟨y,J⟩:=uU h b G;have len:∀k,(qt b k).vals.length<=4000000:=by
  intro k;rcases WX b k with e|⟨e,_⟩
  . rw[e];exact Nat.zero_le _
  . exact hv b G _ e
 refine⟨λm=>⟨kI (r:=⟨zT,yW,0,2,7⟩) y (by rw[m];rfl) rfl,kI (r:=⟨zT,jo,0,1,100⟩) y (by rw[m];rfl) rfl,kI (r:=⟨zT,jT,0,1,100⟩) y (by rw[m];rfl) rfl⟩,
   λm=>⟨kI (r:=⟨qe,xu,0,1,6⟩) y (by rw[m];rfl) rfl,kI (r:=⟨qe,vI,0,1,16⟩) y (by rw[m];rfl) rfl⟩,
   λm=>⟨⟨kI (r:=⟨qF,zO,0,1,5⟩) y (by rw[m];rfl) rfl,kI (r:=⟨qF,kp,0,1,7⟩) y (by rw[m];rfl) rfl,kI (r:=⟨qF,qY,0,1,6⟩) y (by rw[m];rfl) rfl⟩,len _⟩,
   λ_=>⟨len _,len _⟩,
   λm=>⟨(Zz y J m).1,?_⟩,
   λm=>kI (r:=⟨qy,yg,0,1,400⟩) y (by rw[m];rfl) rfl⟩
 rcases WX b jN with e|⟨e1,e2⟩
 . rw[uy,e];exact Nat.zero_le _
 . rw[uy];cases H:(qt b jN).vals[0]? with
   | none=>exact Nat.zero_le _
   | some v=>exact hsm.short b G _ e1 ⟨ql,jN,3,0,0⟩ (by rw[m,e2];rfl) v (List.mem_of_getElem? H) (Or.inr rfl)
theorem Qc(s:ke)(ao:Option Addr)(n c:Nat)(w:World)(h:BlkS qU w ao n c s.blks)(hsm:yM s)(hv:∀b∈s.blks,∀f∈b.flds,f.vals.length<=4000000)(hT:Tabs w) :
    Calls Tryz.prog 12 #[.agg #[.string (stg s.title),.slice ao n c]] w λe w'=>∃sl,e=.returned (.tuple #[eV (jM s).2 sl,.agg #[.int .i64 (((jM s).1.1:Nat):Int),.int .i64 (jM s).1.2]])/\ElcS qU w' (jM s).2 sl/\Below w.heap.size w w':=by
 by_cases m:(jI s).1=0
 . (have e:jM s=((0,0),kN s):=by unfold jM;rw[if_neg (by omega)]);rw[e];have:=Uc s ao n c w h hsm m (P4 m hsm hv) hT;rw[Fi m] at this;exact this
 . (have e:jM s=(jI s,Yf):=by unfold jM;rw[if_pos m]);rw[e];(refine(YG s ao n c w h hsm m hT).mono λe w' ⟨h1,h2⟩=>⟨⟨none,0,0,none,0,0,none,0,0,none,0,0,none,0,0⟩,h1,?_,h2⟩);exact⟨Row.nil _ _ _,⟨[],Row.nil _ _ _,rfl⟩,⟨[],Row.nil _ _ _,rfl⟩,Row.nil _ _ _,Row.nil _ _ _⟩
namespace Lx
theorem YH{f:zC}(h:∀v∈f.vals,v.length<=1000000):yv kd f:=λ_ _ v hv _=>h v hv
theorem km{f:zC}{r:jj}(h:zi kd f.key=some r)(h0:r.form≠0)(h3:r.form≠3):yv kd f:=by
 intro H m v G y;rw[h] at m;injection m with m;subst m;rcases y with e|e
 . exact absurd e h0
 . exact absurd e h3
theorem Ud{n:Int}(h : -9223372036854775808<=n/\n<=9223372036854775807):(Lib.itoa n).length<=1000000:=Nat.le_trans (Lib.itoa_length_le n h.1 h.2) (by decide)
theorem vG{n:Int}(h:I64 n):yv kd (fN k n):=YH λv hv=>by
 have:v=Lib.itoa n:=by simpa[fN,Lx.dsV] using hv
 subst this;exact Ud h
theorem vW(k:List UInt8)(a b:List qK):qH k (a++b)=qH k a++qH k b:=by unfold qH;rw[List.filter_append]
theorem Qw{l:List qK}(h:∀b∈l,b.kind≠k):qH k l=[]:=by
 unfold qH;rw[List.filter_eq_nil_iff];intro b m e;exact h b m (of_decide_eq_true e)
theorem Ue{l:List qK}(h:∀b∈l,b.kind=k):qH k l=l:=by
 unfold qH;rw[List.filter_eq_self];intro b m;exact decide_eq_true (h b m)
theorem JN(e:Elc)(h:qF≠k):qH k (e.conts.map uj)=[]:=Qw λb hb=>by
 obtain⟨x,_,rfl⟩:=List.mem_map.1 hb;exact h
theorem Hc(e:Elc)(P C:List (List UInt8))(h:qI≠k):qH k (e.stys.map (wH P C))=[]:=Qw λb hb=>by
 obtain⟨x,_,rfl⟩:=List.mem_map.1 hb;exact h
theorem Hd(e:Elc)(R:List UInt8):zF (jb e R).blks=e.precs:=by
 unfold zF jb;simp only;rw[vW,vW,vW,JN e (by decide),Hc e _ _ (by decide),List.append_nil,List.append_nil];show(qH qB (vi e)++qH qB (gm e R)).flatMap _=_;have y:qH qB (vi e)=[⟨qB,[],[⟨zy,e.precs,0⟩],0⟩]:=by
  rfl
 have m:qH qB (gm e R)=[]:=by
  rfl
 rw[y,m,List.append_nil];show qN _ zy++[]=e.precs;rw[List.append_nil];rfl
theorem CQ(e:Elc)(R:List UInt8):qH qI (jb e R).blks=e.stys.map (wH e.precs (kR e)):=by
 unfold jb;simp only;rw[vW,vW,vW,JN e (by decide)];have m:qH qI (vi e)=[]:=by
  rfl
 have y:qH qI (gm e R)=[]:=by
  rfl
 rw[m,y,List.append_nil,List.append_nil,List.nil_append];exact Ue λb G=>by
  obtain⟨x,_,rfl⟩:=List.mem_map.1 G;rfl
end Lx
structure LC (e:Elc):Prop where
 rows:e.conts.length+e.stys.length<=1900000
 used:(e.stys.map λx=>x.precs.length).sum<=4000000
theorem YI{b:qK}(h:b∈(jb e R).blks):b∈vi e\/(∃x∈e.conts,b=uj x)\/(∃x∈e.stys,b=wH e.precs (kR e) x)\/b∈gm e R:=by
 unfold jb at h;simp only[List.mem_append,List.mem_map] at h;rcases h with ((h|⟨x,hx,rfl⟩)|⟨x,hx,rfl⟩)|h
 . exact Or.inl h
 . exact Or.inr (Or.inl ⟨x,hx,rfl⟩)
 . exact Or.inr (Or.inr (Or.inl ⟨x,hx,rfl⟩))
 . exact Or.inr (Or.inr (Or.inr h))
theorem Uf(h:Ni e s)(k:LC e)(hR:R.length<=1000000):yM (jb e R):=by
 obtain⟨n1,n2,n3,J,V,Z⟩:=h.nums;refine⟨?_,λb G f y=>?_,by rw[Hd];exact h.precs,?_⟩
 . have:=k.rows;unfold jb vi gm;simp only[List.length_append,List.length_map,List.length_cons,List.length_nil];omega
 . rcases YI G with G|⟨x,hx,rfl⟩|⟨x,hx,rfl⟩|G
   . unfold vi at G;simp only[List.mem_cons,List.not_mem_nil,or_false] at G;rcases G with rfl|rfl|rfl
     . simp only[List.mem_cons,List.not_mem_nil,or_false] at y;rcases y with rfl|rfl|rfl
       . exact vG n1
       . exact vG n2
       . exact vG n3
     . simp only[List.mem_cons,List.not_mem_nil,or_false] at y;rcases y with rfl|rfl
       . exact vG J
       . exact vG V
     . simp only[List.mem_cons,List.not_mem_nil,or_false] at y;subst y;exact km (r:=⟨qB,zy,2,1,12⟩) rfl (by decide) (by decide)
   . obtain⟨c1,c2,c3,c4⟩:=h.cst x hx;have m:f∈yN x:=y;unfold yN at m;simp only[List.mem_append,List.mem_cons,List.not_mem_nil,or_false] at m;rcases m with ((rfl|rfl|rfl)|m)|rfl|rfl|rfl|rfl
     . exact km (r:=⟨qF,zG,1,0,0⟩) rfl (by decide) (by decide)
     . exact vG c2
     . exact vG c3
     . by_cases H:x.method=2
       . rw[if_pos H] at m;simp only[List.mem_cons,List.not_mem_nil,or_false] at m;subst m;exact vG c4
       . rw[if_neg H] at m;cases m
     . exact km (r:=⟨qF,xO,1,0,0⟩) rfl (by decide) (by decide)
     . exact km (r:=⟨qF,zj,1,0,0⟩) rfl (by decide) (by decide)
     . exact km (r:=⟨qF,kX,1,0,0⟩) rfl (by decide) (by decide)
     . exact km (r:=⟨qF,zm,2,1,7⟩) rfl (by decide) (by decide)
   . have m:f∈[(⟨qB,xv e.precs x.precs,0⟩:zC),⟨qO,xv (kR e) x.conts,0⟩]:=y;simp only[List.mem_cons,List.not_mem_nil,or_false] at m;rcases m with rfl|rfl
     . exact km (r:=⟨qI,qB,2,1,12⟩) rfl (by decide) (by decide)
     . exact km (r:=⟨qI,qO,2,1,4⟩) rfl (by decide) (by decide)
   . unfold gm at G;simp only[List.mem_cons,List.not_mem_nil,or_false] at G;rcases G with rfl|rfl
     . simp only[List.mem_cons,List.not_mem_nil,or_false] at y;rcases y with rfl|rfl
       . (refine YH λv hv=>?_);(have:v=R:=by simpa[Lx.dsV] using hv);subst this;exact hR
       . exact km (r:=⟨ql,yX,4,0,0⟩) rfl (by decide) (by decide)
     . simp only[List.mem_cons,List.not_mem_nil,or_false] at y;subst y;exact vG Z
 . rw[CQ,List.flatMap_map];have e1:(λx=>(qt (wH e.precs (kR e) x) qB).vals)=λx:Sty=>xv e.precs x.precs:=by
    funext x;rfl
   rw[e1,List.length_flatMap];(have e2:(λx:Sty=>(xv e.precs x.precs).length)=λx=>x.precs.length:=by funext x;simp[xv]);rw[e2];exact k.used
theorem He(h:Ni e s):∀b∈(jb e R).blks,∀f∈b.flds,f.vals.length<=4000000:=by
 intro b G f y;rcases YI G with G|⟨x,hx,rfl⟩|⟨x,hx,rfl⟩|G
 . unfold vi at G;simp only[List.mem_cons,List.not_mem_nil,or_false] at G;rcases G with rfl|rfl|rfl
   . simp only[List.mem_cons,List.not_mem_nil,or_false] at y;rcases y with rfl|rfl|rfl<;>exact(by decide:1<=4000000)
   . simp only[List.mem_cons,List.not_mem_nil,or_false] at y;rcases y with rfl|rfl<;>exact(by decide:1<=4000000)
   . simp only[List.mem_cons,List.not_mem_nil,or_false] at y;subst y;exact h.precs
 . have m:f∈yN x:=y;unfold yN at m;simp only[List.mem_append,List.mem_cons,List.not_mem_nil,or_false] at m;rcases m with ((rfl|rfl|rfl)|m)|rfl|rfl|rfl|rfl
   . exact(by decide:1<=4000000)
   . exact(by decide:1<=4000000)
   . exact(by decide:1<=4000000)
   . by_cases H:x.method=2
     . rw[if_pos H] at m;simp only[List.mem_cons,List.not_mem_nil,or_false] at m;subst m;exact(by decide:1<=4000000)
     . rw[if_neg H] at m;cases m
   . exact(by decide:1<=4000000)
   . exact(by decide:1<=4000000)
   . exact(by decide:1<=4000000)
   . exact(h.cst x hx).1
 . have m:f∈[(⟨qB,xv e.precs x.precs,0⟩:zC),⟨qO,xv (kR e) x.conts,0⟩]:=y;simp only[List.mem_cons,List.not_mem_nil,or_false] at m;rcases m with rfl|rfl
   . show(xv e.precs x.precs).length<=_;unfold xv;rw[List.length_map];exact(h.sty x hx).1
   . show(xv (kR e) x.conts).length<=_;unfold xv;rw[List.length_map];exact(h.sty x hx).2
 . unfold gm at G;simp only[List.mem_cons,List.not_mem_nil,or_false] at G;rcases G with rfl|rfl
   . simp only[List.mem_cons,List.not_mem_nil,or_false] at y;rcases y with rfl|rfl<;>exact(by decide:1<=4000000)
   . simp only[List.mem_cons,List.not_mem_nil,or_false] at y;subst y;exact(by decide:1<=4000000)
theorem Hf{s:ke}(h:(jI s).1=0):(∀z∈(kN s).rnum,0<=z/\z<=4294967295)/\(∀z∈(kN s).rden,0<=z/\z<=4294967295)/\(kN s).rnum.length=1/\(kN s).rden.length=1:=by
 have V:=yO (yf h).2.2.1 (r:=⟨ql,1,false⟩) (by simp[zr]);obtain⟨y,Z⟩:=yx V;obtain⟨h3,H⟩:=uU h _ y;obtain⟨G,J⟩:=gS (Q3 (Zz h3 H Z).2);have lA:=uh G;have lD:=uh J;refine⟨λz m=>?_,λz m=>?_,rfl,rfl⟩
 . (have e1:z=(((Uy (zz (ku (qV (zJ ql s.blks) jN))) (zz (kY (qV (zJ ql s.blks) jN)))).1:Nat):Int):=by simpa[kN,J1] using m);have:(Uy (zz (ku (qV (zJ ql s.blks) jN))) (zz (kY (qV (zJ ql s.blks) jN)))).1<=999999:=Nat.le_trans (Nat.div_le_self _ _) lA;omega
 . (have e1:z=(((Uy (zz (ku (qV (zJ ql s.blks) jN))) (zz (kY (qV (zJ ql s.blks) jN)))).2:Nat):Int):=by simpa[kN,J2] using m);have:(Uy (zz (ku (qV (zJ ql s.blks) jN))) (zz (kY (qV (zJ ql s.blks) jN)))).2<=999999:=Nat.le_trans (Nat.div_le_self _ _) lD;omega
theorem gM{s:ke}{sl:ESl}(h:ElcS qU w (jM s).2 sl):ul (jM s).2 sl:=by
 have G:=IntL.len h.num;have y:=IntL.len h.den;by_cases H:(jI s).1=0
 . (have e:(jM s).2=kN s:=by unfold jM;rw[if_neg (by omega)]);rw[e] at G y |-;obtain⟨a,b,c,d⟩:=Hf H;exact⟨a,b,by omega,by omega⟩
 . (have e:(jM s).2=Yf:=by unfold jM;rw[if_pos H]);rw[e] at G y |-;have J:0=sl.un:=G;have V:0=sl.dn:=y;exact⟨λz m=>(by cases m),λz m=>(by cases m),by omega,by omega⟩
theorem Ug(h1:e.rnum.length=1)(h2:e.rden.length=1)(hx:∀z∈e.rnum,0<=z/\z<=4294967295)(hy:∀z∈e.rden,0<=z/\z<=4294967295):(jr e).length<=1000000:=by
 unfold jr;rw[zR];have G:Q.NatMath.val e.rnum<4294967296 ^ e.rnum.length:=Q.NatMath.xI hx;have H:Q.NatMath.val e.rden<4294967296 ^ e.rden.length:=Q.NatMath.xI hy;rw[h1] at G;rw[h2] at H;have m:(Q.RatMath.nf ⟨e.rneg,Q.NatMath.val e.rnum,Q.NatMath.val e.rden⟩).p<2 ^ 160/\(Q.RatMath.nf ⟨e.rneg,Q.NatMath.val e.rnum,Q.NatMath.val e.rden⟩).q<2 ^ 160:=by
  unfold Q.RatMath.nf;split
  . exact⟨by decide,by decide⟩
  . have d1:=Nat.div_le_self (Q.NatMath.val e.rnum) (Nat.gcd (Q.NatMath.val e.rnum) (Q.NatMath.val e.rden));have J:=Nat.div_le_self (Q.NatMath.val e.rden) (Nat.gcd (Q.NatMath.val e.rnum) (Q.NatMath.val e.rden));(have y:(4294967296:Nat) ^ 1<=2 ^ 160:=by decide);exact⟨Nat.lt_of_le_of_lt d1 (Nat.lt_of_lt_of_le G y),Nat.lt_of_le_of_lt J (Nat.lt_of_lt_of_le H y)⟩
 generalize Q.RatMath.nf ⟨e.rneg,Q.NatMath.val e.rnum,Q.NatMath.val e.rden⟩=z at m |-
 have s1:=Q.ZT m.1;have s2:=Q.ZT m.2;have Z:(⟨#[45]⟩:ByteArray).size=1:=rfl;have V:(⟨#[47]⟩:ByteArray).size=1:=rfl;unfold Q.tx;split<;>split<;>first|(simp only[ByteArray.size_append,Z,V];omega)|omega
namespace Lx
def eqE(x y:Elc):Bool:=decide (x.title=y.title)&&decide (x.dots=y.dots)&&decide (x.blank=y.blank)&&decide (x.marked=y.marked)&&decide (x.precs=y.precs)&&JK x.conts y.conts&&JL x.stys y.stys&&decide (x.scanners=y.scanners)&&decide (x.batch=y.batch)&&decide (x.cell=y.cell)&&decide (x.seed=y.seed)&&decide (Q.RatMath.cmp ⟨x.rneg,Q.NatMath.val x.rnum,Q.NatMath.val x.rden⟩ ⟨y.rneg,Q.NatMath.val y.rnum,Q.NatMath.val y.rden⟩=0)
end Lx
theorem CR(B0 B1 B2 B3 B4 B5 B6 B7 B8 B9 B10 B11:Bool)(x0 x13 y0 y13:ByteArray)(x1 x2 x3 x7 x8 x12 y1 y2 y3 y7 y8 y12:Int)(x9 y9:Bool)(xo4 xo5 xo6 xo10 xo11 yo4 yo5 yo6 yo10 yo11:Option Addr)(xn4 xc4 xn5 xc5 xn6 xc6 xn10 xc10 xn11 xc11 yn4 yc4 yn5 yc5 yn6 yc6 yn10 yc10 yn11 yc11:Nat)(w:World)
    (t0:(x0.toList == y0.toList)=B0) (t1:(x1 == y1)=B1) (t2:(x2 == y2)=B2) (t3:(x3 == y3)=B3)
    (H4:Hid (∀W,Below w.heap.size w W->Calls Tryz.prog 49 #[.slice xo4 xn4 xc4,.slice yo4 yn4 yc4] W λe w'=>e=.returned (.bool B4)/\Below W.heap.size W w'))
    (H5:Hid (∀W,Below w.heap.size w W->Calls Tryz.prog 50 #[.slice xo5 xn5 xc5,.slice yo5 yn5 yc5,.func (.func 51) #[] #[]] W λe w'=>e=.returned (.bool B5)/\Below W.heap.size W w'))
    (H6:Hid (∀W,Below w.heap.size w W->Calls Tryz.prog 52 #[.slice xo6 xn6 xc6,.slice yo6 yn6 yc6,.func (.func 53) #[] #[]] W λe w'=>e=.returned (.bool B6)/\Below W.heap.size W w')) (t7:(x7 == y7)=B7) (t8:(x8 == y8)=B8) (t9:(x12 == y12)=B9)
    (t10:(x13.toList == y13.toList)=B10)
    (CM:Int) (t11:(CM == 0)=B11) (H11:Hid (∀W,Below w.heap.size w W->Calls Tryz.prog 54 #[.agg #[.bool x9,.slice xo10 xn10 xc10,.slice xo11 xn11 xc11],.agg #[.bool y9,.slice yo10 yn10 yc10,.slice yo11 yn11 yc11]] W λe w'=>e=.returned (.int .i64 CM)/\Below W.heap.size W w')) :
    Calls Tryz.prog 23 #[.agg #[.string x0,.int .i64 x1,.int .i64 x2,.int .i64 x3,.slice xo4 xn4 xc4,.slice xo5 xn5 xc5,.slice xo6 xn6 xc6,.int .i64 x7,.int .i64 x8,.bool x9,.slice xo10 xn10 xc10,.slice xo11 xn11 xc11,.int .i64 x12,.string x13],.agg #[.string y0,.int .i64 y1,.int .i64 y2,.int .i64 y3,.slice yo4 yn4 yc4,.slice yo5 yn5 yc5,.slice yo6 yn6 yc6,.int .i64 y7,.int .i64 y8,.bool y9,.slice yo10 yn10 yc10,.slice yo11 yn11 yc11,.int .i64 y12,.string y13]] w λe w'=>e=.returned (.bool (B0&&B1&&B2&&B3&&B4&&B5&&B6&&B7&&B8&&B9&&B10&&B11))/\Below w.heap.size w w':=by
 obtain⟨V,e1,AV,BV,hz⟩:=qG w 34 [.string x0,.int .i64 x1,.int .i64 x2,.int .i64 x3,.slice xo4 xn4 xc4,.slice xo5 xn5 xc5,.slice xo6 xn6 xc6,.int .i64 x7,.int .i64 x8,.bool x9,.slice xo10 xn10 xc10,.slice xo11 xn11 xc11,.int .i64 x12,.string x13];obtain⟨U,e2,AU,BU,c8⟩:=qG V 34 [.string y0,.int .i64 y1,.int .i64 y2,.int .i64 y3,.slice yo4 yn4 yc4,.slice yo5 yn5 yc5,.slice yo6 yn6 yc6,.int .i64 y7,.int .i64 y8,.bool y9,.slice yo10 yn10 yc10,.slice yo11 yn11 yc11,.int .i64 y12,.string y13];have A0:=AV.kept BU;obtain⟨u0,u1,u2,u3,u4,u5,u6,u7,u8,u9,b7,d7,b5,d8⟩:=A0.c14;obtain⟨v0,v1,v2,v3,v4,v5,v6,v7,v8,v9,d4,c7,d0,d3⟩:=AU.c14;have HB:Hid (Below w.heap.size w U):=BV.trans (BU.mono BV.size);clear A0 AV AU BV BU hz c8;go_in;iterate 13 all_goals
   (try (first|cases ‹B0=true› | cases ‹B1=true› | cases ‹B2=true› | cases ‹B3=true› | cases ‹B4=true› | cases ‹B5=true› | cases ‹B6=true› | cases ‹B7=true› | cases ‹B8=true› | cases ‹B9=true› | cases ‹B10=true› | cases ‹B11=true›)
    go_wp2_with (first
     | (go_at_call 49;(with_reducible refine(H4.o U HB.o).mono ?_);rintro e w0 ⟨rfl,m⟩;have f7:=qA u5 m;have g0:=qA v5 m;have e3:=qA u6 m;have c6:=qA v6 m;have b3:=qA u7 m;have d9:=qA v7 m;have b4:=qA u8 m;have d2:=qA v8 m;have J:=qA b5 m;have a4:=qA d0 m;have b0:=qA d8 m;have a3:=qA d3 m;have b8:=qA u9 m;have b6:=qA v9 m;have a9:=qA b7 m;have Z:=qA d4 m;have H:=qA d7 m;have a5:=qA c7 m;have C0:=jA (HB.o.trans (m.mono HB.o.size)))
     | (go_at_call 50;(with_reducible refine(H5.o w0 C0.o).mono ?_);rintro e w1 ⟨rfl,y⟩;have f8:=qA e3 y;have f4:=qA c6 y;have b9:=qA b3 y;have d6:=qA d9 y;have d5:=qA b4 y;have e0:=qA d2 y;have a1:=qA J y;have a8:=qA a4 y;have a0:=qA b0 y;have b1:=qA a3 y;have e4:=qA b8 y;have d1:=qA b6 y;have a7:=qA a9 y;have b2:=qA Z y;have a2:=qA H y;have a6:=qA a5 y;have C1:=jA (C0.o.trans (y.mono C0.o.size)))
     | (go_at_call 52;(with_reducible refine(H6.o w1 C1.o).mono ?_);rintro e w2 ⟨rfl,G⟩;have g2:=qA b9 G;have f6:=qA d6 G;have f9:=qA d5 G;have g1:=qA e0 G;have e5:=qA a1 G;have e6:=qA a8 G;have e9:=qA a0 G;have f2:=qA b1 G;have f5:=qA e4 G;have f3:=qA d1 G;have f0:=qA a7 G;have e8:=qA b2 G;have f1:=qA a2 G;have e7:=qA a6 G;have C2:=jA (C1.o.trans (G.mono C1.o.size)))
     | (go_at_call 54;(with_reducible refine(H11.o w2 C2.o).mono ?_);rintro e w3 ⟨rfl,D3⟩;have C3:=jA (C2.o.trans (D3.mono C2.o.size)))
     | fail))
 all_goals
   go_ret;refine⟨?_,by first|exact C3.o|exact C2.o|exact C1.o|exact C0.o|exact HB.o⟩
   first
     | rfl
     | (obtain rfl:=eq_false_of_ne_true ‹¬B0=true›;rfl)
     | (obtain rfl:=eq_false_of_ne_true ‹¬B1=true›;rfl)
     | (obtain rfl:=eq_false_of_ne_true ‹¬B2=true›;rfl)
     | (obtain rfl:=eq_false_of_ne_true ‹¬B3=true›;rfl)
     | (obtain rfl:=eq_false_of_ne_true ‹¬B4=true›;rfl)
     | (obtain rfl:=eq_false_of_ne_true ‹¬B5=true›;rfl)
     | (obtain rfl:=eq_false_of_ne_true ‹¬B6=true›;rfl)
     | (obtain rfl:=eq_false_of_ne_true ‹¬B7=true›;rfl)
     | (obtain rfl:=eq_false_of_ne_true ‹¬B8=true›;rfl)
     | (obtain rfl:=eq_false_of_ne_true ‹¬B9=true›;rfl)
     | (obtain rfl:=eq_false_of_ne_true ‹¬B10=true›;rfl)
     | (obtain rfl:=eq_false_of_ne_true ‹¬B11=true›;rfl)
theorem ZS(x y:Elc)(sx sy:ESl)(w:World)(h:ElcS qU w x sx)(k:ElcS qU w y sy)(hx:ul x sx)(hy:ul y sy) :
    Calls Tryz.prog 23 #[eV x sx,eV y sy] w λe w'=>e=.returned (.bool (eqE x y))/\Below w.heap.size w w' :=
 CR _ _ _ _ _ _ _ _ _ _ _ _ _ _ _ _ _ _ _ _ _ _ _ _ _ _ _ _ _ _ _ _ _ _ _ _ _ _ _ _ _ _ _ _ _ _ _ _ _ _ _ _ _ _ _ _ _ _ _ _ w (kq x.title y.title) rfl rfl rfl
   (λW hb=>Fb x.precs y.precs _ _ _ _ _ _ W (Row.keep h.precs qJ (qD _ hb)) (Row.keep k.precs qJ (qD _ hb))) (λW hb=>PY x.conts y.conts _ _ _ _ _ _ W (h.conts.keep qJ (qD _ hb)) (k.conts.keep qJ (qD _ hb))) (λW hb=>PZ x.stys y.stys _ _ _ _ _ _ W (h.stys.keep qJ (qD _ hb)) (k.stys.keep qJ (qD _ hb)))
   rfl rfl rfl (kq x.seed y.seed) (Q.RatMath.cmp ⟨x.rneg,Q.NatMath.val x.rnum,Q.NatMath.val x.rden⟩ ⟨y.rneg,Q.NatMath.val y.rnum,Q.NatMath.val y.rden⟩) rfl
   (λW hb=>Q.Ds x.rneg y.rneg _ _ _ _ _ _ _ _ _ _ _ _ 400000 x.rnum x.rden y.rnum y.rden W (um (Row.keep h.num qJ (qD _ hb)) hx.num) (um (Row.keep h.den qJ (qD _ hb)) hx.den) (um (Row.keep k.num qJ (qD _ hb)) hy.num) (um (Row.keep k.den qJ (qD _ hb)) hy.den) hx.n hx.d hy.n hy.d (Nat.le_refl _))
