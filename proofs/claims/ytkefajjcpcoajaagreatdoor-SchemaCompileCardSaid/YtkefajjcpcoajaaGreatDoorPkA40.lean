/- -/
import Derived.Test.YtkefajjcpcoajaaGreatDoorPkA0
import Derived.Test.YtkefajjcpcoajaaGreatDoorPkA3
import Derived.Test.YtkefajjcpcoajaaGreatDoorPkA4
import Derived.Test.YtkefajjcpcoajaaGreatDoorPkA5
import Derived.Test.YtkefajjcpcoajaaGreatDoorPkA39
set_option linter.all false
set_option maxRecDepth 100000
set_option maxHeartbeats 6400000
namespace Go.Proofs.YtkefajjcpcoajaaGreatDoor
open Go.RowKit Lx
namespace Lx
def Hq(s:ByteArray):Option Res:=if s.size > 20000 then none else some (jz (bys s) 1)
def LD:Value->Nat
  | .string x=>x.size
  | _=>0
theorem Res.app_snoc(ts:List Tok)(t:Tok)(r:Res):Res.app ts (r.cons t)=Res.app (ts++[t]) r:=by cases r<;>simp[Res.app,Res.cons]
end Lx
theorem LG(s:ByteArray)(w:World)(hs:s.size<=1000000) :
    Calls Tryz.prog 38 #[.string s] w λe w'=>AllOut w.heap.size (Hq s) w' e/\Below w.heap.size w w':=by
 obtain⟨R,hR⟩:=jx1 (jz (bys s) 1);obtain⟨V,hV⟩:=jx2 (w.alloc (.cells #[.int .i64 0,.int .i64 0] 37));have AV:Hid (Arr V w.heap.size 37 [.int .i64 0,.int .i64 0]):=by show Arr _ _ _ _;rw[hV.o];exact Arr.new w _ _
 have BV:Hid (Below w.heap.size w V):=by show Below _ _ _;rw[hV.o];exact(Below.refl _ _).alloc (Nat.le_refl _) _
 have zV:Hid (V.heap.size=w.heap.size+1):=by show _=_;rw[hV.o];simp
 by_cases a1:s.size > 20000
 . (have a9:(s.size:Int) > 20000:=by omega);have hA:Hid (Arr (w.alloc (.cells #[.int .i64 7,.int .i64 0] 37)) w.heap.size 37 [.int .i64 7,.int .i64 0]):=Arr.new w _ _;have hB:Hid (Below w.heap.size w (w.alloc (.cells #[.int .i64 7,.int .i64 0] 37))):=(Below.refl _ _).alloc (Nat.le_refl _) _;have a0:Hid (Hq s=none):=if_pos a1;go_in;go_wp2_with fail;obtain⟨r0,r1⟩:=hA.o.c2;refine bodyPost_ret (v:=.tuple #[.slice none 0 0,.agg #[.int .i64 7,.int .i64 0]]) (by simp[results,Tryz.results38,go_sem,r0,r1]) rfl ?_;exact⟨⟨none,0,0,7,0,rfl,by rw[a0.o];exact⟨rfl,rfl,rfl,rfl,rfl⟩⟩,hB.o⟩
 . (have a9:¬ (s.size:Int) > 20000:=by omega);(have a0:Hid (Hq s=some R):=by show _=_;rw[<- hR.o];exact if_neg a1);(have e9:s.size<=20000:=by omega);clear a1;go_in;go_wp2_with fail;rw[<- hV.o];(go_loopw [4,5,6] (λv lv rv wr=>∃ (a:Option Addr) (n c L:Nat) (S:ByteArray) (ts:List Tok),v=.slice a n c/\lv=.int .i64 (L:Int)/\rv=.string S/\n+S.size<=s.size/\L+S.size<=s.size+1/\TokOwn (w.heap.size+1) wr a n c ts/\Arr wr w.heap.size 37 [.int .i64 0,.int .i64 0]/\Hid (R=Res.app ts (jz (bys S) L))/\Below w.heap.size w wr/\w.heap.size+1<=wr.heap.size) (λ_ _ rv _=>LD rv));(case atStart=>exact⟨none,0,0,1,s,[],rfl,rfl,rfl,by omega,by omega,TokOwn.nil _ _,AV.o,by show _=_;rw[hR.o,Res.app_nil],BV.o,by rw[zV.o];exact Nat.le_refl _⟩);case round =>
    clear AV BV zV;obtain⟨a,n,c,L,S,ts,rfl,rfl,rfl,hn,hL,O,A,hI,B,zB⟩:=hrel;have HO:=jA O;have HA:=jA A;have HB:=jA B;(have e1:S.size<=1000000:=by omega);have HK:=Jp S wr e1;obtain⟨k,hk⟩:=jx1 (blN false (bys S));have d9:=Xu (bys S) false;rw[hk.o,zR] at d9;rw[hk.o] at HK;have HK:=jA HK;have HC:=NK (S.extract 0 k) wr;rw[wV] at HC;obtain⟨m,hm⟩:=jx1 (nlN ((bys S).take k));have b1:=PK ((bys S).take k);rw[List.length_take,zR] at b1;rw[hm.o] at HC b1;have HC:=jA HC;obtain⟨y,d0⟩:=jx1 (S.extract k S.size);have a6:=d0.o;(have e7:y.size+k=S.size:=by rw[<- a6,ByteArray.size_extract];omega);(have a7:Hid (bys y=(bys S).drop k):=by show _=_;rw[<- a6];exact gd S k);have hJ:Hid (R=Res.app ts (jz (bys y) (L+m))):=by
     show _=_;rw[hI.o,Gq (bys S) L,hk.o,hm.o,a7.o]
    (have c1:(0:Int)<=(k:Int):=by omega);(have c2:(k:Int)<=(S.size:Int):=by omega);(have c5:IntKind.i64.wrap ((L:Int)+(m:Int))=((L+m:Nat):Int):=by rw[IntWalk.i64_in _ (by omega)];omega);obtain⟨G,d6⟩:=jx1 (L+m);have b0:=d6.o;rw[b0] at c5 hJ;(have e3:G+y.size<=s.size+1:=by omega);clear hI O A B;by_cases h0:y.size=0
    . have e0:y=⟨#[]⟩:=yt h0;(have t0:y.toList=[]:=by rw[xH,e0];rfl);(have hN:Hid (R=.ok ts G):=by show _=_;rw[hJ.o,Dw h0,ur];simp[Res.app]);clear h0 e0 hJ;go_wp2_with fail;refine HK.o.mono ?_;rintro e w' ⟨rfl,rfl⟩;go_wp2_with fail;refine HC.o.mono ?_;rintro e w' ⟨rfl,rfl⟩;go_wp2_with (at_builtin;refine Qv (t:=⟨5,[],G⟩) (B:=w.heap.size+1) HO.o zB (by omega) rfl rfl rfl rfl rfl ?_);intro a2 d2 w2 O2 b2;have A2:=HA.o.below b2 (Nat.lt_succ_self _);obtain⟨r0,r1,r2,r3⟩:=A2.store2 (.int .i64 0);have A3:=jA (A2.put2 (.int .i64 0) (.int .i64 0));have O3:=jA (O2.put2 (Nat.lt_succ_self _) (.int .i64 0) (.int .i64 0));have B3:=jA (jX (HB.o.trans (b2.mono (Nat.le_succ _))) (Nat.le_refl _) (.int .i64 0) (.int .i64 0));clear A2 O2 b2;go_wp2_with fail;obtain⟨q0,q1⟩:=A3.o.c2;unfold put2 at q0 q1;refine bodyPost_ret (v:=.tuple #[.slice a2 (n+1) d2,.agg #[.int .i64 0,.int .i64 0]]) (by simp[results,Tryz.results38,go_sem,q0,q1]) rfl ?_;exact⟨⟨a2,n+1,d2,0,0,rfl,by rw[a0.o,hN.o];exact⟨rfl,rfl,O3.o.lower (Nat.le_succ _)⟩⟩,B3.o⟩
    . (have b4:0<y.size:=by omega);obtain⟨c0,a4,_,e2⟩:=Yj y b4;(have e8:y.toList.isEmpty=false:=by rw[List.isEmpty_eq_false_iff];exact e2);have a3:=gu (bys S) false c0 ((bys y).drop 1) (by rw[hk.o,<- a7.o];exact a4.o);have HF:=NZ y wr (by omega) b4;have H:Hid (R=Res.app ts (match xE (bys y) with
       | none=>.err G
       | some x=>(jz ((bys y).drop x.2.2) G).cons ⟨x.1,x.2.1,G⟩)):=by
       show _=_;rw[hJ.o];congr 1;have:=Fp (r:=(bys y).drop 1) a3 G
       rwa [<- a4.o] at this
      (have Z:=λx=>VQ c0 ((bys y).drop 1) x);rw[<- a4.o,zR] at Z;(have J:=λx=>ZZ (bys y) x);clear h0 hJ a3 a4;cases hX:xE (bys y) with
      | none =>
       rw[hX] at HF H;have HF:=jA HF;have hN:Hid (R=.err G):=H.o;clear H Z J hX;go_wp2_with fail;refine HK.o.mono ?_;rintro e w' ⟨rfl,rfl⟩;go_wp2_with fail;refine HC.o.mono ?_;rintro e w' ⟨rfl,rfl⟩;go_wp2_with fail;refine HF.o.mono ?_;rintro e w1 ⟨⟨kk,tt,nn,rfl,b5⟩,B1⟩;have b6:nn=0:=b5;(have k0:((nn:Int) == 0)=true:=by simp;omega);have A2:=HA.o.kept B1;obtain⟨r0,r1,r2,r3⟩:=A2.store2 (.int .i64 1);have A3:=jA (A2.put2 (.int .i64 1) (.int .i64 (G:Int)));have B3:=jA (jX (HB.o.trans (B1.mono (by omega))) (Nat.le_refl w.heap.size) (.int .i64 1) (.int .i64 (G:Int)));clear A2 B1 b5 b6;go_wp2_with fail;obtain⟨q0,q1⟩:=A3.o.c2;unfold put2 at q0 q1;refine bodyPost_ret (v:=.tuple #[.slice none 0 0,.agg #[.int .i64 1,.int .i64 (G:Int)]]) (by simp[results,Tryz.results38,go_sem,q0,q1]) rfl ?_;exact⟨⟨none,0,0,1,G,rfl,by rw[a0.o,hN.o];exact⟨rfl,rfl,rfl,rfl,rfl⟩⟩,B3.o⟩
      | some x =>
       rw[hX] at HF H;have HF:=jA HF;have d8:=J x hX;have d4:=Z x hX;obtain⟨xk,xt,xn⟩:=x;have hN:Hid (R=Res.app (ts++[⟨xk,xt,G⟩]) (jz ((bys y).drop xn) G)):=by
        show _=_;rw[H.o];exact Res.app_snoc _ _ _
       clear H Z J hX;simp only at d8 d4;go_wp2_with fail;refine HK.o.mono ?_;rintro e w' ⟨rfl,rfl⟩;go_wp2_with fail;refine HC.o.mono ?_;rintro e w' ⟨rfl,rfl⟩;go_wp2_with fail;refine HF.o.mono ?_;rintro e w1 ⟨⟨kk,tt,nn,rfl,b8,b7,c7⟩,B1⟩;have a8:nn=xn:=c7;have c8:=jA a8;(have e4:1<=nn:=by omega);(have e5:nn<=y.size:=by omega);(have c6:Hid ((kk:Int)=(((⟨xk,xt,G⟩:Tok).kind:Nat):Int)):=by show(kk:Int)=(xk:Int);rw[show kk=xk from b8]);have b3:=jA b7;(have k0:((nn:Int) == 0)=false:=by rw[beq_eq_false_iff_ne];omega);(have d1:(0:Int)<=(nn:Int):=by omega);(have d2:(nn:Int)<=(y.size:Int):=by omega);have z1:=B1.size;(have b9:w.heap.size+1<=w1.heap.size:=by omega);have O1:=jA (HO.o.keep B1);have A1:=jA (HA.o.kept B1);have d3:=jA (HB.o.trans (B1.mono (by omega)));obtain⟨S2,d7⟩:=jx1 (y.extract nn y.size);have a5:=d7.o;(have e6:S2.size+nn=y.size:=by rw[<- a5,ByteArray.size_extract];omega);have hM:Hid (R=Res.app (ts++[⟨xk,xt,G⟩]) (jz (bys S2) G)):=by
        show _=_;rw[hN.o,<- a5,gd,c8.o]
       clear b8 b7 c7 a8 B1;go_wp2_with (at_builtin;refine Qv (t:=⟨xk,xt,G⟩) (B:=w.heap.size+1) O1.o b9 (by omega) c6.o b3.o rfl rfl rfl ?_);intro a2 c2 w2 O2 b2;have A2:=jA (A1.o.below b2 (Nat.lt_succ_self _));have d5:=jA (d3.o.trans (b2.mono (Nat.le_succ _)));have z2:w.heap.size+1<=w2.heap.size:=Nat.le_trans b9 (by have:=b2.size;omega);have O2:=jA O2;clear b2;go_wp2_with fail;go_roundw;(case rel=>exact⟨a2,n+1,c2,G,S2,ts++[⟨xk,xt,G⟩],rfl,rfl,rfl,by omega,by omega,O2.o,A2.o,hM,d5.o,z2⟩);case measure=>simp[LD];omega
namespace Lx
def gP(s:ByteArray):Option Ans:=if s.size > 20000 then none else some (Qf (bys s))
def Hr:Option Ans->Int×Int×Src
  | none=>(7,0,⟨[],[]⟩)
  | some (.err l)=>(1,l,⟨[],[]⟩)
  | some (.ok s)=>(0,0,s)
def Le:PR Src->Ans
  | .ok x _=>.ok x
  | .bad e=>.err e
theorem VB(s:ByteArray):(∃ (ts:List Tok) (m:Nat),Hq s=some (.ok ts m)/\gP s=some (Le (xZ (ts++[⟨5,[],m⟩])))/\EndsT (ts++[⟨5,[],m⟩])/\(∀t∈ts++[(⟨5,[],m⟩:Tok)],t.text.length<=500000)/\(ts++[(⟨5,[],m⟩:Tok)]).length<=1000000) \/
    (∃E L:Int,(E == 0)=false/\Hr (gP s)=(E,L,⟨[],[]⟩)/\N9 (Hq s)=(E,L,[])):=by
 unfold gP Hq;by_cases G:s.size > 20000
 . rw[if_pos G,if_pos G];exact Or.inr ⟨7,0,rfl,rfl,rfl⟩
 . rw[if_neg G,if_neg G];unfold Qf;cases J:jz (bys s) 1 with
   | err l=>exact Or.inr ⟨1,l,rfl,rfl,rfl⟩
   | ok ts m =>
    refine Or.inl ⟨ts,m,rfl,?_,Cf J,?_⟩
    . simp only;cases xZ (ts++[⟨5,[],m⟩])<;>rfl
    obtain⟨_,Z⟩:=uB (bys s).length (bys s) 1 ts m (Nat.le_refl _) J;rw[zR] at Z;have V:∀us:List Tok,us.length*20<=wgt us/\∀t∈us,2*t.text.length<=wgt us:=by
     intro us;induction us with
     | nil=>exact⟨Nat.le_refl _,λt y=>by cases y⟩
     | cons t us ih =>
      refine⟨by rw[wgt,List.length_cons];have:=ih.1;omega,λu H=>?_⟩;rw[wgt];rcases List.mem_cons.1 H with rfl|H
      . omega
      . have:=ih.2 u H;omega
    obtain⟨a,b⟩:=V ts;refine⟨λt y=>?_,by rw[List.length_append];simp only[List.length_cons,List.length_nil];omega⟩;rcases List.mem_append.1 y with y|y
    . have:=b t y;omega
    . (have:t=⟨5,[],m⟩:=by simpa using y);subst this;exact Nat.zero_le _
end Lx
def YR(r:Option Ans)(w':World)(e:Ending):Prop:=∃ (ao:Option Addr) (m d:Nat),e=.returned (.tuple #[.agg #[.string (stg (Hr r).2.2.title),.slice ao m d],.agg #[.int .i64 (Hr r).1,.int .i64 (Hr r).2.1]])/\BlkL true qU w' ao m d (Hr r).2.2.blks
theorem Cg(q:Bool)(S:World->Nat->Prop)(w:World):BlkL q S w none 0 0 []:=⟨[],Row.nil _ _ _,rfl⟩
theorem Ks{W w:World}{b:Nat}{E L:Int}{r:Option Ans}(AV:Arr W b 24 [.string ⟨#[]⟩,.slice none 0 0])(AU:Arr W (b+1) 37 [.int .i64 0,.int .i64 0])(HB:Below b w W)(hr:Hr r=(E,L,⟨[],[]⟩)) :
    (put2 (put2 W b (.string ⟨#[]⟩) (.slice none 0 0)) (b+1) (.int .i64 E) (.int .i64 L)).cell? ⟨b,0,none⟩=some (.string ⟨#[]⟩)/\(put2 (put2 W b (.string ⟨#[]⟩) (.slice none 0 0)) (b+1) (.int .i64 E) (.int .i64 L)).cell? ⟨b,1,none⟩=some (.slice none 0 0) /\
    (put2 (put2 W b (.string ⟨#[]⟩) (.slice none 0 0)) (b+1) (.int .i64 E) (.int .i64 L)).cell? ⟨b+1,0,none⟩=some (.int .i64 E)/\(put2 (put2 W b (.string ⟨#[]⟩) (.slice none 0 0)) (b+1) (.int .i64 E) (.int .i64 L)).cell? ⟨b+1,1,none⟩=some (.int .i64 L) /\
    YR r (put2 (put2 W b (.string ⟨#[]⟩) (.slice none 0 0)) (b+1) (.int .i64 E) (.int .i64 L)) (.returned (.tuple #[.agg #[.string ⟨#[]⟩,.slice none 0 0],.agg #[.int .i64 E,.int .i64 L]])) /\
    Below b w (put2 (put2 W b (.string ⟨#[]⟩) (.slice none 0 0)) (b+1) (.int .i64 E) (.int .i64 L)):=by
 have G:=AV.put2 (.string ⟨#[]⟩) (.slice none 0 0);have y:=G.off2 (b:=b+1) (by omega) (.int .i64 E) (.int .i64 L);have m:=(AU.off2 (b:=b) (by omega) (.string ⟨#[]⟩) (.slice none 0 0)).put2 (.int .i64 E) (.int .i64 L);refine⟨y.cell 0,y.cell 1,m.cell 0,m.cell 1,⟨none,0,0,?_,?_⟩,jX (jX HB (Nat.le_refl _) _ _) (Nat.le_succ _) _ _⟩
 . rw[hr];rfl
 . rw[hr];exact Cg _ _ _
namespace Lx
def YS:ByteArray:=⟨#[101,108,101,99,116,105,111,110,32,34,69,34,32,123,32,115,99,97,110,32,123,32,100,111,116,115,32,50,59,32,98,108,97,110,107,32,50,48,59,32,109,97,114,107,101,100,32,53,48,59,32,125,32,115,99,97,110,110,101,114,115,32,123,32,99,111,117,110,116,32,49,59,32,98,97,116,99,104,32,52,59,32,125,32,112,114,101,99,105,110,99,116,115,32,123,32,110,97,109,101,115,32,110,111,114,116,104,44,32,115,111,117,116,104,59,32,125,32,99,111,110,116,101,115,116,32,109,97,121,111,114,32,123,32,109,101,116,104,111,100,32,105,114,118,59,32,115,101,97,116,115,32,49,59,32,114,97,110,107,115,32,51,59,32,116,105,101,115,32,108,111,116,59,32,111,118,101,114,118,111,116,101,32,115,116,111,112,59,32,115,107,105,112,32,99,108,111,115,101,59,32,99,97,110,100,105,100,97,116,101,115,32,97,110,110,44,32,98,111,98,44,32,99,101,109,59,32,125,32,115,116,121,108,101,32,97,32,123,32,112,114,101,99,105,110,99,116,115,32,110,111,114,116,104,44,32,115,111,117,116,104,59,32,99,111,110,116,101,115,116,115,32,109,97,121,111,114,59,32,125,32,97,117,100,105,116,32,123,32,114,105,115,107,32,53,47,49,48,48,59,32,115,101,101,100,32,120,59,32,125,32,112,114,105,118,97,99,121,32,123,32,99,101,108,108,32,51,59,32,125,32,125]⟩
def VC:Src:=⟨[69],[⟨[115,99,97,110],[],[⟨[100,111,116,115],[[50]],1⟩,⟨[98,108,97,110,107],[[50,48]],1⟩,⟨[109,97,114,107,101,100],[[53,48]],1⟩],1⟩,⟨[115,99,97,110,110,101,114,115],[],[⟨[99,111,117,110,116],[[49]],1⟩,⟨[98,97,116,99,104],[[52]],1⟩],1⟩,⟨[112,114,101,99,105,110,99,116,115],[],[⟨[110,97,109,101,115],[[110,111,114,116,104],[115,111,117,116,104]],1⟩],1⟩,⟨[99,111,110,116,101,115,116],[109,97,121,111,114],[⟨[109,101,116,104,111,100],[[105,114,118]],1⟩,⟨[115,101,97,116,115],[[49]],1⟩,⟨[114,97,110,107,115],[[51]],1⟩,⟨[116,105,101,115],[[108,111,116]],1⟩,⟨[111,118,101,114,118,111,116,101],[[115,116,111,112]],1⟩,⟨[115,107,105,112],[[99,108,111,115,101]],1⟩,⟨[99,97,110,100,105,100,97,116,101,115],[[97,110,110],[98,111,98],[99,101,109]],1⟩],1⟩,⟨[115,116,121,108,101],[97],[⟨[112,114,101,99,105,110,99,116,115],[[110,111,114,116,104],[115,111,117,116,104]],1⟩,⟨[99,111,110,116,101,115,116,115],[[109,97,121,111,114]],1⟩],1⟩,⟨[97,117,100,105,116],[],[⟨[114,105,115,107],[[53,47,49,48,48]],1⟩,⟨[115,101,101,100],[[120]],1⟩],1⟩,⟨[112,114,105,118,97,99,121],[],[⟨[99,101,108,108],[[51]],1⟩],1⟩]⟩
def vH:Elc where
 title:=[69]
 dots:=2
 blank:=20
 marked:=50
 precs:=[[110,111,114,116,104],[115,111,117,116,104]]
 conts:=[⟨[109,97,121,111,114],[[97,110,110],[98,111,98],[99,101,109]],1,1,3,0,3,1,1⟩]
 stys:=[⟨[97],[0,1],[0]⟩]
 scanners:=1
 batch:=4
 rneg:=false
 rnum:=[1]
 rden:=[20]
 cell:=3
 seed:=[120]
def LH:ke:=⟨[69],[⟨[115,99,97,110],[],[⟨[100,111,116,115],[[50]],0⟩,⟨[98,108,97,110,107],[[50,48]],0⟩,⟨[109,97,114,107,101,100],[[53,48]],0⟩],0⟩,⟨[115,99,97,110,110,101,114,115],[],[⟨[99,111,117,110,116],[[49]],0⟩,⟨[98,97,116,99,104],[[52]],0⟩],0⟩,⟨[112,114,101,99,105,110,99,116,115],[],[⟨[110,97,109,101,115],[[110,111,114,116,104],[115,111,117,116,104]],0⟩],0⟩,⟨[99,111,110,116,101,115,116],[109,97,121,111,114],[⟨[109,101,116,104,111,100],[[105,114,118]],0⟩,⟨[115,101,97,116,115],[[49]],0⟩,⟨[114,97,110,107,115],[[51]],0⟩,⟨[116,105,101,115],[[108,111,116]],0⟩,⟨[111,118,101,114,118,111,116,101],[[115,116,111,112]],0⟩,⟨[115,107,105,112],[[99,108,111,115,101]],0⟩,⟨[99,97,110,100,105,100,97,116,101,115],[[97,110,110],[98,111,98],[99,101,109]],0⟩],0⟩,⟨[115,116,121,108,101],[97],[⟨[112,114,101,99,105,110,99,116,115],[[110,111,114,116,104],[115,111,117,116,104]],0⟩,⟨[99,111,110,116,101,115,116,115],[[109,97,121,111,114]],0⟩],0⟩,⟨[97,117,100,105,116],[],[⟨[114,105,115,107],[[49,47,50,48]],0⟩,⟨[115,101,101,100],[[120]],0⟩],0⟩,⟨[112,114,105,118,97,99,121],[],[⟨[99,101,108,108],[[51]],0⟩],0⟩]⟩
theorem Nr:jz (bys YS) 1=.ok [⟨1,[101,108,101,99,116,105,111,110],1⟩,⟨3,[69],1⟩,⟨4,[123],1⟩,⟨1,[115,99,97,110],1⟩,⟨4,[123],1⟩,⟨1,[100,111,116,115],1⟩,⟨2,[50],1⟩,⟨4,[59],1⟩,⟨1,[98,108,97,110,107],1⟩,⟨2,[50,48],1⟩,⟨4,[59],1⟩,⟨1,[109,97,114,107,101,100],1⟩,⟨2,[53,48],1⟩,⟨4,[59],1⟩,⟨4,[125],1⟩,⟨1,[115,99,97,110,110,101,114,115],1⟩,⟨4,[123],1⟩,⟨1,[99,111,117,110,116],1⟩,⟨2,[49],1⟩,⟨4,[59],1⟩,⟨1,[98,97,116,99,104],1⟩,⟨2,[52],1⟩,⟨4,[59],1⟩,⟨4,[125],1⟩,⟨1,[112,114,101,99,105,110,99,116,115],1⟩,⟨4,[123],1⟩,⟨1,[110,97,109,101,115],1⟩,⟨1,[110,111,114,116,104],1⟩,⟨4,[44],1⟩,⟨1,[115,111,117,116,104],1⟩,⟨4,[59],1⟩,⟨4,[125],1⟩,⟨1,[99,111,110,116,101,115,116],1⟩,⟨1,[109,97,121,111,114],1⟩,⟨4,[123],1⟩,⟨1,[109,101,116,104,111,100],1⟩,⟨1,[105,114,118],1⟩,⟨4,[59],1⟩,⟨1,[115,101,97,116,115],1⟩,⟨2,[49],1⟩,⟨4,[59],1⟩,⟨1,[114,97,110,107,115],1⟩,⟨2,[51],1⟩,⟨4,[59],1⟩,⟨1,[116,105,101,115],1⟩,⟨1,[108,111,116],1⟩,⟨4,[59],1⟩,⟨1,[111,118,101,114,118,111,116,101],1⟩,⟨1,[115,116,111,112],1⟩,⟨4,[59],1⟩,⟨1,[115,107,105,112],1⟩,⟨1,[99,108,111,115,101],1⟩,⟨4,[59],1⟩,⟨1,[99,97,110,100,105,100,97,116,101,115],1⟩,⟨1,[97,110,110],1⟩,⟨4,[44],1⟩,⟨1,[98,111,98],1⟩,⟨4,[44],1⟩,⟨1,[99,101,109],1⟩,⟨4,[59],1⟩,⟨4,[125],1⟩,⟨1,[115,116,121,108,101],1⟩,⟨1,[97],1⟩,⟨4,[123],1⟩,⟨1,[112,114,101,99,105,110,99,116,115],1⟩,⟨1,[110,111,114,116,104],1⟩,⟨4,[44],1⟩,⟨1,[115,111,117,116,104],1⟩,⟨4,[59],1⟩,⟨1,[99,111,110,116,101,115,116,115],1⟩,⟨1,[109,97,121,111,114],1⟩,⟨4,[59],1⟩,⟨4,[125],1⟩,⟨1,[97,117,100,105,116],1⟩,⟨4,[123],1⟩,⟨1,[114,105,115,107],1⟩,⟨2,[53],1⟩,⟨4,[47],1⟩,⟨2,[49,48,48],1⟩,⟨4,[59],1⟩,⟨1,[115,101,101,100],1⟩,⟨1,[120],1⟩,⟨4,[59],1⟩,⟨4,[125],1⟩,⟨1,[112,114,105,118,97,99,121],1⟩,⟨4,[123],1⟩,⟨1,[99,101,108,108],1⟩,⟨2,[51],1⟩,⟨4,[59],1⟩,⟨4,[125],1⟩,⟨4,[125],1⟩] 1:=by
 have e:bys YS=([101,108,101,99,116,105,111,110]++32 :: (PM [69]++32 :: 123 :: 32 :: ([115,99,97,110]++32 :: 123 :: 32 :: ([100,111,116,115]++32 :: ([50]++59 :: 32 :: ([98,108,97,110,107]++32 :: ([50,48]++59 :: 32 :: ([109,97,114,107,101,100]++32 :: ([53,48]++59 :: 32 :: 125 :: 32 :: ([115,99,97,110,110,101,114,115]++32 :: 123 :: 32 :: ([99,111,117,110,116]++32 :: ([49]++59 :: 32 :: ([98,97,116,99,104]++32 :: ([52]++59 :: 32 :: 125 :: 32 :: ([112,114,101,99,105,110,99,116,115]++32 :: 123 :: 32 :: ([110,97,109,101,115]++32 :: ([110,111,114,116,104]++44 :: 32 :: ([115,111,117,116,104]++59 :: 32 :: 125 :: 32 :: ([99,111,110,116,101,115,116]++32 :: ([109,97,121,111,114]++32 :: 123 :: 32 :: ([109,101,116,104,111,100]++32 :: ([105,114,118]++59 :: 32 :: ([115,101,97,116,115]++32 :: ([49]++59 :: 32 :: ([114,97,110,107,115]++32 :: ([51]++59 :: 32 :: ([116,105,101,115]++32 :: ([108,111,116]++59 :: 32 :: ([111,118,101,114,118,111,116,101]++32 :: ([115,116,111,112]++59 :: 32 :: ([115,107,105,112]++32 :: ([99,108,111,115,101]++59 :: 32 :: ([99,97,110,100,105,100,97,116,101,115]++32 :: ([97,110,110]++44 :: 32 :: ([98,111,98]++44 :: 32 :: ([99,101,109]++59 :: 32 :: 125 :: 32 :: ([115,116,121,108,101]++32 :: ([97]++32 :: 123 :: 32 :: ([112,114,101,99,105,110,99,116,115]++32 :: ([110,111,114,116,104]++44 :: 32 :: ([115,111,117,116,104]++59 :: 32 :: ([99,111,110,116,101,115,116,115]++32 :: ([109,97,121,111,114]++59 :: 32 :: 125 :: 32 :: ([97,117,100,105,116]++32 :: 123 :: 32 :: ([114,105,115,107]++32 :: ([53]++47 :: ([49,48,48]++59 :: 32 :: ([115,101,101,100]++32 :: ([120]++59 :: 32 :: 125 :: 32 :: ([112,114,105,118,97,99,121]++32 :: 123 :: 32 :: ([99,101,108,108]++32 :: ([51]++59 :: 32 :: 125 :: 32 :: 125 :: [])))))))))))))))))))))))))))))))))))))))))))))))))))):=by decide +kernel
 rw[e,qj _ 1 (by decide) (by decide),qW,Fr _ 1 (by decide),qW,qr _ 1 (by decide),qW,qj _ 1 (by decide) (by decide),qW,qr _ 1 (by decide),qW,qj _ 1 (by decide) (by decide),qW,xh _ 1 (by decide) (by decide),qr _ 1 (by decide),qW,qj _ 1 (by decide) (by decide),qW,xh _ 1 (by decide) (by decide),qr _ 1 (by decide),qW,qj _ 1 (by decide) (by decide),qW,xh _ 1 (by decide) (by decide),qr _ 1 (by decide),qW,qr _ 1 (by decide),qW,qj _ 1 (by decide) (by decide),qW,qr _ 1 (by decide),qW,qj _ 1 (by decide) (by decide),qW,xh _ 1 (by decide) (by decide),qr _ 1 (by decide),qW,qj _ 1 (by decide) (by decide),qW,xh _ 1 (by decide) (by decide),qr _ 1 (by decide),qW,qr _ 1 (by decide),qW,qj _ 1 (by decide) (by decide),qW,qr _ 1 (by decide),qW,qj _ 1 (by decide) (by decide),qW,qj _ 1 (by decide) (by decide),qr _ 1 (by decide),qW,qj _ 1 (by decide) (by decide),qr _ 1 (by decide),qW,qr _ 1 (by decide),qW,qj _ 1 (by decide) (by decide),qW,qj _ 1 (by decide) (by decide),qW,qr _ 1 (by decide),qW,qj _ 1 (by decide) (by decide),qW,qj _ 1 (by decide) (by decide),qr _ 1 (by decide),qW,qj _ 1 (by decide) (by decide),qW,xh _ 1 (by decide) (by decide),qr _ 1 (by decide),qW,qj _ 1 (by decide) (by decide),qW,xh _ 1 (by decide) (by decide),qr _ 1 (by decide),qW,qj _ 1 (by decide) (by decide),qW,qj _ 1 (by decide) (by decide),qr _ 1 (by decide),qW,qj _ 1 (by decide) (by decide),qW,qj _ 1 (by decide) (by decide),qr _ 1 (by decide),qW,qj _ 1 (by decide) (by decide),qW,qj _ 1 (by decide) (by decide),qr _ 1 (by decide),qW,qj _ 1 (by decide) (by decide),qW,qj _ 1 (by decide) (by decide),qr _ 1 (by decide),qW,qj _ 1 (by decide) (by decide),qr _ 1 (by decide),qW,qj _ 1 (by decide) (by decide),qr _ 1 (by decide),qW,qr _ 1 (by decide),qW,qj _ 1 (by decide) (by decide),qW,qj _ 1 (by decide) (by decide),qW,qr _ 1 (by decide),qW,qj _ 1 (by decide) (by decide),qW,qj _ 1 (by decide) (by decide),qr _ 1 (by decide),qW,qj _ 1 (by decide) (by decide),qr _ 1 (by decide),qW,qj _ 1 (by decide) (by decide),qW,qj _ 1 (by decide) (by decide),qr _ 1 (by decide),qW,qr _ 1 (by decide),qW,qj _ 1 (by decide) (by decide),qW,qr _ 1 (by decide),qW,qj _ 1 (by decide) (by decide),qW,xh _ 1 (by decide) (by decide),qr _ 1 (by decide),xh _ 1 (by decide) (by decide),qr _ 1 (by decide),qW,qj _ 1 (by decide) (by decide),qW,qj _ 1 (by decide) (by decide),qr _ 1 (by decide),qW,qr _ 1 (by decide),qW,qj _ 1 (by decide) (by decide),qW,qr _ 1 (by decide),qW,qj _ 1 (by decide) (by decide),qW,xh _ 1 (by decide) (by decide),qr _ 1 (by decide),qW,qr _ 1 (by decide),qW,qr _ 1 (by decide),ur];rfl
theorem Kt:gP YS=some (.ok VC):=by
 unfold gP;rw[if_neg (by decide +kernel)];unfold Qf;rw[Nr];rfl
theorem Ch:jM (gR VC)=((0,0),vH):=by kernel_rfl
theorem Lf:Lib.itoa 1=[49]:=by rw[Lib.itoa,if_neg (by decide)];exact Lib.decDigits_one (by decide)
theorem Lg:Lib.itoa 2=[50]:=by rw[Lib.itoa,if_neg (by decide)];exact Lib.decDigits_one (by decide)
theorem Lh:Lib.itoa 3=[51]:=by rw[Lib.itoa,if_neg (by decide)];exact Lib.decDigits_one (by decide)
theorem Li:Lib.itoa 4=[52]:=by rw[Lib.itoa,if_neg (by decide)];exact Lib.decDigits_one (by decide)
theorem LJ:Lib.itoa 20=[50,48]:=by rw[Lib.itoa,if_neg (by decide)];exact Lib.decDigits_two (by decide) (by decide)
theorem LM:Lib.itoa 50=[53,48]:=by rw[Lib.itoa,if_neg (by decide)];exact Lib.decDigits_two (by decide) (by decide)
theorem Ci:jr vH=[49,47,50,48]:=by
 have h:Q.RatMath.nf ⟨vH.rneg,Q.NatMath.val vH.rnum,Q.NatMath.val vH.rden⟩=⟨false,1,20⟩:=by kernel_rfl
 have y:Lib.decDigits 1=[49]:=Lib.decDigits_one (by decide);have m:Lib.decDigits 20=[50,48]:=Lib.decDigits_two (by decide) (by decide);unfold jr;rw[h];unfold Q.tx;rw[if_neg (by decide),if_neg (by decide)];unfold Q.dg;show bys (⟨(Lib.decDigits 1).toArray⟩++(⟨#[47]⟩++⟨(Lib.decDigits 20).toArray⟩))=_;rw[y,m];rfl
theorem Cj:jb vH (jr vH)=LH:=by
 rw[Ci];unfold jb vi gm uj wH yN fN;simp only[vH,List.map_cons,List.map_nil,Lf,Lg,Lh,Li,LJ,LM]
 kernel_rfl
theorem Hs:jM LH=((0,0),vH):=by kernel_rfl
theorem Ns:Qd vH=true:=by
 unfold Qd;rw[Cj,Hs]
 kernel_rfl
theorem Nt:YK vH.stys 1=0:=by kernel_rfl
end Lx
theorem P6{s:ESl}(h:ul vH s):SrcOk vH s where
 nums:=by unfold I64;decide
 precs:=by decide
 sm:=⟨by decide,by decide⟩
 cst:=λx m=>by
  have:x=⟨[109,97,121,111,114],[[97,110,110],[98,111,98],[99,101,109]],1,1,3,0,3,1,1⟩:=by simpa[vH] using m
  subst this;unfold I64;decide
 sty:=λx m=>by
  have:x=⟨[97],[0,1],[0]⟩:=by simpa[vH] using m
  subst this;decide
 rat:=h
def Qg(w:World)(g gt n c:Nat)(ts:List Tok)(ln:Nat):Prop:=∃l,AtP w g gt n c ts l/\vm l=ln
def Nu(w':World)(g gt n c:Nat)(ts:List Tok)(p:PR (List UInt8))(e:Ending):Prop:=match p with
 | .ok a r=>e=.returned (.tuple #[.string (stg a),.bool true])/\AtP w' g gt n c ts r
 | .bad ln=>(∃S,e=.returned (.tuple #[.string S,.bool false]))/\Qg w' g gt n c ts ln
theorem Ck(w:World)(g gt n c:Nat)(ts l:List Tok)(h:AtP w g gt n c ts l)(he:EndsT ts)(hsz:∀t∈ts,t.text.length<=500000) :
    Calls Tryz.prog 191 #[.pointer (some ⟨g,0,none⟩)] w λe w'=>Nu w' g gt n c ts (jf l) e/\w.grownBy w' (some g):=by
 obtain⟨i,t,r,hP,ht,rfl,hr⟩:=h.head;have b7:t.text.length<=500000:=hsz t (List.mem_of_getElem? ht);have a9:(stg t.text).size<=500000:=by rw[<- zR,zL];exact b7
 clear hP ht hr;by_cases k1:t.kind=1
 . have J:Hid (jf (t :: r)=.ok t.text r):=by
    show _=_;rw[gN];simp only[show xr 1 (t :: r)=true from decide_eq_true k1];exact if_pos k1
   have HT:=jA (xa w g gt n c ts r t h he 1 k1 (by decide));clear h k1;obtain⟨P,hP⟩:=jx1 (jf (t :: r));rw[hP.o];go_in;go_wp2_with fail;refine HT.o.mono ?_;rintro e w1 ⟨rfl,m,G⟩;obtain⟨V0,V,e1,e2,H,y,hz,f0,f1,f2,f3,f4,f5⟩:=ze w1 87 (.int .i64 0) (.string ⟨#[]⟩) (.int .i64 0) (.int .i64 (t.kind:Int)) (.string (stg t.text)) (.int .i64 (t.line:Int));have m:=jA (m.keep y);have G:=jA (qq G (qu y _));have q1:V.cell? ⟨w1.heap.size,1,none⟩=some (.string (stg t.text)):=H.cell 1;clear HT H y;go_wp2_with fail;go_ret2;refine⟨?_,G.o⟩;rw[<- hP.o,J.o];exact⟨rfl,m.o⟩
 . have HT:=jA (xb w g gt n c ts r t h 1 k1);clear h;obtain⟨P,hP⟩:=jx1 (jf (t :: r));rw[hP.o];by_cases k3:t.kind=3
   . have J:Hid (jf (t :: r)=.ok t.text r):=by
      show _=_;rw[gN];simp only[show xr 1 (t :: r)=false from decide_eq_false k1,show xr 3 (t :: r)=true from decide_eq_true k3];exact if_pos k3
     have b4:=jA k1;have b0:=jA k3;clear k1 k3;go_in;go_wp2_with fail;refine HT.o.mono ?_;rintro e w1 ⟨rfl,m,G⟩;obtain⟨V0,V,e1,e2,H,y,hz,f0,f1,f2,f3,f4,f5⟩:=ze w1 87 (.int .i64 0) (.string ⟨#[]⟩) (.int .i64 0) (.int .i64 0) (.string ⟨#[]⟩) (.int .i64 0);have a8:=jA (xa V g gt n c ts r t (m.keep y) he 3 b0.o (by decide));have G:=jA (qq G (qu y _));clear HT H y m;go_wp2_with fail;clear e1 e2 f0 f1 f2 f3 f4 f5 hz;refine a8.o.mono ?_;rintro e w2 ⟨rfl,m,a7⟩;obtain⟨U0,U,e1,e2,H,y,hz,f0,f1,f2,f3,f4,f5⟩:=ze w2 87 (.int .i64 0) (.string ⟨#[]⟩) (.int .i64 0) (.int .i64 (t.kind:Int)) (.string (stg t.text)) (.int .i64 (t.line:Int));have m:=jA (m.keep y);have G:=jA (qq G.o (qq a7 (qu y _)));have q1:U.cell? ⟨w2.heap.size,1,none⟩=some (.string (stg t.text)):=H.cell 1;clear a8 H y a7;go_wp2_with fail;go_ret2;refine⟨?_,G.o⟩;rw[<- hP.o,J.o];exact⟨rfl,m.o⟩
   . have J:Hid (jf (t :: r)=(ja 2 (t :: r)).bind Ko):=by
      show _=_;rw[gN];simp only[show xr 1 (t :: r)=false from decide_eq_false k1,show xr 3 (t :: r)=false from decide_eq_false k3];rfl
     have b4:=jA k1;have b0:=jA k3;clear k1 k3;go_in;go_wp2_with fail;refine HT.o.mono ?_;rintro e w1 ⟨rfl,m,G⟩;obtain⟨V0,V,e1,e2,H,y,hz,f0,f1,f2,f3,f4,f5⟩:=ze w1 87 (.int .i64 0) (.string ⟨#[]⟩) (.int .i64 0) (.int .i64 0) (.string ⟨#[]⟩) (.int .i64 0);have a8:=jA (xb V g gt n c ts r t (m.keep y) 3 b0.o);have G:=jA (qq G (qu y _));clear HT H y m;go_wp2_with fail;clear e1 e2 f0 f1 f2 f3 f4 f5 hz;refine a8.o.mono ?_;rintro e w2 ⟨rfl,m,a7⟩;obtain⟨U0,U,e1,e2,H,y,hz,f0,f1,f2,f3,f4,f5⟩:=ze w2 87 (.int .i64 0) (.string ⟨#[]⟩) (.int .i64 0) (.int .i64 0) (.string ⟨#[]⟩) (.int .i64 0);have G:=jA (qq G.o (qq a7 (qu y _)));have m:=m.keep y;clear a8 H y a7;by_cases k2:t.kind=2
     . have a3:=jA (xa U g gt n c ts r t m he 2 k2 (by decide));have J:Hid (P=Ko t.text r):=by
        show _=_;rw[<- hP.o,J.o,show ja 2 (t :: r)=.ok t.text r from if_pos k2];rfl
       clear m k2;go_wp2_with fail;clear e1 e2 f0 f1 f2 f3 f4 f5 hz;refine a3.o.mono ?_;rintro e w3 ⟨rfl,m,a2⟩;obtain⟨W0,W,e1,e2,H,y,hz,f0,f1,f2,f3,f4,f5⟩:=ze w3 87 (.int .i64 0) (.string ⟨#[]⟩) (.int .i64 0) (.int .i64 (t.kind:Int)) (.string (stg t.text)) (.int .i64 (t.line:Int));(have a1:Hid (w3.heap.size≠g):=λe=>by have:=m.sizes.1;omega);have m:=m.keep y;have G:=jA (qq G.o (qq a2 (qu y _)));have q1:W.cell? ⟨w3.heap.size,1,none⟩=some (.string (stg t.text)):=H.cell 1;have HM:=ue W g gt n c ts r m he 47;cases hm:jU 47 r with
       | false =>
        rw[hm] at HM;(have J:Hid (P=.ok t.text r):=by show _=_;rw[J.o];unfold Ko;rw[hm];rfl);rw[if_neg (by decide)] at HM;have HM:=jA HM;have AW:=jA H;clear a3 H y m hm a2;go_wp2_with fail;clear e1 e2 f0 f1 f2 f3 f4 f5 hz;refine HM.o.mono ?_;rintro e w4 ⟨rfl,m,a0⟩;have q2:w4.cell? ⟨w3.heap.size,1,none⟩=some (.string (stg t.text)):=(AW.o.grown a0 a1.o).cell 1;have m:=jA m;have G:=jA (qq G.o a0);clear HM a0;go_wp2_with fail;go_ret2;refine⟨?_,G.o⟩;rw[J.o];exact⟨rfl,m.o⟩
       | true =>
        rw[hm] at HM;have b5:=hm;obtain⟨u,r2,rfl⟩:∃u r2,r=u :: r2:=by
         cases r with
         | nil=>cases hm
         | cons u r2=>exact⟨u,r2,rfl⟩
        rw[if_pos rfl] at HM;(have J:Hid (P=(ja 2 r2).bind (λb r3=>.ok (t.text++47 :: b) r3)):=by show _=_;rw[J.o];unfold Ko;rw[hm,if_pos rfl];rfl);have HM:=jA HM;have AW:=jA H;clear a3 H y m hm a2 b5;go_wp2_with fail;clear e1 e2 f0 f1 f2 f3 f4 f5 hz;refine HM.o.mono ?_;rintro e w4 ⟨rfl,m,a0⟩;have AW:=jA (AW.o.grown a0 a1.o);have G:=jA (qq G.o a0);clear HM a0 q1;have a4:AtP w4 g gt n c ts r2:=m;obtain⟨i2,v,r3,_,b2,rfl,_⟩:=a4.head;(have b6:(stg v.text).size<=500000:=by rw[<- zR,zL];exact hsz v (List.mem_of_getElem? b2));by_cases k4:v.kind=2
        . have a5:=jA (xa w4 g gt n c ts r3 v a4 he 2 k4 (by decide));have J:Hid (P=.ok (t.text++47 :: v.text) r3):=by
           show _=_;rw[J.o,show ja 2 (v :: r3)=.ok v.text r3 from if_pos k4];rfl
          clear m a4 b2 k4;go_wp2_with fail;refine a5.o.mono ?_;rintro e w5 ⟨rfl,m,Z⟩;(have b8:w3.heap.size≠w5.heap.size:=λe=>by have:=AW.o.lt;have:=Z.size;omega);have A5:=AW.o.grown Z a1.o;obtain⟨X0,X,e1,e2,H,y,hz,f0,f1,f2,f3,f4,f5⟩:=ze w5 87 (.int .i64 0) (.string ⟨#[]⟩) (.int .i64 0) (.int .i64 (v.kind:Int)) (.string (stg v.text)) (.int .i64 (v.line:Int));have m:=jA (m.keep y);have G:=jA (qq G.o (qq Z (qu y _)));have q1:X.cell? ⟨w5.heap.size,1,none⟩=some (.string (stg v.text)):=H.cell 1;have q2:X.cell? ⟨w3.heap.size,1,none⟩=some (.string (stg t.text)):=(A5.kept y).cell 1;have a6:Hid (stg t.text++(⟨#[47]⟩:ByteArray)++stg v.text=stg (t.text++47 :: v.text)):=by
           show _=_;apply uH;rw[uI,uI,zL,zL,zL];show t.text++[47]++v.text=_;simp
          have m1:(⟨#[47]⟩:ByteArray).size=1:=rfl;obtain⟨SA,b1⟩:∃S,Hid (stg t.text=S):=⟨_,rfl⟩;obtain⟨SB,b3⟩:∃S,Hid (stg v.text=S):=⟨_,rfl⟩;rw[b1.o] at q2 a9 a6;rw[b3.o] at q1 b6 a6 e2 f4 f5 |-;clear a5 H y Z A5 AW;go_wp2_with fail;go_ret2;refine⟨?_,G.o⟩;rw[J.o];refine⟨?_,m.o⟩;rw[<- a6.o];rfl
        . have a5:=jA (xb w4 g gt n c ts r3 v a4 2 k4);have J:Hid (P=.bad v.line):=by
           show _=_;rw[J.o,show ja 2 (v :: r3)=.bad v.line from if_neg k4];rfl
          clear m a4 b2 k4;go_wp2_with fail;refine a5.o.mono ?_;rintro e w5 ⟨rfl,m,Z⟩;have A5:=AW.o.grown Z a1.o;obtain⟨X0,X,e1,e2,H,y,hz,f0,f1,f2,f3,f4,f5⟩:=ze w5 87 (.int .i64 0) (.string ⟨#[]⟩) (.int .i64 0) (.int .i64 0) (.string ⟨#[]⟩) (.int .i64 0);have m:=jA (m.keep y);have G:=jA (qq G.o (qq Z (qu y _)));have q1:X.cell? ⟨w5.heap.size,1,none⟩=some (.string ⟨#[]⟩):=H.cell 1;have q2:X.cell? ⟨w3.heap.size,1,none⟩=some (.string (stg t.text)):=(A5.kept y).cell 1;have m1:(⟨#[47]⟩:ByteArray).size=1:=rfl;obtain⟨SA,b1⟩:∃S,Hid (stg t.text=S):=⟨_,rfl⟩;rw[b1.o] at q2 a9;clear a5 H y Z A5 AW;go_wp2_with fail;go_ret2;refine⟨?_,G.o⟩;rw[J.o];exact⟨⟨_,rfl⟩,_,m.o,rfl⟩
     . have a3:=jA (xb U g gt n c ts r t m 2 k2);have J:Hid (P=.bad t.line):=by
        show _=_;rw[<- hP.o,J.o,show ja 2 (t :: r)=.bad t.line from if_neg k2];rfl
       clear m k2;go_wp2_with fail;clear e1 e2 f0 f1 f2 f3 f4 f5 hz;refine a3.o.mono ?_;rintro e w3 ⟨rfl,m,a2⟩;obtain⟨W0,W,e1,e2,H,y,hz,f0,f1,f2,f3,f4,f5⟩:=ze w3 87 (.int .i64 0) (.string ⟨#[]⟩) (.int .i64 0) (.int .i64 0) (.string ⟨#[]⟩) (.int .i64 0);have m:=jA (m.keep y);have G:=jA (qq G.o (qq a2 (qu y _)));have q1:W.cell? ⟨w3.heap.size,1,none⟩=some (.string ⟨#[]⟩):=H.cell 1;clear a3 H y a2;go_wp2_with fail;go_ret2;refine⟨?_,G.o⟩;rw[J.o];exact⟨⟨_,rfl⟩,_,m.o,rfl⟩
