/- -/
import Derived.Test.YtkefajjcpcoajaaGreatDoorPkA0
import Derived.Test.YtkefajjcpcoajaaGreatDoorPkA24
import Derived.Test.YtkefajjcpcoajaaGreatDoorPkA30
import Derived.Test.YtkefajjcpcoajaaGreatDoorPkA40
import Derived.Test.YtkefajjcpcoajaaGreatDoorPkA41
set_option linter.all false
set_option maxRecDepth 100000
set_option maxHeartbeats 51200000
namespace Go.Proofs.YtkefajjcpcoajaaGreatDoor
open Go.RowKit Lx
def Nz(B:Nat)(w':World)(g gt n c:Nat)(ts:List Tok)(p:PR Src)(e:Ending):Prop:=match p with
 | .ok s _=>∃ao m d,e=.returned (.tuple #[.agg #[.string (stg s.title),.slice ao m d],.bool true])/\BlkL true (qS B [9,63,55]) w' ao m d s.blks
 | .bad ln=>(∃S ao m d,e=.returned (.tuple #[.agg #[.string S,.slice ao m d],.bool false]))/\Qg w' g gt n c ts ln
theorem Cp(l:List Tok)(t:Tok)(r:List Tok)(h:l=t :: r)(b:Bool)(hb:b=(decide (t.kind=1)&&decide (t.text=UW))):Cc l=if b then .ok () (l.drop 1) else .bad (vm l):=by
 subst h hb;show(if t.kind=1/\t.text=UW then _ else _)=_;by_cases h:t.kind=1/\t.text=UW
 . rw[if_pos h,if_pos (by rw[decide_eq_true h.1,decide_eq_true h.2];rfl)];rfl
 . rw[if_neg h,if_neg]
   . rfl
   . intro e;rw[Bool.and_eq_true,decide_eq_true_eq,decide_eq_true_eq] at e;exact h e
theorem P7(w:World)(g gt n c:Nat)(ts l:List Tok)(h:AtP w g gt n c ts l)(he:EndsT ts)(hsz:∀t∈ts,t.text.length<=500000)(hts:ts.length<=1000000) :
    Calls Tryz.prog 39 #[.pointer (some ⟨g,0,none⟩)] w λe w'=>Nz w.heap.size w' g gt n c ts (xZ l) e/\w.grownBy w' (some g):=by
 obtain⟨hg,b7⟩:=h.sizes;obtain⟨V,e1,AV,BV,hz⟩:=qG w 24 [.string ⟨#[]⟩,.slice none 0 0];have y:=h.keep BV;have hG:=jA (qu BV (some g));obtain⟨b,hb⟩:=jx3 (w.heap.size);rw[hb] at AV BV hz hg b7;obtain⟨P,hP⟩:=jx1 (xZ l);rw[hP.o];obtain⟨i,t,r,_,_,hl,_⟩:=h.head;clear h BV;have HT:=jA (Bd V g gt n c ts l y he 1 (by decide) UW);have AV:=jA AV;have G:=jA hg;have J:=jA b7;have hl:=jA hl;clear y hg b7;go_in;go_wp2_with fail;refine HT.o.mono ?_;rintro e w1 ⟨tb,rfl,b0,y,a4⟩;have hE:=Cp l t r hl.o tb (b0 t r hl.o);have a0:=VD l;rw[hP.o,hE] at a0;cases tb with
 | false =>
  rw[if_neg (by decide)] at y a0;have HV:Hid (P=.bad (vm l)):=a0;have RX:=AV.o.grown a4 (by have:=G.o;omega);obtain⟨Y,e6,hY,AY,f0,f1,f2,f3⟩:=zl RX (.string ⟨#[]⟩) (.slice none 0 0);obtain⟨q0,q1⟩:=AY.c2;have GY:Hid (w.grownBy Y (some g)):=by show World.grownBy _ _ _;rw[hY.o];exact yR (qq hG.o a4) (by omega) _ _
  have BY:Hid (Qg Y g gt n c ts (vm l)):=⟨l,by rw[hY.o];exact y.put2 (by have:=G.o;omega) (by have:=J.o;omega) _ _,rfl⟩;clear HT RX AY y a4 hE a0 b0 e1;go_wp2_with fail;refine bodyPost_ret (v:=.tuple #[.agg #[.string ⟨#[]⟩,.slice none 0 0],.bool false]) (by simp[results,Tryz.results39,go_sem,q0,q1]) rfl ?_;refine⟨?_,GY.o⟩;rw[HV.o];exact⟨⟨_,_,_,_,rfl⟩,BY.o⟩
 | true =>
  rw[if_pos rfl] at y a0;rw[PR.bind_ok] at a0;have RX:=jA (AV.o.grown a4 (by have:=G.o;omega));have hG:=jA (qq hG.o a4);obtain⟨i2,u,r2,_,_,b8,_⟩:=y.head;have d4:Hid (V.heap.size<=w1.heap.size):=a4.size;rw[b8] at y a0;by_cases k3:u.kind=3
  . have a7:=jA (xa w1 g gt n c ts r2 u y he 3 k3 (by decide));have HV:Hid (P=(kU 123 r2).bind λ_ r3=>Ku u.text (uF xe [] r3)):=by
     show _=_;rw[a0,show ja 3 (u :: r2)=.ok u.text r2 from if_pos k3];rfl
    clear HT y a4 hE a0 b0 b8 k3 e1;go_wp2_with fail;refine a7.o.mono ?_;rintro e w2 ⟨rfl,y,a1⟩;obtain⟨X0,X,e2,e3,AX,BX,b2,f0,f1,f2,f3,f4,f5⟩:=ze w2 87 (.int .i64 0) (.string ⟨#[]⟩) (.int .i64 0) (.int .i64 (u.kind:Int)) (.string (stg u.text)) (.int .i64 (u.line:Int));have y:=y.keep BX;have GW:=jA (qq hG.o (qq a1 (qu BX _)));have RX:=jA ((RX.o.grown a1 (by have:=G.o;omega)).kept BX);have d9:Hid (w1.heap.size<=w2.heap.size):=a1.size;(have c6:Hid (w2.heap.size≠g):=λe=>by have:=G.o;have:=d4.o;have:=d9.o;omega);have HM:=ue X g gt n c ts r2 y he 123;have AX:=jA AX;cases hm:jU 123 r2 with
    | false =>
     rw[hm,if_neg (by decide)] at HM;have HM:=jA HM;have HV:Hid (P=.bad (vm r2)):=by
      show _=_;rw[HV.o,yV,hm];rfl
     clear a7 BX a1 y hm;go_wp2_with fail;clear e2 e3 f0 f1 f2 f3 f4 f5;refine HM.o.mono ?_;rintro e w3 ⟨rfl,y,a2⟩;have RX:=RX.o.grown a2 (by have:=G.o;omega);obtain⟨Y,e6,hY,AY,f0,f1,f2,f3⟩:=zl RX (.string ⟨#[]⟩) (.slice none 0 0);obtain⟨q0,q1⟩:=AY.c2;(have GY:Hid (w.grownBy Y (some g)):=by show World.grownBy _ _ _;rw[hY.o];exact yR (qq GW.o a2) (by omega) _ _);have BY:Hid (Qg Y g gt n c ts (vm r2)):=⟨r2,by rw[hY.o];exact y.put2 (by have:=G.o;omega) (by have:=J.o;omega) _ _,rfl⟩;clear HM RX AY y a2;go_wp2_with fail;refine bodyPost_ret (v:=.tuple #[.agg #[.string ⟨#[]⟩,.slice none 0 0],.bool false]) (by simp[results,Tryz.results39,go_sem,q0,q1]) rfl ?_;refine⟨?_,GY.o⟩;rw[HV.o];exact⟨⟨_,_,_,_,rfl⟩,BY.o⟩
    | true =>
     rw[hm,if_pos rfl] at HM;have HM:=jA HM;have HV:Hid (P=Ku u.text (uF xe [] (r2.drop 1))):=by
      show _=_;rw[HV.o,yV,hm];rfl
     clear a7 BX a1 y hm;go_wp2_with fail;clear e2 e3 f0 f1 f2 f3 f4 f5;refine HM.o.mono ?_;rintro e w3 ⟨rfl,y,a2⟩;have RX:=RX.o.grown a2 (by have:=G.o;omega);have AX:=AX.o.grown a2 c6.o;obtain⟨Z0,Z,e4,e5,AZ,BZ,d5,f0,f1,f2,f3⟩:=xj w3 24 (.string ⟨#[]⟩) (.slice none 0 0) (.string (stg u.text)) (.slice none 0 0);have q1:w3.cell? ⟨w2.heap.size,1,none⟩=some (.string (stg u.text)):=AX.cell 1;have y:=jA (y.keep BZ);have H:Hid (SSt w Z g w3.heap.size (.string (stg u.text)) none 0 0 []):=by
      refine⟨[],⟨by rw[hb];exact World.ownsRow_nil _ _ _ _,AZ,by rw[hb];exact RX.kept BZ,qq GW.o (qq a2 (qu BZ _)),?_,by have:=G.o;omega⟩,rfl⟩;have:=RX.lt;omega
     obtain⟨sb,d6⟩:∃bb,w3.heap.size=bb:=⟨_,rfl⟩;rw[d6] at H e5 f0 f1 f2 f3;(have b3:Hid (0+(r2.drop 1).length<=ts.length):=by show _<=_;have:=y.o.sub;omega);clear HM RX AX AZ BZ a2 GW d5;go_wp2_with fail;clear e4 e5 f0 f1 f2 f3 q1;(go_loopw [7,8] (λ_ _ wr=>∃ (ao:Option Addr) (m d:Nat) (l:List Tok) (bs:List Blc),AtP wr g gt n c ts l/\SSt w wr g sb (.string (stg u.text)) ao m d bs/\Hid (P=Ku u.text (uF xe bs l))/\m+l.length<=ts.length) (λ_ _ wr=>psN g wr));(case atStart=>exact⟨none,0,0,_,[],y.o,H.o,HV,b3.o⟩);case round =>
      clear y H HV b3;obtain⟨ao,m,d,l,bs,y,H,hR,hm⟩:=hrel;have c8:=jA y.psN;have HM:=ue wr g gt n c ts l y he 125;have H:=jA H;cases hq:jU 125 l with
      | true =>
       rw[hq,if_pos rfl] at HM;have HM:=jA HM;have hR:Hid (P=(ja 5 (l.drop 1)).bind λ_ r3=>.ok ⟨u.text,bs⟩ r3):=by
        show _=_;rw[hR.o,YT hq];unfold Ku;rw[PR.bind_ok,yV,hq];rfl
       clear y hq;go_wp2_with fail;refine HM.o.mono ?_;rintro e w4 ⟨rfl,y,a8⟩;have H:=(H.o.call a8).keep (Below.drew (Below.refl _ _));have y:=y.keep (Below.drew (Below.refl _ _));obtain⟨W,hW⟩:=jx3 (w4.drew);rw[hW] at H y;obtain⟨i3,v,r3,b9,hv,b6,_⟩:=y.head;have HN:=jA (Uu W g gt n c ts i3 b9 v hv 5);have hR:Hid (P=(if v.kind=5 then .ok ⟨u.text,bs⟩ r3 else .bad v.line)):=by
        show _=_;rw[hR.o,b6];show(if v.kind=5 then _ else _:PR _).bind _=_;by_cases h5:v.kind=5
        . rw[if_pos h5,if_pos h5];rfl
        . rw[if_neg h5,if_neg h5];rfl
       obtain⟨nb,b5⟩:=jx1 (decide (v.kind=5));rw[b5.o] at HN;obtain⟨y0,y1⟩:=H.box.c2;have a3:=H.res;rw[hb] at a3;obtain⟨Y,e6,hY,AY,f0,f1,f2,f3⟩:=zl a3 (.string (stg u.text)) (.slice ao m d);have EY:=H.box.off2 (b:=b) (by have:=H.new;omega) (.string (stg u.text)) (.slice ao m d);rw[<- hY.o] at EY;obtain⟨p0,p1⟩:=EY.c2;obtain⟨q0,q1⟩:=AY.c2;(have GY:Hid (w.grownBy Y (some g)):=by show World.grownBy _ _ _;rw[hY.o];exact yR H.grown (by omega) _ _);(have AT:Hid (AtP Y g gt n c ts (v :: r3)):=by show AtP _ _ _ _ _ _ _;rw[hY.o,<- b6];exact y.put2 (by have:=G.o;omega) (by have:=J.o;omega) _ _);have BL:Hid (BlkL true (qS w.heap.size [9,63,55]) Y ao m d bs):=by
        show BlkL _ _ _ _ _ _ _;rw[hY.o];exact H.blks.keep (qE _ _) (vY a3 (by decide) _ _)
       clear HM H y a8 a3 b9 hv b6 EY AY;go_wp2_with fail;go_region_held3 (λw'=>w'.cell? ⟨sb,0,none⟩=some (.string (stg u.text))/\w'.cell? ⟨sb,1,none⟩=some (.slice ao m d)) (go_keep) (first
         | (go_at_call 83;refine HN.o.mono ?_;rintro e w5 ⟨rfl,rfl⟩)
         | fail)
       all_goals
         go_wp2_with fail;refine bodyPost_ret (v:=.tuple #[.agg #[.string (stg u.text),.slice ao m d],.bool nb]) (by simp[results,Tryz.results39,go_sem,q0,q1]) rfl ?_;refine⟨?_,GY.o⟩;rw[hR.o];cases nb with
         | true =>
          rw[if_pos (of_decide_eq_true b5.o)];exact⟨ao,m,d,rfl,BL.o⟩
         | false =>
          rw[if_neg (of_decide_eq_false b5.o)];exact⟨⟨_,_,_,_,rfl⟩,v :: r3,AT.o,rfl⟩
      | false =>
       rw[hq,if_neg (by decide)] at HM;have HM:=jA HM;have hq:=jA hq;clear y;go_wp2_with fail;refine HM.o.mono ?_;rintro e w4 ⟨rfl,y,a8⟩;have H:=jA (H.o.call a8);have d7:Hid (w.heap.size<=w4.heap.size):=H.o.grown.size;have HF:=Co w4 g gt n c ts l y he hsz hts;cases hv:xe l with
       | bad ln =>
        rw[hv] at HF;have HF:=jA HF;(have hR:Hid (P=.bad ln):=by show _=_;rw[hR.o,YU hq.o hv];rfl);clear HM y a8 hv;go_wp2_with fail;refine HF.o.mono ?_;rintro e w5 ⟨⟨⟨S,S2,a6,m2,d2,z,rfl⟩,hB⟩,a9⟩;obtain⟨X0,X,e2,e3,AX,BX,b2,f0,f1,f2,f3,f4,f5,f6,f7⟩:=xl w5 55 (.string ⟨#[]⟩) (.string ⟨#[]⟩) (.slice none 0 0) (.int .i64 0) (.string S) (.string S2) (.slice a6 m2 d2) (.int .i64 z);have H:=(H.o.call a9).keep BX;have a3:=H.res;rw[hb] at a3;obtain⟨Y,e6,hY,AY,k0,k1,k2,k3⟩:=zl a3 (.string ⟨#[]⟩) (.slice none 0 0);obtain⟨q0,q1⟩:=AY.c2;(have GY:Hid (w.grownBy Y (some g)):=by show World.grownBy _ _ _;rw[hY.o];exact yR H.grown (by omega) _ _);have BY:Hid (Qg Y g gt n c ts ln):=by
         obtain⟨l',h1,h2⟩:=hB;exact⟨l',by rw[hY.o];exact(h1.keep BX).put2 (by have:=G.o;omega) (by have:=J.o;omega) _ _,h2⟩
        clear HF AX BX H a3 AY hB a9;go_wp2_with fail;refine bodyPost_ret (v:=.tuple #[.agg #[.string ⟨#[]⟩,.slice none 0 0],.bool false]) (by simp[results,Tryz.results39,go_sem,q0,q1]) rfl ?_;refine⟨?_,GY.o⟩;rw[hR.o];exact⟨⟨_,_,_,_,rfl⟩,BY.o⟩
       | ok f r3 =>
        rw[hv] at HF;have HF:=jA HF;(have hR:Hid (P=Ku u.text (uF xe (bs++[f]) r3)):=by show _=_;rw[hR.o,We (λ_ _ _ h=>YQ h) hq.o hv]);have e0:=YQ hv;clear HM y hv;go_wp2_with fail;refine HF.o.mono ?_;rintro e w5 ⟨⟨⟨a6,m2,d2,rfl,a5⟩,y⟩,a9⟩;obtain⟨X0,X,e2,e3,AX,BX,b2,f0,f1,f2,f3,f4,f5,f6,f7⟩:=xl w5 55 (.string ⟨#[]⟩) (.string ⟨#[]⟩) (.slice none 0 0) (.int .i64 0) (.string (stg f.kind)) (.string (stg f.name)) (.slice a6 m2 d2) (.int .i64 (f.line:Int));have H:=(H.o.call a9).keep BX;have y:=y.keep BX;obtain⟨us,LS,FC⟩:=H;have a5:FldL true (qS w.heap.size [9,63]) X a6 m2 d2 f.flds:=(FldL.keep a5 (qE _ _) (qD _ BX)).mono (kF d7.o (by simp));obtain⟨p0,p1,p2,p3⟩:=AX.c4;have y2:X.cell? ⟨sb,1,none⟩=some (.slice ao m d):=LS.box.cell 1;(have e7:b<=X.heap.size:=by have:=LS.size;omega);have LS:=jA LS;have FC:=jA FC;have y:=jA y;have a5:=jA a5;clear HF AX BX a9 b2;go_wp2_with (at_builtin;refine vl (vs:=[.string (stg f.kind),.string (stg f.name),.slice a6 m2 d2,.int .i64 (f.line:Int)]) Tryz.underlying22 XD rfl (by decide) (by decide) LS.o.own (by omega) (by omega) rfl (by intro u hu;simp at hu;rcases hu with rfl|rfl|rfl|rfl<;>rfl) rfl rfl ?_);intro b4 d3 w6 O3 G3 B3;obtain⟨Y,e6,b1,hY,k0,k1,K3⟩:=LS.o.push (Es:=[9,63]) (by decide) (by decide) (by decide) O3 G3 B3;have d8:Hid (SSt w Y g sb (.string (stg u.text)) b4 (m+1) d3 (bs++[f])) :=
         ⟨_,b1,BCells.append (FC.o.keep (qE _ _) K3) ⟨a6,m2,d2,_,[],rfl,FldL.keep a5.o (qE _ _) K3,λ_=>rfl,rfl⟩⟩
        have c7:Hid (AtP Y g gt n c ts r3):=by
         show AtP _ _ _ _ _ _ _;rw[hY.o];exact(y.o.low B3 (by rw[hb];exact G.o) (by rw[hb];exact J.o)).far (by show g≠sb;have:=b1.new;have:=G.o;omega) (by show gt≠sb;have:=b1.new;have:=J.o;omega) _
        have k0:w6.cell? ⟨sb,1,none⟩=some (.slice ao m d):=k0;have k1:w6.frozen? ⟨sb,1,none⟩=false:=k1;have e6:w6.setCell ⟨sb,1,none⟩ (.slice b4 (m+1) d3)=Y:=e6;clear e2 e3 f0 f1 f2 f3 f4 f5 f6 f7 LS FC y a5 O3 G3 B3 b1 K3 p0 p1 p2 p3;go_wp2_with fail;go_roundw;(case rel=>exact⟨b4,m+1,d3,r3,bs++[f],c7.o,d8.o,hR,by omega⟩);case measure=>rw[c7.o.psN,c8.o];omega
  . have a7:=jA (xb w1 g gt n c ts r2 u y 3 k3);have HV:Hid (P=.bad u.line):=by
     show _=_;rw[a0,show ja 3 (u :: r2)=.bad u.line from if_neg k3];rfl
    clear HT y a4 hE a0 b0 b8 k3 e1;go_wp2_with fail;refine a7.o.mono ?_;rintro e w2 ⟨rfl,y,a1⟩;obtain⟨X0,X,e2,e3,AX,BX,b2,f0,f1,f2,f3,f4,f5⟩:=ze w2 87 (.int .i64 0) (.string ⟨#[]⟩) (.int .i64 0) (.int .i64 0) (.string ⟨#[]⟩) (.int .i64 0);have y:=y.keep BX;have GW:=qq hG.o (qq a1 (qu BX _));have RX:=(RX.o.grown a1 (by have:=G.o;omega)).kept BX;obtain⟨Y,e6,hY,AY,d0,d1,d2,d3⟩:=zl RX (.string ⟨#[]⟩) (.slice none 0 0);obtain⟨q0,q1⟩:=AY.c2;(have GY:Hid (w.grownBy Y (some g)):=by show World.grownBy _ _ _;rw[hY.o];exact yR GW (by omega) _ _);have BY:Hid (Qg Y g gt n c ts u.line):=⟨u :: r2,by rw[hY.o];exact y.put2 (by have:=G.o;omega) (by have:=J.o;omega) _ _,rfl⟩;clear a7 AX BX RX AY y a1 GW;go_wp2_with fail;refine bodyPost_ret (v:=.tuple #[.agg #[.string ⟨#[]⟩,.slice none 0 0],.bool false]) (by simp[results,Tryz.results39,go_sem,q0,q1]) rfl ?_;refine⟨?_,GY.o⟩;rw[HV.o];exact⟨⟨_,_,_,_,rfl⟩,BY.o⟩
theorem Cq(s:ByteArray)(w:World)(hs:s.size<=1000000) :
    Calls Tryz.prog 16 #[.string s] w λe w'=>YR (gP s) w' e/\Below w.heap.size w w':=by
 obtain⟨V,e1,AV,BV,hz⟩:=qG w 24 [.string ⟨#[]⟩,.slice none 0 0];obtain⟨U,e2,AU,BU,b5⟩:=qG V 37 [.int .i64 0,.int .i64 0];have AV:=AV.kept BU;obtain⟨b,hb⟩:=jx3 (w.heap.size);rw[hb] at AV BV hz;rw[hz] at AU b5;have HB:Hid (Below b w U):=BV.trans (BU.mono (by omega));have HA:=jA (LG s U hs);have AV:=jA AV;have AU:=jA AU;have H:=jA b5;clear BV BU b5;rcases VB s with ⟨ts,m,a2,hpar,he,hsz,hts⟩|⟨E,L,hE,ho,hr⟩
 . rw[hpar];obtain⟨P,hP⟩:=jx1 (xZ (ts++[(⟨5,[],m⟩:Tok)]));rw[hP.o];have a2:=jA a2;clear hpar;go_in;go_wp2_with fail;refine HA.o.mono ?_;rintro e w1 ⟨hO,B1⟩;rw[a2.o] at hO;obtain⟨ao,c,rfl,O⟩:=hO.ok;obtain⟨nn,b8⟩:=jx3 (ts.length+1);rw[b8] at O |-;rcases O.cases with ⟨_,h0,_⟩|⟨gt,rfl,hgt1,hgt2,hnc,hcm⟩
   . omega
   obtain⟨X0,X,e3,e4,AX,BX,a4,f0,f1,f2,f3⟩:=xj w1 37 (.int .i64 0) (.int .i64 0) (.int .i64 0) (.int .i64 0);obtain⟨Y,e5,AY,BY,c8⟩:=qG X 84 [.slice (some ⟨gt,0,none⟩) nn c];have OY:=(O.keep BX).keep BY;have b0:AtP Y X.heap.size gt nn c (ts++[(⟨5,[],m⟩:Tok)]) (ts++[(⟨5,[],m⟩:Tok)]):=⟨0,⟨AY,OY.lower (Nat.zero_le _),by omega,by omega,hnc,hcm⟩,rfl⟩;have HD:=jA (P7 Y X.heap.size gt nn c _ _ b0 he hsz hts);rw[hP.o] at HD;have q0:X.cell? ⟨w1.heap.size,0,none⟩=some (.int .i64 0):=AX.cell 0;have d1:=jA (((AV.o.below B1 (by rw[H.o];omega)).kept BX).kept BY);have d0:=jA (((AU.o.below B1 (by rw[H.o];omega)).kept BX).kept BY);have b7:U.heap.size<=w1.heap.size:=B1.size;have d3:Hid (Below b w Y):=HB.o.trans (((B1.trans (BX.mono b7)).trans (BY.mono (by omega))).mono (by rw[H.o];omega));obtain⟨g,hg⟩:=jx3 (X.heap.size);(have a9:Hid (b+1<gt):=by show _<_;have:=H.o;omega);(have a0:Hid (b+1<g):=by show _<_;have:=H.o;omega);(have b4:Hid (Y.heap.size=g+1):=by show _=_;omega);rw[hg] at HD b0 AY;clear hO B1 O OY hgt1 hgt2 hnc hcm AX BX BY c8 a4 b0 b8 HA AY;go_wp2_with fail;clear e1 e2 e3 e4 e5 f0 f1 f2 f3 q0;refine HD.o.mono ?_;rintro e w2 ⟨hO,hG⟩;have a5:=d1.o.grown hG (by have:=a0.o;omega);have a8:=d0.o.grown hG (by have:=a0.o;omega);have d5:Y.heap.size<=w2.heap.size:=hG.size;have a7:Below b w w2:=d3.o.trans (YM hG (by have:=a0.o;omega) (by have:=a0.o;have:=b4.o;omega));cases P with
   | ok x r =>
    obtain⟨ao,m',d,rfl,BL⟩:=hO;obtain⟨X0,X1,e3,e4,AX,BX,a4,f0,f1,f2,f3⟩:=xj w2 24 (.string ⟨#[]⟩) (.slice none 0 0) (.string (stg x.title)) (.slice ao m' d);have BL:=BL.keep (qE _ _) (qD _ BX);have y:=a5.kept BX;have G:=a8.kept BX;obtain⟨p0,p1⟩:=AX.c2;obtain⟨Z,e5,hZ,AZ,k0,k1,k2,k3⟩:=zl y (.string (stg x.title)) (.slice ao m' d);have a6:=G.off2 (b:=b) (by omega) (.string (stg x.title)) (.slice ao m' d);rw[<- hZ.o] at a6;obtain⟨Z2,e6,b6,b9,j0,j1,j2,j3⟩:=zl a6 (.int .i64 0) (.int .i64 0);have b2:=AZ.off2 (b:=b+1) (by omega) (.int .i64 0) (.int .i64 0);rw[<- b6.o] at b2;obtain⟨r0,r1⟩:=b2.c2;obtain⟨r2,r3⟩:=b9.c2;have J:Hid (Below b w Z2):=by
     show Below _ _ _;rw[b6.o,hZ.o];exact jX (jX (a7.trans (BX.mono (by have:=a0.o;have:=b4.o;omega))) (Nat.le_refl _) _ _) (Nat.le_succ _) _ _
    have d2:Hid (BlkL true qU Z2 ao m' d x.blks):=by
     show BlkL _ _ _ _ _ _ _;rw[b6.o];refine((BL.keep (qE _ _) ?_).keep (qE _ _) (vY a6 (by decide) _ _)).mono (λ_ _=>trivial);rw[hZ.o];exact vY y (by decide) _ _
    clear hG HD a5 a8 a7 AX BX BL y G AZ a6 b9 b2;go_wp2_with fail;refine bodyPost_ret (v:=.tuple #[.agg #[.string (stg x.title),.slice ao m' d],.agg #[.int .i64 0,.int .i64 0]]) (by simp[results,Tryz.results16,go_sem,r0,r1,r2,r3]) rfl ?_;exact⟨⟨ao,m',d,rfl,d2.o⟩,by rw[hb];exact J.o⟩
   | bad ln =>
    obtain⟨⟨S,ao,m',d,rfl⟩,l',c7,b1⟩:=hO;obtain⟨X0,X1,e3,e4,AX,BX,a4,f0,f1,f2,f3⟩:=xj w2 24 (.string ⟨#[]⟩) (.slice none 0 0) (.string S) (.slice ao m' d);obtain⟨i,t,rr,a1,ht,hl,_⟩:=c7.head;have a1:=(a1.keep BX).keep (Below.drew (Below.refl _ _));have y:=(a5.kept BX).drew;have G:=(a8.kept BX).drew;have J:=a7.trans (BX.mono (by have:=a0.o;have:=b4.o;omega));have J:=J.drew;obtain⟨W,hW⟩:=jx3 (X1.drew);rw[hW] at a1 y G J;obtain⟨_,_,a3⟩:=a1.at t ht;have y0:W.cell? ⟨g,0,none⟩=some (.slice (some ⟨gt,3*i,none⟩) (nn-i) (c-i)):=a1.arr.cell 0;have x0:=VN gt i nn c a1.lt;(have c6:t.line=ln:=by rw[hl] at b1;exact b1);rw[c6] at a3;obtain⟨k0,k1⟩:=y.c2;have k2:=y.frozen 0;have k3:=y.frozen 1;obtain⟨j0,j1⟩:=G.c2;have j2:=G.frozen 0;have j3:=G.frozen 1;(have n1:b≠g:=by have:=a0.o;omega);(have n2:b+1≠g:=by have:=a0.o;omega);(have n3:b≠gt:=by have:=a9.o;omega);(have n4:b+1≠gt:=by have:=a9.o;omega);have y:=jA y;have G:=jA G;have J:=jA J;clear hG HD a5 a8 a7 AX BX a1 c7 hl b1 ht;go_wp2_with fail;(go_region);go_wp2_with fail;obtain⟨r0,r1,r2,r3,hZ⟩:=Ks (E:=1) (L:=(ln:Int)) (r:=some (.err ln)) y.o G.o J.o rfl;unfold put2 at r0 r1 r2 r3;refine bodyPost_ret (v:=.tuple #[.agg #[.string ⟨#[]⟩,.slice none 0 0],.agg #[.int .i64 1,.int .i64 (ln:Int)]]) (by simp[results,Tryz.results16,go_sem,r0,r1,r2,r3]) rfl ?_;rw[hb];exact hZ
 . have ho:=jA ho;have hr:=jA hr;(have d4:(E != 0)=true:=by rw[bne,hE];rfl);go_in;go_wp2_with fail;refine HA.o.mono ?_;rintro e w1 ⟨hO,B1⟩;obtain⟨ao,nn,c,rfl,_⟩:=hO.view;rw[hr.o];obtain⟨X0,X,e3,e4,AX,BX,a4,f0,f1,f2,f3⟩:=xj w1 37 (.int .i64 0) (.int .i64 0) (.int .i64 E) (.int .i64 L);have y:=((AV.o.below B1 (by rw[H.o];omega)).kept BX).drew;have G:=((AU.o.below B1 (by rw[H.o];omega)).kept BX).drew;have J:=(HB.o.trans ((B1.trans (BX.mono B1.size)).mono (by rw[H.o];omega))).drew;have q0:X.cell? ⟨w1.heap.size,0,none⟩=some (.int .i64 E):=AX.cell 0;have b3:=AX.drew;obtain⟨W,hW⟩:=jx3 (X.drew);rw[hW] at y G J b3;obtain⟨y0,y1⟩:=b3.c2;obtain⟨k0,k1⟩:=y.c2;have k2:=y.frozen 0;have k3:=y.frozen 1;obtain⟨j0,j1⟩:=G.c2;have j2:=G.frozen 0;have j3:=G.frozen 1;have b7:U.heap.size<=w1.heap.size:=B1.size;(have n1:b≠w1.heap.size:=by have:=H.o;omega);(have n2:b+1≠w1.heap.size:=by have:=H.o;omega);have y:=jA y;have G:=jA G;have J:=jA J;clear HA hO B1 AX BX b3 b7;go_wp2_with fail;(go_region);go_wp2_with fail;obtain⟨r0,r1,r2,r3,hZ⟩:=Ks (E:=E) (L:=L) y.o G.o J.o ho.o;unfold put2 at r0 r1 r2 r3;refine bodyPost_ret (v:=.tuple #[.agg #[.string ⟨#[]⟩,.slice none 0 0],.agg #[.int .i64 E,.int .i64 L]]) (by simp[results,Tryz.results16,go_sem,r0,r1,r2,r3]) rfl ?_;rw[hb];exact hZ
theorem Cr(w:World)(a0 a1 f0 f1:Value):∃V U W X,w.alloc (.cells #[.string ⟨#[]⟩,.slice none 0 0] 24)=V/\V.alloc (.cells #[.int .i64 0,.int .i64 0] 37)=U /\
    (U.setCell ⟨w.heap.size,0,none⟩ a0).setCell ⟨w.heap.size,1,none⟩ a1=W/\(W.setCell ⟨w.heap.size+1,0,none⟩ f0).setCell ⟨w.heap.size+1,1,none⟩ f1=X/\V.heap.size=w.heap.size+1 /\
    (U.cell? ⟨w.heap.size,0,none⟩=some (.string ⟨#[]⟩)/\U.frozen? ⟨w.heap.size,0,none⟩=false/\(U.setCell ⟨w.heap.size,0,none⟩ a0).cell? ⟨w.heap.size,1,none⟩=some (.slice none 0 0)/\(U.setCell ⟨w.heap.size,0,none⟩ a0).frozen? ⟨w.heap.size,1,none⟩=false) /\
    (W.cell? ⟨w.heap.size+1,0,none⟩=some (.int .i64 0)/\W.frozen? ⟨w.heap.size+1,0,none⟩=false/\(W.setCell ⟨w.heap.size+1,0,none⟩ f0).cell? ⟨w.heap.size+1,1,none⟩=some (.int .i64 0)/\(W.setCell ⟨w.heap.size+1,0,none⟩ f0).frozen? ⟨w.heap.size+1,1,none⟩=false) /\
    Arr X w.heap.size 24 [a0,a1]/\Arr X (w.heap.size+1) 37 [f0,f1]/\Below w.heap.size w X:=by
 obtain⟨V,e1,m,Z,z1⟩:=qG w 24 [.string ⟨#[]⟩,.slice none 0 0];obtain⟨U,e2,A2,G,z2⟩:=qG V 37 [.int .i64 0,.int .i64 0];have m:=m.kept G;rw[z1] at A2;obtain⟨W,e3,hW,A3,k0,k1,k2,k3⟩:=zl m a0 a1;have H:=A2.off2 (b:=w.heap.size) (by omega) a0 a1;rw[<- hW.o] at H;obtain⟨X,e4,J,A5,l0,l1,l2,l3⟩:=zl H f0 f1;have y:=A3.off2 (b:=w.heap.size+1) (by omega) f0 f1;rw[<- J.o] at y;refine⟨V,U,W,X,e1,e2,e3,e4,z1,⟨k0,k1,k2,k3⟩,⟨l0,l1,l2,l3⟩,y,A5,?_⟩;rw[J.o,hW.o];exact jX (jX (Z.trans (G.mono Z.size)) (Nat.le_refl _) _ _) (Nat.le_succ _) _ _
theorem Ct(w:World):Calls Tryz.prog 34 #[] w λe w'=>e=.returned (.string YS)/\w=w':=by
 go_in;go_wp2_with fail;go_ret;exact⟨rfl,rfl⟩
namespace Lx
theorem Cu:Qf (bys YS)=.ok VC:=by
 have:=Kt;unfold gP at this;rw[if_neg (by decide +kernel)] at this;injection this
theorem Kv:yM (gR VC)/\(∀b∈(gR VC).blks,∀f∈b.flds,f.vals.length<=4000000):=by
 obtain⟨a,b,_⟩:=Vr Cu (by decide +kernel);exact⟨a,b⟩
end Lx
theorem Cv(w:World)(hT:Tabs w):Calls Tryz.prog 14 #[] w λe w'=>e=.returned (.bool true)/\Below w.heap.size w w':=by
 have HS:=jA (Ct w);obtain⟨KT,a0⟩:∃K,Hid (stg vH.title=K):=⟨_,rfl⟩;obtain⟨KS,a1⟩:∃K,Hid (stg vH.seed=K):=⟨_,rfl⟩;have HP:Hid (jC 16 #[.string YS] w λr w'=>∃ao m d,r=.returned (.tuple #[.agg #[.string KT,.slice ao m d],.agg #[.int .i64 0,.int .i64 0]])/\BlkS qU w' ao m d (gR VC).blks/\Below w.heap.size w w'):=by
  apply jA;refine(Cq YS w (by decide +kernel)).mono ?_;rintro r w' ⟨hO,hB⟩;rw[Kt] at hO;obtain⟨ao,m,d,he,BL⟩:=hO;exact⟨ao,m,d,by rw[<- a0.o];exact he,BL.toS,hB⟩
 have b0:Hid (∀W bo bn bc,Below w.heap.size w W->BlkS qU W bo bn bc (gR VC).blks->Calls Tryz.prog 12 #[.agg #[.string KT,.slice bo bn bc]] W λr w'=>∃y,r=.returned (.tuple #[eV vH y,.agg #[.int .i64 0,.int .i64 0]])/\(ElcS qU w' vH y/\ul vH y)/\Below W.heap.size W w'):=λW bo bn bc hb hv=>by
  have:=Qc (gR VC) bo bn bc W hv Kv.1 Kv.2 (hT.below hb);rw[<- a0.o];refine this.mono ?_;rintro r w' ⟨y,he,hs,hB⟩;have hr:=gM hs;rw[Ch] at he hs hr;exact⟨y,he,⟨hs,hr⟩,hB⟩
 have b9:Hid (∀W y,Below w.heap.size w W->ElcS qU W vH y->ul vH y->Calls Tryz.prog 20 #[eV vH y] W λr w'=>r=.returned (.bool true)/\Below W.heap.size W w'):=λW y hb hs hr=>by
  have:=Nl vH y W hs (P6 hr) (hT.below hb);rw[Ns] at this;exact this
 have c8:Hid (∀W y,ElcS qU W vH y->Calls Tryz.prog 25 #[eV vH y,.int .i64 1] W λr w'=>r=.returned (.int .i64 0)/\Below W.heap.size W w'):=λW y hs=>by
  have:=Hh vH y 1 W hs;rw[Nt] at this;exact this
 have c7:Hid (∀W y,ElcS qU W vH y->y.cn=1/\∃a:Addr,(∀X,(Instr.indexAt 27 (.slice y.co y.cn y.cc) (.int .i64 0)).run Tryz.prog X=.ok (.pointer (some a)) X)/\W.cell? ⟨a.block,a.off+2,none⟩=some (.int .i64 1)):=λW y hs=>by
  have hl:=hs.conts.len;obtain⟨x,a,vo,vn,vc,hx,i1,c0,c1,c2,_⟩:=hs.conts.get 0 (by rw[<- hl];decide);have:x=⟨[109,97,121,111,114],[[97,110,110],[98,111,98],[99,101,109]],1,1,3,0,3,1,1⟩:=(Option.some.inj hx).symm;subst this;exact⟨hl.symm,a,i1,c2⟩
 obtain⟨G,d6⟩:∃E,Hid (vH=E):=⟨_,rfl⟩;rw[d6.o] at b0 b9 c8 c7 a0 a1;obtain⟨SB,b2⟩:∃S,Hid ((gR VC).blks=S):=⟨_,rfl⟩;rw[b2.o] at b0 HP;obtain⟨AT,b5⟩:∃S,Hid (YS=S):=⟨_,rfl⟩;rw[b5.o] at HP HS;clear hT b2 b5;go_in;go_wp2_with (first
   | (go_at_call 34;(with_reducible refine HS.o.mono ?_);rintro r v0 ⟨rfl,rfl⟩)
   | (go_at_call 16;(with_reducible refine HP.o.mono ?_);rintro r v1 ⟨ao,m,d,rfl,BL,B1⟩;obtain⟨V,U0,W0,U,e3,e4,e5,e6,hz,⟨k0,k1,k2,k3⟩,⟨l0,l1,l2,l3⟩,AV,AU,BU⟩:=Cr v1 (.string KT) (.slice ao m d) (.int .i64 0) (.int .i64 0);have y0:U.cell? ⟨v1.heap.size,0,none⟩=some (.string KT):=AV.cell 0;have y1:U.cell? ⟨v1.heap.size,1,none⟩=some (.slice ao m d):=AV.cell 1;have b1:=jA AU;have a9:Hid (Below w.heap.size w U):=B1.trans (BU.mono B1.size);have e9:=jA (b0.o U ao m d a9.o (BL.keep qJ (qD _ BU)));clear AV AU BU BL B1)
   | (go_at_call 12;(with_reducible refine e9.o.mono ?_);rintro r v4 ⟨y,he,⟨ES,a6⟩,B4⟩;replace he:r=.returned (.tuple #[.agg #[.string KT,.int .i64 G.dots,.int .i64 G.blank,.int .i64 G.marked,.slice y.po y.pn y.pc,.slice y.co y.cn y.cc,.slice y.so y.sn y.sc,.int .i64 G.scanners,.int .i64 G.batch,.bool G.rneg,.slice y.uo y.un y.uc,.slice y.dO y.dn y.dc,.int .i64 G.cell,.string KS],.agg #[.int .i64 0,.int .i64 0]]):=(by rw[<- a0.o,<- a1.o];exact he);subst he;obtain⟨X1,d1,A5,B5,z5⟩:=qG v4 34 [.string ⟨#[]⟩,.int .i64 0,.int .i64 0,.int .i64 0,.slice none 0 0,.slice none 0 0,.slice none 0 0,.int .i64 0,.int .i64 0,.bool false,.slice none 0 0,.slice none 0 0,.int .i64 0,.string ⟨#[]⟩];obtain⟨X2,d2,A6,J,z6⟩:=qG X1 37 [.int .i64 0,.int .i64 0];obtain⟨Z,f5⟩:∃p,v4.heap.size=p:=⟨_,rfl⟩;obtain⟨p6,e7⟩:∃p,X1.heap.size=p:=⟨_,rfl⟩;have a5:p6≠Z:=(by omega);rw[f5] at A5;rw[e7] at A6;obtain⟨x0,x1,x2,x3,x4,x5,x6,x7,x8,x9,h6,k5,k9,a8,m4,i4,n6,l8,m0,m9,n5,k7,j1,m8,g7,g4,g6,g5,AX,GX,LX,n3,h5,h8,l9,i9,j0,i7,k6,i2,i8,i3,i5,l7,h7,l4,l5,n0,m1,m5,j4,g8,h1,g9,h2,g0,g2,g1,h4⟩:=kS (A5.kept J) (.string KT) (.int .i64 G.dots) (.int .i64 G.blank) (.int .i64 G.marked) (.slice y.po y.pn y.pc) (.slice y.co y.cn y.cc) (.slice y.so y.sn y.sc) (.int .i64 G.scanners) (.int .i64 G.batch) (.bool G.rneg) (.slice y.uo y.un y.uc) (.slice y.dO y.dn y.dc) (.int .i64 G.cell) (.string KS);obtain⟨Y,my,b8,AY,f0,f1,f2,f3⟩:=zl (A6.other GX a5) (.int .i64 0) (.int .i64 0);have GY:a8.grownBy Y (some p6):=(by rw[b8.o];exact qC (qM a8 p6 0 _) (qM _ p6 1 _));have H:=AX.other GY a5.symm;have b6:Below v4.heap.size v4 X2:=B5.trans (J.mono B5.size);have a3:Below v4.heap.size v4 a8:=LX _ _ b6 (by omega);have BY:Below v4.heap.size v4 Y:=(by rw[b8.o];exact(a3.setCell (p:=⟨_,0,none⟩) (by show _<=p6;omega) _).setCell (p:=⟨_,1,none⟩) (by show _<=p6;omega) _);have a2:=B4.trans (BY.mono B4.size);have a7:=jA (a9.o.trans (a2.mono a9.o.size));have a4:=jA (ES.below BY);have f9:=jA a6;have l6:Y.cell? ⟨p6,0,none⟩=some (.int .i64 0):=AY.cell 0;have i6:Y.cell? ⟨p6,1,none⟩=some (.int .i64 0):=AY.cell 1;have j2:Y.cell? ⟨v1.heap.size+1,0,none⟩=some (.int .i64 0):=(b1.o.kept a2).cell 0;have m2:Y.cell? ⟨v1.heap.size+1,1,none⟩=some (.int .i64 0):=(b1.o.kept a2).cell 1;have e8:Y.cell? ⟨Z,0,none⟩=some (.string KT):=H.cell 0;have d8:Y.cell? ⟨Z,1,none⟩=some (.int .i64 G.dots):=H.cell 1;have d7:Y.cell? ⟨Z,2,none⟩=some (.int .i64 G.blank):=H.cell 2;have e0:Y.cell? ⟨Z,3,none⟩=some (.int .i64 G.marked):=H.cell 3;have e1:Y.cell? ⟨Z,4,none⟩=some (.slice y.po y.pn y.pc):=H.cell 4;have f7:Y.cell? ⟨Z,5,none⟩=some (.slice y.co y.cn y.cc):=H.cell 5;have f4:Y.cell? ⟨Z,6,none⟩=some (.slice y.so y.sn y.sc):=H.cell 6;have d5:Y.cell? ⟨Z,7,none⟩=some (.int .i64 G.scanners):=H.cell 7;have d9:Y.cell? ⟨Z,8,none⟩=some (.int .i64 G.batch):=H.cell 8;have f6:Y.cell? ⟨Z,9,none⟩=some (.bool G.rneg):=H.cell 9;have b3:Y.cell? ⟨Z,10,none⟩=some (.slice y.uo y.un y.uc):=H.cell 10;have d3:Y.cell? ⟨Z,11,none⟩=some (.slice y.dO y.dn y.dc):=H.cell 11;have b4:Y.cell? ⟨Z,12,none⟩=some (.int .i64 G.cell):=H.cell 12;have d0:Y.cell? ⟨Z,13,none⟩=some (.string KS):=H.cell 13;obtain⟨hn,ad,i1,cm⟩:=c7.o Y y a4.o;have n1:(((y.cn:Nat):Int) == 1)=true:=(by rw[hn];rfl);replace hn:=jA hn;have d4:Hid (jC 20 #[.agg #[.string KT,.int .i64 G.dots,.int .i64 G.blank,.int .i64 G.marked,.slice y.po y.pn y.pc,.slice y.co y.cn y.cc,.slice y.so y.sn y.sc,.int .i64 G.scanners,.int .i64 G.batch,.bool G.rneg,.slice y.uo y.un y.uc,.slice y.dO y.dn y.dc,.int .i64 G.cell,.string KS]] Y λr w'=>r=.returned (.bool true)/\Below Y.heap.size Y w'):=(by have:=b9.o Y y a7.o a4.o a6;rw[<- a0.o,<- a1.o];exact this);clear ES B4 A5 B5 z5 A6 J z6 AX GX LX AY GY b6 a3 BY a2 H a5 a6)
   | (go_at_call 20;(with_reducible refine d4.o.mono ?_);rintro r v6 ⟨rfl,J⟩;have n7:=qA e8 J;have m3:=qA d8 J;have n4:=qA d7 J;have j5:=qA e0 J;have m7:=qA e1 J;have h9:=qA f7 J;have m6:=qA f4 J;have i0:=qA d5 J;have k4:=qA d9 J;have j3:=qA f6 J;have f8:=qA b3 J;have h3:=qA d3 J;have h0:=qA b4 J;have g3:=qA d0 J;have b7:=jA (a7.o.trans (J.mono a7.o.size));have e2:Hid (jC 25 #[.agg #[.string KT,.int .i64 G.dots,.int .i64 G.blank,.int .i64 G.marked,.slice y.po y.pn y.pc,.slice y.co y.cn y.cc,.slice y.so y.sn y.sc,.int .i64 G.scanners,.int .i64 G.batch,.bool G.rneg,.slice y.uo y.un y.uc,.slice y.dO y.dn y.dc,.int .i64 G.cell,.string KS],.int .i64 1] v6 λr w'=>r=.returned (.int .i64 0)/\Below v6.heap.size v6 w'):=(by have:=c8.o v6 y (a4.o.below J);rw[<- a0.o,<- a1.o];exact this))
   | (go_at_call 25;(with_reducible refine e2.o.mono ?_);rintro r v7 ⟨rfl,B7⟩;have c6:Hid (Below w.heap.size w v7):=b7.o.trans (B7.mono b7.o.size))
   | fail)
 go_ret;exact⟨rfl,c6.o⟩
end Go.Proofs.YtkefajjcpcoajaaGreatDoor
namespace Go.Proofs.YtkefajjcpcoajaaGreatDoor.Lx
theorem JU{α:Type}[DecidableEq α]:∀ {L P:List α},L.Nodup->(∀x∈L,x∈P)->L.length<=P.length
  | [],P,_,_=>Nat.zero_le _
  | x :: L,P,hL,hs=>by
   rw[List.nodup_cons] at hL;have hx:=hs x (List.mem_cons_self ..);(have:=JU (P:=P.erase x) hL.2 λy hy=>(List.mem_erase_of_ne (show y≠x from λe=>hL.1 (by rw[<- e];exact hy))).2 (hs y (List.mem_cons_of_mem _ hy)));rw[List.length_erase_of_mem hx] at this;have:=List.length_pos_of_mem hx;rw[List.length_cons];omega
theorem Kw{α:Type}[DecidableEq α]{L P:List α}(hP:P.Nodup)(hL:L.Nodup)(hs:∀x∈L,x∈P):L.length<P.length↔∃p∈P,p∉L:=by
 constructor
 . intro h;(refine Classical.byContradiction λy=>?_);(have:=JU hP λx m=>Classical.byContradiction λJ=>y ⟨x,m,J⟩);omega
 . rintro ⟨p,H,y⟩;have G:(p :: L).Nodup:=List.nodup_cons.2 ⟨y,hL⟩;have:=JU G (P:=P) λx m=>by
    rcases List.mem_cons.1 m with rfl|m
    . exact H
    . exact hs x m
   rw[List.length_cons] at this;omega
theorem wv{most:Nat}:∀ {vs seen:List (List UInt8)},seen.Nodup->j8 most seen vs=0->(seen++vs).Nodup
  | [],seen,h,_=>by rwa [List.append_nil]
  | n :: r,seen,h,hg=>by
   have hg':(if most<=seen.length then 7 else if !xz n then 8 else if seen.contains n then 3 else j8 most (seen++[n]) r)=0:=hg;split at hg'
   . cases hg'
   . split at hg'
     . cases hg'
     . split at hg'
       . cases hg'
       . rename_i hc;(have hn:n∉seen:=by simpa using hc);have y:(seen++[n]).Nodup:=by
          rw[List.nodup_append];exact⟨h,by simp,λa G b m e=>by rw[List.mem_singleton] at m;subst m;subst e;exact hn G⟩
         have:=wv y hg'
         rwa [List.append_assoc] at this
theorem wK(P:List (List UInt8))(ln:Int)(used:List (List UInt8))(v:List UInt8)(r:List (List UInt8)):jB P ln used (v :: r)=if !P.contains v then ((2,ln),used) else if used.contains v then ((3,ln),used) else jB P ln (used++[v]) r:=rfl
end Go.Proofs.YtkefajjcpcoajaaGreatDoor.Lx
