/- -/
import Derived.Test.YtkefajjcpcoajaaGreatDoorPkA0
import Derived.Deep.RegionHeld3
import Derived.Test.YtkefajjcpcoajaaGreatDoorPkA4
import Derived.Test.YtkefajjcpcoajaaGreatDoorPkA5
import Derived.Test.YtkefajjcpcoajaaGreatDoorPkA40
set_option linter.all false
set_option maxRecDepth 100000
set_option maxHeartbeats 6400000
namespace Go.Proofs.YtkefajjcpcoajaaGreatDoor.Lx
variable {acc:List (List UInt8)}{l:List Tok}
theorem yV(c:UInt8)(l:List Tok):kU c l=if jU c l then .ok () (l.drop 1) else .bad (vm l):=by
 cases l with
 | nil=>rfl
 | cons t r=>rfl
def ZQ(acc:List (List UInt8))(l:List Tok):PR (List (List UInt8)):=(Kr l).bind λvs r=>.ok (acc++vs) r
theorem Cl(h:jU 44 l=false):ZQ acc l=.ok acc l:=by
 unfold ZQ;rw[QD (l:=l) (k:=l.length+1) (Nat.le_succ _),vp,h,if_neg (by decide),PR.bind_ok,List.append_nil]
theorem Cm{e:Nat}(h:jU 44 l=true)(hv:jf (l.drop 1)=.bad e):ZQ acc l=.bad e:=by
 unfold ZQ;rw[QD (l:=l) (k:=l.length+1) (Nat.le_succ _),vp,h,if_pos rfl,hv];rfl
theorem Nv{r:List Tok}{v:List UInt8}(h:jU 44 l=true)(hv:jf (l.drop 1)=.ok v r):ZQ acc l=ZQ (acc++[v]) r:=by
 unfold ZQ;have m:=JQ hv;rw[List.length_drop] at m;rw[QD (l:=l) (k:=l.length+1) (Nat.le_succ _),vp,h,if_pos rfl,hv,PR.bind_ok,QD (l:=r) (k:=l.length) (by omega)];cases vp l.length r with
 | bad e=>rfl
 | ok vs q =>
  rw[PR.bind_ok,PR.bind_ok,PR.bind_ok,List.append_assoc];rfl
def JT(key:List UInt8)(ln:Nat)(p:PR (List (List UInt8))):PR Fld:=p.bind λvs r=>(kU 59 r).bind λ_ r2=>.ok ⟨key,vs,ln⟩ r2
theorem Qy(l:List Tok):xD l=(ja 1 l).bind λkey r=>JT key (vm l) ((jf r).bind λv r2=>ZQ [v] r2):=by
 rw[Ce];unfold Uk;cases ja 1 l with
 | bad e=>rfl
 | ok key r =>
  rw[PR.bind_ok,PR.bind_ok];cases jf r with
  | bad e=>rfl
  | ok v r2 =>
   rw[PR.bind_ok,PR.bind_ok];unfold JT ZQ;cases Kr r2 with
   | bad e=>rfl
   | ok vs r3=>rfl
def uF{α:Type}(p:List Tok->PR α)(acc:List α)(l:List Tok):PR (List α):=(kV p (l.length+1) l).bind λfs r=>.ok (acc++fs) r
section
variable {α : Type} {p : List Tok -> PR α} {acc : List α} {l r : List Tok}
theorem YT(h:jU 125 l=true):uF p acc l=.ok acc l:=by
 unfold uF;rw[kV,h,if_pos rfl,PR.bind_ok,List.append_nil]
theorem YU{e:Nat}(h:jU 125 l=false)(hp:p l=.bad e):uF p acc l=.bad e:=by
 unfold uF;rw[kV,h,if_neg (by decide),hp];rfl
theorem We{a:α}(hlt:∀l a r,p l=.ok a r->r.length<l.length)(h:jU 125 l=false)(hp:p l=.ok a r):uF p acc l=uF p (acc++[a]) r:=by
 unfold uF;have m:=hlt l a r hp;rw[kV,h,if_neg (by decide),hp,PR.bind_ok,Um hlt r.length r l.length (r.length+1) (Nat.le_refl _) m (Nat.lt_succ_self _)];cases kV p (r.length+1) r with
 | bad e=>rfl
 | ok fs q =>
  rw[PR.bind_ok,PR.bind_ok,PR.bind_ok,List.append_assoc];rfl
theorem YV:uF p [] l=kV p (l.length+1) l:=by
 unfold uF;cases kV p (l.length+1) l<;>rfl
end
def gQ(kind name:List UInt8)(ln:Nat)(p:PR (List Fld)):PR Blc:=p.bind λfs r=>(kU 125 r).bind λ_ r2=>.ok ⟨kind,name,fs,ln⟩ r2
theorem Qz(l:List Tok):xe l=(ja 1 l).bind λkind r=>(wJ r).bind λname r2=>(kU 123 r2).bind λ_ r3=>gQ kind name (vm l) (uF xD [] r3):=by
 rw[YP];unfold Un;simp only[YV];rfl
def Ku(title:List UInt8)(p:PR (List Blc)):PR Src:=p.bind λbs r=>(kU 125 r).bind λ_ r2=>(ja 5 r2).bind λ_ r3=>.ok ⟨title,bs⟩ r3
theorem VD(l:List Tok):xZ l=(Cc l).bind λ_ r=>(ja 3 r).bind λtitle r2=>(kU 123 r2).bind λ_ r3=>Ku title (uF xe [] r3):=by
 unfold xZ;simp only[wu,YV];rfl
end Go.Proofs.YtkefajjcpcoajaaGreatDoor.Lx
namespace Go.Proofs.YtkefajjcpcoajaaGreatDoor
open Go.RowKit Lx
theorem LP:(Tryz.prog.info? 9).map (λi=>(i.zero,i.size,i.bytes))=some (some (.string ⟨#[]⟩),1,16):=by kernel_rfl
def Nw(B:Nat)(w':World)(g gt n c:Nat)(ts:List Tok)(p:PR Fld)(e:Ending):Prop:=match p with
 | .ok f r=>(∃ao m d,e=.returned (.tuple #[.agg #[.string (stg f.key),.slice ao m d,.int .i64 (f.line:Int)],.bool true])/\StrL (qS B [9]) w' ao m d f.vals)/\AtP w' g gt n c ts r
 | .bad ln=>(∃S ao m d z,e=.returned (.tuple #[.agg #[.string S,.slice ao m d,.int .i64 z],.bool false]))/\Qg w' g gt n c ts ln
theorem Cn(w:World)(g gt n c:Nat)(ts l:List Tok)(h:AtP w g gt n c ts l)(he:EndsT ts)(hsz:∀t∈ts,t.text.length<=500000)(hts:ts.length<=1000000) :
    Calls Tryz.prog 139 #[.pointer (some ⟨g,0,none⟩)] w λe w'=>Nw w.heap.size w' g gt n c ts (xD l) e/\w.grownBy w' (some g):=by
 obtain⟨i,t,r,hP,ht,rfl,hr⟩:=h.head;obtain⟨hg,a6⟩:=h.sizes;clear hP ht hr;obtain⟨V,e1,AV,BV,hz⟩:=qG w 63 [.string ⟨#[]⟩,.slice none 0 0,.int .i64 0];have hA:=h.keep BV;have hG:=jA (qu BV (some g));obtain⟨b,hb⟩:=jx3 (w.heap.size);rw[hb] at AV BV hz hg a6;obtain⟨P,hP⟩:=jx1 (xD (t :: r));rw[hP.o];clear h BV;by_cases k1:t.kind=1
 . have HT:=jA (xa V g gt n c ts r t hA he 1 k1 (by decide));have HV:Hid (P=JT t.text t.line ((jf r).bind λv r2=>ZQ [v] r2)):=by
    show _=_;rw[<- hP.o,Qy,show ja 1 (t :: r)=.ok t.text r from if_pos k1];rfl
   have AV:=jA AV;have a1:=jA hg;have a0:=jA a6;clear hA k1 hP hg a6;go_in;go_wp2_with fail;refine HT.o.mono ?_;rintro e w1 ⟨rfl,hA,a3⟩;obtain⟨U0,U,e2,e3,AU,BU,b4,f0,f1,f2,f3,f4,f5⟩:=ze w1 87 (.int .i64 0) (.string ⟨#[]⟩) (.int .i64 0) (.int .i64 (t.kind:Int)) (.string (stg t.text)) (.int .i64 (t.line:Int));obtain⟨X0,X,e4,e5,AX,BX,d7,d0,d1,d2,d3,d4,d5⟩:=ze U 63 (.string ⟨#[]⟩) (.slice none 0 0) (.int .i64 0) (.string (stg t.text)) (.slice none 0 0) (.int .i64 (t.line:Int));have hA:=(hA.keep BU).keep BX;have GW:=qq hG.o (qq a3 (qq (qu BU _) (qu BX _)));have RX:Arr X b 63 [.string ⟨#[]⟩,.slice none 0 0,.int .i64 0]:=((AV.o.grown a3 (by have:=a1.o;omega)).kept BU).kept BX;have c7:V.heap.size<=w1.heap.size:=a3.size;have q1:U.cell? ⟨w1.heap.size,1,none⟩=some (.string (stg t.text)):=AU.cell 1;have q2:U.cell? ⟨w1.heap.size,2,none⟩=some (.int .i64 (t.line:Int)):=AU.cell 2;have Fh:Hid (FSt w X g U.heap.size (.string (stg t.text)) (.int .i64 (t.line:Int)) none 0 0 []):=by
    refine⟨by rw[hb];exact World.ownsRow_nil _ _ _ _,AX,by rw[hb];exact RX,GW,by omega,by have:=a1.o;omega⟩
   obtain⟨fb,c8⟩:=jx3 (U.heap.size);rw[c8] at Fh e5 d0 d1 d2 d3 d4 d5;(have b0:0+r.length<=ts.length:=by have:=hA.sub;omega);have b7:=jA hA;clear HT AU BU AX BX a3 GW RX c7 hA b4;go_wp2_with fail;clear e2 e3 e4 e5 f0 f1 f2 f3 f4 f5 d0 d1 d2 d3 d4 d5 q1 q2;(go_loopw [7,8] (λ_ _ wr=>∃ (ao:Option Addr) (m d:Nat) (l:List Tok) (vs:List (List UInt8)),AtP wr g gt n c ts l/\FSt w wr g fb (.string (stg t.text)) (.int .i64 (t.line:Int)) ao m d vs/\Hid (P=JT t.text t.line ((jf l).bind λv r2=>ZQ (vs++[v]) r2))/\m+l.length<=ts.length) (λ_ _ wr=>psN g wr));(case atStart=>exact⟨none,0,0,r,[],b7.o,Fh.o,HV,b0⟩);case round =>
    clear b7 Fh HV b0;obtain⟨ao,m,d,l,vs,hA,Fh,hR,hm⟩:=hrel;have b9:=jA hA.psN;have J:=Ck wr g gt n c ts l hA he hsz;cases hv:jf l with
    | bad ln =>
     rw[hv] at J hR;have J:=jA J;have Fh:=jA Fh;have hR:Hid (P=.bad ln):=hR.o;clear hA hv;go_wp2_with fail;refine J.o.mono ?_;rintro e w2 ⟨⟨⟨S,rfl⟩,hB⟩,G2⟩;have G:=Fh.o.call G2;have a4:=G.res;rw[hb] at a4;obtain⟨Y,e6,hY,AY,f0,f1,f2,f3,f4,f5⟩:=jY a4 (.string ⟨#[]⟩) (.slice none 0 0) (.int .i64 0);obtain⟨q0,q1,q2⟩:=AY.c3;(have GY:Hid (w.grownBy Y (some g)):=by show World.grownBy _ _ _;rw[hY.o];exact yS G.grown (by omega) _ _ _);have BY:Hid (Qg Y g gt n c ts ln):=by
      obtain⟨l',h1,h2⟩:=hB;exact⟨l',by rw[hY.o];exact h1.put3 (by have:=a1.o;omega) (by have:=a0.o;omega) _ _ _,h2⟩
     clear J Fh G a4 AY hB G2;go_wp2_with fail;refine bodyPost_ret (v:=.tuple #[.agg #[.string ⟨#[]⟩,.slice none 0 0,.int .i64 0],.bool false]) (by simp[results,Tryz.results139,go_sem,q0,q1,q2]) rfl ?_;refine⟨?_,GY.o⟩;rw[hR.o];exact⟨⟨_,_,_,_,_,rfl⟩,BY.o⟩
    | ok v r2 =>
     rw[hv] at J hR;have J:=jA J;have hR:Hid (P=JT t.text t.line (ZQ (vs++[v]) r2)):=hR.o;have d6:=JQ hv;have Fh:=jA Fh;clear hA hv;go_wp2_with fail;refine J.o.mono ?_;rintro e w2 ⟨⟨rfl,a7⟩,G2⟩;have G:=Fh.o.call G2;have y1:w2.cell? ⟨fb,1,none⟩=some (.slice ao m d):=G.box.cell 1;(have d8:b<=w2.heap.size:=by have:=G.res.lt;omega);have O2:=jA G.own;have a7:=jA a7;have G:=jA G;clear J Fh G2;go_wp2_with (at_builtin;refine vl (vs:=[.string (stg v)]) Tryz.underlying26 LP rfl (by decide) (by decide) O2.o (by omega) (by omega) rfl (by intro u hu;simp at hu;subst hu;rfl) rfl rfl ?_);intro H d3 w3 O3 G3 B3;obtain⟨Y,e6,Z,hY,f0,f1⟩:=G.o.push O3 G3 B3;have b2:AtP Y g gt n c ts r2:=by
      rw[hY.o];exact(a7.o.low B3 (by rw[hb];exact a1.o) (by rw[hb];exact a0.o)).far (by show g≠fb;have:=Z.new;have:=a1.o;omega) (by show gt≠fb;have:=Z.new;have:=a0.o;omega) _
     have HM:=ue Y g gt n c ts r2 b2 he 44;cases a2:jU 44 r2 with
     | true =>
      rw[a2] at HM;rw[if_pos rfl] at HM;have HM:=jA HM;have a2:=jA a2;have Z:=jA Z;clear b2 O3 G3 B3 a7 O2 G;go_wp2_with fail;clear e6 f0 f1 y1;refine HM.o.mono ?_;rintro e w4 ⟨rfl,a5,G4⟩;have a5:=jA a5;have a9:=jA (Z.o.call G4);clear HM Z G4;go_wp2_with fail;go_roundw;case rel =>
       refine⟨H,m+1,d3,r2.drop 1,vs++[v],a5.o,a9.o,?_,by rw[List.length_drop];omega⟩;show _=_;rw[hR.o];congr 1;cases b5:jf (r2.drop 1) with
       | bad e=>rw[Cm a2.o b5];rfl
       | ok v2 r3=>rw[Nv a2.o b5];rfl
      case measure=>rw[a5.o.psN,b9.o,List.length_drop];omega
     | false =>
      rw[a2] at HM;rw[if_neg (by decide)] at HM;have HM:=jA HM;(have hR:Hid (P=JT t.text t.line (.ok (vs++[v]) r2)):=by show _=_;rw[hR.o,Cl a2]);have Z:=jA Z;clear b2 O3 G3 B3 a7 O2 G a2;go_wp2_with fail;clear e6 f0 f1 y1;refine HM.o.mono ?_;rintro e w4 ⟨rfl,a5,G4⟩;have a9:=Z.o.call G4;have b3:=a5.keep (Below.drew (Below.refl _ _));have a8:=a9.keep (Below.drew (Below.refl _ _));have b8:=jA (ue w4.drew g gt n c ts r2 b3 he 59);obtain⟨q0,q1,q2⟩:=a8.box.c3;have a8:=jA a8;have b3:=jA b3;clear HM Z a9 a5 G4;go_wp2_with fail;go_region_held3 (λw'=>w'.cell? ⟨fb,0,none⟩=some (.string (stg t.text))/\w'.cell? ⟨fb,1,none⟩=some (.slice H (m+1) d3)/\w'.cell? ⟨fb,2,none⟩=some (.int .i64 (t.line:Int))) (go_keep) (first
        | (go_at_call 81;refine b8.o.mono ?_;rintro e w5 ⟨rfl,b1,G5⟩;have y:=a8.o.call G5;have z0:w5.cell? ⟨fb,0,none⟩=some (.string (stg t.text)):=y.box.cell 0;have z1:w5.cell? ⟨fb,1,none⟩=some (.slice H (m+1) d3):=y.box.cell 1;have z2:w5.cell? ⟨fb,2,none⟩=some (.int .i64 (t.line:Int)):=y.box.cell 2;have a4:=y.res;rw[hb] at a4;obtain⟨Y5,e6,hY,AY,f0,f1,f2,f3,f4,f5⟩:=jY a4 (.string (stg t.text)) (.slice H (m+1) d3) (.int .i64 (t.line:Int));have EY:=y.box.off3 (b:=b) (by have:=y.new;omega) (.string (stg t.text)) (.slice H (m+1) d3) (.int .i64 (t.line:Int));rw[<- hY.o] at EY;have p0:Y5.cell? ⟨fb,0,none⟩=some (.string (stg t.text)):=EY.cell 0;have p1:Y5.cell? ⟨fb,1,none⟩=some (.slice H (m+1) d3):=EY.cell 1;have p2:Y5.cell? ⟨fb,2,none⟩=some (.int .i64 (t.line:Int)):=EY.cell 2;have y:=jA y;have b1:=jA b1;have AY:=jA AY;clear a4 G5 EY)
        | fail)
      all_goals
        go_wp2_with fail;obtain⟨r0,r1⟩:=AY.o.c2;have c6:Y5.cell? ⟨b,2,none⟩=some (.int .i64 (t.line:Int)):=AY.o.cell 2;(have GY:Hid (w.grownBy Y5 (some g)):=by show World.grownBy _ _ _;rw[hY.o];exact yS y.o.grown (by omega) _ _ _);(have AT:Hid (AtP Y5 g gt n c ts (if jU 59 r2=true then r2.drop 1 else r2)):=by show AtP _ _ _ _ _ _ _;rw[hY.o];exact b1.o.put3 (by have:=a1.o;omega) (by have:=a0.o;omega) _ _ _);have SL:Hid (StrL (qS w.heap.size [9]) Y5 H (m+1) d3 (vs++[v])):=by
         show StrL _ _ _ _ _ _;have hk:Keeps (qS w.heap.size [9]) w5 Y5:=by
          rw[hY.o];have k1:=zd (lo:=w.heap.size) (Es:=[9]) (i:=0) y.o.res (by decide) (.string (stg t.text));have k2:=zd (lo:=w.heap.size) (Es:=[9]) (i:=1) (y.o.res.set 0 (.string (stg t.text))) (by decide) (.slice H (m+1) d3);have k3:=zd (lo:=w.heap.size) (Es:=[9]) (i:=2) ((y.o.res.set 0 (.string (stg t.text))).set 1 (.slice H (m+1) d3)) (by decide) (.int .i64 (t.line:Int));rw[hb] at k1 k2 k3;rw[hb];exact(k1.trans (qE _ _) (by simp[World.setCell]) k2).trans (qE _ _) (by simp[World.setCell]) k3
         exact y.o.strs.keep (qE _ _) hk
        refine bodyPost_ret (v:=.tuple #[.agg #[.string (stg t.text),.slice H (m+1) d3,.int .i64 (t.line:Int)],.bool (jU 59 r2)]) (by simp[results,Tryz.results139,go_sem,r0,r1,c6]) rfl ?_;refine⟨?_,GY.o⟩;have AT:=AT.o;rw[hR.o];unfold JT;rw[PR.bind_ok,yV];cases b6:jU 59 r2 with
        | true =>
         rw[b6,if_pos rfl] at AT;exact⟨⟨H,m+1,d3,rfl,SL.o⟩,AT⟩
        | false =>
         rw[b6,if_neg (by decide)] at AT;exact⟨⟨_,_,_,_,_,rfl⟩,r2,AT,rfl⟩
 . have HT:=jA (xb V g gt n c ts r t hA 1 k1);have HV:Hid (P=.bad t.line):=by
    show _=_;rw[<- hP.o,Qy,show ja 1 (t :: r)=.bad t.line from if_neg k1];rfl
   have AV:=jA AV;have a1:=jA hg;have a0:=jA a6;clear hA k1 hP hg a6;go_in;go_wp2_with fail;refine HT.o.mono ?_;rintro e w1 ⟨rfl,hA,a3⟩;obtain⟨U0,U,e2,e3,AU,BU,b4,f0,f1,f2,f3,f4,f5⟩:=ze w1 87 (.int .i64 0) (.string ⟨#[]⟩) (.int .i64 0) (.int .i64 0) (.string ⟨#[]⟩) (.int .i64 0);have hA:=hA.keep BU;have GW:=qq hG.o (qq a3 (qu BU _));have RX:Arr U b 63 [.string ⟨#[]⟩,.slice none 0 0,.int .i64 0]:=(AV.o.grown a3 (by have:=a1.o;omega)).kept BU;obtain⟨Y,e6,hY,AY,d0,d1,d2,d3,d4,d5⟩:=jY RX (.string ⟨#[]⟩) (.slice none 0 0) (.int .i64 0);obtain⟨q0,q1,q2⟩:=AY.c3;(have GY:Hid (w.grownBy Y (some g)):=by show World.grownBy _ _ _;rw[hY.o];exact yS GW (by omega) _ _ _);have BY:Hid (Qg Y g gt n c ts t.line):=⟨t :: r,by rw[hY.o];exact hA.put3 (by have:=a1.o;omega) (by have:=a0.o;omega) _ _ _,rfl⟩;clear HT AU BU a3 GW RX AY hA;go_wp2_with fail;refine bodyPost_ret (v:=.tuple #[.agg #[.string ⟨#[]⟩,.slice none 0 0,.int .i64 0],.bool false]) (by simp[results,Tryz.results139,go_sem,q0,q1,q2]) rfl ?_;refine⟨?_,GY.o⟩;rw[HV.o];exact⟨⟨_,_,_,_,_,rfl⟩,BY.o⟩
def Nx(B:Nat)(w':World)(g gt n c:Nat)(ts:List Tok)(p:PR Blc)(e:Ending):Prop:=match p with
 | .ok f r=>(∃ao m d,e=.returned (.tuple #[.agg #[.string (stg f.kind),.string (stg f.name),.slice ao m d,.int .i64 (f.line:Int)],.bool true])/\FldL true (qS B [9,63]) w' ao m d f.flds)/\AtP w' g gt n c ts r
 | .bad ln=>(∃S S2 ao m d z,e=.returned (.tuple #[.agg #[.string S,.string S2,.slice ao m d,.int .i64 z],.bool false]))/\Qg w' g gt n c ts ln
theorem Ny(w:World)(g gt n c:Nat)(ts l:List Tok)(h:AtP w g gt n c ts l)(he:EndsT ts) :
    Calls Tryz.prog 80 #[.pointer (some ⟨g,0,none⟩),.int .i64 1] w λe w' =>
     ∃ (K L:Int) (b:Bool) (name:List UInt8) (r:List Tok),wJ l=.ok name r/\e=.returned (.tuple #[.agg #[.int .i64 K,.string (stg name),.int .i64 L],.bool b])/\AtP w' g gt n c ts r/\w.grownBy w' (some g):=by
 obtain⟨i,t,r,G,H,rfl,y⟩:=h.head;by_cases m:t.kind=1
 . (refine(xa w g gt n c ts r t h he 1 m (by decide)).mono λe w' ⟨a,b,d⟩=>⟨_,_,true,t.text,r,?_,a,b,d⟩);unfold wJ;rw[show xr 1 (t :: r)=true from decide_eq_true m,if_pos rfl];exact if_pos m
 . (refine(xb w g gt n c ts r t h 1 m).mono λe w' ⟨a,b,d⟩=>⟨0,0,false,[],t :: r,?_,a,b,d⟩);unfold wJ;rw[show xr 1 (t :: r)=false from decide_eq_false m,if_neg (by decide)]
theorem Co(w:World)(g gt n c:Nat)(ts l:List Tok)(h:AtP w g gt n c ts l)(he:EndsT ts)(hsz:∀t∈ts,t.text.length<=500000)(hts:ts.length<=1000000) :
    Calls Tryz.prog 82 #[.pointer (some ⟨g,0,none⟩)] w λe w'=>Nx w.heap.size w' g gt n c ts (xe l) e/\w.grownBy w' (some g):=by
 obtain⟨i,t,r,hP,ht,rfl,hr⟩:=h.head;obtain⟨hg,a6⟩:=h.sizes;clear hP ht hr;obtain⟨V,e1,AV,BV,hz⟩:=qG w 55 [.string ⟨#[]⟩,.string ⟨#[]⟩,.slice none 0 0,.int .i64 0];have y:=h.keep BV;have hG:=jA (qu BV (some g));obtain⟨b,hb⟩:=jx3 (w.heap.size);rw[hb] at AV BV hz hg a6;obtain⟨P,hP⟩:=jx1 (xe (t :: r));rw[hP.o];clear h BV;by_cases k1:t.kind=1
 . have HT:=jA (xa V g gt n c ts r t y he 1 k1 (by decide));have HV:Hid (P=(wJ r).bind λname r2=>(kU 123 r2).bind λ_ r3=>gQ t.text name t.line (uF xD [] r3)):=by
    show _=_;rw[<- hP.o,Qz,show ja 1 (t :: r)=.ok t.text r from if_pos k1];rfl
   have AV:=jA AV;have G:=jA hg;have J:=jA a6;clear y k1 hP hg a6;go_in;go_wp2_with fail;refine HT.o.mono ?_;rintro e w1 ⟨rfl,y,a2⟩;obtain⟨U0,U,e2,e3,AU,BU,b8,f0,f1,f2,f3,f4,f5⟩:=ze w1 87 (.int .i64 0) (.string ⟨#[]⟩) (.int .i64 0) (.int .i64 (t.kind:Int)) (.string (stg t.text)) (.int .i64 (t.line:Int));have y:=y.keep BU;have GW:=jA (qq hG.o (qq a2 (qu BU _)));have RX:=jA ((AV.o.grown a2 (by have:=G.o;omega)).kept BU);have b4:Hid (V.heap.size<=w1.heap.size):=a2.size;have HN:=jA (Ny U g gt n c ts r y he);have AU:=jA AU;(have b1:Hid (w1.heap.size≠g):=λe=>by have:=G.o;have:=b4.o;omega);clear HT BU a2 y;go_wp2_with fail;clear e1 e2 e3 f0 f1 f2 f3 f4 f5;refine HN.o.mono ?_;rintro e w2 ⟨K,L,nb,name,l2,hn,rfl,y,a3⟩;obtain⟨X0,X,e2,e3,AX,BX,b3,f0,f1,f2,f3,f4,f5⟩:=ze w2 87 (.int .i64 0) (.string ⟨#[]⟩) (.int .i64 0) (.int .i64 K) (.string (stg name)) (.int .i64 L);have y:=y.keep BX;have GW:=jA (qq GW.o (qq a3 (qu BX _)));have RX:=jA ((RX.o.grown a3 (by have:=G.o;omega)).kept BX);have AU:=jA ((AU.o.grown a3 b1.o).kept BX);have c8:Hid (U.heap.size<=w2.heap.size):=a3.size;have HM:=ue X g gt n c ts l2 y he 123;(have HV:Hid (P=(kU 123 l2).bind λ_ r3=>gQ t.text name t.line (uF xD [] r3)):=by show _=_;rw[HV.o,hn];rfl);have AX:=jA AX;(have b5:Hid (w2.heap.size≠g):=λe=>by have:=G.o;have:=b4.o;have:=c8.o;omega);cases hm:jU 123 l2 with
   | false =>
    rw[hm,if_neg (by decide)] at HM;have HM:=jA HM;have HV:Hid (P=.bad (vm l2)):=by
     show _=_;rw[HV.o,yV,hm];rfl
    clear HN BX a3 y hn hm;go_wp2_with fail;clear e2 e3 f0 f1 f2 f3 f4 f5;refine HM.o.mono ?_;rintro e w3 ⟨rfl,y,a0⟩;have RX:=RX.o.grown a0 (by have:=G.o;omega);obtain⟨Y,e6,hY,AY,f0,f1,f2,f3,f4,f5,f6,f7⟩:=yT RX (.string ⟨#[]⟩) (.string ⟨#[]⟩) (.slice none 0 0) (.int .i64 0);obtain⟨q0,q1,q2,q3⟩:=AY.c4;(have GY:Hid (w.grownBy Y (some g)):=by show World.grownBy _ _ _;rw[hY.o];exact uX (qq GW.o a0) (by omega) _ _ _ _);have BY:Hid (Qg Y g gt n c ts (vm l2)):=⟨l2,by rw[hY.o];exact y.put4 (by have:=G.o;omega) (by have:=J.o;omega) _ _ _ _,rfl⟩;clear HM RX AY y a0;go_wp2_with fail;refine bodyPost_ret (v:=.tuple #[.agg #[.string ⟨#[]⟩,.string ⟨#[]⟩,.slice none 0 0,.int .i64 0],.bool false]) (by simp[results,Tryz.results82,go_sem,q0,q1,q2,q3]) rfl ?_;refine⟨?_,GY.o⟩;rw[HV.o];exact⟨⟨_,_,_,_,_,_,rfl⟩,BY.o⟩
   | true =>
    rw[hm,if_pos rfl] at HM;have HM:=jA HM;have HV:Hid (P=gQ t.text name t.line (uF xD [] (l2.drop 1))):=by
     show _=_;rw[HV.o,yV,hm];rfl
    clear HN BX a3 y hn hm;go_wp2_with fail;clear e2 e3 f0 f1 f2 f3 f4 f5;refine HM.o.mono ?_;rintro e w3 ⟨rfl,y,a0⟩;have RX:=RX.o.grown a0 (by have:=G.o;omega);have AU:=AU.o.grown a0 b1.o;have AX:=AX.o.grown a0 b5.o;obtain⟨Z0,Z,e4,e5,AZ,BZ,b9,f0,f1,f2,f3,f4,f5,f6,f7⟩:=xl w3 55 (.string ⟨#[]⟩) (.string ⟨#[]⟩) (.slice none 0 0) (.int .i64 0) (.string (stg t.text)) (.string (stg name)) (.slice none 0 0) (.int .i64 (t.line:Int));have q1:w3.cell? ⟨w1.heap.size,1,none⟩=some (.string (stg t.text)):=AU.cell 1;have q2:w3.cell? ⟨w1.heap.size,2,none⟩=some (.int .i64 (t.line:Int)):=AU.cell 2;have q3:w3.cell? ⟨w2.heap.size,1,none⟩=some (.string (stg name)):=AX.cell 1;have y:=jA (y.keep BZ);have H:Hid (BSt w Z g w3.heap.size (.string (stg t.text)) (.string (stg name)) (.int .i64 (t.line:Int)) none 0 0 []):=by
     refine⟨[],⟨by rw[hb];exact World.ownsRow_nil _ _ _ _,AZ,by rw[hb];exact RX.kept BZ,qq GW.o (qq a0 (qu BZ _)),?_,by have:=G.o;omega⟩,rfl⟩;have:=RX.lt;omega
    obtain⟨bb,c6⟩:=jx3 (w3.heap.size);rw[c6] at H e5 f0 f1 f2 f3 f4 f5 f6 f7;(have b0:Hid (0+(l2.drop 1).length<=ts.length):=by show _<=_;have:=y.o.sub;omega);clear HM RX AU AX AZ BZ a0 GW b9;go_wp2_with fail;clear e4 e5 f0 f1 f2 f3 f4 f5 f6 f7 q1 q2 q3;(go_loopw [9,10] (λ_ _ wr=>∃ (ao:Option Addr) (m d:Nat) (l:List Tok) (fs:List Fld),AtP wr g gt n c ts l/\BSt w wr g bb (.string (stg t.text)) (.string (stg name)) (.int .i64 (t.line:Int)) ao m d fs/\Hid (P=gQ t.text name t.line (uF xD fs l))/\m+l.length<=ts.length) (λ_ _ wr=>psN g wr));(case atStart=>exact⟨none,0,0,_,[],y.o,H.o,HV,b0.o⟩);case round =>
     clear y H HV b0;obtain⟨ao,m,d,l,fs,y,H,hR,hm⟩:=hrel;have b7:=jA y.psN;have HM:=ue wr g gt n c ts l y he 125;have H:=jA H;cases hq:jU 125 l with
     | true =>
      rw[hq,if_pos rfl] at HM;have HM:=jA HM;have hR:Hid (P=.ok ⟨t.text,name,fs,t.line⟩ (l.drop 1)):=by
       show _=_;rw[hR.o,YT hq];unfold gQ;rw[PR.bind_ok,yV,hq];rfl
      clear y hq;go_wp2_with fail;refine HM.o.mono ?_;rintro e w4 ⟨rfl,y,a7⟩;have H:=H.o.call a7;have a1:=H.res;rw[hb] at a1;obtain⟨y0,y1,y2,y3⟩:=H.box.c4;obtain⟨Y,e6,hY,AY,f0,f1,f2,f3,f4,f5,f6,f7⟩:=yT a1 (.string (stg t.text)) (.string (stg name)) (.slice ao m d) (.int .i64 (t.line:Int));obtain⟨q0,q1,q2,q3⟩:=AY.c4;(have GY:Hid (w.grownBy Y (some g)):=by show World.grownBy _ _ _;rw[hY.o];exact uX H.grown (by omega) _ _ _ _);(have AT:Hid (AtP Y g gt n c ts (l.drop 1)):=by show AtP _ _ _ _ _ _ _;rw[hY.o];exact y.put4 (by have:=G.o;omega) (by have:=J.o;omega) _ _ _ _);have FL:Hid (FldL true (qS w.heap.size [9,63]) Y ao m d fs):=by
       show FldL _ _ _ _ _ _ _;rw[hY.o];exact H.flds.keep (qE _ _) (Uv a1 (by decide) _ _ _ _)
      clear HM H a1 AY y a7;go_wp2_with fail;refine bodyPost_ret (v:=.tuple #[.agg #[.string (stg t.text),.string (stg name),.slice ao m d,.int .i64 (t.line:Int)],.bool true]) (by simp[results,Tryz.results82,go_sem,q0,q1,q2,q3]) rfl ?_;refine⟨?_,GY.o⟩;rw[hR.o];exact⟨⟨ao,m,d,rfl,FL.o⟩,AT.o⟩
     | false =>
      rw[hq,if_neg (by decide)] at HM;have HM:=jA HM;have hq:=jA hq;clear y;go_wp2_with fail;refine HM.o.mono ?_;rintro e w4 ⟨rfl,y,a7⟩;have H:=jA (H.o.call a7);have c7:Hid (w.heap.size<=w4.heap.size):=H.o.grown.size;have HF:=Cn w4 g gt n c ts l y he hsz hts;cases hv:xD l with
      | bad ln =>
       rw[hv] at HF;have HF:=jA HF;(have hR:Hid (P=.bad ln):=by show _=_;rw[hR.o,YU hq.o hv];rfl);clear HM y a7 hv;go_wp2_with fail;refine HF.o.mono ?_;rintro e w5 ⟨⟨⟨S,a5,m2,d2,z,rfl⟩,hB⟩,a8⟩;obtain⟨X0,X,e2,e3,AX,BX,b3,f0,f1,f2,f3,f4,f5⟩:=ze w5 63 (.string ⟨#[]⟩) (.slice none 0 0) (.int .i64 0) (.string S) (.slice a5 m2 d2) (.int .i64 z);have H:=(H.o.call a8).keep BX;have a1:=H.res;rw[hb] at a1;obtain⟨Y,e6,hY,AY,k0,k1,k2,k3,k4,k5,k6,k7⟩:=yT a1 (.string ⟨#[]⟩) (.string ⟨#[]⟩) (.slice none 0 0) (.int .i64 0);obtain⟨q0,q1,q2,q3⟩:=AY.c4;(have GY:Hid (w.grownBy Y (some g)):=by show World.grownBy _ _ _;rw[hY.o];exact uX H.grown (by omega) _ _ _ _);have BY:Hid (Qg Y g gt n c ts ln):=by
        obtain⟨l',h1,h2⟩:=hB;exact⟨l',by rw[hY.o];exact(h1.keep BX).put4 (by have:=G.o;omega) (by have:=J.o;omega) _ _ _ _,h2⟩
       clear HF AX BX H a1 AY hB a8;go_wp2_with fail;refine bodyPost_ret (v:=.tuple #[.agg #[.string ⟨#[]⟩,.string ⟨#[]⟩,.slice none 0 0,.int .i64 0],.bool false]) (by simp[results,Tryz.results82,go_sem,q0,q1,q2,q3]) rfl ?_;refine⟨?_,GY.o⟩;rw[hR.o];exact⟨⟨_,_,_,_,_,_,rfl⟩,BY.o⟩
      | ok f r2 =>
       rw[hv] at HF;have HF:=jA HF;(have hR:Hid (P=gQ t.text name t.line (uF xD (fs++[f]) r2)):=by show _=_;rw[hR.o,We (λ_ _ _ h=>YO h) hq.o hv]);have d9:=YO hv;clear HM y hv;go_wp2_with fail;refine HF.o.mono ?_;rintro e w5 ⟨⟨⟨a5,m2,d2,rfl,a4⟩,y⟩,a8⟩;obtain⟨X0,X,e2,e3,AX,BX,b3,f0,f1,f2,f3,f4,f5⟩:=ze w5 63 (.string ⟨#[]⟩) (.slice none 0 0) (.int .i64 0) (.string (stg f.key)) (.slice a5 m2 d2) (.int .i64 (f.line:Int));have H:=(H.o.call a8).keep BX;have y:=y.keep BX;obtain⟨us,LS,FC⟩:=H;have a4:StrL (qS w.heap.size [9]) X a5 m2 d2 f.vals:=(Row.keep a4 (qE _ _) (qD _ BX)).mono (kF c7.o (by simp));obtain⟨p0,p1,p2⟩:=AX.c3;have y2:X.cell? ⟨bb,2,none⟩=some (.slice ao m d):=LS.box.cell 2;(have e0:b<=X.heap.size:=by have:=LS.size;omega);have LS:=jA LS;have FC:=jA FC;have y:=jA y;have a4:=jA a4;clear HF AX BX a8 b3;go_wp2_with (at_builtin;refine vl (vs:=[.string (stg f.key),.slice a5 m2 d2,.int .i64 (f.line:Int)]) Tryz.underlying53 Wj rfl (by decide) (by decide) LS.o.own (by omega) (by omega) rfl (by intro u hu;simp at hu;rcases hu with rfl|rfl|rfl<;>rfl) rfl rfl ?_);intro b2 d3 w6 O3 G3 B3;obtain⟨Y,e6,a9,hY,k0,k1,K3⟩:=LS.o.push (Es:=[9]) (by decide) (by decide) (by decide) O3 G3 B3;have d8:Hid (BSt w Y g bb (.string (stg t.text)) (.string (stg name)) (.int .i64 (t.line:Int)) b2 (m+1) d3 (fs++[f])) :=
        ⟨_,a9,FCells.append (FC.o.keep (qE _ _) K3) ⟨a5,m2,d2,_,[],rfl,Row.keep a4.o (qE _ _) K3,λ_=>rfl,rfl⟩⟩
       have b6:Hid (AtP Y g gt n c ts r2):=by
        show AtP _ _ _ _ _ _ _;rw[hY.o];exact(y.o.low B3 (by rw[hb];exact G.o) (by rw[hb];exact J.o)).far (by show g≠bb;have:=a9.new;have:=G.o;omega) (by show gt≠bb;have:=a9.new;have:=J.o;omega) _
       clear e2 e3 f0 f1 f2 f3 f4 f5 LS FC y a4 O3 G3 B3 a9 K3 p0 p1 p2;have k0:w6.cell? ⟨bb,2,none⟩=some (.slice ao m d):=k0;have k1:w6.frozen? ⟨bb,2,none⟩=false:=k1;have e6:w6.setCell ⟨bb,2,none⟩ (.slice b2 (m+1) d3)=Y:=e6;go_wp2_with fail;go_roundw;(case rel=>exact⟨b2,m+1,d3,r2,fs++[f],b6.o,d8.o,hR,by omega⟩);case measure=>rw[b6.o.psN,b7.o];omega
 . have HT:=jA (xb V g gt n c ts r t y 1 k1);have HV:Hid (P=.bad t.line):=by
    show _=_;rw[<- hP.o,Qz,show ja 1 (t :: r)=.bad t.line from if_neg k1];rfl
   have AV:=jA AV;have G:=jA hg;have J:=jA a6;clear y k1 hP hg a6;go_in;go_wp2_with fail;refine HT.o.mono ?_;rintro e w1 ⟨rfl,y,a2⟩;obtain⟨U0,U,e2,e3,AU,BU,b8,f0,f1,f2,f3,f4,f5⟩:=ze w1 87 (.int .i64 0) (.string ⟨#[]⟩) (.int .i64 0) (.int .i64 0) (.string ⟨#[]⟩) (.int .i64 0);have y:=y.keep BU;have GW:=qq hG.o (qq a2 (qu BU _));have RX:Arr U b 55 [.string ⟨#[]⟩,.string ⟨#[]⟩,.slice none 0 0,.int .i64 0]:=(AV.o.grown a2 (by have:=G.o;omega)).kept BU;obtain⟨Y,e6,hY,AY,d0,d1,d2,d3,d4,d5,d6,d7⟩:=yT RX (.string ⟨#[]⟩) (.string ⟨#[]⟩) (.slice none 0 0) (.int .i64 0);obtain⟨q0,q1,q2,q3⟩:=AY.c4;(have GY:Hid (w.grownBy Y (some g)):=by show World.grownBy _ _ _;rw[hY.o];exact uX GW (by omega) _ _ _ _);have BY:Hid (Qg Y g gt n c ts t.line):=⟨t :: r,by rw[hY.o];exact y.put4 (by have:=G.o;omega) (by have:=J.o;omega) _ _ _ _,rfl⟩;clear HT AU BU a2 GW RX AY y;go_wp2_with fail;refine bodyPost_ret (v:=.tuple #[.agg #[.string ⟨#[]⟩,.string ⟨#[]⟩,.slice none 0 0,.int .i64 0],.bool false]) (by simp[results,Tryz.results82,go_sem,q0,q1,q2,q3]) rfl ?_;refine⟨?_,GY.o⟩;rw[HV.o];exact⟨⟨_,_,_,_,_,_,rfl⟩,BY.o⟩
