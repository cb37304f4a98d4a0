/- -/
import Derived.Test.YtkefajjcpcoajaaGreatDoorPkA0
import Derived.Deep.RegionHeld3
import Derived.Deep.QuietTactic
import Derived.BigQuiet
import Derived.ProofKit
import Derived.OpenShut
import Derived.Lib.SmallJoins
import Derived.SliceStrings
import Derived.Lib.Builder
import Derived.Lib.AppendStr
import Derived.Lib.UnsafeStr
import Derived.Laws.Externs
import Derived.Test.YtkefajjcpcoajaaGreatDoorPkA3
import Derived.Test.YtkefajjcpcoajaaGreatDoorPkA4
set_option linter.all false
set_option maxRecDepth 100000
set_option maxHeartbeats 3200000
namespace Go.Proofs.YtkefajjcpcoajaaGreatDoor
open Go.RowKit Lx
variable {p:Addr}{w w':World}{g gt n c i b B s k lo:Nat}{ts l:List Tok}{E T:TypeId}{v v0 v1:Value}{us:List Value}
section
variable {w w' : World} {g n c b : Nat} {ao : Option Addr} {ts l r : List Tok} {t : Tok}
end
theorem Pf{a b:List UInt8}(h:stg a=stg b):a=b:=by have:=congrArg bys h;rwa [zL,zL] at this
theorem Ut(w:World)(row:Option Nat):w.grownBy w row:=⟨rfl,rfl,rfl,Nat.le_refl _,λ_ _ _=>rfl⟩
structure Ps (w:World) (g gt n c:Nat) (ts:List Tok) (i:Nat):Prop where
 arr:Arr w g 84 [.slice (some ⟨gt,3*i,none⟩) (n-i) (c-i)]
 tok:TokOwn 0 w (some ⟨gt,0,none⟩) n c ts
 ne:gt≠g
 lt:i<n
 cap:n<=c/\c<=maxLen
def AtP(w:World)(g gt n c:Nat)(ts l:List Tok):Prop:=∃i,Ps w g gt n c ts i/\ts.drop i=l
section
variable {w w' : World} {g gt n c i : Nat} {ts l : List Tok}
theorem Ps.keep(h:Ps w g gt n c ts i)(hb:Below w.heap.size w w'):Ps w' g gt n c ts i:=⟨h.arr.kept hb,h.tok.keep hb,h.ne,h.lt,h.cap⟩
theorem Ps.far(h:Ps w g gt n c ts i)(h1:g≠p.block)(h2:gt≠p.block)(u:Value):Ps (w.setCell p u) g gt n c ts i :=
 ⟨h.arr.far h1 u,World.ownsRow.kept (row:=some p.block) h.tok ⟨rfl,rfl,rfl,by simp[World.setCell],λk _ hk=>Below.heap_setCell w _ u k (λe=>hk (by rw[e]))⟩ (Or.inr (λe=>h2 (by injection e))),h.ne,h.lt,h.cap⟩
theorem Ps.step(h:Ps w g gt n c ts i)(hi:i+1<n):Ps (w.setCell ⟨g,0,none⟩ (.slice (some ⟨gt,3*(i+1),none⟩) (n-(i+1)) (c-(i+1)))) g gt n c ts (i+1) :=
 ⟨h.arr.set 0 _,World.ownsRow.kept (row:=some g) h.tok (qM w g 0 _) (Or.inr (λe=>h.ne (by injection e))),h.ne,hi,h.cap⟩
theorem Ps.at(h:Ps w g gt n c ts i)(t:Tok)(ht:ts[i]? = some t):w.cell? ⟨gt,3*i,none⟩=some (.int .i64 (t.kind:Int))/\w.cell? ⟨gt,3*i+1,none⟩=some (.string (stg t.text))/\w.cell? ⟨gt,3*i+2,none⟩=some (.int .i64 (t.line:Int)):=by
 obtain⟨y,m,_,a,b,d⟩:=h.tok.at3 i h.lt t ht (3*i) (3*i+1) (3*i+2) rfl rfl rfl;injection m with m;injection m with m _ _;subst m;exact⟨a,b,d⟩
theorem AtP.keep(h:AtP w g gt n c ts l)(hb:Below w.heap.size w w'):AtP w' g gt n c ts l:=by
 obtain⟨i,y,m⟩:=h;exact⟨i,y.keep hb,m⟩
theorem AtP.head(h:AtP w g gt n c ts l):∃i t r,Ps w g gt n c ts i/\ts[i]? = some t/\l=t :: r/\ts.drop (i+1)=r:=by
 obtain⟨i,m,G⟩:=h;have H:=m.tok.len;have y:i<ts.length:=by rw[H];exact m.lt
 refine⟨i,ts[i],ts.drop (i+1),m,List.getElem?_eq_getElem y,?_,rfl⟩;rw[<- G,List.drop_eq_getElem_cons y]
end
theorem Ps.sizes(h:Ps w g gt n c ts i):g<w.heap.size/\gt<w.heap.size:=by
 refine⟨h.arr.lt,?_⟩;exact(World.ownsRow.lt (v:=.slice (some ⟨gt,0,none⟩) n c) h.tok gt rfl).2
theorem Ps.put3(h:Ps w g gt n c ts i)(h1:g≠b)(h2:gt≠b)(u0 u1 u2:Value):Ps (put3 w b u0 u1 u2) g gt n c ts i :=
 ((h.far (p:=⟨b,0,none⟩) h1 h2 u0).far (p:=⟨b,1,none⟩) h1 h2 u1).far (p:=⟨b,2,none⟩) h1 h2 u2
theorem AtP.sizes(h:AtP w g gt n c ts l):g<w.heap.size/\gt<w.heap.size:=by
 obtain⟨i,m,_⟩:=h;exact m.sizes
theorem Hz(gt i n c:Nat)(hi:i+1<n)(hc:n<=c)(W:World) :
    (Instr.slice 80 (.slice (some ⟨gt,3*i,none⟩) (n-i) (c-i)) (some (.int .i64 1)) none none).run Tryz.prog W=.ok (.slice (some ⟨gt,3*(i+1),none⟩) (n-(i+1)) (c-(i+1))) W:=by
 obtain⟨y,m,V⟩:=Option.map_eq_some_iff.1 Mf;rw[run_slice_l (P:=Tryz.prog) (w:=W) 80 (some ⟨gt,3*i,none⟩) (n-i) (c-i) Tryz.underlying80 .i64 1 (by omega) (by omega)];have e:(sizeOf (Tryz.prog.elem 80)).run Tryz.prog W=.ok 3 W:=by
  show(sizeOf 87).run Tryz.prog W=.ok 3 W;simp[sizeOf,typeInfo,m,V]
 rw[e];have G:¬ (c-i=1):=by omega
 have H:3*(i+1)=3*i+3:=by omega
 have J:n-(i+1)=n-i-1:=by omega
 have Z:c-(i+1)=c-i-1:=by omega
 rw[H,J,Z];simp only[Result.andThen,sliced,Int.toNat_one,if_neg G,Option.map_some,Addr.add];rw[if_neg (by decide)]
theorem VN(gt i n c:Nat)(hi:i<n)(W:World) :
    (Instr.indexAt 80 (.slice (some ⟨gt,3*i,none⟩) (n-i) (c-i)) (.int .i64 0)).run Tryz.prog W=.ok (.pointer (some ⟨gt,3*i,none⟩)) W:=by
 obtain⟨y,m,H⟩:=Option.map_eq_some_iff.1 Mf;have G:0<n-i:=by omega
 simp[Instr.indexAt,run_underlying Tryz.underlying80,asIntOf,sizeOf,typeInfo,m,Addr.add];omega
theorem Uu(w:World)(g gt n c:Nat)(ts:List Tok)(i:Nat)(h:Ps w g gt n c ts i)(t:Tok)(ht:ts[i]? = some t)(k:Nat) :
    Calls Tryz.prog 83 #[.pointer (some ⟨g,0,none⟩),.int .i64 (k:Int)] w λe w'=>e=.returned (.bool (decide (t.kind=k)))/\w=w':=by
 obtain⟨m,_,_⟩:=h.at t ht;have H:w.cell? ⟨g,0,none⟩=some (.slice (some ⟨gt,3*i,none⟩) (n-i) (c-i)):=h.arr.cell 0;have J:=VN gt i n c h.lt;obtain⟨K,G⟩:=jx1 (t.kind);have y:(((t.kind:Nat):Int) == (k:Int))=decide (t.kind=k):=by
  rw[Bool.eq_iff_iff];simp only[beq_iff_eq,decide_eq_true_eq];omega
 rw[G.o] at m y |-;clear h ht;go_in;go_wp2_with fail;go_ret;exact⟨rfl,rfl⟩
theorem Ba(w:World)(g gt n c:Nat)(ts:List Tok)(i:Nat)(h:Ps w g gt n c ts i)(t:Tok)(ht:ts[i]? = some t)(k:Nat)(hk:t.kind=k)(hi:i+1<n) :
    Calls Tryz.prog 80 #[.pointer (some ⟨g,0,none⟩),.int .i64 (k:Int)] w λe w' =>
     e=.returned (.tuple #[.agg #[.int .i64 (t.kind:Int),.string (stg t.text),.int .i64 (t.line:Int)],.bool true])/\Ps w' g gt n c ts (i+1)/\w.grownBy w' (some g):=by
 obtain⟨K,hK⟩:=jx1 (t.kind);obtain⟨y,J⟩:∃K,Hid (stg t.text=K):=⟨_,rfl⟩;obtain⟨G,a0⟩:∃K,Hid (t.line=K):=⟨_,rfl⟩;obtain⟨V,hV⟩:=jx2 (w.alloc (.cells #[.int .i64 0,.string ⟨#[]⟩,.int .i64 0] 87));have BV:Below w.heap.size w V:=by rw[hV.o];exact(Below.refl _ _).alloc (Nat.le_refl _) _
 have AV:Arr V w.heap.size 87 [.int .i64 0,.string ⟨#[]⟩,.int .i64 0]:=by rw[hV.o];exact Arr.new w _ _
 have PV:=h.keep BV;obtain⟨hg,a7⟩:=h.sizes;have a4:V.heap.size=w.heap.size+1:=by rw[hV.o];simp
 obtain⟨b,hb⟩:=jx1 (w.heap.size);rw[hb.o] at AV hg a4 a7;have HN:=Uu V g gt n c ts i PV t ht k;rw[decide_eq_true hk] at HN;obtain⟨a1,a2,a3⟩:=PV.at t ht;have y0:V.cell? ⟨g,0,none⟩=some (.slice (some ⟨gt,3*i,none⟩) (n-i) (c-i)):=PV.arr.cell 0;have x0:=VN gt i n c h.lt;have x1:=Hz gt i n c hi h.cap.1;rw[J.o,a0.o,hK.o];rw[hK.o] at a1;rw[J.o] at a2;rw[a0.o] at a3;obtain⟨V2,H⟩:=jx2 (V.alloc (.cells #[.int .i64 (K:Int),.string y,.int .i64 (G:Int)] 87));have B2:Below V.heap.size V V2:=by rw[H.o];exact(Below.refl _ _).alloc (Nat.le_refl _) _
 have A2:Arr V2 (b+1) 87 [.int .i64 (K:Int),.string y,.int .i64 (G:Int)]:=by rw[H.o,<- a4];exact Arr.new V _ _
 have P2:=PV.keep B2;have a6:=AV.kept B2;have z0:V2.cell? ⟨g,0,none⟩=some (.slice (some ⟨gt,3*i,none⟩) (n-i) (c-i)):=P2.arr.cell 0;have f0:V2.frozen? ⟨g,0,none⟩=false:=P2.arr.frozen 0;have P3:=P2.step hi;obtain⟨V3,m⟩:=jx2 (V2.setCell ⟨g,0,none⟩ (.slice (some ⟨gt,3*(i+1),none⟩) (n-(i+1)) (c-(i+1))));have GW:w.grownBy V3 (some g):=by
  rw[m.o];exact qq (qu BV _) (qq (qu B2 _) (qM _ _ _ _))
 rw[<- m.o] at P3;have A3:Arr V3 (b+1) 87 [.int .i64 (K:Int),.string y,.int .i64 (G:Int)]:=by rw[m.o];exact A2.far (by show b+1≠g;omega) _
 have Z:Arr V3 b 87 [.int .i64 0,.string ⟨#[]⟩,.int .i64 0]:=by rw[m.o];exact a6.far (by show b≠g;omega) _
 obtain⟨v0,v1,v2⟩:=A3.c3;obtain⟨r0,r1,r2,r3,r4,r5⟩:=Z.store3 (.int .i64 (K:Int)) (.string y);obtain⟨V4,e5⟩:=jx3 (((V3.setCell ⟨b,0,none⟩ (.int .i64 (K:Int))).setCell ⟨b,1,none⟩ (.string y)).setCell ⟨b,2,none⟩ (.int .i64 (G:Int)));have a5:put3 V3 b (.int .i64 (K:Int)) (.string y) (.int .i64 (G:Int))=V4:=e5;have AF:=jA (Z.put3 (.int .i64 (K:Int)) (.string y) (.int .i64 (G:Int)));have PF:=jA (P3.put3 (b:=b) (by omega) (by omega) (.int .i64 (K:Int)) (.string y) (.int .i64 (G:Int)));have GF:=jA (yS GW (Nat.le_of_eq hb.o) (.int .i64 (K:Int)) (.string y) (.int .i64 (G:Int)));rw[a5] at AF PF GF;clear a5;have HN:=jA HN;have e1:=hV.o.symm;have e2:=H.o.symm;have e3:=m.o.symm;have e4:=hb.o;clear h PV AV P2 a6 P3 A3 Z GW B2 BV hK J a0 ht A2 hV H m hb;go_in;go_wp2_with fail;refine HN.o.mono ?_;rintro e w1 ⟨rfl,rfl⟩;go_wp2_with fail;obtain⟨q0,q1,q2⟩:V4.cell? ⟨b,0,none⟩=some (.int .i64 (K:Int))/\V4.cell? ⟨b,1,none⟩=some (.string y)/\V4.cell? ⟨b,2,none⟩=some (.int .i64 (G:Int)):=⟨AF.o.cell 0,AF.o.cell 1,AF.o.cell 2⟩;refine bodyPost_ret (v:=.tuple #[.agg #[.int .i64 (K:Int),.string y,.int .i64 (G:Int)],.bool true]) (by simp[results,Tryz.results80,go_sem,q0,q1,q2]) rfl ?_;exact⟨rfl,PF.o,GF.o⟩
theorem Bb(w:World)(g gt n c:Nat)(ts:List Tok)(i:Nat)(h:Ps w g gt n c ts i)(t:Tok)(ht:ts[i]? = some t)(k:Nat)(hk:t.kind≠k) :
    Calls Tryz.prog 80 #[.pointer (some ⟨g,0,none⟩),.int .i64 (k:Int)] w λe w' =>
     e=.returned (.tuple #[.agg #[.int .i64 0,.string ⟨#[]⟩,.int .i64 0],.bool false])/\Ps w' g gt n c ts i/\w.grownBy w' (some g):=by
 obtain⟨V,e1,AV,J,a0⟩:=qG w 87 [.int .i64 0,.string ⟨#[]⟩,.int .i64 0];have H:=h.keep J;obtain⟨hg,a1⟩:=h.sizes;obtain⟨V2,e2,G,Z,r0,r1,r2,r3,r4,r5⟩:=jY AV (.int .i64 0) (.string ⟨#[]⟩) (.int .i64 0);have y:=Uu V g gt n c ts i H t ht k;rw[decide_eq_false hk] at y;have y:=jA y;have m:=H.put3 (b:=w.heap.size) (by omega) (by omega) (.int .i64 0) (.string ⟨#[]⟩) (.int .i64 0);have G2:=yS (qu J (some g)) (Nat.le_refl _) (.int .i64 0) (.string ⟨#[]⟩) (.int .i64 0);rw[<- G.o] at m G2;have m:=jA m;have G2:=jA G2;obtain⟨q0,q1,q2⟩:=Z.c3;clear h ht H AV Z J;go_in;go_wp2_with fail;refine y.o.mono ?_;rintro e w1 ⟨rfl,rfl⟩;go_wp2_with fail;refine bodyPost_ret (v:=.tuple #[.agg #[.int .i64 0,.string ⟨#[]⟩,.int .i64 0],.bool false]) (by simp[results,Tryz.results80,go_sem,q0,q1,q2]) rfl ?_;exact⟨rfl,m.o,G2.o⟩
theorem AtP.uncons{r:List Tok}{t:Tok}(h:AtP w g gt n c ts (t :: r)):∃i,Ps w g gt n c ts i/\ts[i]? = some t/\ts.drop (i+1)=r:=by
 obtain⟨i,J,V,y,H,m,G⟩:=h.head;injection m with m h5;subst m h5;exact⟨i,y,H,G⟩
theorem xa(w:World)(g gt n c:Nat)(ts r:List Tok)(t:Tok)(h:AtP w g gt n c ts (t :: r))(he:EndsT ts)(k:Nat)(hk:t.kind=k)(hk5:k≠5) :
    Calls Tryz.prog 80 #[.pointer (some ⟨g,0,none⟩),.int .i64 (k:Int)] w λe w' =>
     e=.returned (.tuple #[.agg #[.int .i64 (t.kind:Int),.string (stg t.text),.int .i64 (t.line:Int)],.bool true])/\AtP w' g gt n c ts r/\w.grownBy w' (some g):=by
 obtain⟨i,y,m,G⟩:=h.uncons;exact(Ba w g gt n c ts i y t m k hk (by have:=he.next m (by rw[hk];exact hk5);have:=y.tok.len;omega)).mono λe w' ⟨a,b,d⟩=>⟨a,⟨i+1,b,G⟩,d⟩
theorem xb(w:World)(g gt n c:Nat)(ts r:List Tok)(t:Tok)(h:AtP w g gt n c ts (t :: r))(k:Nat)(hk:t.kind≠k) :
    Calls Tryz.prog 80 #[.pointer (some ⟨g,0,none⟩),.int .i64 (k:Int)] w λe w' =>
     e=.returned (.tuple #[.agg #[.int .i64 0,.string ⟨#[]⟩,.int .i64 0],.bool false])/\AtP w' g gt n c ts (t :: r)/\w.grownBy w' (some g):=by
 obtain⟨i,y,m,H⟩:=h.uncons;refine(Bb w g gt n c ts i y t m k hk).mono λe w' ⟨a,b,d⟩=>⟨a,⟨i,b,?_⟩,d⟩
 obtain⟨J,G⟩:=List.getElem?_eq_some_iff.1 m;rw[List.drop_eq_getElem_cons J,G,H]
theorem Bd(w:World)(g gt n c:Nat)(ts l:List Tok)(h:AtP w g gt n c ts l)(he:EndsT ts)(k:Nat)(hk5:k≠5)(x:List UInt8) :
    Calls Tryz.prog 79 #[.pointer (some ⟨g,0,none⟩),.int .i64 (k:Int),.string (stg x)] w λe w'=>∃b:Bool,e=.returned (.bool b) /\
      (∀t r,l=t :: r->b=(decide (t.kind=k)&&decide (t.text=x)))/\AtP w' g gt n c ts (if b then l.drop 1 else l)/\w.grownBy w' (some g):=by
 obtain⟨i,t,r,hP,ht,rfl,hr⟩:=h.head;obtain⟨a1,a2,a3⟩:=hP.at t ht;have y0:w.cell? ⟨g,0,none⟩=some (.slice (some ⟨gt,3*i,none⟩) (n-i) (c-i)):=hP.arr.cell 0;have x0:=VN gt i n c hP.lt;obtain⟨X,hX⟩:=jx1 (stg x);obtain⟨Y,hY⟩:∃X,Hid (stg t.text=X):=⟨_,rfl⟩;rw[hY.o] at a2;rw[hX.o];by_cases J:t.text=x
 . (have a4:(Y.toList == X.toList)=true:=by rw[<- hX.o,<- hY.o,J];simp);by_cases hk:t.kind=k
   . have HT:=jA (xa w g gt n c ts r t h he k hk hk5);have hb:Hid (∀m G,t :: r=m :: G->true=(decide (m.kind=k)&&decide (m.text=x))):=by
      intro m G e;injection e with e _;subst e;rw[decide_eq_true hk,decide_eq_true J];rfl
     clear h hP ht a1 a3 hr hk J hY hX;go_in;go_wp2_with fail;refine HT.o.mono ?_;rintro e w1 ⟨rfl,y,H⟩;obtain⟨V,e1,AV,Z,a0⟩:=qG w1 87 [.int .i64 (t.kind:Int),.string (stg t.text),.int .i64 (t.line:Int)];have y:=jA (y.keep Z);have H:=jA (qq H (qu Z _));clear HT AV Z;go_wp2_with fail;go_ret;exact⟨true,rfl,hb.o,y.o,H.o⟩
   . have HT:=jA (xb w g gt n c ts r t h k hk);have hb:Hid (∀m G,t :: r=m :: G->false=(decide (m.kind=k)&&decide (m.text=x))):=by
      intro m G e;injection e with e _;subst e;rw[decide_eq_false hk];rfl
     clear h hP ht a1 a3 hr hk J hY hX;go_in;go_wp2_with fail;refine HT.o.mono ?_;rintro e w1 ⟨rfl,y,H⟩;obtain⟨V0,V,e1,e2,AV,Z,a0,r0,r1,r2,r3,r4,r5⟩:=ze w1 87 (.int .i64 0) (.string ⟨#[]⟩) (.int .i64 0) (.int .i64 0) (.string ⟨#[]⟩) (.int .i64 0);have y:=jA (y.keep Z);have H:=jA (qq H (qu Z _));clear HT AV Z;go_wp2_with fail;go_ret;exact⟨false,rfl,hb.o,y.o,H.o⟩
 . have a4:(Y.toList == X.toList)=false:=by
    rw[<- hX.o,<- hY.o,beq_eq_false_iff_ne];intro e;exact J (Pf (by rw[ByteArray.toList_eq,ByteArray.toList_eq] at e;exact uH e))
   have hb:Hid (∀m G,t :: r=m :: G->false=(decide (m.kind=k)&&decide (m.text=x))):=by
    intro m G e;injection e with e _;subst e;rw[decide_eq_false J,Bool.and_false]
   have y:=jA h;clear h hP ht a1 a3 hr J hY hX;go_in;go_wp2_with fail;go_ret;exact⟨false,rfl,hb.o,y.o,Ut _ _⟩
theorem ue(w:World)(g gt n c:Nat)(ts l:List Tok)(h:AtP w g gt n c ts l)(he:EndsT ts)(d:UInt8) :
    Calls Tryz.prog 81 #[.pointer (some ⟨g,0,none⟩),.string (stg [d])] w λe w'=>e=.returned (.bool (jU d l)) /\
      AtP w' g gt n c ts (if jU d l then l.drop 1 else l)/\w.grownBy w' (some g):=by
 have H:=jA (Bd w g gt n c ts l h he 4 (by decide) [d]);obtain⟨i,t,r,_,_,rfl,_⟩:=h.head;have hm:Hid (jU d (t :: r)=(decide (t.kind=4)&&decide (t.text=[d]))):=rfl;obtain⟨b,J⟩:=jx1 (jU d (t :: r));rw[J.o];obtain⟨L,V⟩:∃L,Hid ((if b=true then (t :: r).drop 1 else t :: r)=L):=⟨_,rfl⟩;rw[V.o];clear h;go_in;go_wp2_with fail;refine H.o.mono ?_;rintro e w1 ⟨Z,rfl,G,m,y⟩;have e1:Z=b:=by rw[G t r rfl,<- J.o,hm.o]
 subst e1;rw[V.o] at m;have m:=jA m;have y:=jA y;clear H G;go_wp2_with fail;go_ret;exact⟨rfl,m.o,y.o⟩
section
variable {w : World} {g b : Nat} {t : TypeId} {cs : List Value}
theorem Arr.off2(h:Arr w g t cs)(hb:g≠b)(u0 u1:Value):Arr (Go.Proofs.YtkefajjcpcoajaaGreatDoor.put2 w b u0 u1) g t cs:=(h.far (p:=⟨b,0,none⟩) hb u0).far (p:=⟨b,1,none⟩) hb u1
theorem Arr.off3(h:Arr w g t cs)(hb:g≠b)(u0 u1 u2:Value):Arr (Go.Proofs.YtkefajjcpcoajaaGreatDoor.put3 w b u0 u1 u2) g t cs:=((h.far (p:=⟨b,0,none⟩) hb u0).far (p:=⟨b,1,none⟩) hb u1).far (p:=⟨b,2,none⟩) hb u2
end
theorem JX{a b d:World}{row:Option Nat}(h:a.grownBy b row)(k:Below a.heap.size b d):a.grownBy d row :=
 ⟨k.os.trans h.os,k.tape.trans h.tape,k.output.trans h.output,Nat.le_trans h.size k.size,λi hi hne=>(k.block i hi).trans (h.block i hi hne)⟩
theorem vh(h:w.ownsRow B E s v n us)(hb:Below k w w')(hl:∀g,v.ownBlock=some g->g<k):w'.ownsRow B E s v n us:=by
 refine⟨h.1,?_⟩;rcases h.2 with h0|⟨g,cap,cur,hv,hg,hh,r⟩
 . exact Or.inl h0
 . exact Or.inr ⟨g,cap,cur,hv,hg,(hb.block g (hl g (by rw[hv];rfl))).trans hh,r⟩
theorem xy(h:w.ownsRow B E s v n us)(hp:v.ownBlock≠some p.block)(u:Value):(w.setCell p u).ownsRow B E s v n us:=by
 refine World.ownsRow.kept (row:=some p.block) h ⟨rfl,rfl,rfl,by simp[World.setCell],λk _ m=>Below.heap_setCell w _ u k (λe=>m (by rw[e]))⟩ ?_;exact Or.inr hp
theorem zI{cs:List Value}(h:w.ownsRow B E s v n us)(hA:Arr w g T cs)(hT:T≠E):v.ownBlock≠some g:=by
 intro e;rcases h.2 with ⟨hv,_⟩|⟨k,cap,cur,hv,_,hh,_⟩
 . rw[hv] at e;cases e
 . rw[hv] at e;have e':some k=some g:=e;injection e' with e';subst e';rw[show w.heap[k]? = _ from hA] at hh;injection hh with hh;injection hh with _ h2 _;exact hT h2
theorem Arr.row{cs:List Value}(hA:Arr w g T cs)(h:w.ownsRow B E s v n us)(hT:T≠E)(hg:w.grownBy w' v.ownBlock):Arr w' g T cs :=
 (hg.block g hA.lt (λe=>zI h hA hT e.symm)).trans hA
theorem Ps.low(h:Ps w g gt n c ts i)(hb:Below k w w')(h1:g<k)(h2:gt<k):Ps w' g gt n c ts i :=
 ⟨h.arr.below hb h1,vh h.tok hb (λj hj=>by have e:some gt=some j:=hj;injection e with e;omega),h.ne,h.lt,h.cap⟩
theorem AtP.low(h:AtP w g gt n c ts l)(hb:Below k w w')(h1:g<k)(h2:gt<k):AtP w' g gt n c ts l:=by
 obtain⟨i,a,b⟩:=h;exact⟨i,a.low hb h1 h2,b⟩
theorem AtP.far(h:AtP w g gt n c ts l)(h1:g≠p.block)(h2:gt≠p.block)(u:Value):AtP (w.setCell p u) g gt n c ts l:=by
 obtain⟨i,a,b⟩:=h;exact⟨i,a.far h1 h2 u,b⟩
theorem AtP.put3(h:AtP w g gt n c ts l)(h1:g≠b)(h2:gt≠b)(u0 u1 u2:Value):AtP (put3 w b u0 u1 u2) g gt n c ts l :=
 ((h.far (p:=⟨b,0,none⟩) h1 h2 u0).far (p:=⟨b,1,none⟩) h1 h2 u1).far (p:=⟨b,2,none⟩) h1 h2 u2
theorem AtP.put4(h:AtP w g gt n c ts l)(h1:g≠b)(h2:gt≠b)(u0 u1 u2 u3:Value):AtP (put4 w b u0 u1 u2 u3) g gt n c ts l :=
 (h.put3 h1 h2 u0 u1 u2).far (p:=⟨b,3,none⟩) h1 h2 u3
theorem AtP.put2(h:AtP w g gt n c ts l)(h1:g≠b)(h2:gt≠b)(u0 u1:Value):AtP (put2 w b u0 u1) g gt n c ts l :=
 (h.far (p:=⟨b,0,none⟩) h1 h2 u0).far (p:=⟨b,1,none⟩) h1 h2 u1
theorem AtP.sub(h:AtP w g gt n c ts l):l.length<=ts.length:=by
 obtain⟨i,_,b⟩:=h;rw[<- b,List.length_drop];omega
def psN(g:Nat)(w:World):Nat:=match w.cell? ⟨g,0,none⟩ with
 | some (.slice _ n _)=>n
 | _=>0
theorem AtP.psN(h:AtP w g gt n c ts l):psN g w=l.length:=by
 obtain⟨i,a,b⟩:=h;have m:w.cell? ⟨g,0,none⟩=some (.slice (some ⟨gt,3*i,none⟩) (n-i) (c-i)):=a.arr.cell 0;have y:=a.tok.len;unfold Go.Proofs.YtkefajjcpcoajaaGreatDoor.psN;rw[m,<- b,List.length_drop,y]
structure FSt (w wr:World) (g fb:Nat) (key:Value) (ln:Value) (ao:Option Addr) (n c:Nat) (vs:List (List UInt8)):Prop where
 own:wr.ownsRow w.heap.size 9 1 (.slice ao n c) n (vs.map λv=>.string (stg v))
 box:Arr wr fb 63 [key,.slice ao n c,ln]
 res:Arr wr w.heap.size 63 [.string ⟨#[]⟩,.slice none 0 0,.int .i64 0]
 grown:w.grownBy wr (some g)
 new:w.heap.size<fb
 old:g<w.heap.size
section
variable {w wr w' : World} {g fb n c : Nat} {key ln : Value} {ao : Option Addr} {vs : List (List UInt8)}
theorem FSt.call(h:FSt w wr g fb key ln ao n c vs)(hg:wr.grownBy w' (some g)):FSt w w' g fb key ln ao n c vs :=
 ⟨wn h.own hg h.old,h.box.grown hg (by have:=h.new;have:=h.old;omega),h.res.grown hg (by have:=h.old;omega),qq h.grown hg,h.new,h.old⟩
theorem FSt.keep(h:FSt w wr g fb key ln ao n c vs)(hb:Below wr.heap.size wr w'):FSt w w' g fb key ln ao n c vs:=h.call (qu hb _)
theorem FSt.push(h:FSt w wr g fb key ln ao n c vs){ao':Option Addr}{c':Nat}{x:List UInt8}(ho:w'.ownsRow w.heap.size 9 1 (.slice ao' (n+1) c') (n+1) ((vs.map λv=>.string (stg v))++[.string (stg x)]))(hg:wr.grownBy w' (Value.slice ao n c).ownBlock)(hb:Below w.heap.size wr w') :
    ∃W,w'.setCell ⟨fb,1,none⟩ (.slice ao' (n+1) c')=W/\FSt w W g fb key ln ao' (n+1) c' (vs++[x])/\Hid (W=w'.setCell ⟨fb,1,none⟩ (.slice ao' (n+1) c'))/\w'.cell? ⟨fb,1,none⟩=some (.slice ao n c)/\w'.frozen? ⟨fb,1,none⟩=false:=by
 have y:=h.box.row h.own (by decide) hg;have G:=h.res.row h.own (by decide) hg;have H:=h.new;refine⟨_,rfl,⟨?_,y.set 1 _,G.far (by show w.heap.size≠fb;omega) _,kT (JX h.grown hb) (by omega) _ _,h.new,h.old⟩,rfl,y.cell 1,y.frozen 1⟩;have m:w'.ownsRow w.heap.size 9 1 (.slice ao' (n+1) c') (n+1) ((vs++[x]).map λv=>.string (stg v)):=by simpa using ho
 exact xy m (zI m y (by decide)) _
theorem FSt.strs(h:FSt w wr g fb key ln ao n c vs):StrL (qS w.heap.size [9]) wr ao n c vs:=Row.own h.own (by decide)
end
structure LSt (E T:TypeId) (s:Nat) (w wr:World) (g bb:Nat) (pre post zs:List Value) (ao:Option Addr) (n c:Nat) (us:List Value):Prop where
 own:wr.ownsRow w.heap.size E s (.slice ao n c) n us
 box:Arr wr bb T (pre++.slice ao n c :: post)
 res:Arr wr w.heap.size T zs
 grown:w.grownBy wr (some g)
 new:w.heap.size<bb
 old:g<w.heap.size
section
variable {E T : TypeId} {s : Nat} {w wr w' : World} {g bb n c : Nat} {pre post zs us vs : List Value} {ao : Option Addr}
theorem LSt.call(h:LSt E T s w wr g bb pre post zs ao n c us)(hg:wr.grownBy w' (some g)):LSt E T s w w' g bb pre post zs ao n c us :=
 ⟨wn h.own hg h.old,h.box.grown hg (by have:=h.new;have:=h.old;omega),h.res.grown hg (by have:=h.old;omega),qq h.grown hg,h.new,h.old⟩
theorem LSt.size(h:LSt E T s w wr g bb pre post zs ao n c us):w.heap.size<=wr.heap.size:=by have:=h.res.lt;omega
theorem LSt.push(h:LSt E T s w wr g bb pre post zs ao n c us){Es:List TypeId}(hTE:T≠E)(hT:T∉Es)(hE:E∉Es){ao':Option Addr}{c':Nat}(ho:w'.ownsRow w.heap.size E s (.slice ao' (n+1) c') (n+1) (us++vs))(hg:wr.grownBy w' (Value.slice ao n c).ownBlock)(hb:Below w.heap.size wr w') :
    ∃W,w'.setCell ⟨bb,pre.length,none⟩ (.slice ao' (n+1) c')=W/\LSt E T s w W g bb pre post zs ao' (n+1) c' (us++vs)/\Hid (W=w'.setCell ⟨bb,pre.length,none⟩ (.slice ao' (n+1) c'))/\w'.cell? ⟨bb,pre.length,none⟩=some (.slice ao n c)/\w'.frozen? ⟨bb,pre.length,none⟩=false/\Keeps (qS w.heap.size Es) wr W:=by
 have y:=h.box.row h.own hTE hg;have G:=h.res.row h.own hTE hg;have H:=h.new;have m:=y.set pre.length (.slice ao' (n+1) c');have e:(pre++.slice ao n c :: post).set pre.length (.slice ao' (n+1) c')=pre++.slice ao' (n+1) c' :: post:=by simp
 rw[e] at m;refine⟨_,rfl,⟨xy ho (zI ho y hTE) _,m,G.far (by show w.heap.size≠bb;omega) _,kT (JX h.grown hb) (by omega) _ _,h.new,h.old⟩,rfl,?_,y.frozen _,?_⟩
 . rw[y.cell];simp
 . exact(zS h.own hg hE).trans (qE _ _) hb.size (zd y hT _)
theorem LSt.row(h:LSt E T s w wr g bb pre post zs ao n c us)(hs:0<s):Row (qS w.heap.size [E]) s wr ao n c us:=Row.own h.own hs
end
theorem vY{Es:List TypeId}(h:Arr w g T [v0,v1])(hT:T∉Es)(u0 u1:Value):Keeps (qS lo Es) w (put2 w g u0 u1) :=
 (zd (i:=0) h hT u0).trans (qE _ _) (by simp[World.setCell]) (zd (i:=1) (h.set 0 u0) hT u1)
theorem JY{Es:List TypeId}{v2:Value}(h:Arr w g T [v0,v1,v2])(hT:T∉Es)(u0 u1 u2:Value):Keeps (qS lo Es) w (put3 w g u0 u1 u2) :=
 ((zd (i:=0) h hT u0).trans (qE _ _) (by simp[World.setCell]) (zd (i:=1) (h.set 0 u0) hT u1)).trans (qE _ _) (by simp[World.setCell]) (zd (i:=2) ((h.set 0 u0).set 1 u1) hT u2)
theorem Uv{Es:List TypeId}{v2 v3:Value}(h:Arr w g T [v0,v1,v2,v3])(hT:T∉Es)(u0 u1 u2 u3:Value):Keeps (qS lo Es) w (put4 w g u0 u1 u2 u3) :=
 (((zd (i:=0) h hT u0).trans (qE _ _) (by simp[World.setCell]) (zd (i:=1) (h.set 0 u0) hT u1)).trans (qE _ _) (by simp[World.setCell]) (zd (i:=2) ((h.set 0 u0).set 1 u1) hT u2)).trans (qE _ _) (by simp[World.setCell]) (zd (i:=3) (((h.set 0 u0).set 1 u1).set 2 u2) hT u3)
theorem kF{lo':Nat}{Es Es':List TypeId}(hl:lo'<=lo)(hE:∀E∈Es,E∈Es'):∀k,qS lo Es w k->qS lo' Es' w k:=λ_ ⟨h1,E,h2,r⟩=>⟨Nat.le_trans hl h1,E,hE E h2,r⟩
theorem Wj:(Tryz.prog.info? 63).map (λi=>(i.zero,i.size,i.bytes))=some (some (.agg #[.string ⟨#[]⟩,.slice none 0 0,.int .i64 0]),3,48):=by kernel_rfl
theorem XD:(Tryz.prog.info? 55).map (λi=>(i.zero,i.size,i.bytes))=some (some (.agg #[.string ⟨#[]⟩,.string ⟨#[]⟩,.slice none 0 0,.int .i64 0]),4,64):=by kernel_rfl
def BSt(w wr:World)(g bb:Nat)(kind name ln:Value)(ao:Option Addr)(n c:Nat)(fs:List Fld):Prop :=
 ∃us,LSt 63 55 3 w wr g bb [kind,name] [ln] [.string ⟨#[]⟩,.string ⟨#[]⟩,.slice none 0 0,.int .i64 0] ao n c us/\FCells true (qS w.heap.size [9]) wr fs us
section
variable {w wr w' : World} {g bb n c : Nat} {kind name ln : Value} {ao : Option Addr} {fs : List Fld}
theorem BSt.call(h:BSt w wr g bb kind name ln ao n c fs)(hg:wr.grownBy w' (some g)):BSt w w' g bb kind name ln ao n c fs:=by
 obtain⟨us,m,y⟩:=h;exact⟨us,m.call hg,y.keep (qE _ _) (Qx hg m.old)⟩
theorem BSt.keep(h:BSt w wr g bb kind name ln ao n c fs)(hb:Below wr.heap.size wr w'):BSt w w' g bb kind name ln ao n c fs:=h.call (qu hb _)
theorem BSt.box(h:BSt w wr g bb kind name ln ao n c fs):Arr wr bb 55 [kind,name,.slice ao n c,ln]:=by
 obtain⟨us,m,_⟩:=h;exact m.box
theorem BSt.res(h:BSt w wr g bb kind name ln ao n c fs):Arr wr w.heap.size 55 [.string ⟨#[]⟩,.string ⟨#[]⟩,.slice none 0 0,.int .i64 0]:=by
 obtain⟨us,m,_⟩:=h;exact m.res
theorem BSt.grown(h:BSt w wr g bb kind name ln ao n c fs):w.grownBy wr (some g):=by
 obtain⟨us,m,_⟩:=h;exact m.grown
theorem BSt.flds(h:BSt w wr g bb kind name ln ao n c fs):FldL true (qS w.heap.size [9,63]) wr ao n c fs:=by
 obtain⟨us,y,m⟩:=h;exact⟨us,(y.row (by decide)).mono (kF (Nat.le_refl _) (by simp)),m.mono (kF (Nat.le_refl _) (by simp))⟩
end
def SSt(w wr:World)(g sb:Nat)(title:Value)(ao:Option Addr)(n c:Nat)(bs:List Blc):Prop :=
 ∃us,LSt 55 24 4 w wr g sb [title] [] [.string ⟨#[]⟩,.slice none 0 0] ao n c us/\BCells true (qS w.heap.size [9,63]) wr bs us
section
variable {w wr w' : World} {g sb n c : Nat} {title : Value} {ao : Option Addr} {bs : List Blc}
theorem SSt.call(h:SSt w wr g sb title ao n c bs)(hg:wr.grownBy w' (some g)):SSt w w' g sb title ao n c bs:=by
 obtain⟨us,m,y⟩:=h;exact⟨us,m.call hg,y.keep (qE _ _) (Qx hg m.old)⟩
theorem SSt.keep(h:SSt w wr g sb title ao n c bs)(hb:Below wr.heap.size wr w'):SSt w w' g sb title ao n c bs:=h.call (qu hb _)
theorem SSt.box(h:SSt w wr g sb title ao n c bs):Arr wr sb 24 [title,.slice ao n c]:=by
 obtain⟨us,m,_⟩:=h;exact m.box
theorem SSt.res(h:SSt w wr g sb title ao n c bs):Arr wr w.heap.size 24 [.string ⟨#[]⟩,.slice none 0 0]:=by
 obtain⟨us,m,_⟩:=h;exact m.res
theorem SSt.grown(h:SSt w wr g sb title ao n c bs):w.grownBy wr (some g):=by
 obtain⟨us,m,_⟩:=h;exact m.grown
theorem SSt.new(h:SSt w wr g sb title ao n c bs):w.heap.size<sb:=by
 obtain⟨us,m,_⟩:=h;exact m.new
theorem SSt.blks(h:SSt w wr g sb title ao n c bs):BlkL true (qS w.heap.size [9,63,55]) wr ao n c bs:=by
 obtain⟨us,y,m⟩:=h;exact⟨us,(y.row (by decide)).mono (kF (Nat.le_refl _) (by simp)),m.mono (kF (Nat.le_refl _) (by simp))⟩
end
end Go.Proofs.YtkefajjcpcoajaaGreatDoor
namespace Go.Proofs.YtkefajjcpcoajaaGreatDoor
open Go.RowKit Go.ChangeShapes Go.WideShapes Lx
def Grp{α:Type}(R:List Value->α->Prop):List α->List Value->Prop
  | [],us=>us=[]
  | a :: zs,us=>∃g r,us=g++r/\R g a/\Grp R zs r
theorem Grp.snoc{α:Type}{R:List Value->α->Prop}{g:List Value}{b:α}(hb:R g b):∀ {zs:List α} {us:List Value},Grp R zs us->Grp R (zs++[b]) (us++g)
  | [],us,h=>by
   have:us=[]:=h;subst this;exact⟨g,[],by simp,hb,rfl⟩
  | _ :: _,_,⟨g',r,h1,h2,h3⟩=>by
   subst h1;exact⟨g',r++g,by simp,h2,Grp.snoc hb h3⟩
theorem add_add(a:Addr)(i j:Nat):(a.add i).add j=a.add (i+j):=by
 unfold Addr.add;obtain⟨b,o,f⟩:=a;cases i<;>cases j<;>simp[Nat.add_assoc]
theorem JZ{H:Type}{enc:TypeId×Value->H}{W:World}{fuel:Nat}{x:DataW H×List MemPlace}{α:Type}{t e:TypeId}{v:Value}{s:Nat}(R:List Value->α->Prop)
    (ht:Tryz.prog.underlying t=some (.slice e)) (hc:Tryz.prog.cellsOf e=s) (_:0<s)
    (hR:∀n cs y,cs.length=s->DataW.trod enc Tryz.prog W 0 (λ_=>true) true n e cs=some y->∃a,R cs a)
    (hf:DataW.trod enc Tryz.prog W 0 (λ_=>true) true fuel t [v]=some x) :
    ∃ao l c us,∃zs:List α,v=.slice ao l c/\Row qU s W ao l c us/\zs.length=l/\Grp R zs us:=by
 rcases DataW.trod_slice ht hf with ⟨m,_⟩|⟨ad,len,cap,elems,rest,n,_,m,_,_,hl,hm,hlen,hel,_,_⟩
 . simp at m;subst m;exact⟨none,0,0,[],[],rfl,Row.nil _ _ _,rfl,rfl⟩
 . simp at m;subst m;rw[hc] at hel;have key:∀k,k<=len->∃us,∃zs:List α,us.length=k*s/\zs.length=k/\Grp R zs us/\∀i u,us[i]? = some u->W.cell? (ad.add i)=some u:=by
    intro k;induction k with
    | zero=>intro _;exact⟨[],[],by simp,rfl,rfl,λi u h=>by simp at h⟩
    | succ k ih =>
     intro hk;obtain⟨us,zs,J,h2,h3,h4⟩:=ih (by omega);have hx:=hel k (by omega);rw[List.getElem?_eq_getElem (by omega),Option.bind_eq_some_iff] at hx;obtain⟨Z,m,hy⟩:=hx;obtain⟨_,V,a0⟩:=World.cells?_some m;obtain⟨a,ha⟩:=hR n Z _ V hy;refine⟨us++Z,zs++[a],by simp[J,V,Nat.add_mul],by simp[h2],h3.snoc ha,λi u G=>?_⟩;by_cases hi:i<us.length
     . rw[List.getElem?_append_left hi] at G;exact h4 i u G
     . rw[List.getElem?_append_right (by omega)] at G;have hj:i-us.length<s:=by
        have:=(List.getElem?_eq_some_iff.1 G).1;omega
       have:=a0 (i-us.length) hj;rw[add_add,J,show k*s+(i-k*s)=i by omega] at this;rw[this,<- G,J]
   obtain⟨us,zs,J,h2,h3,h4⟩:=key len (Nat.le_refl _);exact⟨some ad,len,cap,us,zs,rfl,⟨J,hl,by simpa[maxLen] using hm,λ_=>⟨_,rfl⟩,λi u G=>⟨h4 i u G,trivial⟩,λe=>by cases e⟩,h2,h3⟩
theorem DD{H:Type}{enc:TypeId×Value->H}{W:World}{fuel:Nat}{x:DataW H×List MemPlace}{t:TypeId}{v:Value}
    (ht:Tryz.prog.underlying t=some (.slice 9)) (hf:DataW.trod enc Tryz.prog W 0 (λ_=>true) true fuel t [v]=some x):∃ao l c vs,v=.slice ao l c/\StrL qU W ao l c vs:=by
 obtain⟨ao,l,c,us,zs,rfl,G,m,J⟩:=JZ (R:=λg (a:List UInt8)=>g=[.string (stg a)]) ht (s:=1) (by kernel_rfl) (by omega) (λn cs y _ Z=>by
  obtain⟨s,rfl,_,_⟩:=DataW.trod_string Tryz.underlying9 Z;exact⟨bys s,by rw[yD]⟩) hf
 refine⟨ao,l,c,zs,rfl,?_⟩;have:us=zs.map λv=>.string (stg v):=by
  clear G m;induction zs generalizing us with
  | nil=>exact J
  | cons a zs ih =>
   obtain⟨g,r,rfl,rfl,V⟩:=J;rw[ih r V];rfl
 unfold StrL;rw[<- this];exact G
end Go.Proofs.YtkefajjcpcoajaaGreatDoor
/-
  A definition that came in.
-/
namespace Go.Proofs.YtkefajjcpcoajaaGreatDoor
open Go.RowKit Go.ChangeShapes Go.WideShapes Lx
theorem Be{cs:List Value}(h:cs.length=3):∃a b c,cs=[a,b,c]:=by
 match cs,h with
 | [a,b,c],_=>exact⟨a,b,c,rfl⟩
theorem Bf{cs:List Value}(h:cs.length=4):∃a b c d,cs=[a,b,c,d]:=by
 match cs,h with
 | [a,b,c,d],_=>exact⟨a,b,c,d,rfl⟩
section
variable {H : Type} {enc : TypeId × Value -> H} {W : World} {x : DataW H × List MemPlace} {fuel : Nat}
end
end Go.Proofs.YtkefajjcpcoajaaGreatDoor
namespace Go.Proofs.YtkefajjcpcoajaaGreatDoor
open Go.RowKit Lx
variable {c:UInt8}{l:List UInt8}
namespace Lx
def Uw(c:UInt8):List UInt8:=if xg c then [92,c] else [c]
def yq(l:List UInt8):List UInt8:=l.flatMap Uw
theorem Yd(l:List UInt8)(c:UInt8):yq (l++[c])=yq l++Uw c:=by simp[yq]
theorem Bg(h:xg c=true):Uw c=[92,c]:=by unfold Uw;rw[if_pos h]
theorem MJ(h:xg c=false):Uw c=[c]:=by unfold Uw;rw[h];rfl
def VO(l:List UInt8):ByteArray×Bool:=if l.all z8 then (stg (34 :: yq l++[34]),true) else (⟨#[]⟩,false)
theorem Bh(h:l.all z8=true):VO l=(stg (34 :: yq l++[34]),true):=if_pos h
theorem ML(h:l.all z8=false):VO l=(⟨#[]⟩,false):=if_neg (by rw[h];decide)
theorem ZD{j:Nat}(h:l.drop j=c :: l.drop (j+1)):l.take (j+1)=l.take j++[c]:=by
 rw[List.take_add,h];rfl
theorem DE{j:Nat}(h:l.drop j=c :: l.drop (j+1))(hc:z8 c=false):l.all z8=false:=by
 rw[<- List.take_append_drop j l,List.all_append,h,List.all_cons,hc];simp
end Lx
theorem Wk{p:ByteArray×Bool}{t:ByteArray}{b:Bool}(h:p=(t,b)):Ending.returned (.tuple #[.string t,.bool b])=.returned (.tuple #[.string p.1,.bool p.2]):=by rw[h]
theorem Wl(s:ByteArray)(w:World)(hs:s.size<=1000000) :
    Calls Tryz.prog 29 #[.string s] w λe w'=>e=.returned (.bool ((bys s).all z8))/\w=w':=by
 obtain⟨R,hR⟩:=jx1 ((bys s).all z8);rw[hR.o];go_in;go_wp2_with fail;go_loop [3] (λi=>∃j:Nat,j<=s.size/\i=.int .i64 j/\Hid (R=((bys s).drop j).all z8)) (λi=>s.size-(intOf i).toNat)
 case atStart=>exact⟨0,Nat.zero_le _,rfl,by show _=_;rw[List.drop_zero,hR.o]⟩
 case round =>
  obtain⟨j,hj,rfl,V⟩:=hrel;by_cases a0:j<s.size
  . (have a2:(j:Int)<(s.size:Int):=by omega);obtain⟨d,hd,x1⟩:=ZH s j a0;obtain⟨n,Z⟩:∃n:Nat,Hid (d.toNat=n):=⟨_,rfl⟩;rw[Z.o] at x1;(have H:Hid (R=(z8 d&&((bys s).drop (j+1)).all z8)):=by show _=_;rw[V.o,hd.o,List.all_cons]);clear V;by_cases G:n<32
    . (have a1:(n:Int)<32:=by omega);(have y:Hid (R=false):=by show _=_;rw[H.o,show z8 d=false by simp[z8,Z.o];omega];rfl);clear G H;go_wp2_with fail;go_ret;exact⟨zQ y.o.symm,rfl⟩
    . (have a1:¬ (n:Int)<32:=by omega);by_cases m:n > 126
      . (have J:(n:Int) > 126:=by omega);(have y:Hid (R=false):=by show _=_;rw[H.o,show z8 d=false by simp[z8,Z.o];omega];rfl);clear G m H;go_wp2_with fail;go_ret;exact⟨zQ y.o.symm,rfl⟩
      . (have J:¬ (n:Int) > 126:=by omega);(have y:Hid (R=((bys s).drop (j+1)).all z8):=by show _=_;rw[H.o,show z8 d=true by simp[z8,Z.o];omega];rfl);clear G m H;go_wp2_with fail;go_round;(case rel=>exact⟨j+1,by omega,by go_num,y⟩);case measure=>simp[intOf];omega
  . (obtain rfl:j=s.size:=by omega);(have y:Hid (R=true):=by show _=_;rw[V.o,uJ];rfl);clear V;go_wp2_with fail;go_ret;exact⟨zQ y.o.symm,rfl⟩
