/- -/
import Derived.Test.YtkefajjcpcoajaaGreatDoorPkA0
import Derived.Deep.CutBlock
import Derived.Deep.DeepCutAuto
import Derived.Deep.RegionHeld3
import Derived.Deep.RegionLaw
import Derived.Test.YtkefajjcpcoajaaGreatDoorPkA12
import Derived.Test.YtkefajjcpcoajaaGreatDoorPkA14
import Derived.Test.YtkefajjcpcoajaaGreatDoorPkA15
import Derived.Test.YtkefajjcpcoajaaGreatDoorPkA16
import Derived.Test.YtkefajjcpcoajaaGreatDoorPkA25
import Derived.Test.YtkefajjcpcoajaaGreatDoorPkA27
import Derived.Test.YtkefajjcpcoajaaGreatDoorPkA28
import Derived.Test.YtkefajjcpcoajaaGreatDoorPkA32
import Derived.Test.YtkefajjcpcoajaaGreatDoorPkA34
import Derived.Test.YtkefajjcpcoajaaGreatDoorPkA38
import Derived.Test.YtkefajjcpcoajaaGreatDoorPkA39
import Derived.Test.YtkefajjcpcoajaaGreatDoorPkA43
import Derived.Test.YtkefajjcpcoajaaGreatDoorPkA44
import Derived.Test.YtkefajjcpcoajaaGreatDoorPkA46
set_option linter.all false
set_option maxRecDepth 100000
set_option maxHeartbeats 51200000
namespace Go.Proofs.YtkefajjcpcoajaaGreatDoor
open Go.RowKit Lx
variable {g:Nat}{w:World}{F:Nat×Int}{r:RSt}{z:RSl}{k:List UInt8}
namespace Lx
def z0S:RSl:=⟨⟨none,0,0,none,0,0,none,0,0,none,0,0,none,0,0⟩,none,0,0,none,0,0,none,0,0⟩
structure CI (B g:Nat) (w0 w:World) (F:Nat×Int) (r:RSt) (z:RSl):Prop where
 st:St w g (rC r z) F
 rr:RR B none w r z
 bw:Below B w0 w
theorem CI.init(t:List UInt8)(w:World):∃V X,w.alloc (.cells #[.string ⟨#[]⟩,.int .i64 0,.int .i64 0,.int .i64 0,.slice none 0 0,.slice none 0 0,.slice none 0 0,.int .i64 0,.int .i64 0,.bool false,.slice none 0 0,.slice none 0 0,.int .i64 0,.string ⟨#[]⟩,.slice none 0 0,.slice none 0 0,.slice none 0 0,.int .i64 0,.int .i64 0] 70)=V/\V.setCell ⟨w.heap.size,0,none⟩ (.string (stg t))=X/\V.frozen? ⟨w.heap.size,0,none⟩=false/\V.cell? ⟨w.heap.size,0,none⟩=some (.string ⟨#[]⟩)/\CI w.heap.size w.heap.size w X (0,0) (rOf t []) z0S/\Below w.heap.size w V:=by
 obtain⟨V,Z,G,m,hz⟩:=qG w 70 [.string ⟨#[]⟩,.int .i64 0,.int .i64 0,.int .i64 0,.slice none 0 0,.slice none 0 0,.slice none 0 0,.int .i64 0,.int .i64 0,.bool false,.slice none 0 0,.slice none 0 0,.int .i64 0,.string ⟨#[]⟩,.slice none 0 0,.slice none 0 0,.slice none 0 0,.int .i64 0,.int .i64 0];obtain⟨X,J,H,G2,y,c0,f0⟩:=jd G 0 (.string (stg t)) (.string ⟨#[]⟩) rfl;refine⟨V,X,Z,J,f0,c0,⟨⟨H,rfl⟩,?_,y _ _ m (Nat.le_refl _)⟩,m⟩;exact⟨Row.nil _ _ _,⟨[],World.ownsRow_nil _ _ _ _,rfl⟩,World.ownsRow_nil _ _ _ _,Row.nil _ _ _,Row.nil _ _ _,World.ownsRow_nil _ _ _ _,World.ownsRow_nil _ _ _ _,⟨[],World.ownsRow_nil _ _ _ _,rfl⟩⟩
theorem CI.fail{B:Nat}{w0 w':World}{F':Nat×Int}(h:CI B g w0 w F r z)(hS:St w' g (rC r z) F')(hG:w.grownBy w' (some g))(hB:B<=w.heap.size)(hg:B<=g):CI B g w0 w' F' r z :=
 ⟨hS,h.rr.box h.st.arr (by decide) hG,h.bw.grown hG hB λk e=>by injection e with e;omega⟩
theorem CI.block{B:Nat}{w0 w':World}{F':Nat×Int}{r':RSt}{z':RSl}(h:CI B g w0 w F r z)(hS:St w' g (rC r' z') F')(hR:RR B none w' r' z')(hB:Below B w w'):CI B g w0 w' F' r' z':=⟨hS,hR,h.bw.trans hB⟩
def G1(s:ke)(j:Nat)(F:Nat×Int)(r:RSt):Prop:=(jw s.title 60=true/\BG s.title s.blks j F r)\/(jw s.title 60=false/\F=(8,0))
def G2(s:ke)(F:Nat×Int)(r:RSt):Prop:=(F.1=0/\jw s.title 60=true/\(zk [] s.blks).1=0/\r=rOf s.title s.blks)\/(F.1≠0/\F=jI s)
def G3(s:ke)(i:Nat)(F:Nat×Int)(r:RSt):Prop:=(jw s.title 60=true/\(zk [] s.blks).1=0/\r=rOf s.title s.blks/\MG s.blks i F)\/(F.1≠0/\F=jI s)
def G4(s:ke)(F:Nat×Int)(r:RSt):Prop:=(F.1=0/\jw s.title 60=true/\(zk [] s.blks).1=0/\kg s.blks=false/\r=rOf s.title s.blks)\/(F.1≠0/\F=jI s)
section
variable {s : ke} {j : Nat} {F F' : Nat × Int} {r r' : RSt}
theorem G1.start:jw s.title 60=true->F.1=0->G1 s 0 F (rOf s.title []):=λh h0=>Or.inl ⟨h,BG.start h0⟩
theorem G1.made(h:G1 s j F r)(h0:F.1=0):jw s.title 60=true/\BG s.title s.blks j F r:=by
 rcases h with h|⟨_,h⟩
 . exact h
 . rw[h] at h0;cases h0
theorem G1.step(h:G1 s j F r)(h0:F.1=0){b:qK}(hb:s.blks[j]? = some b)(hx:(F'.1=0/\(zP (s.blks.take j) b).1=0/\r'=rOf s.title (s.blks.take j++[b]))\/(F'.1≠0/\F'=zP (s.blks.take j) b)):G1 s (j+1) F' r' :=
 Or.inl ⟨(h.made h0).1,(h.made h0).2.step h0 hb hx⟩
theorem G1.bad(h:G1 s j F r)(h0:F.1≠0):G2 s F r:=by
 refine Or.inr ⟨h0,?_⟩;rcases h with ⟨h1,h2⟩|⟨h1,h2⟩
 . have e:=h2.bad h0;rw[YW h1 (by rw[<- e];exact h0)];exact e
 . rw[VE h1];exact h2
theorem G1.done(h:G1 s j F r)(h0:F.1=0)(hj:s.blks.length<=j):G2 s F r:=by
 obtain⟨H,G⟩:=h.made h0;obtain⟨m,y⟩:=G.done hj h0;exact Or.inl ⟨h0,H,y,m⟩
theorem G2.start(h:G2 s F r):G3 s 0 F r:=by
 rcases h with ⟨h0,h1,h2,h3⟩|h
 . exact Or.inl ⟨h1,h2,h3,MG.start h0⟩
 . exact Or.inr h
theorem G3.next(h:G3 s j F r)(hk:yp[j]? = some k)(hs:r=rOf s.title s.blks->(s.blks.map qK.kind).contains k=true):G3 s (j+1) F r:=by
 rcases h with ⟨h1,h2,h3,h4⟩|h
 . exact Or.inl ⟨h1,h2,h3,h4.next hk (hs h3)⟩
 . exact Or.inr h
theorem G3.miss(h:G3 s j F r)(hk:yp[j]? = some k)(hs:r=rOf s.title s.blks->(s.blks.map qK.kind).contains k=false):G3 s (j+1) (z7 F 6 0) r:=by
 rcases h with ⟨h1,h2,h3,h4⟩|⟨h1,h2⟩
 . exact Or.inl ⟨h1,h2,h3,h4.miss hk (hs h3)⟩
 . rw[vB 0 h1];exact Or.inr ⟨h1,h2⟩
theorem G3.done(h:G3 s j F r)(hj:7<=j):G4 s F r:=by
 rcases h with ⟨h1,h2,h3,h4⟩|h
 . by_cases m:F.1=0
   . exact Or.inl ⟨m,h1,h2,h4.ok hj m,h3⟩
   . obtain⟨a,b⟩:=h4.bad m;exact Or.inr ⟨m,by rw[YX h1 h2 b];exact a⟩
 . exact Or.inr h
end
theorem MC(h i:Nat):pt (some ⟨h,0,none⟩) i=⟨h,i,none⟩:=by
 by_cases e:i=0
 . subst e;simp[pt,Addr.add]
 . simp[pt,Addr.add,e]
theorem BE{h:Nat}{vs:List (List UInt8)}{S:World->Nat->Prop}(A:Arr w h 9 (vs.map λv=>.string (stg v)))(hS:S w h)(hl:vs.length<=1000):StrL S w (some ⟨h,0,none⟩) vs.length vs.length vs :=
 ⟨by simp,Nat.le_refl _,by omega,λ_=>⟨_,rfl⟩,λi u hu=>by rw[MC];exact⟨(A.cell i).trans hu,hS⟩,λe=>by cases e⟩
theorem Kx{most:Nat}:∀ {vs seen:List (List UInt8)},seen.length<=most->j8 most seen vs=0->seen.length+vs.length<=most
  | [],seen,h,_=>h
  | n :: r,seen,h,hg=>by
   have hg':(if most<=seen.length then 7 else if !xz n then 8 else if seen.contains n then 3 else j8 most (seen++[n]) r)=0:=hg;split at hg'
   . cases hg'
   . split at hg'
     . cases hg'
     . split at hg'
       . cases hg'
       . have:=Kx (by rw[List.length_append,List.length_singleton];omega) hg';rw[List.length_append,List.length_singleton] at this;rw[List.length_cons];omega
theorem VJ{b:qK}{r:jj}(h:(jZ b.kind [] b.flds).1=0)(hr:zi b.kind k=some r)(hf:r.form=2):(qN b k).length<=r.most:=by
 cases m:xQ b k with
 | true =>
  have:=ZC h hr hf m;unfold vL at this;split at this
  . cases this
  . have y:=Kx (seen:=[]) (Nat.zero_le _) this;rw[List.length_nil,Nat.zero_add] at y;exact y
 | false =>
  unfold xQ at m;unfold qN;cases G:j7 b k with
  | none=>exact Nat.zero_le _
  | some f=>rw[G] at m;cases m
def G5(s:ke)(g:Nat)(F:Nat×Int)(r:RSt)(z:RSl)(w:World):Prop:=(F.1=0/\jM s=((0,0),kN s)/\ElcS (geF g) w (kN s) z.s/\eC (kN s) z.s=eC r.e z.s)\/(F.1≠0/\jM s=(F,Yf))
theorem G5.bad{s:ke}(h0:F.1≠0)(h:F=jI s):G5 s g F r z w:=Or.inr ⟨h0,by unfold jM;rw[<- h,if_pos h0]⟩
theorem G5.link{s:ke}(p1:jw s.title 60=true)(p2:(zk [] s.blks).1=0)(p3:kg s.blks=false)(p5:r=rOf s.title s.blks)(hx:(F.1=0/\(qz r.e.precs (r.e.conts.map Cst.name) [] (qH qI s.blks)).1=0/\ElcS (geF g) w { r.e with stys:=(qH qI s.blks).map (vM r.e.precs (r.e.conts.map Cst.name)) } z.s)\/(F.1≠0/\F=qz r.e.precs (r.e.conts.map Cst.name) [] (qH qI s.blks))):G5 s g F r z w:=by
 subst p5;have y:(rOf s.title s.blks).e.precs=zF s.blks:=(Wg p2 p3).symm;have m:(rOf s.title s.blks).e.conts.map Cst.name=jD s.blks:=by
  show((qH qF s.blks).map j6).map Cst.name=(qH qF s.blks).map qK.name;rw[List.map_map];rfl
 have H:=YY p1 p2 p3;have J:=MA p2 p3;have G:({ (rOf s.title s.blks).e with stys:=(qH qI s.blks).map (vM (rOf s.title s.blks).e.precs ((rOf s.title s.blks).e.conts.map Cst.name)) }:Elc)=kN s:=by rw[<- J,y,m];rfl
 rcases hx with ⟨a,b,c⟩|⟨a,b⟩
 . refine Or.inl ⟨a,?_,?_,by rw[<- G];rfl⟩
   . rw[y,m,<- H] at b;unfold jM;rw[if_neg (λk=>k b)]
   . rw[<- G];exact c
 . rw[y,m,<- H] at b;exact G5.bad a b
theorem Hv(s:ke)(r:RSt)(z:RSl)(g:Nat)(F:Nat×Int)(w:World)(hbs:s.blks.length<=1000000)(h:G4 s F r)(h0:F.1=0)(hR:RR g none w r z)(hS:St w g (rC r z) F)(hg:g<=w.heap.size) :
    Calls Tryz.prog 33 #[.pointer (some ⟨g,0,none⟩)] w λx w'=>x=.returned (.tuple #[])/\∃F',St w' g (rC r z) F'/\Below g w w'/\G5 s g F' r z w':=by
 rcases h with ⟨_,p1,p2,p4,p5⟩|⟨h,_⟩
 . (have G:∀k,(qH k s.blks).length<=1000000:=λk=>Nat.le_trans (List.length_filter_le _ _) hbs);(have hm:∀b∈qH qI s.blks,b∈s.blks/\b.kind=qI:=λb m=>⟨(List.mem_filter.1 m).1,of_decide_eq_true (List.mem_filter.1 m).2⟩);have h2:qH qB s.blks≠[]:=yO p4 (r:=⟨qB,1,false⟩) (by simp[zr]);obtain⟨V,a2⟩:=yx h2;have Z:r.e.precs.length<=100000:=by
    rw[p5];exact Nat.le_trans (VJ (k:=zy) (r:=⟨qB,zy,2,1,12⟩) (ud p2 _ V).1 (by rw[a2];rfl) rfl) (by decide)
   have hv:∀b∈qH qI s.blks,(qN b qB).length<=1000000/\(qN b qO).length<=1000000:=λb m=>by
    obtain⟨m1,H⟩:=hm b m;have y:=(ud p2 b m1).1;obtain⟨r1,q1,q2,q3⟩:∃r1,zi qI qB=some r1/\r1.form=2/\r1.most<=1000000:=⟨_,rfl,rfl,by decide⟩;obtain⟨r2,q4,q5,J⟩:∃r1,zi qI qO=some r1/\r1.form=2/\r1.most<=1000000:=⟨_,rfl,rfl,by decide⟩;exact⟨Nat.le_trans (VJ y (by rw[H];exact q1) q2) q3,Nat.le_trans (VJ y (by rw[H];exact q4) q5) J⟩
   refine(MB (qH qI s.blks) r z g F g w hR hS h0 (by rw[p5];rfl) (by rw[p5];rfl) (by rw[p5];rfl) (by rw[p5];exact Uo p2 p4) (by rw[p5];show((qH qF s.blks).map j6).length<=_;rw[List.length_map];exact G _) Z (G _) hv hg (Nat.le_refl _)).mono ?_;rintro x w' ⟨rfl,F',b1,b2,b3⟩;exact⟨rfl,F',b1,b2,G5.link p1 p2 p4 p5 b3⟩
 . exact absurd h0 h
end Lx
theorem Ur(s:ke)(ao:Option Addr)(n c:Nat)(w:World)(h:BlkS qU w ao n c s.blks)(hbs:s.blks.length<=1000000)(hsm:∀b∈s.blks,ShB b)(ht:s.title.length<=1000000) :
    Calls Tryz.prog 13 #[.agg #[.string (stg s.title),.slice ao n c]] w λe w'=>∃sl,e=.returned (.tuple #[eV (jM s).2 sl,.agg #[.int .i64 (((jM s).1.1:Nat):Int),.int .i64 (jM s).1.2]])/\ElcS (geF w.heap.size) w' (jM s).2 sl/\Below w.heap.size w w':=by
 obtain⟨V,e1,AV,BV,hz⟩:=qG w 24 [.string (stg s.title),.slice ao n c];obtain⟨V2,e2,g8,b2,l5⟩:=qG V 34 [.string ⟨#[]⟩,.int .i64 0,.int .i64 0,.int .i64 0,.slice none 0 0,.slice none 0 0,.slice none 0 0,.int .i64 0,.int .i64 0,.bool false,.slice none 0 0,.slice none 0 0,.int .i64 0,.string ⟨#[]⟩];obtain⟨U,e3,AU,BU,m8⟩:=qG V2 37 [.int .i64 0,.int .i64 0];obtain⟨V3,X,e4,e5,f0,c0,H,i8⟩:=CI.init s.title U;have l4:=(((h.below BV).below b2).below BU).low;have e8:Hid (s.blks.length=n):=h.len;have r5:=h.caps;have HP:Hid (∀W,jC 29 #[.string (stg s.title)] W λe w'=>e=.returned (.bool (s.title.all z8))/\W=w'):=λW=>by
  have:=Wl (stg s.title) W (by rw[kt];exact ht);rw[zL] at this;exact this
 have b1:Hid (jw s.title 60=(decide ((stg s.title).size<=60)&&s.title.all z8)):=by show _=_;rw[kt];rfl
 obtain⟨PA,j4⟩:∃A,Hid (s.title.all z8=A):=⟨_,rfl⟩;rw[j4.o] at HP b1;obtain⟨bb,k5⟩:∃b,w.heap.size=b:=⟨_,rfl⟩;have hw:=jA k5;rw[k5] at AV hz;rw[hz] at g8 l5;rw[l5] at AU m8;have HL:Hid (∀W,Below U.heap.size U W->BlkS (ya U.heap.size) W ao n c s.blks):=λW hb=>l4.keep (qp _) (JH hb)
 have HA:Hid (∀W,Below U.heap.size U W->Arr W bb 24 [.string (stg s.title),.slice ao n c]/\Arr W (bb+1) 34 [.string ⟨#[]⟩,.int .i64 0,.int .i64 0,.int .i64 0,.slice none 0 0,.slice none 0 0,.slice none 0 0,.int .i64 0,.int .i64 0,.bool false,.slice none 0 0,.slice none 0 0,.int .i64 0,.string ⟨#[]⟩]/\Arr W (bb+1+1) 37 [.int .i64 0,.int .i64 0]):=λW hb=>⟨((AV.kept b2).kept BU).kept hb,(g8.kept BU).kept hb,AU.kept hb⟩
 have l6:Hid (Below w.heap.size w U):=(BV.trans (b2.mono BV.size)).trans (BU.mono (Nat.le_trans BV.size b2.size));obtain⟨KT,m1⟩:∃K,Hid (stg s.title=K):=⟨_,rfl⟩;have HC:Hid (∀W,Below U.heap.size U W->W.cell? ⟨bb,0,none⟩=some (.string KT)/\W.cell? ⟨bb,1,none⟩=some (.slice ao n c)):=λW hb=>by
  have:=(HA.o W hb).1;rw[m1.o] at this;exact⟨this.cell 0,this.cell 1⟩
 rw[m1.o] at e1 e5 HP b1 |-;obtain⟨g,hg⟩:∃x,U.heap.size=x:=⟨_,rfl⟩;have a6:=jA hg;rw[hg] at e5 f0 c0 H HL HA HC i8;have m0:Hid (g=bb+1+1+1):=by show _=_;omega
 replace H:=jA H;obtain⟨q0,q1⟩:=HC.o V3 i8;clear h AV g8 AU BV b2 BU m8 l4;go_in;go_upto_region 3 with fail
 clear q0 q1 e1 e2 e3 e4 e5 f0 c0;obtain⟨y0,y1⟩:=HC.o X H.o.bw;obtain⟨T5,b5⟩:∃x,Hid ((!jw s.title 60)=x):=⟨_,rfl⟩;go_cut [25] from 16 to 25 (λv wx=>v=.bool T5/\wx=X)
 case first =>
  by_cases h1:KT.size<=60
  . have t1:decide ((60:Int)<(KT.size:Int))=false:=decide_eq_false (by omega);(have t2:¬ (60:Int)<(KT.size:Int):=by omega);(have hT:Hid (T5 = !PA):=by show _=_;rw[<- b5.o,b1.o,decide_eq_true h1];rfl);clear h1;go_wp2_with (first
      | (go_at_call 29;(with_reducible refine(HP.o _).mono ?_);rintro e x1 ⟨rfl,rfl⟩)
      | fail)
    (go_meet);case rel=>exact⟨by rw[hT.o],rfl⟩
  . have t1:decide ((60:Int)<(KT.size:Int))=true:=decide_eq_true (by omega);(have t2:(60:Int)<(KT.size:Int):=by omega);(have hT:Hid (T5=true):=by show _=_;rw[<- b5.o,b1.o,decide_eq_false h1];rfl);clear h1;go_wp2_with fail;(go_meet);case rel=>exact⟨by rw[hT.o],rfl⟩
 case rest =>
  obtain⟨rfl,e9⟩:=hcut;replace e9:=e9.symm;subst e9;go_upto_if 25 with fail
  go_cut [] from 26 to 27 (λwx=>∃F:Nat×Int,Hid (CI g g U wx F (rOf s.title []) z0S)/\Hid (G1 s 0 F (rOf s.title [])))
  case first =>
   (have HX:Hid (jC 30 #[.pointer (some ⟨g,0,none⟩),.int .i64 8,.int .i64 0] X λy W'=>y=.returned (.tuple #[])/\CI g g U W' (8,0) (rOf s.title []) z0S):=(jO _ (0,0) 8 0 g X H.o.st (by decide) 8 rfl).mono λy W' ⟨h1,h2,h3⟩=>⟨h1,by rw[kK 0 rfl (by decide)] at h2;exact H.o.fail h2 h3 (by rw[<- a6.o];exact H.o.bw.size) (Nat.le_refl _)⟩);cases T5 with
   | false =>
    go_wp2_with fail;(go_meet);case rel=>exact⟨(0,0),H,G1.start (by simpa using b5.o) rfl⟩
   | true =>
    go_wp2_with (first
      | (go_at_call 30;(with_reducible refine HX.o.mono ?_);rintro e w6 ⟨rfl,B6⟩)
      | fail)
    (go_meet);case rel=>exact⟨(8,0),B6,Or.inr ⟨by simpa using b5.o,rfl⟩⟩
  case rest =>
  clear H HP b1 j4 y0 y1 b5;obtain⟨F0,H,f4⟩:=hcut;obtain⟨w1,p1⟩:∃x,x=wc:=⟨_,rfl⟩;subst p1;go_upto_block 0 with fail
  go_cut [5] from 28 to 49 (λ_ wx=>∃ (F:Nat×Int) (r:RSt) (z:RSl),Hid (CI g g U wx F r z)/\Hid (G2 s F r))
  case first =>
   go_wp2_with fail;(go_loopw [5] (λi wr=>∃ (j:Nat) (F:Nat×Int) (r:RSt) (z:RSl),j<=n/\i=.int .i64 (j:Int)/\Hid (CI g g U wr F r z)/\Hid (G1 s j F r)) (λi _=>n-(intOf i).toNat));(case atStart=>exact⟨0,F0,_,_,Nat.zero_le _,rfl,H,f4⟩);case round =>
    clear H f4;obtain⟨w2,g3⟩:∃x,x=wr:=⟨_,rfl⟩;subst g3;obtain⟨j,F,r,z,hj,rfl,m,HG⟩:=hrel;obtain⟨y0,y1⟩:=HC.o _ m.o.bw;obtain⟨N5,a0⟩:∃X,Hid ((F.1:Int)=X):=⟨_,rfl⟩;(have b4:w2.cell? ⟨g,17,none⟩=some (.int .i64 N5):=by rw[<- a0.o];exact m.o.st.c17);by_cases J:F.1=0
    . (have h9:(N5 == 0)=true:=by rw[<- a0.o,J];rfl);replace J:=jA J;by_cases e6:j<n
      . (have a5:(j:Int)<(n:Int):=by omega);obtain⟨b,a',fo,fn,fc,e7,i1,c0,c1,c2,c3,HF⟩:=(HL.o _ m.o.bw).get j e6;have hb:=jA e7;have hr:=(HG.o.made J.o).2.made J.o;have HB:Hid (jC 31 #[.pointer (some ⟨g,0,none⟩),.agg #[.string (stg b.kind),.string (stg b.name),.slice fo fn fc,.int .i64 b.line]] w2 λx w'=>x=.returned (.tuple #[])/\∃F' r' z',CI g g U w' F' r' z'/\G1 s (j+1) F' r'):=by
         have h1:=m.o.st;have h2:=m.o.rr;rw[hr] at h1 h2;refine(Cy s.title (s.blks.take j) b fo fn fc g z F g w2 h2 h1 J.o HF (by rw[List.length_take];omega) (hsm b (List.mem_of_getElem? e7)) (by rw[<- a6.o];exact m.o.bw.size) (Nat.le_refl _)).mono ?_;rintro x w' ⟨rfl,F',r',z',a1,a2,a3,a4⟩;exact⟨rfl,F',r',z',m.o.block a1 a2 a3,HG.o.step J.o e7 a4⟩
        obtain⟨KD,r2⟩:∃X,Hid (stg b.kind=X):=⟨_,rfl⟩;obtain⟨KN,p2⟩:∃X,Hid (stg b.name=X):=⟨_,rfl⟩;obtain⟨LN,o6⟩:∃X,Hid (b.line=X):=⟨_,rfl⟩;rw[r2.o] at c0 HB;rw[p2.o] at c1 HB;rw[o6.o] at c3 HB;clear e7 hr HF;go_wp2_with (first
          | (go_at_call 31;(with_reducible refine HB.o.mono ?_);rintro e w6 ⟨rfl,F',r',z',B6,H6⟩)
          | fail)
        go_roundw;(case rel=>exact⟨j+1,F',r',z',by omega,by go_num,B6,H6⟩);case measure=>simp[intOf];omega
      . (have a5:¬ (j:Int)<(n:Int):=by omega);have HD:=jA (HG.o.done J.o (by have:=e8.o;omega));go_wp2_with fail;(go_meet);case rel=>exact⟨F,r,z,m,HD⟩
    . (have h9:(N5 == 0)=false:=by rw[<- a0.o];simp[J]);have HD:=jA (HG.o.bad J);clear J;by_cases e6:j<n
      . (have a5:(j:Int)<(n:Int):=by omega);go_wp2_with fail;(go_meet);case rel=>exact⟨F,r,z,m,HD⟩
      . (have a5:¬ (j:Int)<(n:Int):=by omega);go_wp2_with fail;(go_meet);case rel=>exact⟨F,r,z,m,HD⟩
  case rest =>
   clear H f4;obtain⟨F,r,z,m,HG⟩:=hcut;obtain⟨w2,g3⟩:∃x,x=wc:=⟨_,rfl⟩;subst g3;obtain⟨VK,eK,g7,BK,zK⟩:=qG w2 9 [.string ⟨#[115,99,97,110]⟩,.string ⟨#[115,99,97,110,110,101,114,115]⟩,.string ⟨#[112,114,101,99,105,110,99,116,115]⟩,.string ⟨#[99,111,110,116,101,115,116]⟩,.string ⟨#[115,116,121,108,101]⟩,.string ⟨#[97,117,100,105,116]⟩,.string ⟨#[112,114,105,118,97,99,121]⟩];(have h7:w2.heap.size≠g:=by have:=m.o.st.lt;omega);have h5:Hid (CI g g U VK F r z):=⟨m.o.st.keep BK,m.o.rr.below BK,m.o.bw.trans (BK.mono (by rw[<- a6.o];exact m.o.bw.size))⟩;obtain⟨kb,n5⟩:∃x,w2.heap.size=x:=⟨_,rfl⟩;rw[n5] at g7 h7;have QL:Hid (StrL (neF g) VK (some ⟨kb,0,none⟩) 7 7 yp):=BE (vs:=yp) g7 h7 (by decide);clear g7 BK zK h7 m;(go_upto_block 2 with fail);clear eK;(go_cut [52,7] from 53 to 65 (λ_ _ wx=>∃F:Nat×Int,Hid (CI g g U wx F r z)/\Hid (G4 s F r)));case first =>
    go_wp2_with fail;(go_loopw [52,7] (λi _ wr=>∃ (j:Nat) (F:Nat×Int),j<=7/\i=.int .i64 (j:Int)/\Hid (CI g g U wr F r z)/\Hid (StrL (neF g) wr (some ⟨kb,0,none⟩) 7 7 yp)/\Hid (G3 s j F r)) (λi _ _=>7-(intOf i).toNat));(case atStart=>exact⟨0,F,Nat.zero_le _,rfl,h5,QL,HG.o.start⟩);case round =>
     clear h5 HG QL;obtain⟨w3,g1⟩:∃x,x=wr:=⟨_,rfl⟩;subst g1;obtain⟨j,F,hj,rfl,m,QL,HG⟩:=hrel;have r8:w3.cell? ⟨g,14,none⟩=some (.slice z.qo z.qn z.qc):=m.o.st.cellD 14 (by decide);by_cases e6:j<7
     . (have a5:(j:Int)<7:=by omega);obtain⟨v,a',m2,i1,c1⟩:=StrL.get QL.o j e6;have hv:=jA m2;clear m2;obtain⟨KV,n0⟩:∃X,Hid (stg v=X):=⟨_,rfl⟩;rw[n0.o] at c1;obtain⟨I5,i7⟩:∃X,Hid (jV r.seen v=X):=⟨_,rfl⟩;(have l7:Hid (jC 32 #[.slice z.qo z.qn z.qc,.string KV] w3 λe w'=>e=.returned (.int .i64 I5)/\w3=w'):=by rw[<- n0.o,<- i7.o];exact vZ _ _ _ _ _ _ m.o.rr.sn);(have t5:decide (I5<0) = !r.seen.contains v:=by rw[<- i7.o,gx]);(have o8:Hid (jC 30 #[.pointer (some ⟨g,0,none⟩),.int .i64 6,.int .i64 0] w3 λy W'=>y=.returned (.tuple #[])/\CI g g U W' (z7 F 6 0) r z/\w3.grownBy W' (some g)):=(jO _ F 6 0 g w3 m.o.st (by decide) 6 rfl).mono λy W' ⟨h1,h2,h3⟩=>⟨h1,m.o.fail h2 h3 (by rw[<- a6.o];exact m.o.bw.size) (Nat.le_refl _),h3⟩);cases hc:r.seen.contains v with
       | true =>
        rw[hc] at t5;replace t5:decide (I5<0)=false:=t5;have HN:=jA (HG.o.next hv.o (λe=>by rw[e] at hc;exact hc));clear hc;go_wp2_with (first
          | (go_at_call 32;(with_reducible refine l7.o.mono ?_);rintro e wq ⟨rfl,rfl⟩)
          | fail)
        go_roundw;(case rel=>exact⟨j+1,F,by omega,by go_num,m,QL,HN⟩);case measure=>simp[intOf];omega
       | false =>
        rw[hc] at t5;replace t5:decide (I5<0)=true:=t5;have HN:=jA (HG.o.miss hv.o (λe=>by rw[e] at hc;exact hc));clear hc;go_wp2_with (first
          | (go_at_call 32;(with_reducible refine l7.o.mono ?_);rintro e wq ⟨rfl,rfl⟩)
          | (go_at_call 30;(with_reducible refine o8.o.mono ?_);rintro e w6 ⟨rfl,B6,G6⟩)
          | fail)
        go_roundw;(case rel=>exact⟨j+1,_,by omega,by go_num,B6,Row.keep QL.o (ky g) (wG G6),HN⟩);case measure=>simp[intOf];omega
     . (have a5:¬ (j:Int)<7:=by omega);have HN:=jA (HG.o.done (by omega));go_wp2_with fail;(go_meet);case rel=>exact⟨F,m,HN⟩
   case rest =>
    clear h5 HG QL;obtain⟨F,m,HG⟩:=hcut;obtain⟨w3,g1⟩:∃x,x=wc:=⟨_,rfl⟩;subst g1;have b4:w3.cell? ⟨g,17,none⟩=some (.int .i64 (F.1:Int)):=m.o.st.c17;obtain⟨N5,a0⟩:∃X,Hid ((F.1:Int)=X):=⟨_,rfl⟩;rw[a0.o] at b4;obtain⟨T6,b8⟩:∃x,(N5 == 0)=x:=⟨_,rfl⟩;(go_upto_if 71 with fail);replace b8:=jA b8;(go_cut [] from 72 to 73 (λwx=>∃F:Nat×Int,Hid (St wx g (rC r z) F)/\Hid (Below g U wx)/\Hid (G5 s g F r z wx)));case first =>
     cases T6 with
     | true =>
      have J:F.1=0:=by
       have:=b8.o;rw[<- a0.o] at this;simpa using this
      have HK:=jA (Hv s r z g F w3 hbs HG.o J m.o.rr m.o.st (by rw[<- a6.o];exact m.o.bw.size));clear J;go_wp2_with (first
        | (go_at_call 33;(with_reducible refine HK.o.mono ?_);rintro e w6 ⟨rfl,F',S6,B6,G6⟩)
        | fail)
      (go_meet);case rel=>exact⟨F',S6,m.o.bw.trans B6,G6⟩
     | false =>
      have J:F.1≠0:=by
       have:=b8.o;rw[<- a0.o] at this;simpa using this
      have H5:Hid (G5 s g F r z w3):=by
       rcases HG.o with ⟨h,_⟩|⟨_,h⟩
       . exact absurd h J
       . exact G5.bad J h
      clear J;go_wp2_with fail;(go_meet);case rel=>exact⟨F,m.o.st,m.o.bw,H5⟩
    case rest =>
     clear m HG b4 a0 b8;obtain⟨F,HS,HW,H5⟩:=hcut;obtain⟨Z,o0⟩:∃x,x=wc:=⟨_,rfl⟩;subst o0;have b4:Z.cell? ⟨g,17,none⟩=some (.int .i64 (F.1:Int)):=HS.o.c17;have k6:Z.cell? ⟨g,18,none⟩=some (.int .i64 F.2):=HS.o.c18;obtain⟨N6,b7⟩:∃X,Hid ((F.1:Int)=X):=⟨_,rfl⟩;obtain⟨M6,g9⟩:∃X,Hid (F.2=X):=⟨_,rfl⟩;rw[b7.o] at b4;rw[g9.o] at k6;have A1:=jA (HA.o Z HW.o).2.1;have A2:=jA (HA.o Z HW.o).2.2;have G:Hid (w.heap.size<=bb+1/\w.heap.size<=bb+1+1/\bb+1≠bb+1+1/\bb+1<g/\bb+1+1<g):=by
      have:=hw.o;have:=m0.o;exact⟨by omega,by omega,by omega,by omega,by omega⟩
     have i3:Hid (Below w.heap.size w Z):=l6.o.trans (HW.o.mono (by rw[<- a6.o];exact l6.o.size));clear m0 hbs hsm e8;by_cases J:F.1=0
     . (have h9:(N6 != 0)=false:=by rw[<- b7.o,J];rfl);have hP:Hid (jM s=((0,0),kN s)/\ElcS (geF g) Z (kN s) z.s/\eC (kN s) z.s=eC r.e z.s):=by
        rcases H5.o with ⟨_,h⟩|⟨h,_⟩
        . exact h
        . exact absurd J h
       obtain⟨EF,n9⟩:∃E,Hid (kN s=E):=⟨_,rfl⟩;rw[n9.o] at hP;(have hD:St Z g (eC EF z.s++[.slice z.qo z.qn z.qc,.slice z.lo z.ln z.lc,.slice z.no z.nn z.nc]) F:=by rw[hP.o.2.2];exact HS.o);have d0:Z.cell? ⟨g,0,none⟩=some (.string (stg EF.title)):=hD.cellD 0 (by decide);have d1:Z.cell? ⟨g,1,none⟩=some (.int .i64 EF.dots):=hD.cellD 1 (by decide);have d2:Z.cell? ⟨g,2,none⟩=some (.int .i64 EF.blank):=hD.cellD 2 (by decide);have d3:Z.cell? ⟨g,3,none⟩=some (.int .i64 EF.marked):=hD.cellD 3 (by decide);have d4:Z.cell? ⟨g,4,none⟩=some (.slice z.s.po z.s.pn z.s.pc):=hD.cellD 4 (by decide);have d5:Z.cell? ⟨g,5,none⟩=some (.slice z.s.co z.s.cn z.s.cc):=hD.cellD 5 (by decide);have d6:Z.cell? ⟨g,6,none⟩=some (.slice z.s.so z.s.sn z.s.sc):=hD.cellD 6 (by decide);have d7:Z.cell? ⟨g,7,none⟩=some (.int .i64 EF.scanners):=hD.cellD 7 (by decide);have d8:Z.cell? ⟨g,8,none⟩=some (.int .i64 EF.batch):=hD.cellD 8 (by decide);have d9:Z.cell? ⟨g,9,none⟩=some (.bool EF.rneg):=hD.cellD 9 (by decide);have s0:Z.cell? ⟨g,10,none⟩=some (.slice z.s.uo z.s.un z.s.uc):=hD.cellD 10 (by decide);have r9:Z.cell? ⟨g,11,none⟩=some (.slice z.s.dO z.s.dn z.s.dc):=hD.cellD 11 (by decide);have r6:Z.cell? ⟨g,12,none⟩=some (.int .i64 EF.cell):=hD.cellD 12 (by decide);have r7:Z.cell? ⟨g,13,none⟩=some (.string (stg EF.seed)):=hD.cellD 13 (by decide);obtain⟨m6,k7,j5,m7,i9,l3,n3,k9,l0,k4,h8,g0,h4,X9,l9,m3,l8,m9,m4,i5,m5,i6,n4,k0,g5,g4,f7,f8,AX,GX,LX,q0,q1,q2,q3,q4,q5,q6,q7,q8,q9,o4,o5,r4,p8,o7,o9,p9,r3,o2,p6,p0,p3,o1,n8,n7,p7,o3,p4⟩:=kS A1.o (.string (stg EF.title)) (.int .i64 EF.dots) (.int .i64 EF.blank) (.int .i64 EF.marked) (.slice z.s.po z.s.pn z.s.pc) (.slice z.s.co z.s.cn z.s.cc) (.slice z.s.so z.s.sn z.s.sc) (.int .i64 EF.scanners) (.int .i64 EF.batch) (.bool EF.rneg) (.slice z.s.uo z.s.un z.s.uc) (.slice z.s.dO z.s.dn z.s.dc) (.int .i64 EF.cell) (.string (stg EF.seed));obtain⟨Y0,n6,c7,a7,c8,t0,t1⟩:=jd (A2.o.other GX G.o.2.2.1.symm) 0 (.int .i64 0) _ rfl;obtain⟨Y1,p5,c6,a8,b3,t2,t3⟩:=jd c7 1 (.int .i64 0) _ rfl;have AZ:=(AX.other a7 G.o.2.2.1).other a8 G.o.2.2.1;obtain⟨f9,f2,g6,f5,h6,f1,f6,i0,i2,f3,a9,b9,b0,b6⟩:=AZ.c14;obtain⟨g2,i4⟩:=c6.c2;have BZ:Hid (Below w.heap.size w Y1):=b3 _ _ (c8 _ _ (LX _ _ i3.o G.o.1) G.o.2.1) G.o.2.1;have k1:=G.o.2.2.2.1;have k2:=G.o.2.2.2.2;have k3:w.heap.size<=g:=Nat.le_trans G.o.1 (Nat.le_of_lt k1);have EZ:Hid (ElcS (geF w.heap.size) Y1 EF z.s):=(((hP.o.2.1.keep (vV _) (jL GX (λk (hs:g<=k) e=>by injection e with e;omega))).keep (vV _) (jL a7 (λk (hs:g<=k) e=>by injection e with e;omega))).keep (vV _) (jL a8 (λk (hs:g<=k) e=>by injection e with e;omega))).mono (λk (hs:g<=k)=>Nat.le_trans k3 hs);clear AX GX LX c7 a7 c8 c6 a8 b3 AZ k1 k2 k3 hD J k6 H5 HS HW;go_wp2_with fail;refine bodyPost_ret (v:=.tuple #[eV EF z.s,.agg #[.int .i64 0,.int .i64 0]]) (by simp[results,Tryz.results13,go_sem,eV,eC,f9,f2,g6,f5,h6,f1,f6,i0,i2,f3,a9,b9,b0,b6,g2,i4]) rfl ?_;exact⟨z.s,by rw[hP.o.1];rfl,by rw[hP.o.1];exact EZ.o,BZ.o⟩
     . (have h9:(N6 != 0)=true:=by rw[<- b7.o];simp[J]);have hP:Hid (jM s=(F,Yf)):=by
        rcases H5.o with ⟨h,_⟩|⟨_,h⟩
        . exact absurd h J
        . exact h
       obtain⟨W,hW⟩:=jx3 (Z.drew);(have HD:Below Z.heap.size Z W:=by rw[<- hW];exact(Below.refl _ _).drew);have SW:=HS.o.keep HD;(have j0:W.cell? ⟨g,17,none⟩=some (.int .i64 N6):=by rw[<- b7.o];exact SW.c17);(have j1:W.cell? ⟨g,18,none⟩=some (.int .i64 M6):=by rw[<- g9.o];exact SW.c18);(have e0:g≠bb+1:=by have:=G.o.2.2.2.1;omega);obtain⟨m6,k7,j5,m7,i9,l3,n3,k9,l0,k4,h8,g0,h4,X9,l9,m3,l8,m9,m4,i5,m5,i6,n4,k0,g5,g4,f7,f8,AX,GX,LX,q0,q1,q2,q3,q4,q5,q6,q7,q8,q9,o4,o5,r4,p8,o7,o9,p9,r3,o2,p6,p0,p3,o1,n8,n7,p7,o3,p4⟩:=kS (A1.o.kept HD) (.string ⟨#[]⟩) (.int .i64 0) (.int .i64 0) (.int .i64 0) (.slice none 0 0) (.slice none 0 0) (.slice none 0 0) (.int .i64 0) (.int .i64 0) (.bool false) (.slice none 0 0) (.slice none 0 0) (.int .i64 0) (.string ⟨#[]⟩);have SX:Arr X9 g _ _:=SW.arr.other2 GX e0;have j2:X9.cell? ⟨g,17,none⟩=some (.int .i64 N6):=(xV j0 GX e0);have j3:X9.cell? ⟨g,18,none⟩=some (.int .i64 M6):=(xV j1 GX e0);obtain⟨Y0,n6,c7,a7,c8,t0,t1⟩:=jd ((A2.o.kept HD).other2 GX G.o.2.2.1.symm) 0 (.int .i64 N6) _ rfl;obtain⟨Y1,p5,c6,a8,b3,t2,t3⟩:=jd c7 1 (.int .i64 M6) _ rfl;have AZ:=(AX.other2 a7 G.o.2.2.1).other2 a8 G.o.2.2.1;obtain⟨f9,f2,g6,f5,h6,f1,f6,i0,i2,f3,a9,b9,b0,b6⟩:=AZ.c14;obtain⟨g2,i4⟩:=c6.c2;have BZ:Hid (Below w.heap.size w Y1):=b3 _ _ (c8 _ _ (LX _ _ (i3.o.trans (HD.mono i3.o.size)) G.o.1) G.o.2.1) G.o.2.1;clear AX GX LX c7 a7 c8 c6 a8 b3 AZ HD SW SX e0 J H5 HS HW;go_wp2_with fail;(go_region);go_wp2_with fail;refine bodyPost_ret (v:=.tuple #[.agg #[.string ⟨#[]⟩,.int .i64 0,.int .i64 0,.int .i64 0,.slice none 0 0,.slice none 0 0,.slice none 0 0,.int .i64 0,.int .i64 0,.bool false,.slice none 0 0,.slice none 0 0,.int .i64 0,.string ⟨#[]⟩],.agg #[.int .i64 N6,.int .i64 M6]]) (by simp[results,Tryz.results13,go_sem,f9,f2,g6,f5,h6,f1,f6,i0,i2,f3,a9,b9,b0,b6,g2,i4]) rfl ?_;exact⟨z0S.s,by rw[hP.o,<- b7.o,<- g9.o];rfl,by rw[hP.o];exact⟨Row.nil _ _ _,⟨[],Row.nil _ _ _,rfl⟩,⟨[],Row.nil _ _ _,rfl⟩,Row.nil _ _ _,Row.nil _ _ _⟩,BZ.o⟩
theorem BH{S1 S2:World->Nat->Prop}(xs ys:List Int)(ao bo:Option Addr)(n c m d:Nat)(w:World)(h:IntL .i64 S1 w ao n c xs)(k:IntL .i64 S2 w bo m d ys) :
    Calls Tryz.prog 37 #[.slice ao n c,.slice bo m d] w λe w'=>e=.returned (.bool (decide (xs=ys)))/\Below w.heap.size w w':=by
 have a8:=Row.cap h;have a7:=Row.room h;have a9:=Row.cap k;have a6:=Row.room k;have l1:=IntL.len h;have l2:=IntL.len k;have H1:=jA (Row.low (Row.mono h kE));have H2:=jA (Row.low (Row.mono k kE));clear h k;by_cases J:n=m
 . (have a1:((n:Int) != (m:Int))=false:=by rw[J];simp);subst J;have a4:=jA l1;have a5:=jA l2;clear l1 l2;go_in;go_wp2_with fail;(go_loopw [5] (λi wr=>∃j:Nat,j<=n/\i=.int .i64 (j:Int)/\Hid (xs.take j=ys.take j)/\Hid (Below w.heap.size w wr)) (λi _=>n-(intOf i).toNat));(case atStart=>exact⟨0,Nat.zero_le _,rfl,rfl,Below.refl _ _⟩);case round =>
    obtain⟨w1,a2⟩:∃x,x=wr:=⟨_,rfl⟩;subst a2;obtain⟨j,hj,rfl,HE,B⟩:=hrel;by_cases H:j<n
    . (have a0:(j:Int)<(n:Int):=by omega);obtain⟨x,a,Z,i1,c1⟩:=IntL.get Tryz.underlying58 (show(Tryz.prog.info? 3).map (·.size)=some 1 by kernel_rfl) (Row.keep H1.o (qp _) (zN B.o)) j H;obtain⟨y,b,hy,i2,c2⟩:=IntL.get Tryz.underlying58 (show(Tryz.prog.info? 3).map (·.size)=some 1 by kernel_rfl) (Row.keep H2.o (qp _) (zN B.o)) j H;have Z:=jA Z;have hy:=jA hy;by_cases G:x=y
      . (have hq:(x != y)=false:=by rw[G];simp);have a3:Hid (xs.take (j+1)=ys.take (j+1)):=by
         show _=_;rw[qg Z.o,qg hy.o,HE.o,G]
        clear G HE H;go_wp2_with fail;(try (go_quiet (fail);go_wp2_with fail));go_roundw;(case rel=>exact⟨j+1,by omega,by go_num,a3,by first|exact B|exact below_drewN B.o _⟩);case measure=>simp[intOf];omega
      . (have hq:(x != y)=true:=by simp[G]);have hD:Hid (decide (xs=ys)=false):=decide_eq_false (λe=>by
         rw[e,hy.o] at Z;have V:=Z.o;injection V with V;exact G V.symm)
        clear G HE H;go_wp2_with fail;(try (go_quiet (fail);go_wp2_with fail));go_ret;exact⟨by rw[hD.o];rfl,by first|exact B.o|exact below_drewN B.o _⟩
    . (have a0:¬ (j:Int)<(n:Int):=by omega);have hD:Hid (decide (xs=ys)=true):=decide_eq_true (by
       have V:=HE.o;rw[List.take_of_length_le (by have:=a4.o;omega),List.take_of_length_le (by have:=a5.o;omega)] at V;exact V)
      clear HE H;go_wp2_with fail;go_ret;exact⟨by rw[hD.o];rfl,B.o⟩
 . (have a1:((n:Int) != (m:Int))=true:=by simp;omega);have hD:Hid (decide (xs=ys)=false):=decide_eq_false (λe=>J (by rw[<- l1,<- l2,e]));rw[hD.o];clear l1 l2 J;go_in;go_wp2_with fail;go_ret;exact⟨rfl,Below.refl _ _⟩
namespace Lx
end Lx
