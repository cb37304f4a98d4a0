/- -/
import Derived.Test.YtkefajjcpcoajaaGreatDoorPkA0
import Derived.OrdersHeld
import Derived.RegionTactic
import Derived.Lib.Hide
import Derived.Test.YtkefajjcpcoajaaGreatDoorPkA27
import Derived.Test.YtkefajjcpcoajaaGreatDoorPkA34
import Derived.Test.YtkefajjcpcoajaaGreatDoorPkA42
set_option linter.all false
namespace Go.Proofs.YtkefajjcpcoajaaGreatDoor.Lx
variable {k:List UInt8}
theorem ZA(e:List qK)(b:qK)(r:List qK):zk e (b :: r)=if (zP e b).1≠0 then zP e b else zk (e++[b]) r:=rfl
def BG(t:List UInt8)(bs:List qK)(j:Nat)(F:Nat×Int)(r:RSt):Prop :=
 (F.1=0/\r=rOf t (bs.take j)/\zk [] bs=zk (bs.take j) (bs.drop j))\/(F.1≠0/\F=zk [] bs)
section
variable {t : List UInt8} {bs : List qK} {j : Nat} {F : Nat × Int} {r : RSt}
theorem BG.start(h:F.1=0):BG t bs 0 F (rOf t []):=Or.inl ⟨h,rfl,by rw[List.take_zero,List.drop_zero]⟩
theorem BG.made(h:BG t bs j F r)(h0:F.1=0):r=rOf t (bs.take j):=by
 rcases h with ⟨_,h,_⟩|⟨h,_⟩
 . exact h
 . exact absurd h0 h
theorem BG.step(h:BG t bs j F r)(h0:F.1=0){b:qK}(hb:bs[j]? = some b){F':Nat×Int}{r':RSt}(hx:(F'.1=0/\(zP (bs.take j) b).1=0/\r'=rOf t (bs.take j++[b]))\/(F'.1≠0/\F'=zP (bs.take j) b)):BG t bs (j+1) F' r':=by
 rcases h with ⟨_,_,h3⟩|⟨h1,_⟩
 . obtain⟨m,H⟩:=List.getElem?_eq_some_iff.1 hb;(have G:bs.drop j=b :: bs.drop (j+1):=by rw[List.drop_eq_getElem_cons m,H]);(have y:bs.take (j+1)=bs.take j++[b]:=by rw[List.take_add_one,hb];rfl);rw[G,ZA] at h3;rcases hx with ⟨a1,a2,a3⟩|⟨a1,a2⟩
   . refine Or.inl ⟨a1,by rw[y];exact a3,?_⟩;rw[h3,if_neg (λh=>h a2),y]
   . refine Or.inr ⟨a1,?_⟩;rw[h3,if_pos (by rw[<- a2];exact a1)];exact a2
 . exact absurd h0 h1
theorem BG.bad(h:BG t bs j F r)(h0:F.1≠0):F=zk [] bs:=by
 rcases h with ⟨h,_⟩|⟨_,h⟩
 . exact absurd h h0
 . exact h
theorem BG.done(h:BG t bs j F r)(hj:bs.length<=j)(h0:F.1=0):r=rOf t bs/\(zk [] bs).1=0:=by
 rcases h with ⟨_,a,b⟩|⟨h,_⟩
 . rw[List.take_of_length_le hj] at a b;rw[List.drop_of_length_le hj] at b;exact⟨a,by rw[b];rfl⟩
 . exact absurd h0 h
end
def yp:List (List UInt8):=[zT,qe,qB,qF,qI,ql,qy]
theorem JV(bs:List qK):kg bs=yp.any λk => !(bs.map qK.kind).contains k:=by
 have:(λk => !(bs.map qK.kind).contains k)=λk=>(qH k bs).isEmpty:=by
  funext k;rw[QY,Bool.not_not]
 rw[this];rfl
def MG(bs:List qK)(i:Nat)(F:Nat×Int):Prop:=(F.1=0/\∀k∈yp.take i,(bs.map qK.kind).contains k=true)\/(F=(6,0)/\kg bs=true)
section
variable {bs : List qK} {i : Nat} {F : Nat × Int}
theorem MG.start(h:F.1=0):MG bs 0 F:=Or.inl ⟨h,λk hk=>by rw[List.take_zero] at hk;cases hk⟩
theorem MG.next(h:MG bs i F)(hk:yp[i]? = some k)(hs:(bs.map qK.kind).contains k=true):MG bs (i+1) F:=by
 rcases h with ⟨h1,h2⟩|h
 . refine Or.inl ⟨h1,λq m=>?_⟩;rw[List.take_add_one,hk] at m;rcases List.mem_append.1 m with m|m
   . exact h2 q m
   . (have:q=k:=by simpa using m);rw[this];exact hs
 . exact Or.inr h
theorem MG.miss(h:MG bs i F)(hk:yp[i]? = some k)(hs:(bs.map qK.kind).contains k=false):MG bs (i+1) (z7 F 6 0):=by
 have m:kg bs=true:=by
  rw[JV,List.any_eq_true];exact⟨k,List.mem_of_getElem? hk,by rw[hs];rfl⟩
 rcases h with ⟨h1,_⟩|⟨h1,_⟩
 . exact Or.inr ⟨kK 0 h1 (by decide),m⟩
 . refine Or.inr ⟨?_,m⟩;rw[h1];rfl
theorem MG.ok(h:MG bs i F)(hi:7<=i)(h0:F.1=0):kg bs=false:=by
 rcases h with ⟨_,h2⟩|⟨h1,_⟩
 . rw[List.take_of_length_le (show yp.length<=i from hi)] at h2;rw[JV,List.any_eq_false];intro k m;rw[h2 k m];decide
 . rw[h1] at h0;cases h0
theorem MG.bad(h:MG bs i F)(h0:F.1≠0):F=(6,0)/\kg bs=true:=by
 rcases h with ⟨h1,_⟩|h
 . exact absurd h1 h0
 . exact h
end
theorem Wf{r:ZG}(hr:vJ k=some r)(hn:r.named=false)(hm:r.most=1):∀ {bs e:List qK},(qH k e).length<=1->(zk e bs).1=0->(qH k (e++bs)).length<=1
  | [],e,h,_=>by rwa [List.append_nil]
  | b :: u,e,h,hg=>by
   rw[ZA] at hg;by_cases hb:(zP e b).1=0
   . rw[if_neg (λh=>h hb)] at hg;have h2:(qH k (e++[b])).length<=1:=by
      rw[jQ];by_cases y:b.kind=k
      . have m:=(vj hb).1;unfold xm at m;rw[y,hr] at m;simp only[hn,hm,Bool.false_eq_true,if_false] at m;rw[if_pos y,List.length_append,List.length_singleton];split at m
        . cases m
        . split at m
          . cases m
          . omega
      . rw[if_neg y];exact h
     have:=Wf hr hn hm h2 hg
     rwa [List.append_assoc] at this
   . rw[if_pos hb] at hg;exact absurd hg hb
theorem Cw{bs:List qK}(h:(zk [] bs).1=0)(hm:kg bs=false):qH qB bs=[zJ qB bs]:=by
 have m:=Wf (k:=qB) (r:=⟨qB,1,false⟩) rfl rfl rfl (bs:=bs) (e:=[]) (Nat.zero_le _) h;have G:qH qB bs≠[]:=yO hm (r:=⟨qB,1,false⟩) (by simp[zr]);unfold zJ;rw[List.nil_append] at m;generalize qH qB bs=l at m G
 match l,m,G with
 | [],_,h=>exact absurd rfl h
 | [x],_,_=>rfl
 | x :: y :: u,h,_=>exact absurd h (by simp)
theorem Wg{bs:List qK}(h:(zk [] bs).1=0)(hm:kg bs=false):zF bs=qN (zJ qB bs) zy:=by
 unfold zF;rw[Cw h hm];simp
theorem ZC{b:qK}{r:jj}(h:(jZ b.kind [] b.flds).1=0)(hr:zi b.kind k=some r)(hf:r.form=2)(hh:xQ b k=true):vL r (qN b k)=0:=by
 unfold xQ at hh;cases y:j7 b k with
 | none=>rw[y] at hh;cases hh
 | some f =>
  have V:qN b k=f.vals:=by unfold qN;rw[y]
  unfold j7 at y;have m:f.key=k:=by simpa using List.find?_some y
  obtain⟨j,H,J⟩:=List.mem_iff_getElem.1 (List.mem_of_find?_eq_some y);have G:=Xh h j f (by rw[List.getElem?_eq_getElem H,J]);rw[V];unfold jp at G;rw[m,hr] at G;simp only at G;split at G
  . omega
  . exact G
theorem ud{bs:List qK}(h:(zk [] bs).1=0):∀b∈bs,(jZ b.kind [] b.flds).1=0/\jv b=false:=by
 intro b y;obtain⟨i,hi,rfl⟩:=List.mem_iff_getElem.1 y;have m:=WO h i _ (List.getElem?_eq_getElem hi);exact⟨(vj m).2.1,(vj m).2.2.1⟩
theorem Uo{bs:List qK}(h:(zk [] bs).1=0)(hm:kg bs=false):(qN (zJ qB bs) zy).Nodup:=by
 have J:qH qB bs≠[]:=yO hm (r:=⟨qB,1,false⟩) (by simp[zr]);obtain⟨H,y⟩:=yx J;obtain⟨Z,G⟩:=ud h _ H;have V:xQ (zJ qB bs) zy=true:=Q6 (r:=⟨qB,zy,2,1,12⟩) G (by simp[zf]) y.symm (by decide);have m:=ZC (r:=⟨qB,zy,2,1,12⟩) Z (by rw[y];rfl) rfl V;unfold vL at m;split at m
 . cases m
 . have:=wv List.nodup_nil m
   rwa [List.nil_append] at this
theorem Cx{bs:List qK}(h:(zk [] bs).1=0)(hm:kg bs=false):xQ (zJ ql bs) jN=true:=by
 have H:qH ql bs≠[]:=yO hm (r:=⟨ql,1,false⟩) (by simp[zr]);obtain⟨G,m⟩:=yx H;obtain⟨J,y⟩:=ud h _ G;exact Q6 (r:=⟨ql,jN,3,0,0⟩) y (List.mem_of_getElem? (show zf[16]? = some _ from rfl)) m.symm (by decide)
theorem MA{s:ke}(h:(zk [] s.blks).1=0)(hm:kg s.blks=false):{ eOf s.title s.blks with stys:=(qH qI s.blks).map (vM (zF s.blks) (jD s.blks)) }=kN s:=by
 unfold eOf kN;rw[Cx h hm,Wg h hm];rfl
theorem VE{s:ke}(h:jw s.title 60=false):jI s=(8,0):=by unfold jI;rw[h];rfl
theorem YW{s:ke}(h:jw s.title 60=true)(hb:(zk [] s.blks).1≠0):jI s=zk [] s.blks:=by unfold jI;rw[h];simp[hb]
theorem YX{s:ke}(h:jw s.title 60=true)(hb:(zk [] s.blks).1=0)(hm:kg s.blks=true):jI s=(6,0):=by unfold jI;rw[h,hm];simp[hb]
theorem YY{s:ke}(h:jw s.title 60=true)(hb:(zk [] s.blks).1=0)(hm:kg s.blks=false):jI s=qz (zF s.blks) (jD s.blks) [] (qH qI s.blks):=by unfold jI;rw[h,hm];simp[hb]
end Go.Proofs.YtkefajjcpcoajaaGreatDoor.Lx
namespace Go.Proofs.YtkefajjcpcoajaaGreatDoor
open Go.RowKit
variable {i fuel:Nat}{v:Value}{a:Act}{w:World}
section
variable {P : Program} {md : Region.Mode} {ops : Array Oper} {Q : Exit -> Act -> World -> Prop} {S : Array Bool -> World -> Prop}
def kW(P:Program)(md:Region.Mode)(ops:Array Oper)(Q:Exit->Act->World->Prop)(S:Array Bool->World->Prop):Nat->Array Bool->Act->World->Prop
  | 0,listed,a,w=>Region.ready md ops listed=[]/\Q .normal a w
  | fuel+1,listed,a,w=>(Region.ready md ops listed=[]->Q .normal a w)/\∀i∈Region.ready md ops listed,wpOp P ops Q i (λa' w'=>S (listed.setIfInBounds i true) w'/\kW P md ops Q S fuel (listed.setIfInBounds i true) a' w') a w
theorem JW:∀ (fuel:Nat) (listed:Array Bool) (a:Act) (w:World),kW P md ops Q S fuel listed a w->wpAny P md ops Q fuel listed a w
  | 0,_,_,_,h=>h
  | fuel+1,_,_,_,h=>⟨h.1,λi hi=>wpOp_mono (λa' w' h'=>JW fuel _ a' w' h'.2) (h.2 i hi)⟩
theorem QE{oi:Oper}{L:Array Bool->Prop}(hi:ops[i]? = some oi)(hsel:∀ (j:Nat) (o:Oper) cs b,ops[j]? = some o->o.op≠.select cs b)
    (hQ:∀c a w,Q (.panic c) (a.put oi.dst v) w->Q (.panic c) a w) (hSi:∀l w,S (l.setIfInBounds i true) w↔S l w) (hL:∀ (l:Array Bool) j oj,ops[j]? = some oj->j≠i->(∀e∈oj.after,Region.binds md e=true->e.on≠i)->L l->L (l.setIfInBounds j true)) :
    ∀ (fuel:Nat) (listed:Array Bool) (a:Act) (w:World),
      (∀j oj,ops[j]? = some oj->j≠i->listed.getD j true=false->(∀e∈oj.after,Region.binds md e=true->e.on≠i)->oi.apart ops oj=true) ->
      i∈Region.ready md ops listed->YieldsIf P ops (λw=>∃l,L l/\S l w) oi v a->L listed->S listed w ->
      kW P md ops Q S fuel (listed.setIfInBounds i true) (a.put oi.dst v) w->kW P md ops Q S (fuel+1) listed a w:=by
 intro fuel;induction fuel with
 | zero =>
  intro listed a w _ hr hy hl hS H;refine⟨λh=>(by rw[h] at hr;cases hr),λj hj=>?_⟩;by_cases m:j=i
  . subst m;exact hy.wpOp hi ⟨_,hl,hS⟩ ⟨(hSi _ _).2 hS,H⟩
  . have:=ready_mono hj m;rw[H.1] at this;cases this
 | succ fuel ih =>
  intro listed a w y hr hy hl hS H;refine⟨λh=>(by rw[h] at hr;cases hr),λj hj=>?_⟩;by_cases m:j=i
  . subst m;exact hy.wpOp hi ⟨_,hl,hS⟩ ⟨(hSi _ _).2 hS,H⟩
  . have h1:=H.2 j (ready_mono hj m);obtain⟨V,oj,G,a0⟩:=mem_ready.1 hj;have Z:∀e∈oj.after,Region.binds md e=true->e.on≠i:=λe he hb a4=>by
     have h1:=a0 e he hb;have h0:=(mem_ready.1 hr).1;rw[a4] at h1;rcases Nat.lt_or_ge i listed.size with h' | h'
     . simp[h'] at h0 h1;rw[h0] at h1;cases h1
     . simp[Array.getElem?_eq_none h'] at h1
    have h2:=wpOp_putIf G (y j oj G m V Z) (λcs b=>hsel i oi cs b hi) (λcs b=>hsel j oj cs b G) hQ hy h1;have J:∀k ok,ops[k]? = some ok->k≠i->(listed.setIfInBounds j true).getD k true=false->(∀e∈ok.after,Region.binds md e=true->e.on≠i)->oi.apart ops ok=true:=λk ok hk a5 a1 a3=>by
     refine y k ok hk a5 ?_ a3;by_cases a2:j=k
     . subst a2;exact V
     . rw[getD_set_ne true a2] at a1;exact a1
    refine wpOp_mono (λa' w' h3=>?_) h2;have h4:=h3.2;rw[Array.setIfInBounds_comm _ _ (Ne.symm m)] at h4;have h5:=(hSi _ _).1 h4.1;exact⟨h5,ih (listed.setIfInBounds j true) a' w' J (ready_mono hr (Ne.symm m)) h3.1 (hL _ _ _ G m Z hl) h5 h4.2⟩
def SL(Cs:List (Nat×(World->Prop)))(l:Array Bool)(w:World):Prop:=∀c∈Cs,l.getD c.1 true=false->c.2 w
variable {Cs : List (Nat × (World -> Prop))}
theorem VF(h:Cs.all (λc=>c.1 != i)=true)(l:Array Bool)(w:World):SL Cs (l.setIfInBounds i true) w↔SL Cs l w:=by
 have G:∀c∈Cs,(l.setIfInBounds i true).getD c.1 true=l.getD c.1 true:=λc m=>by
  have:=List.all_eq_true.1 h c m;exact getD_set_ne true (λe=>by rw[e] at this;simp at this)
 exact⟨λk c m y=>k c m (by rw[G c m];exact y),λk c m y=>k c m (by rw[G c m] at y;exact y)⟩
variable {l : List Oper}
theorem wL{id:Nat}(Cs:List (Nat×(World->Prop)))(hm:P.follows .mixedOrders=true)(hS:SL Cs (Array.replicate l.toArray.size false) w.drew)(h:SL Cs (Array.replicate l.toArray.size false) w.drew->kW P .any l.toArray Q (SL Cs) l.toArray.size (Array.replicate l.toArray.size false) a w.drew):(Code.region id l.toArray true).wp P Q a w :=
 wp_region_any hm (JW _ _ _ _ (h hS))
theorem Ht{oi:Oper}{listed:Array Bool}(c:Nat×(World->Prop))(hi:l[i]? = some oi)(hc:c∈Cs)(hni:Cs.all (λc=>c.1 != i)=true)
    (hwt:((l[c.1]?).map λo=>o.after.any λe=>Region.binds md e&&e.on == i)=some true) (hlc:listed.getD c.1 true=false)
    (hs:Region.noSelect l.toArray=true) (hf:Region.free md l.toArray listed i=true) (hr:(Region.ready md l.toArray listed).contains i=true)
    (hQ:∀c a w,Q (.panic c) (a.put oi.dst v) w->Q (.panic c) a w) (hwant:Region.wanted oi (yielded l.toArray a.tmps)=true) (hS:SL Cs listed w) (hy:∀w,c.2 w->(execOp a.eval oi).run P w=.ok (.value v) w)
    (h:SL Cs (listed.setIfInBounds i true) w->kW P md l.toArray Q (SL Cs) fuel (listed.setIfInBounds i true) (a.put oi.dst v) w):kW P md l.toArray Q (SL Cs) (fuel+1) listed a w:=by
 refine QE (L:=λl=>l.getD c.1 true=false) (by simpa using hi) (Region.noSelect_spec hs) hQ (VF hni) ?_ fuel listed a w (Region.free_spec (by simpa using hi) hf) (by simpa using hr) (Or.inl ⟨hwant,λw ⟨V,h1,h2⟩=>hy w (h2 c hc h1)⟩) hlc hS (h ((VF hni _ _).2 hS));intro V j Z hj a0 m G;by_cases y:j=c.1
 . subst y;exfalso;(have H:l[c.1]? = some Z:=by simpa using hj);rw[H] at hwt;simp only[Option.map_some,Option.some.injEq] at hwt;obtain⟨e,he,J⟩:=Array.any_eq_true'.1 hwt;simp only[Bool.and_eq_true,beq_iff_eq] at J;exact m e he J.1 J.2
 . show(V.setIfInBounds j true).getD c.1 true=false;rw[getD_set_ne true y];exact G
theorem Hu{oi:Oper}{listed:Array Bool}(hi:l[i]? = some oi)(hni:Cs.all (λc=>c.1 != i)=true)
    (hs:Region.noSelect l.toArray=true) (hf:Region.free md l.toArray listed i=true) (hr:(Region.ready md l.toArray listed).contains i=true)
    (hQ:∀c a w,Q (.panic c) (a.put oi.dst v) w->Q (.panic c) a w) (hwant:Region.wanted oi (yielded l.toArray a.tmps)=true) (hS:SL Cs listed w) (hy:∀w,(execOp a.eval oi).run P w=.ok (.value v) w)
    (h:SL Cs (listed.setIfInBounds i true) w->kW P md l.toArray Q (SL Cs) fuel (listed.setIfInBounds i true) (a.put oi.dst v) w):kW P md l.toArray Q (SL Cs) (fuel+1) listed a w :=
 QE (L:=λ_=>True) (by simpa using hi) (Region.noSelect_spec hs) hQ (VF hni) (λ_ _ _ _ _ _ _=>trivial) fuel listed a w (Region.free_spec (by simpa using hi) hf) (by simpa using hr) (Or.inl ⟨hwant,λw _=>hy w⟩) trivial hS (h ((VF hni _ _).2 hS))
theorem k8{oi:Oper}{listed:Array Bool}(hi:l[i]? = some oi)(hni:Cs.all (λc=>c.1 != i)=true)(hk:(Region.noSelect l.toArray&&Region.free md l.toArray listed i&&(Region.ready md l.toArray listed).contains i)=true)(hwant:Region.wanted oi (yielded l.toArray a.tmps)=true)
    (hQ:∀c a w,Q (.panic c) (a.put oi.dst v) w->Q (.panic c) a w) (hS:SL Cs listed w) (hy:∀w,(execOp a.eval oi).run P w=.ok (.value v) w) (h:SL Cs (listed.setIfInBounds i true) w->kW P md l.toArray Q (SL Cs) fuel (listed.setIfInBounds i true) (a.put oi.dst v) w):kW P md l.toArray Q (SL Cs) (fuel+1) listed a w:=by
 simp only[Bool.and_eq_true] at hk;exact Hu hi hni hk.1.1 hk.1.2 hk.2 hQ hwant hS hy h
theorem Ju{k:Nat}{oi:Oper}{listed:Array Bool}{c:Nat×(World->Prop)}(hc:Cs[k]? = some c)(hi:l[i]? = some oi)(hni:Cs.all (λc=>c.1 != i)=true)
    (hk:((((l[c.1]?).map λo=>o.after.any λe=>Region.binds md e&&e.on == i) == some true)&&Region.noSelect l.toArray&&Region.free md l.toArray listed i&&(Region.ready md l.toArray listed).contains i)=true) (hlc:listed.getD c.1 true=false) (hwant:Region.wanted oi (yielded l.toArray a.tmps)=true)
    (hQ:∀c a w,Q (.panic c) (a.put oi.dst v) w->Q (.panic c) a w) (hS:SL Cs listed w) (hy:∀w,c.2 w->(execOp a.eval oi).run P w=.ok (.value v) w) (h:SL Cs (listed.setIfInBounds i true) w->kW P md l.toArray Q (SL Cs) fuel (listed.setIfInBounds i true) (a.put oi.dst v) w):kW P md l.toArray Q (SL Cs) (fuel+1) listed a w:=by
 simp only[Bool.and_eq_true,beq_iff_eq] at hk;exact Ht c hi (List.mem_of_getElem? hc) hni hk.1.1.1 hlc hk.1.1.2 hk.1.2 hk.2 hQ hwant hS hy h
theorem nof{p:Prop}(h:true=false):p:=Bool.noConfusion h
theorem sl1{c1:Nat×(World->Prop)}{m:Array Bool}(h1:m.getD c1.1 true=false->c1.2 w):SL [c1] m w:=λc hc=>by
 rw[List.mem_singleton.1 hc];exact h1
theorem slC{c1:Nat×(World->Prop)}{m:Array Bool}(h1:m.getD c1.1 true=false->c1.2 w)(h:SL Cs m w):SL (c1 :: Cs) m w:=λc hc=>by
 rcases List.mem_cons.1 hc with rfl|hc
 . exact h1
 . exact h c hc
theorem sl2{c1 c2:Nat×(World->Prop)}{m:Array Bool}(h1:m.getD c1.1 true=false->c1.2 w)(h2:m.getD c2.1 true=false->c2.2 w):SL [c1,c2] m w:=slC h1 (sl1 h2)
theorem sl3{c1 c2 c3:Nat×(World->Prop)}{m:Array Bool}(h1:m.getD c1.1 true=false->c1.2 w)(h2:m.getD c2.1 true=false->c2.2 w)(h3:m.getD c3.1 true=false->c3.2 w):SL [c1,c2,c3] m w:=slC h1 (sl2 h2 h3)
theorem sl4{c1 c2 c3 c4:Nat×(World->Prop)}{m:Array Bool}(h1:m.getD c1.1 true=false->c1.2 w)(h2:m.getD c2.1 true=false->c2.2 w)(h3:m.getD c3.1 true=false->c3.2 w)(h4:m.getD c4.1 true=false->c4.2 w):SL [c1,c2,c3,c4] m w:=slC h1 (sl3 h2 h3 h4)
theorem jF{rs:List Nat}{listed:Array Bool}(hr:Region.ready md ops listed=rs)(hne:rs≠[])(h:∀i∈rs,wpOp P ops Q i (λa' w'=>S (listed.setIfInBounds i true) w'/\kW P md ops Q S fuel (listed.setIfInBounds i true) a' w') a w):kW P md ops Q S (fuel+1) listed a w :=
 ⟨λh0=>absurd (hr ▸ h0) hne,hr ▸ h⟩
theorem jg{listed:Array Bool}:∀i∈([]:List Nat),wpOp P ops Q i (λa' w'=>S (listed.setIfInBounds i true) w'/\kW P md ops Q S fuel (listed.setIfInBounds i true) a' w') a w:=λ_ h=>by cases h
theorem jH{o:Oper}{rs:List Nat}{listed:Array Bool}(ho:l[i]? = some o)(hwant:Region.wanted o (yielded l.toArray a.tmps)=true)
    (h:∀K:Act->World->Prop,Hid (∀a w,S (listed.setIfInBounds i true) w->(S (listed.setIfInBounds i true) w->kW P md l.toArray Q S fuel (listed.setIfInBounds i true) a w)->K a w)->Oper.wp P o a w K Q)
    (hs:∀i∈rs,wpOp P l.toArray Q i (λa' w'=>S (listed.setIfInBounds i true) w'/\kW P md l.toArray Q S fuel (listed.setIfInBounds i true) a' w') a w) :
    ∀j∈i :: rs,wpOp P l.toArray Q j (λa' w'=>S (listed.setIfInBounds j true) w'/\kW P md l.toArray Q S fuel (listed.setIfInBounds j true) a' w') a w:=λj hj=>by
 rcases List.mem_cons.1 hj with rfl|hj
 . refine wpOp_step (by simpa using ho) (λK' hK=>?_);rw[if_pos hwant];exact h K' (λa w hS hW=>hK a w ⟨hS,hW hS⟩)
 . exact hs j hj
theorem Qh{listed:Array Bool}(hr:Region.ready md ops listed=[])(h:Q .normal a w):∀fuel,kW P md ops Q S fuel listed a w
  | 0=>⟨hr,h⟩
  | _+1=>⟨λ_=>h,by rw[hr];simp⟩
end
end Go.Proofs.YtkefajjcpcoajaaGreatDoor
namespace Go.Proofs.YtkefajjcpcoajaaGreatDoor
open Go.RowKit Lx
structure SE (B:Nat) (b:qK) (g p:Nat) (fo:Option Addr) (fn fc:Nat) (w0 w:World) (f:Nat×Int) (r:RSt) (z:RSl):Prop where
 st:St w g (rC r z) f
 rr:RR B none w r z
 p:Arr w p 55 [.string (stg b.kind),.string (stg b.name),.slice fo fn fc,.int .i64 b.line]
 bw:Below B w0 w
 hB:B<=w.heap.size/\B<=g
 qn:z.qn<=1000000
section
variable {B : Nat} {b : qK} {g p pc pn pl : Nat} {fo : Option Addr} {fn fc : Nat} {E : List (Nat × List Value)} {w0 w : World} {d : BD} {f : Nat × Int} {r : RSt} {z : RSl}
theorem BI.se(h:BI B b ⟨g,p,pc,pn,pl,fo,fn,fc⟩ E w0 w d)(hq:d.z.qn<=1000000):SE B b g p fo fn fc w0 w d.f d.r d.z:=⟨h.st,h.j.lr.rr.free,h.j.p,h.j.bw,⟨h.j.hB.1,h.j.hB.2.1⟩,hq⟩
theorem SE.see(h:SE B b g p fo fn fc w0 w f r z):∃X,w.alloc (.cells #[.string (stg b.kind)] 9)=X/\Arr X w.heap.size 9 [.string (stg b.kind)]/\w.cell? ⟨g,14,none⟩=some (.slice z.qo z.qn z.qc)/\X.cell? ⟨g,14,none⟩=some (.slice z.qo z.qn z.qc)/\w.cell? ⟨p,0,none⟩=some (.string (stg b.kind))/\X.cell? ⟨p,0,none⟩=some (.string (stg b.kind)) /\
    X.ownsRow B 9 1 (.slice z.qo z.qn z.qc) z.qn (r.seen.map λv=>.string (stg v))/\B<=X.heap.size/\z.qn<=4000000 /\
    ∀ao' c' w',w'.ownsRow B 9 1 (.slice ao' (z.qn+1) c') (z.qn+1) ((r.seen.map λv=>.string (stg v))++[.string (stg b.kind)])->X.grownBy w' (Value.slice z.qo z.qn z.qc).ownBlock->((Value.slice ao' (z.qn+1) c').ownBlock=(Value.slice z.qo z.qn z.qc).ownBlock\/(Value.slice ao' (z.qn+1) c').ownBlock=some X.heap.size) ->
      ∃V,w'.setCell ⟨g,14,none⟩ (.slice ao' (z.qn+1) c')=V/\w'.cell? ⟨g,14,none⟩=some (.slice z.qo z.qn z.qc)/\w'.frozen? ⟨g,14,none⟩=false/\St V g (rC { r with seen:=r.seen++[b.kind] } { z with qo:=ao',qn:=z.qn+1,qc:=c' }) f/\RR B none V { r with seen:=r.seen++[b.kind] } { z with qo:=ao',qn:=z.qn+1,qc:=c' }/\Below B w0 V:=by
 obtain⟨X,e1,AX,m,_⟩:=qG w 9 [.string (stg b.kind)];have J:=h.st.keep m;have y:=h.rr.below m;have bX:=h.bw.trans (m.mono h.hB.1);have Z:=Nat.le_trans h.hB.1 m.size;refine⟨X,e1,AX,h.st.cellD 14 (by decide),J.cellD 14 (by decide),h.p.cell 0,(h.p.kept m).cell 0,y.seen,Z,Nat.le_trans h.qn (by decide),?_⟩;intro ao' c' w' ho G H;have r1:=y.see (x:=b.kind) (Nat.le_refl _) ho G H;have s1:St w' g (rC r z) f:=⟨Arr.row J.arr y.seen (by decide) G,J.len⟩;have b1:=bX.grown G Z (λk e=>(World.ownsRow.lt y.seen k e).1);obtain⟨V,e2,s2,g2,c2,z2⟩:=s1.setD 14 (by decide) (.slice ao' (z.qn+1) c') (.slice z.qo z.qn z.qc) rfl;exact⟨V,e2,c2,z2,s2,r1.box s1.arr (by decide) g2,b1.grown g2 (Nat.le_trans Z G.size) (λk e=>by injection e with e;have:=h.hB.2;omega)⟩
theorem BI.putC(h:BI B b ⟨g,p,pc,pn,pl,fo,fn,fc⟩ E w0 w d)(hq:d.z.qn<=1000000)(hn:d.z.s.cn<=1000000) :
    ∃W1 X us,w.setCell ⟨pc,0,none⟩ (.string (stg b.name))=W1/\w.cell? ⟨pc,0,none⟩=some (.string (stg d.X.c.name))/\w.frozen? ⟨pc,0,none⟩=false/\Arr W1 pc 76 (kC { d.X.c with name:=b.name } d.co d.cn d.cc)/\W1.alloc (.cells (kC { d.X.c with name:=b.name } d.co d.cn d.cc).toArray 76)=X/\Arr X pc 76 (kC { d.X.c with name:=b.name } d.co d.cn d.cc)/\Arr X W1.heap.size 76 (kC { d.X.c with name:=b.name } d.co d.cn d.cc) /\
      W1.cell? ⟨g,5,none⟩=some (.slice d.z.s.co d.z.s.cn d.z.s.cc)/\X.cell? ⟨g,5,none⟩=some (.slice d.z.s.co d.z.s.cn d.z.s.cc)/\X.ownsRow B 76 9 (.slice d.z.s.co d.z.s.cn d.z.s.cc) d.z.s.cn us/\B<=X.heap.size/\d.z.s.cn<=4000000 /\
      ∀ao' c' w',w'.ownsRow B 76 9 (.slice ao' (d.z.s.cn+1) c') (d.z.s.cn+1) (us++kC { d.X.c with name:=b.name } d.co d.cn d.cc)->X.grownBy w' (Value.slice d.z.s.co d.z.s.cn d.z.s.cc).ownBlock ->
        ∃V,w'.setCell ⟨g,5,none⟩ (.slice ao' (d.z.s.cn+1) c')=V/\w'.cell? ⟨g,5,none⟩=some (.slice d.z.s.co d.z.s.cn d.z.s.cc)/\w'.frozen? ⟨g,5,none⟩=false/\SE B b g p fo fn fc w0 V d.f { d.r with e:={ d.r.e with conts:=d.r.e.conts++[{ d.X.c with name:=b.name }] } } { d.z with s:={ d.z.s with co:=ao',cn:=d.z.s.cn+1,cc:=c' } }:=by
 obtain⟨W1,e1,A1,G1,c1,z1⟩:=wZ h.j.c 0 (.string (stg b.name)) (.string (stg d.X.c.name)) rfl;have l1:=h.j.lr.boxq h.j.c (by decide) h.j.ac G1;obtain⟨_,q2,q3,q4⟩:=h.j.q h.j.c (by decide) h.j.hB.2.2.2.1 G1;have s1:St W1 g (rC d.r d.z) d.f:=⟨q4 h.st.arr (by decide),h.st.len⟩;have p1:=q4 h.j.p (by decide);obtain⟨X,e2,AX,m,_⟩:=qG W1 76 (kC { d.X.c with name:=b.name } d.co d.cn d.cc);have sX:=s1.keep m;have lX:=l1.below m;have bX:=q2.trans (m.mono q3);have Z:=Nat.le_trans q3 m.size;have pX:=p1.kept m;obtain⟨us,H,hc⟩:=lX.rr.conts;refine⟨W1,X,us,e1,c1,z1,A1,e2,A1.kept m,AX,s1.cellD 5 (by decide),sX.cellD 5 (by decide),H,Z,Nat.le_trans hn (by decide),?_⟩;intro ao' c' w' ho G;have hx:CC (fS B (Value.slice d.z.qo d.z.qn d.z.qc).ownBlock d.k.ownBlock) X [{ d.X.c with name:=b.name }] (kC { d.X.c with name:=b.name } d.co d.cn d.cc):=⟨d.co,d.cn,d.cc,[],rfl,lX.more _ (List.mem_cons_self ..),rfl⟩;have r1:=(lX.rr.contest H hc hx ho G).free;have a4:∀ {y:Nat} {U:TypeId} {ds:List Value},Arr X y U ds->U≠76 -> Arr w' y U ds:=λhy hU=>Arr.row hy H hU G
 have s2:St w' g (rC d.r d.z) d.f:=⟨a4 sX.arr (by decide),sX.len⟩;have b1:=bX.grown G Z (λk e=>(World.ownsRow.lt H k e).1);obtain⟨V,e3,s3,J,c3,z3⟩:=s2.setD 5 (by decide) (.slice ao' (d.z.s.cn+1) c') (.slice d.z.s.co d.z.s.cn d.z.s.cc) rfl;exact⟨V,e3,c3,z3,s3,r1.box s2.arr (by decide) J,kl (a4 pX (by decide)) J (yl (a4 pX (by decide)) s2.arr (by decide)),b1.grown J (Nat.le_trans Z G.size) (λk e=>by injection e with e;have:=h.j.hB.2.1;dsimp only at this;omega),⟨Nat.le_trans Z (Nat.le_trans G.size J.size),h.j.hB.2.1⟩,hq⟩
theorem BI.putS(h:BI B b ⟨g,p,pc,pn,pl,fo,fn,fc⟩ E w0 w d)(hn:d.z.s.sn<=1000000) :
    ∃X,w.alloc (.cells #[.string (stg b.name),.slice none 0 0,.slice none 0 0] 60)=X/\Arr X w.heap.size 60 [.string (stg b.name),.slice none 0 0,.slice none 0 0]/\w.cell? ⟨g,6,none⟩=some (.slice d.z.s.so d.z.s.sn d.z.s.sc)/\X.cell? ⟨g,6,none⟩=some (.slice d.z.s.so d.z.s.sn d.z.s.sc)/\w.cell? ⟨p,1,none⟩=some (.string (stg b.name)) /\
      X.ownsRow B 60 3 (.slice d.z.s.so d.z.s.sn d.z.s.sc) d.z.s.sn (yZ d.r.e.stys)/\B<=X.heap.size/\d.z.s.sn<=4000000 /\
      ∀ao' c' w',w'.ownsRow B 60 3 (.slice ao' (d.z.s.sn+1) c') (d.z.s.sn+1) (yZ d.r.e.stys++[.string (stg b.name),.slice none 0 0,.slice none 0 0])->X.grownBy w' (Value.slice d.z.s.so d.z.s.sn d.z.s.sc).ownBlock->((Value.slice ao' (d.z.s.sn+1) c').ownBlock=(Value.slice d.z.s.so d.z.s.sn d.z.s.sc).ownBlock\/(Value.slice ao' (d.z.s.sn+1) c').ownBlock=some X.heap.size) ->
        ∃V,w'.setCell ⟨g,6,none⟩ (.slice ao' (d.z.s.sn+1) c')=V/\w'.cell? ⟨g,6,none⟩=some (.slice d.z.s.so d.z.s.sn d.z.s.sc)/\w'.frozen? ⟨g,6,none⟩=false/\BI B b ⟨g,p,pc,pn,pl,fo,fn,fc⟩ [] w0 V { d with r:={ d.r with e:={ d.r.e with stys:=d.r.e.stys++[⟨b.name,[],[]⟩] } },z:={ d.z with s:={ d.z.s with so:=ao',sn:=d.z.s.sn+1,sc:=c' } } }:=by
 obtain⟨X,J,AX,BX,_⟩:=qG w 60 [.string (stg b.name),.slice none 0 0,.slice none 0 0];have m:=h.drop.below BX;have Z:=m.j.lr.rr.stys;refine⟨X,J,AX,h.st.cellD 6 (by decide),m.st.cellD 6 (by decide),h.j.p.cell 1,Z,m.j.hB.1,Nat.le_trans hn (by decide),?_⟩;intro ao' c' w' ho G a1;have H:∀ {y:Nat} {U:TypeId} {ds:List Value},Arr X y U ds->U≠60 -> Arr w' y U ds:=λhy hU=>Arr.row hy Z hU G
 have r1:=m.j.lr.rr.style (x:=⟨b.name,[],[]⟩) ho G;have k1:Keeps (fS B (Value.slice d.z.qo d.z.qn d.z.qc).ownBlock d.k.ownBlock) X w':=jE (zS Z G (by decide));have s2:St w' g (rC d.r d.z) d.f:=⟨H m.st.arr (by decide),m.st.len⟩;have b1:=m.j.bw.grown G m.j.hB.1 (λk e=>(World.ownsRow.lt Z k e).1);obtain⟨V,e3,s3,g3,c3,z3⟩:=s2.setD 6 (by decide) (.slice ao' (d.z.s.sn+1) c') (.slice d.z.s.so d.z.s.sn d.z.s.sc) rfl;have l1:LR B d.k w' { d.r with e:={ d.r.e with stys:=d.r.e.stys++[⟨b.name,[],[]⟩] } } { d.z with s:={ d.z.s with so:=ao',sn:=d.z.s.sn+1,sc:=c' } } d.L:=⟨r1,m.j.lr.sep,λx hx=>Row.keep (m.j.lr.more x hx) (zE _ _ _) k1⟩;have ap:∀q,q<X.heap.size->yJ d.z q->yJ { d.z with s:={ d.z.s with so:=ao',sn:=d.z.s.sn+1,sc:=c' } } q:=λq hq ⟨x1,x2,x3,x4⟩=>⟨x1,λe=>by
  rcases a1 with J|J
  . exact x2 (J.symm.trans e)
  . have e2:=J.symm.trans e;injection e2 with e2;omega,x3,x4⟩
 have a5:∀ {y:Nat} {U:TypeId} {ds:List Value},Arr w' y U ds->U≠70 -> Arr V y U ds:=λhy hU=>kl hy g3 (yl hy s2.arr hU)
 have a0:w'.ownsRow B 9 1 d.k d.kn (d.ks.map λv=>.string (stg v)):=World.ownsRow.kept m.j.kn G (qv m.j.kn Z (by decide));exact⟨V,e3,c3,z3,s3,l1.box s2.arr (by decide) g3,World.ownsRow.kept a0 g3 (Or.inr (zI a0 s2.arr (by decide))),a5 (H m.j.c (by decide)) (by decide),a5 (H m.j.n (by decide)) (by decide),a5 (H m.j.l (by decide)) (by decide),a5 (H m.j.p (by decide)) (by decide),b1.grown g3 (Nat.le_trans m.j.hB.1 G.size) (λk e=>by injection e with e;have:=h.j.hB.2.1;dsimp only at this;omega),⟨Nat.le_trans m.j.hB.1 (Nat.le_trans G.size g3.size),h.j.hB.2⟩,ap _ m.j.c.lt h.j.ac,ap _ m.j.n.lt h.j.an,ap _ m.j.l.lt h.j.al,λ_ hx=>by cases hx⟩
theorem BI.putN{X w1 Y w2:World}{us:List Value}{a1 a2:Option Addr}{c1 c2:Nat}(h:BI B b ⟨g,p,pc,pn,pl,fo,fn,fc⟩ E w0 w d)(hq:d.z.qn<=1000000)(hr0:w.ownsRow B 122 2 (.slice d.z.no d.z.nn d.z.nc) d.z.nn us)(hc0:NC (fS B (Value.slice d.z.qo d.z.qn d.z.qc).ownBlock d.k.ownBlock) w d.r.names us)(hX:Below w.heap.size w X)
    (ho1:w1.ownsRow B 122 2 (.slice a1 (d.z.nn+1) c1) (d.z.nn+1) (us++[.slice d.no d.nn d.nc,.slice d.mo d.mn d.mc])) (hg1:X.grownBy w1 (Value.slice d.z.no d.z.nn d.z.nc).ownBlock) (hY:Below w1.heap.size w1 Y)
    (ho2:w2.ownsRow B 123 2 (.slice a2 (d.z.ln+1) c2) (d.z.ln+1) (wI d.r.lines++[.int .i64 d.X.l1,.int .i64 d.X.l2])) (hg2:Y.grownBy w2 (Value.slice d.z.lo d.z.ln d.z.lc).ownBlock) :
    ∃Z1 Z2,w2.setCell ⟨g,16,none⟩ (.slice a1 (d.z.nn+1) c1)=Z1/\w2.cell? ⟨g,16,none⟩=some (.slice d.z.no d.z.nn d.z.nc)/\w2.frozen? ⟨g,16,none⟩=false/\Z1.setCell ⟨g,15,none⟩ (.slice a2 (d.z.ln+1) c2)=Z2/\Z1.cell? ⟨g,15,none⟩=some (.slice d.z.lo d.z.ln d.z.lc)/\Z1.frozen? ⟨g,15,none⟩=false /\
      SE B b g p fo fn fc w0 Z2 d.f { d.r with lines:=d.r.lines++[(d.X.l1,d.X.l2)],names:=d.r.names++[(d.X.n1,d.X.n2)] } { d.z with lo:=a2,ln:=d.z.ln+1,lc:=c2,no:=a1,nn:=d.z.nn+1,nc:=c1 }:=by
 have m:=h.below hX;have hr:=qQ hr0 hX;have hc:=hc0.keep (zE _ _ _) (qD _ hX);have hx:NC (fS B (Value.slice d.z.qo d.z.qn d.z.qc).ownBlock d.k.ownBlock) X [(d.X.n1,d.X.n2)] [.slice d.no d.nn d.nc,.slice d.mo d.mn d.mc]:=⟨d.no,d.nn,d.nc,d.mo,d.mn,d.mc,[],rfl,m.j.lr.more (d.no,d.nn,d.nc,d.X.n1) (by simp[BD.L]),m.j.lr.more (d.mo,d.mn,d.mc,d.X.n2) (by simp[BD.L]),rfl⟩;have r1:=(m.j.lr.rr.name hr hc hx ho1 hg1).below hY;have r2:=(r1.line (p:=(d.X.l1,d.X.l2)) ho2 hg2).free;have a4:∀ {y:Nat} {U:TypeId} {ds:List Value},Arr X y U ds->U≠122 -> U≠123 -> Arr w2 y U ds:=λhy h1 h2=>Arr.row ((Arr.row hy hr h1 hg1).kept hY) r1.lines h2 hg2
 have s2:St w2 g (rC d.r d.z) d.f:=⟨a4 m.st.arr (by decide) (by decide),m.st.len⟩;have zX:=m.j.hB.1;have zY:=Nat.le_trans zX (Nat.le_trans hg1.size hY.size);have b1:=m.j.bw.grown hg1 zX (λk e=>(World.ownsRow.lt hr k e).1);have b2:=(b1.trans (hY.mono (Nat.le_trans zX hg1.size))).grown hg2 zY (λk e=>(World.ownsRow.lt r1.lines k e).1);obtain⟨Z1,e1,t1,G,a3,J⟩:=s2.setD 16 (by decide) (.slice a1 (d.z.nn+1) c1) (.slice d.z.no d.z.nn d.z.nc) rfl;obtain⟨Z2,e2,t2,H,a0,Z⟩:=t1.setD 15 (by decide) (.slice a2 (d.z.ln+1) c2) (.slice d.z.lo d.z.ln d.z.lc) rfl;have p2:=a4 m.j.p (by decide) (by decide);have p3:=kl p2 G (yl p2 s2.arr (by decide));have a5:B<=g:=h.j.hB.2.1;have V:=Nat.le_trans zY hg2.size;exact⟨Z1,Z2,e1,a3,J,e2,a0,Z,t2,(r2.box s2.arr (by decide) G).box t1.arr (by decide) H,kl p3 H (yl p3 t1.arr (by decide)),(b2.grown G V (λk e=>by injection e with e;omega)).grown H (Nat.le_trans V G.size) (λk e=>by injection e with e;omega),⟨Nat.le_trans V (Nat.le_trans G.size H.size),a5⟩,hq⟩
end
