/- -/
import Derived.Test.YtkefajjcpcoajaaGreatDoorPkA0
import Derived.Test.YtkefajjcpcoajaaGreatDoorPkA4
import Derived.Test.YtkefajjcpcoajaaGreatDoorPkA6
set_option linter.all false
set_option maxRecDepth 100000
set_option maxHeartbeats 1600000
namespace Go.Proofs.YtkefajjcpcoajaaGreatDoor.Lx
variable {l r:List Tok}{B:Nat}
theorem vv{k:Nat}{a:List UInt8}(h:ja k l=.ok a r):∃t,l=t :: r/\a=t.text:=by
 cases l with
 | nil=>cases h
 | cons t q =>
  replace h:(if t.kind=k then PR.ok t.text q else PR.bad t.line)=.ok a r:=h;by_cases e:t.kind=k
  . rw[if_pos e] at h;injection h with h1 h2;subst h1 h2;exact⟨t,rfl,rfl⟩
  . rw[if_neg e] at h;cases h
structure GdF (B:Nat) (f:Fld):Prop where
 ln:1<=f.line
 top:f.line<=B
 vals:∀v∈f.vals,v.length<=B
def wF(f:Fld):Nat:=f.vals.length+1
def wFs:List Fld->Nat
  | []=>0
  | f :: r=>wF f+wFs r
def wB(b:Blc):Nat:=wFs b.flds+1
def wBs:List Blc->Nat
  | []=>0
  | b :: r=>wB b+wBs r
structure GdB (B:Nat) (b:Blc):Prop where
 ln:1<=b.line
 top:b.line<=B
 flds:∀f∈b.flds,GdF B f
def GdT(B:Nat)(l:List Tok):Prop:=∀t∈l,1<=t.line/\2*t.text.length+1<=B/\t.line<=B
theorem GdT.tail{t:Tok}(h:GdT B (t :: l)):GdT B l:=λx hx=>h x (List.mem_cons_of_mem _ hx)
theorem GdT.drop(h:GdT B l)(k:Nat):GdT B (l.drop k):=λx hx=>h x (List.mem_of_mem_drop hx)
theorem bind_ok{α β:Type}{p:PR α}{f:α->List Tok->PR β}{b:β}{s:List Tok}(h:p.bind f=.ok b s):∃a r,p=.ok a r/\f a r=.ok b s:=by
 cases p with
 | ok a r=>exact⟨a,r,rfl,h⟩
 | bad k=>cases h
theorem QJ{c:UInt8}{u:Unit}(h:kU c l=.ok u r):∃t,l=t :: r:=by
 cases l with
 | nil=>cases h
 | cons t q =>
  replace h:(if Qe c t=true then PR.ok () q else PR.bad t.line)=.ok u r:=h;by_cases e:Qe c t=true
  . rw[if_pos e] at h;injection h with _ h2;exact⟨t,by rw[h2]⟩
  . rw[if_neg e] at h;cases h
theorem XF{v:List UInt8}(h:jf l=.ok v r)(hg:GdT B l):v.length<=B/\GdT B r/\r.length+1<=l.length:=by
 unfold jf at h;by_cases G:xr 1 l=true
 . rw[if_pos G] at h;obtain⟨t,rfl,rfl⟩:=vv h;exact⟨by have:=(hg t List.mem_cons_self).2.1;omega,hg.tail,Nat.le_refl _⟩
 . rw[if_neg G] at h;by_cases V:xr 3 l=true
   . rw[if_pos V] at h;obtain⟨t,rfl,rfl⟩:=vv h;exact⟨by have:=(hg t List.mem_cons_self).2.1;omega,hg.tail,Nat.le_refl _⟩
   . rw[if_neg V] at h;obtain⟨a,q,hq,h⟩:=bind_ok h;obtain⟨t,rfl,rfl⟩:=vv hq;have ht:=(hg t List.mem_cons_self).2;by_cases H:jU 47 q=true
     . rw[if_pos H] at h;obtain⟨b,q2,m,h⟩:=bind_ok h;obtain⟨Z,J,rfl⟩:=vv m;injection h with h5 h6;subst h5 h6;have y:GdT B (q.drop 1):=hg.tail.drop 1;rw[J] at y;have a0:=(y Z List.mem_cons_self).2;(have hl:(q.drop 1).length=q2.length+1:=by rw[J];rfl);rw[List.length_drop] at hl;refine⟨by rw[List.length_append,List.length_cons];omega,y.tail,by rw[List.length_cons];omega⟩
     . rw[if_neg H] at h;injection h with h5 h6;subst h5 h6;exact⟨by omega,hg.tail,Nat.le_refl _⟩
theorem Yg:∀ (k:Nat) {l:List Tok} {vs:List (List UInt8)} {r:List Tok},vp k l=.ok vs r->GdT B l->(∀v∈vs,v.length<=B)/\GdT B r/\r.length+vs.length<=l.length
  | 0,l,vs,r,h,hg=>by
   unfold vp at h;injection h with h1 h2;subst h1 h2;exact⟨λv hv=>(by cases hv),hg,by simp⟩
  | k+1,l,vs,r,h,hg=>by
   unfold vp at h;by_cases h1:jU 44 l=true
   . rw[if_pos h1] at h;obtain⟨v,q,hq,h⟩:=bind_ok h;obtain⟨ws,q2,hq2,h⟩:=bind_ok h;injection h with h2 h3;subst h2 h3;obtain⟨a1,a2,a3⟩:=XF hq (hg.drop 1);obtain⟨b1,b2,b3⟩:=Yg k hq2 a2;rw[List.length_drop] at a3;refine⟨λx hx=>?_,b2,by rw[List.length_cons];omega⟩;rcases List.mem_cons.1 hx with rfl|hx
     . exact a1
     . exact b1 x hx
   . rw[if_neg h1] at h;injection h with h2 h3;subst h2 h3;exact⟨λv hv=>(by cases hv),hg,by simp⟩
theorem DH{f:Fld}(h:xD l=.ok f r)(hg:GdT B l):GdF B f/\GdT B r/\r.length+wF f<=l.length:=by
 unfold xD at h;obtain⟨key,q,hq,H⟩:=bind_ok h;obtain⟨v,q2,J,V⟩:=bind_ok H;obtain⟨vs,q3,y,a0⟩:=bind_ok V;obtain⟨u,q4,Z,m⟩:=bind_ok a0;obtain⟨t,rfl,rfl⟩:=vv hq;obtain⟨t4,rfl⟩:=QJ Z;injection m with h2 h3;subst h2 h3;obtain⟨a1,a2,a3⟩:=XF J hg.tail;obtain⟨b1,b2,b3⟩:=Yg _ y a2;refine⟨⟨(hg t List.mem_cons_self).1,(hg t List.mem_cons_self).2.2,λx G=>?_⟩,b2.tail,?_⟩
 . rcases List.mem_cons.1 G with rfl|G
   . exact a1
   . exact b1 x G
 . unfold wF;rw[List.length_cons] at b3 |-;rw[List.length_cons];omega
theorem J5:∀ (k:Nat) {l:List Tok} {fs:List Fld} {r:List Tok},uY k l=.ok fs r->GdT B l->(∀f∈fs,GdF B f)/\GdT B r/\r.length+wFs fs<=l.length
  | 0,l,fs,r,h,hg=>by
   unfold uY at h;injection h with h1 h2;subst h1 h2;exact⟨λv hv=>(by cases hv),hg,Nat.le_refl _⟩
  | k+1,l,fs,r,h,hg=>by
   unfold uY at h;by_cases h1:jU 125 l=true
   . rw[if_pos h1] at h;injection h with h2 h3;subst h2 h3;exact⟨λv hv=>(by cases hv),hg,Nat.le_refl _⟩
   . rw[if_neg h1] at h;obtain⟨f,q,hq,h⟩:=bind_ok h;obtain⟨gs,q2,hq2,h⟩:=bind_ok h;injection h with h2 h3;subst h2 h3;obtain⟨a1,a2,a3⟩:=DH hq hg;obtain⟨b1,b2,b3⟩:=J5 k hq2 a2;refine⟨λx hx=>?_,b2,by rw[wFs];omega⟩;rcases List.mem_cons.1 hx with rfl|hx
     . exact a1
     . exact b1 x hx
theorem Bj{v:List UInt8}(h:wJ l=.ok v r)(hg:GdT B l):GdT B r/\r.length<=l.length:=by
 unfold wJ at h;by_cases m:xr 1 l=true
 . rw[if_pos m] at h;obtain⟨t,rfl,rfl⟩:=vv h;exact⟨hg.tail,by simp⟩
 . rw[if_neg m] at h;injection h with h2 h3;subst h2 h3;exact⟨hg,Nat.le_refl _⟩
theorem DI{b:Blc}(h:xe l=.ok b r)(hg:GdT B l):GdB B b/\GdT B r/\r.length+wB b<=l.length:=by
 unfold xe at h;obtain⟨key,q,hq,a3⟩:=bind_ok h;obtain⟨v,q2,G,y⟩:=bind_ok a3;obtain⟨u,q3,m,J⟩:=bind_ok y;obtain⟨fs,q4,Z,V⟩:=bind_ok J;obtain⟨u2,q5,H,a0⟩:=bind_ok V;obtain⟨t,rfl,rfl⟩:=vv hq;obtain⟨t3,rfl⟩:=QJ m;obtain⟨t5,rfl⟩:=QJ H;injection a0 with h2 h3;subst h2 h3;obtain⟨a1,a2⟩:=Bj G hg.tail;obtain⟨b1,b2,b3⟩:=J5 _ Z a1.tail;refine⟨⟨(hg t List.mem_cons_self).1,(hg t List.mem_cons_self).2.2,b1⟩,b2.tail,?_⟩;unfold wB;rw[List.length_cons] at b3 a2 |-;show _+(wFs fs+1)<=_;omega
theorem J6:∀ (k:Nat) {l:List Tok} {bs:List Blc} {r:List Tok},uZ k l=.ok bs r->GdT B l->(∀b∈bs,GdB B b)/\GdT B r/\r.length+wBs bs<=l.length
  | 0,l,fs,r,h,hg=>by
   unfold uZ at h;injection h with h1 h2;subst h1 h2;exact⟨λv hv=>(by cases hv),hg,Nat.le_refl _⟩
  | k+1,l,fs,r,h,hg=>by
   unfold uZ at h;by_cases h1:jU 125 l=true
   . rw[if_pos h1] at h;injection h with h2 h3;subst h2 h3;exact⟨λv hv=>(by cases hv),hg,Nat.le_refl _⟩
   . rw[if_neg h1] at h;obtain⟨f,q,hq,h⟩:=bind_ok h;obtain⟨gs,q2,hq2,h⟩:=bind_ok h;injection h with h2 h3;subst h2 h3;obtain⟨a1,a2,a3⟩:=DI hq hg;obtain⟨b1,b2,b3⟩:=J6 k hq2 a2;refine⟨λx hx=>?_,b2,by rw[wBs];omega⟩;rcases List.mem_cons.1 hx with rfl|hx
     . exact a1
     . exact b1 x hx
theorem Uz{s:Src}(h:xZ l=.ok s r)(hg:GdT B l):(∀b∈s.blks,GdB B b)/\wBs s.blks<=l.length:=by
 unfold xZ at h;obtain⟨u0,q,m,H⟩:=bind_ok h;obtain⟨title,q2,a1,G⟩:=bind_ok H;obtain⟨u,q3,a0,Z⟩:=bind_ok G;obtain⟨bs,q4,a2,J⟩:=bind_ok Z;obtain⟨u2,q5,a4,V⟩:=bind_ok J;obtain⟨u3,q6,a3,y⟩:=bind_ok V;have hE:∃t,l=t :: q:=by
  cases l with
  | nil=>cases m
  | cons t r =>
   replace m:(if t.kind=1/\t.text=UW then PR.ok () r else PR.bad t.line)=.ok u0 q:=m;by_cases e:t.kind=1/\t.text=UW
   . rw[if_pos e] at m;injection m with _ h2;exact⟨t,by rw[h2]⟩
   . rw[if_neg e] at m;cases m
 obtain⟨t,rfl⟩:=hE;obtain⟨t2,rfl,rfl⟩:=vv a1;obtain⟨t3,rfl⟩:=QJ a0;injection y with h2 h3;subst h2 h3;obtain⟨b1,b2,b3⟩:=J6 _ a2 hg.tail.tail.tail;refine⟨b1,?_⟩;rw[List.length_cons,List.length_cons,List.length_cons];show wBs bs<=_;omega
def Ll(f:zC):Prop:=1<=f.line
def Lc(b:qK):Prop:=1<=b.line/\∀f∈b.flds,Ll f
end Go.Proofs.YtkefajjcpcoajaaGreatDoor.Lx
namespace Go.Proofs.YtkefajjcpcoajaaGreatDoor
open Go.RowKit Lx
variable {xs:List Cst}
def IntL(k:IntKind)(S:World->Nat->Prop)(w:World)(ao:Option Addr)(n c:Nat)(xs:List Int):Prop:=Row S 1 w ao n c (xs.map (Value.int k))
def CC(S:World->Nat->Prop)(w:World):List Cst->List Value->Prop
  | [],us=>us=[]
  | x :: xs,us=>∃vo vn vc r,us=.string (stg x.name) :: .slice vo vn vc :: .int .i64 x.method :: .int .i64 x.seats :: .int .i64 x.ranks :: .int .i64 x.digits :: .int .i64 x.ties :: .int .i64 x.over :: .int .i64 x.skip :: r/\StrL S w vo vn vc x.cands/\CC S w xs r
def CstS(S:World->Nat->Prop)(w:World)(ao:Option Addr)(n c:Nat)(xs:List Cst):Prop:=∃us,Row S 9 w ao n c us/\CC S w xs us
def TC(S:World->Nat->Prop)(w:World):List Sty->List Value->Prop
  | [],us=>us=[]
  | x :: xs,us=>∃po pn pc ko kn kc r,us=.string (stg x.name) :: .slice po pn pc :: .slice ko kn kc :: r/\IntL .i64 S w po pn pc x.precs/\IntL .i64 S w ko kn kc x.conts/\TC S w xs r
def StyS(S:World->Nat->Prop)(w:World)(ao:Option Addr)(n c:Nat)(xs:List Sty):Prop:=∃us,Row S 3 w ao n c us/\TC S w xs us
section
variable {S T : World -> Nat -> Prop} {n c : Nat} {w w' : World} {ao : Option Addr} {k : IntKind}
theorem IntL.len{xs:List Int}(h:IntL k S w ao n c xs):xs.length=n:=by have:=Row.len h;simpa using this
theorem IntL.get{t e:TypeId}(ht:Tryz.prog.underlying t=some (.slice e))(he:(Tryz.prog.info? e).map (·.size)=some 1){xs:List Int}(h:IntL k S w ao n c xs)(i:Nat)(hi:i<n):∃ (x:Int) (a:Addr),xs[i]? = some x /\
    (∀W,(Instr.indexAt t (.slice ao n c) (.int .i64 (i:Int))).run Tryz.prog W=.ok (.pointer (some a)) W)/\w.cell? a=some (.int k x):=by
 obtain⟨x,m⟩:∃x,xs[i]? = some x:=⟨_,List.getElem?_eq_getElem (by rw[h.len];exact hi)⟩;have y:=yQ ht he h i hi;rw[Nat.mul_one] at y;exact⟨x,pt ao i,m,y,(Row.cell h i _ (by rw[List.getElem?_map,m];rfl)).1⟩
theorem CC.keep(hS:jR S)(hk:Keeps S w w'):∀ {xs:List Cst} {us:List Value},CC S w xs us->CC S w' xs us
  | [],_,h=>h
  | _ :: _,_,⟨vo,vn,vc,r,h1,h2,h4⟩=>⟨vo,vn,vc,r,h1,Row.keep h2 hS hk,CC.keep hS hk h4⟩
theorem CC.mono(hm:∀k,S w k->T w k):∀ {xs:List Cst} {us:List Value},CC S w xs us->CC T w xs us
  | [],_,h=>h
  | _ :: _,_,⟨vo,vn,vc,r,h1,h2,h4⟩=>⟨vo,vn,vc,r,h1,Row.mono h2 hm,CC.mono hm h4⟩
theorem CC.append:∀ {fs:List Cst} {us:List Value} {gs:List Cst} {vs:List Value},CC S w fs us->CC S w gs vs->CC S w (fs++gs) (us++vs)
  | [],_,_,_,h,k=>by
   have:_=[]:=h;subst this;exact k
  | _ :: _,_,_,_,⟨vo,vn,vc,r,h1,h2,h4⟩,k=>by
   subst h1;exact⟨vo,vn,vc,_,rfl,h2,CC.append h4 k⟩
theorem CC.len:∀ {xs:List Cst} {us:List Value},CC S w xs us->us.length=xs.length*9
  | [],_,h=>by
   have:_=[]:=h;subst this;rfl
  | _ :: xs,_,⟨vo,vn,vc,r,h1,_,h4⟩=>by
   subst h1;have:=CC.len h4;simp only[List.length_cons];omega
theorem CC.at:∀ {xs:List Cst} {us:List Value},CC S w xs us->∀ (i:Nat) (x:Cst),xs[i]? = some x->us[i*9]? = some (.string (stg x.name))/\(∃vo vn vc,us[i*9+1]? = some (.slice vo vn vc)/\StrL S w vo vn vc x.cands)/\us[i*9+2]? = some (.int .i64 x.method)/\us[i*9+3]? = some (.int .i64 x.seats)/\us[i*9+4]? = some (.int .i64 x.ranks)/\us[i*9+5]? = some (.int .i64 x.digits)/\us[i*9+6]? = some (.int .i64 x.ties)/\us[i*9+7]? = some (.int .i64 x.over)/\us[i*9+8]? = some (.int .i64 x.skip)
  | [],_,_,i,f,hf=>by simp at hf
  | g :: fs,_,⟨vo,vn,vc,r,h1,h2,h4⟩,0,f,hf=>by
   (have:g=f:=by simpa using hf);subst this;subst h1;exact⟨rfl,⟨vo,vn,vc,rfl,h2⟩,rfl,rfl,rfl,rfl,rfl,rfl,rfl⟩
  | g :: fs,_,⟨vo,vn,vc,r,h1,h2,h4⟩,i+1,f,hf=>by
   subst h1;have:=CC.at h4 i f (by simpa using hf);rw[show(i+1)*9=i*9+9 by omega];exact this
theorem CstS.keep(h:CstS S w ao n c xs)(hS:jR S)(hk:Keeps S w w'):CstS S w' ao n c xs:=by
 obtain⟨us,y,m⟩:=h;exact⟨us,y.keep hS hk,m.keep hS hk⟩
theorem CstS.mono(h:CstS S w ao n c xs)(hm:∀k,S w k->T w k):CstS T w ao n c xs:=by
 obtain⟨us,y,m⟩:=h;exact⟨us,y.mono hm,m.mono hm⟩
theorem CstS.len(h:CstS S w ao n c xs):xs.length=n:=by
 obtain⟨us,y,m⟩:=h;have a:=y.len;have b:=m.len;omega
theorem CstS.caps(h:CstS S w ao n c xs):n<=c/\c<=9223372036854775807:=by
 obtain⟨us,m,_⟩:=h;exact⟨m.cap,m.room⟩
theorem TC.keep(hS:jR S)(hk:Keeps S w w'):∀ {xs:List Sty} {us:List Value},TC S w xs us->TC S w' xs us
  | [],_,h=>h
  | _ :: _,_,⟨po,pn,pc,ko,kn,kc,r,h1,h2,h3,h4⟩=>⟨po,pn,pc,ko,kn,kc,r,h1,Row.keep h2 hS hk,Row.keep h3 hS hk,TC.keep hS hk h4⟩
theorem TC.mono(hm:∀k,S w k->T w k):∀ {xs:List Sty} {us:List Value},TC S w xs us->TC T w xs us
  | [],_,h=>h
  | _ :: _,_,⟨po,pn,pc,ko,kn,kc,r,h1,h2,h3,h4⟩=>⟨po,pn,pc,ko,kn,kc,r,h1,Row.mono h2 hm,Row.mono h3 hm,TC.mono hm h4⟩
theorem TC.append:∀ {fs:List Sty} {us:List Value} {gs:List Sty} {vs:List Value},TC S w fs us->TC S w gs vs->TC S w (fs++gs) (us++vs)
  | [],_,_,_,h,k=>by
   have:_=[]:=h;subst this;exact k
  | _ :: _,_,_,_,⟨po,pn,pc,ko,kn,kc,r,h1,h2,h3,h4⟩,k=>by
   subst h1;exact⟨po,pn,pc,ko,kn,kc,_,rfl,h2,h3,TC.append h4 k⟩
theorem TC.len:∀ {xs:List Sty} {us:List Value},TC S w xs us->us.length=xs.length*3
  | [],_,h=>by
   have:_=[]:=h;subst this;rfl
  | _ :: xs,_,⟨po,pn,pc,ko,kn,kc,r,h1,_,_,h4⟩=>by
   subst h1;have:=TC.len h4;simp only[List.length_cons];omega
theorem TC.at:∀ {xs:List Sty} {us:List Value},TC S w xs us->∀ (i:Nat) (x:Sty),xs[i]? = some x->us[i*3]? = some (.string (stg x.name))/\(∃po pn pc,us[i*3+1]? = some (.slice po pn pc)/\IntL .i64 S w po pn pc x.precs)/\∃ko kn kc,us[i*3+2]? = some (.slice ko kn kc)/\IntL .i64 S w ko kn kc x.conts
  | [],_,_,i,f,hf=>by simp at hf
  | g :: fs,_,⟨po,pn,pc,ko,kn,kc,r,h1,h2,h3,h4⟩,0,f,hf=>by
   (have:g=f:=by simpa using hf);subst this;subst h1;exact⟨rfl,⟨po,pn,pc,rfl,h2⟩,ko,kn,kc,rfl,h3⟩
  | g :: fs,_,⟨po,pn,pc,ko,kn,kc,r,h1,h2,h3,h4⟩,i+1,f,hf=>by
   subst h1;have:=TC.at h4 i f (by simpa using hf);rw[show(i+1)*3=i*3+3 by omega];exact this
theorem StyS.keep{xs:List Sty}(h:StyS S w ao n c xs)(hS:jR S)(hk:Keeps S w w'):StyS S w' ao n c xs:=by
 obtain⟨us,y,m⟩:=h;exact⟨us,y.keep hS hk,m.keep hS hk⟩
theorem StyS.mono{xs:List Sty}(h:StyS S w ao n c xs)(hm:∀k,S w k->T w k):StyS T w ao n c xs:=by
 obtain⟨us,y,m⟩:=h;exact⟨us,y.mono hm,m.mono hm⟩
theorem StyS.len{xs:List Sty}(h:StyS S w ao n c xs):xs.length=n:=by
 obtain⟨us,y,m⟩:=h;have a:=y.len;have b:=m.len;omega
theorem StyS.caps{xs:List Sty}(h:StyS S w ao n c xs):n<=c/\c<=9223372036854775807:=by
 obtain⟨us,m,_⟩:=h;exact⟨m.cap,m.room⟩
theorem CstS.get(h:CstS S w ao n c xs)(i:Nat)(hi:i<n):∃ (x:Cst) (a:Addr) (vo:Option Addr) (vn vc:Nat),xs[i]? = some x /\
    (∀W,(Instr.indexAt 27 (.slice ao n c) (.int .i64 (i:Int))).run Tryz.prog W=.ok (.pointer (some a)) W) /\
    w.cell? a=some (.string (stg x.name))/\w.cell? ⟨a.block,a.off+1,none⟩=some (.slice vo vn vc)/\w.cell? ⟨a.block,a.off+2,none⟩=some (.int .i64 x.method)/\w.cell? ⟨a.block,a.off+3,none⟩=some (.int .i64 x.seats)/\w.cell? ⟨a.block,a.off+4,none⟩=some (.int .i64 x.ranks)/\w.cell? ⟨a.block,a.off+5,none⟩=some (.int .i64 x.digits)/\w.cell? ⟨a.block,a.off+6,none⟩=some (.int .i64 x.ties)/\w.cell? ⟨a.block,a.off+7,none⟩=some (.int .i64 x.over)/\w.cell? ⟨a.block,a.off+8,none⟩=some (.int .i64 x.skip)/\StrL S w vo vn vc x.cands:=by
 obtain⟨x,y⟩:∃f,xs[i]? = some f:=⟨_,List.getElem?_eq_getElem (by rw[h.len];exact hi)⟩;obtain⟨us,m,hc⟩:=h;obtain⟨h0,⟨vo,vn,vc,G,hv⟩,h2,h3,Z,J,V,h7,H⟩:=hc.at i x y;exact⟨x,pt ao (i*9),vo,vn,vc,y,yQ Tryz.underlying27 (show(Tryz.prog.info? 76).map (·.size)=some 9 by kernel_rfl) m i hi,(m.cell _ _ h0).1,by rw[vP ao (i*9) 0];exact(m.cell _ _ G).1,by rw[vP ao (i*9) 1];exact(m.cell _ _ h2).1,by rw[vP ao (i*9) 2];exact(m.cell _ _ h3).1,by rw[vP ao (i*9) 3];exact(m.cell _ _ Z).1,by rw[vP ao (i*9) 4];exact(m.cell _ _ J).1,by rw[vP ao (i*9) 5];exact(m.cell _ _ V).1,by rw[vP ao (i*9) 6];exact(m.cell _ _ h7).1,by rw[vP ao (i*9) 7];exact(m.cell _ _ H).1,hv⟩
theorem StyS.get{xs:List Sty}(h:StyS S w ao n c xs)(i:Nat)(hi:i<n):∃ (x:Sty) (a:Addr) (po ko:Option Addr) (pn pc kn kc:Nat),xs[i]? = some x /\
    (∀W,(Instr.indexAt 28 (.slice ao n c) (.int .i64 (i:Int))).run Tryz.prog W=.ok (.pointer (some a)) W) /\
    w.cell? a=some (.string (stg x.name))/\w.cell? ⟨a.block,a.off+1,none⟩=some (.slice po pn pc)/\w.cell? ⟨a.block,a.off+2,none⟩=some (.slice ko kn kc)/\IntL .i64 S w po pn pc x.precs/\IntL .i64 S w ko kn kc x.conts:=by
 obtain⟨x,y⟩:∃f,xs[i]? = some f:=⟨_,List.getElem?_eq_getElem (by rw[h.len];exact hi)⟩;obtain⟨us,m,hc⟩:=h;obtain⟨H,⟨po,pn,pc,G,V⟩,ko,kn,kc,J,Z⟩:=hc.at i x y;exact⟨x,pt ao (i*3),po,ko,pn,pc,kn,kc,y,yQ Tryz.underlying28 (show(Tryz.prog.info? 60).map (·.size)=some 3 by kernel_rfl) m i hi,(m.cell _ _ H).1,by rw[vP ao (i*3) 0];exact(m.cell _ _ G).1,by rw[vP ao (i*3) 1];exact(m.cell _ _ J).1,V,Z⟩
end
structure ESl where
 po:Option Addr
 pn:Nat
 pc:Nat
 co:Option Addr
 cn:Nat
 cc:Nat
 so:Option Addr
 sn:Nat
 sc:Nat
 uo:Option Addr
 un:Nat
 uc:Nat
 dO:Option Addr
 dn:Nat
 dc:Nat
def eC(e:Elc)(s:ESl):List Value:=[.string (stg e.title),.int .i64 e.dots,.int .i64 e.blank,.int .i64 e.marked,.slice s.po s.pn s.pc,.slice s.co s.cn s.cc,.slice s.so s.sn s.sc,.int .i64 e.scanners,.int .i64 e.batch,.bool e.rneg,.slice s.uo s.un s.uc,.slice s.dO s.dn s.dc,.int .i64 e.cell,.string (stg e.seed)]
def eV(e:Elc)(s:ESl):Value:=.agg (eC e s).toArray
structure ElcS (S:World->Nat->Prop) (w:World) (e:Elc) (s:ESl):Prop where
 precs:StrL S w s.po s.pn s.pc e.precs
 conts:CstS S w s.co s.cn s.cc e.conts
 stys:StyS S w s.so s.sn s.sc e.stys
 num:IntL .u32 S w s.uo s.un s.uc e.rnum
 den:IntL .u32 S w s.dO s.dn s.dc e.rden
theorem ElcS.keep{S:World->Nat->Prop}{w w':World}{e:Elc}{s:ESl}(h:ElcS S w e s)(hS:jR S)(hk:Keeps S w w'):ElcS S w' e s :=
 ⟨Row.keep h.precs hS hk,h.conts.keep hS hk,h.stys.keep hS hk,Row.keep h.num hS hk,Row.keep h.den hS hk⟩
theorem ElcS.below{w w':World}{e:Elc}{s:ESl}(h:ElcS qU w e s)(hb:Below w.heap.size w w'):ElcS qU w' e s:=h.keep qJ (qD _ hb)
end Go.Proofs.YtkefajjcpcoajaaGreatDoor
namespace Go.Proofs.YtkefajjcpcoajaaGreatDoor.Lx
variable {v l:List UInt8}
theorem XG:∀ {l:List (List UInt8)} {j:Nat},l[j]? = some v->(∀t:Nat,t<j->l[t]?≠some v)->vt v l=some j
  | [],j,h,_=>by simp at h
  | u :: r,0,h,_=>by
   (have:u=v:=by simpa using h);rw[vt,if_pos this]
  | u :: r,j+1,h,k=>by
   (have m:u≠v:=λe=>k 0 (by omega) (by simpa using e));rw[vt,if_neg m,XG (by simpa using h) (λt y=>by have:=k (t+1) (by omega);simpa using this)];rfl
theorem Qj:∀ {l:List (List UInt8)},(∀t:Nat,l[t]?≠some v)->vt v l=none
  | [],_=>rfl
  | u :: r,k=>by
   (have hu:u≠v:=λe=>k 0 (by simpa using e));rw[vt,if_neg hu,Qj (λt=>by have:=k (t+1);simpa using this)];rfl
theorem XH{l:List (List UInt8)}{j:Nat}(h:l[j]? = some v)(k:∀t:Nat,t<j->l[t]?≠some v):jV l v=(j:Int):=by
 unfold jV;rw[XG h k]
theorem XI{l:List (List UInt8)}(k:∀t:Nat,l[t]?≠some v):jV l v=-1:=by
 unfold jV;rw[Qj k]
theorem ZY:∀ {l:List (List UInt8)} {j:Nat},vt v l=some j->l[j]? = some v
  | [],_,h=>by simp[vt] at h
  | u :: r,j,h=>by
   rw[vt] at h;by_cases hu:u=v
   . rw[if_pos hu] at h;injection h with h;subst h;simp[hu]
   . rw[if_neg hu] at h;obtain⟨k,hk,rfl⟩:=Option.map_eq_some_iff.1 h;simpa using ZY hk
theorem Jz(l:List (List UInt8))(v:List UInt8):(vt v l).isSome=l.contains v:=by
 induction l with
 | nil=>rfl
 | cons u r ih =>
  rw[vt,List.contains_cons];by_cases m:u=v
  . rw[if_pos m,m];simp
  . rw[if_neg m,Option.isSome_map,ih];(have:(v == u)=false:=by simpa using λe=>m e.symm);rw[this,Bool.false_or]
theorem ug(l:List (List UInt8))(v:List UInt8):decide (jV l v>=0)=l.contains v:=by
 rw[<- Jz];unfold jV;cases vt v l with
 | none=>rfl
 | some i =>
  show decide ((i:Int)>=0)=true;exact decide_eq_true (by omega)
theorem MS(l:List (List UInt8))(v:List UInt8) : -1<=jV l v:=by
 unfold jV;cases vt v l with
 | none=>exact Int.le_refl _
 | some i=>show(-1:Int)<=(i:Int);omega
theorem Bl(l:List (List UInt8))(v:List UInt8):max 0 (jV l v)=(((vt v l).getD 0:Nat):Int):=by
 unfold jV;cases vt v l with
 | none=>rfl
 | some i=>show max 0 (i:Int)=(i:Int);omega
theorem DJ(key v:List UInt8):xP key v<=3:=by
 unfold xP;cases h:vt v (jP key) with
 | none=>exact Nat.zero_le _
 | some i =>
  have y:=(List.getElem?_eq_some_iff.1 (ZY h)).1;have m:(jP key).length<=4:=by
   unfold jP
   repeat' split
   all_goals simp
  show i<=3;omega
theorem QK(h:kG l=false):xF l=(zv l||zg l):=by
 unfold xF;rw[if_neg];intro e;unfold kG at h;rw[h] at e;cases e
theorem Wp{c:UInt8}(h:zM c=true):decide (c.toNat=47)=false:=by
 apply decide_eq_false;intro e;unfold zM vx kz at h;rw[e] at h;revert h;decide
theorem J7(h:zv l=true):kG l=false:=by
 have:=JC h;unfold kG;rw[List.any_eq_false];intro c m;have:=List.all_eq_true.1 this c m;rw[Wp this];decide
theorem DM(h:zg l=true):kG l=false:=by
 have:=Xv h;unfold kG;rw[List.any_eq_false];intro c m;have:=List.all_eq_true.1 this c m;rw[Wp this];decide
theorem J8(h:xF l=true):∃c r,l=c :: r:=by
 cases l with
 | nil=>simp[xF,zv,zg] at h
 | cons c r=>exact⟨c,r,rfl⟩
theorem WA{c:UInt8}{r:List UInt8}(h:xF (c :: r)=true):decide (97<=c.toNat)=zv (c :: r):=by
 have V:∀ {l:List UInt8},kz c=true->zg (c :: l)=true->decide (97<=c.toNat)=false:=by
  intro l J _;unfold kz at J;rw[Bool.and_eq_true,decide_eq_true_eq,decide_eq_true_eq] at J;exact decide_eq_false (by omega)
 by_cases H:kG (c :: r)=true
 . have m:zv (c :: r)=false:=by
    cases m:zv (c :: r) with
    | false=>rfl
    | true=>rw[J7 m] at H;cases H
   rw[m];unfold xF at h;unfold kG at H;rw[if_pos H,Bool.and_eq_true] at h;by_cases G:c.toNat=47
   . rw[List.takeWhile_cons,if_neg (by simp[G])] at h;simp[zg] at h
   . rw[List.takeWhile_cons,if_pos (by simp[G])] at h;have y:=h.1;unfold zg at y;rw[Bool.and_eq_true,Bool.and_eq_true,List.all_cons,Bool.and_eq_true] at y;exact V (l:=[]) y.1.1.1 (by simp[zg,y.1.1.1])
 . rw[QK (by simpa using H)] at h;cases m:zv (c :: r) with
   | true =>
    unfold zv vx at m;rw[Bool.and_eq_true,Bool.and_eq_true] at m;exact m.1.1
   | false =>
    rw[m,Bool.false_or] at h;have y:=h;unfold zg at y;rw[Bool.and_eq_true,Bool.and_eq_true,List.all_cons,Bool.and_eq_true] at y;exact V (l:=r) y.1.1.1 h
def geA:List UInt8->Bool
  | []=>false
  | c :: _=>decide (97<=c.toNat)
def ltA:List UInt8->Bool
  | []=>false
  | c :: _=>decide (c.toNat<97)
theorem Ph(l:List UInt8):zg l=(xF l&&ltA l && !kG l):=by
 cases m:zg l with
 | true =>
  have y:=DM m;rw[QK y,m,y,Bool.or_true];cases l with
  | nil=>simp[zg] at m
  | cons c r =>
   unfold zg at m;rw[Bool.and_eq_true,Bool.and_eq_true,List.all_cons,Bool.and_eq_true] at m;have H:=m.1.1.1;unfold kz at H;rw[Bool.and_eq_true,decide_eq_true_eq,decide_eq_true_eq] at H;simp[ltA];omega
 | false =>
  cases y:kG l with
  | true=>simp
  | false =>
   rw[QK y,m,Bool.or_false];cases G:zv l with
   | false=>rfl
   | true =>
    cases l with
    | nil=>rfl
    | cons c r =>
     unfold zv vx at G;simp only[Bool.and_eq_true,decide_eq_true_eq] at G;(have:¬ c.toNat<97:=by omega);simp[ltA,this]
theorem MT(l:List UInt8):zv l=(xF l&&geA l):=by
 cases m:xF l with
 | true =>
  obtain⟨c,r,rfl⟩:=J8 m;rw[Bool.true_and];exact(WA m).symm
 | false =>
  rw[Bool.false_and];cases y:zv l with
  | false=>rfl
  | true =>
   rw[QK (J7 y),y] at m;cases m
theorem gS(h:yC l=true):zg (ku l)=true/\zg (kY l)=true:=by
 unfold yC at h;rw[Bool.and_eq_true] at h;obtain⟨m,y⟩:=h;unfold xF at m;unfold kG at y;rw[if_pos y,Bool.and_eq_true] at m;exact m
theorem Wq(h:zg l=true):l.length<=6:=by
 cases l with
 | nil=>simp
 | cons c r =>
  unfold zg at h;rw[Bool.and_eq_true,Bool.and_eq_true,decide_eq_true_eq] at h;have:=h.1.2;simp only[List.length_cons];omega
theorem Wr(h:zg l=true):∀c∈l,48<=c.toNat/\c.toNat<=57:=by
 intro c m;cases l with
 | nil=>cases m
 | cons d r =>
  unfold zg at h;rw[Bool.and_eq_true,Bool.and_eq_true] at h;have:=List.all_eq_true.1 h.1.1 c m;unfold kz at this;rw[Bool.and_eq_true,decide_eq_true_eq,decide_eq_true_eq] at this;exact this
theorem Bm:∀ (l:List UInt8) (n k:Nat),(∀c∈l,48<=c.toNat/\c.toNat<=57)->n+1<=k->l.foldl (λn c=>10*n+(c.toNat-48)) n+1<=(10:Nat) ^ l.length*k:=by
 intro l;induction l with
 | nil=>intro n k _ h;simp;omega
 | cons c r ih =>
  intro n k m h;have G:=m c (List.mem_cons_self ..);have:=ih (10*n+(c.toNat-48)) (10*k) (λd y=>m d (List.mem_cons_of_mem _ y)) (by omega);rw[List.foldl_cons,List.length_cons,Nat.pow_succ];have e:(10:Nat) ^ r.length*(10*k)=(10:Nat) ^ r.length*10*k:=by rw[Nat.mul_assoc]
  omega
theorem uh(h:zg l=true):zz l<=999999:=by
 have y:=Bm l 0 1 (Wr h) (by omega);have m:(10:Nat) ^ l.length<=10 ^ 6:=Nat.pow_le_pow_right (by omega) (Wq h);unfold zz;omega
end Go.Proofs.YtkefajjcpcoajaaGreatDoor.Lx
namespace Go.Proofs.YtkefajjcpcoajaaGreatDoor
open Go.RowKit Lx
variable {S:World->Nat->Prop}
theorem Yh(u:List UInt8):((stg u).toList == (stg u).toList)=true:=beq_self_eq_true _
theorem Yi{u v:List UInt8}(h:u≠v):((stg u).toList == (stg v).toList)=false:=by rw[kq,decide_eq_false h]
theorem j9(u:List UInt8):((stg u).toList == u)=true:=by rw[ByteArray.toList_eq];exact beq_self_eq_true _
theorem jh{u v:List UInt8}(h:u≠v):((stg u).toList == v)=false:=by rw[ByteArray.toList_eq];exact beq_eq_false_iff_ne.2 h
theorem J9(vs:List (List UInt8))(x:List UInt8)(ao:Option Addr)(n c:Nat)(w:World)(h:StrL S w ao n c vs) :
    Calls Tryz.prog 175 #[.slice ao n c,.string (stg x)] w λe w'=>e=.returned (.int .i64 (jV vs x))/\w=w':=by
 have a3:=Row.cap h;have a0:=Row.room h;have y:=jA (StrL.len h);obtain⟨X,hX⟩:=jx1 (stg x);rw[hX.o];have H:=jA h;clear h;go_in;go_wp2_with fail;go_loopw [8] (λi wr=>∃j:Nat,j<=n/\i=.int .i64 (j:Int)/\w=wr/\Hid (∀t:Nat,t<j->vs[t]?≠some x)) (λi _=>n-(intOf i).toNat)
 case atStart=>exact⟨0,Nat.zero_le _,rfl,rfl,λt ht=>absurd ht (by omega)⟩
 case round =>
  obtain⟨j,hj,rfl,rfl,HZ⟩:=hrel;by_cases a1:j<n
  . (have G:(j:Int)<(n:Int):=by omega);obtain⟨v,a,J,i1,c1⟩:=StrL.get H.o j a1;have J:=jA J;by_cases m:x=v
    . (have Z:(X.toList == (stg v).toList)=true:=by rw[<- hX.o,m];exact Yh v);obtain⟨V,hV⟩:=jx1 (stg v);rw[hV.o] at c1 Z;have hR:Hid (jV vs x=(j:Int)):=XH (by rw[J.o,m]) HZ.o;clear m;go_wp2_with fail;go_ret;exact⟨by rw[hR.o];rfl,rfl⟩
    . (have Z:(X.toList == (stg v).toList)=false:=by rw[<- hX.o];exact Yi m);obtain⟨V,hV⟩:=jx1 (stg v);rw[hV.o] at c1 Z;have a2:Hid (∀t:Nat,t<j+1->vs[t]?≠some x):=by
       intro t ht e;by_cases h1:t=j
       . rw[h1,J.o] at e;injection e with e;exact m e.symm
       . exact HZ.o t (by omega) e
      clear m;go_wp2_with fail;go_roundw;(case rel=>exact⟨j+1,by omega,by go_num,by trivial,a2⟩);case measure=>simp[intOf];omega
  . (have G:¬ (j:Int)<(n:Int):=by omega);have hR:Hid (jV vs x=-1):=XI λt e=>by
     have:=(List.getElem?_eq_some_iff.1 e).1;have:=y.o;exact HZ.o t (by omega) e
    go_wp2_with fail;go_ret;exact⟨by rw[hR.o];rfl,rfl⟩
theorem vw(vs:List (List UInt8))(x:List UInt8)(ao:Option Addr)(n c:Nat)(w:World)(h:StrL S w ao n c vs) :
    Calls Tryz.prog 116 #[.slice ao n c,.string (stg x)] w λe w'=>e=.returned (.bool (vs.contains x))/\w=w':=by
 have m:=jA (J9 vs x ao n c w h);have y:=jA (ug vs x);obtain⟨R,G⟩:=jx1 (jV vs x);rw[G.o] at m y;clear h;go_in;go_wp2_with fail;refine m.o.mono ?_;rintro e H ⟨rfl,rfl⟩;go_wp2_with fail;go_ret;exact⟨by rw[<- y.o];rfl,rfl⟩
theorem Jf(vs:List (List UInt8))(i:Int)(ao:Option Addr)(n c:Nat)(w:World)(h:StrL S w ao n c vs) :
    Calls Tryz.prog 123 #[.slice ao n c,.int .i64 i] w λe w'=>e=.returned (.string (stg (if 0<=i then (vs[i.toNat]?).getD [] else [])))/\w=w':=by
 have m:=jA (StrL.len h);have G:=Row.cap h;have y:=Row.room h;by_cases H:i<0;have b0:decide (i<0)=true:=decide_eq_true H;rw[if_neg (by omega)];clear h
 rotate_left
 have b0:decide (i<0)=false:=decide_eq_false H;rw[if_pos (by omega)];obtain⟨k,rfl⟩:∃k:Nat,i=k:=⟨i.toNat,by omega⟩;rw[Int.toNat_natCast];by_cases Z:k<n;have b1:decide (n<=k)=false:=decide_eq_false (by omega);have b2:decide ((n:Int)<=(k:Int))=false:=decide_eq_false (by omega);obtain⟨v,a,J,i1,c1⟩:=StrL.get h k Z;rw[J];show Calls _ _ _ _ λe w'=>e=.returned (.string (stg v))/\w=w'
 obtain⟨V,hV⟩:=jx1 (stg v);rw[hV.o] at c1 |-;clear h J
 rotate_left
 have b1:decide (n<=k)=true:=decide_eq_true (by omega);have b2:decide ((n:Int)<=(k:Int))=true:=decide_eq_true (by omega);have h2:n<=k:=by omega
 rw[List.getElem?_eq_none (by rw[m.o];omega)];clear h
 rotate_left
 all_goals
   go_in;go_wp2_with fail;go_ret;exact⟨rfl,rfl⟩
