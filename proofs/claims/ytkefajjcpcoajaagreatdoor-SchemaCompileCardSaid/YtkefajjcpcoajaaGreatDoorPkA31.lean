/- -/
import Derived.Test.YtkefajjcpcoajaaGreatDoorPkA0
import Derived.Test.YtkefajjcpcoajaaGreatDoorPkA29
import Derived.Test.YtkefajjcpcoajaaGreatDoorPkA30
set_option linter.all false
set_option maxRecDepth 100000
set_option maxHeartbeats 12800000
namespace Go.Proofs.YtkefajjcpcoajaaGreatDoor
open Go.RowKit Lx
theorem JF{r:jj}(h:r∈zf):r.kind.length<=1000/\r.key.length<=1000:=by
 have:∀q∈zf,q.kind.length<=1000/\q.key.length<=1000:=by decide
 exact this r h
theorem PO(f0:zC)(r:jj)(hr:zi qF f0.key=some r)(vo:Option Addr)(vn vc:Nat)(c:Cst)(co:Option Addr)(cn cc:Nat)(D:List Value)(f:Nat×Int)(g gc:Nat)(w:World)(hv:StrL (neF g) w vo vn vc f0.vals)(hsz:∀v∈f0.vals,v.length<=1000000)(hn:vn<=4000000)(h:St w g D f)(A:Arr w gc 76 (kC c co cn cc))(hgc:gc≠g) :
    Calls Tryz.prog 72 #[.pointer (some ⟨g,0,none⟩),.pointer (some ⟨gc,0,none⟩),vF (stg f0.key) vo vn vc f0.line] w λx w'=>x=.returned (.tuple #[])/\(∃w1,w.grownBy w1 (some g)/\w1.grownBy w' (some gc))/\St w' g D (z7 f (xi r f0.vals) f0.line)/\∃c' co' cn' cc',Arr w' gc 76 (kC c' co' cn' cc')/\((c'.cands=c.cands/\co'=co/\cn'=cn/\cc'=cc)\/StrL (qS w.heap.size [9]) w' co' cn' cc' c'.cands)/\(xi r f0.vals=0->c'=Vu f0 c):=by
 obtain⟨k,vs,l⟩:=f0;obtain⟨h1,h2,h3⟩:=yH hr;dsimp only at h2 hv hsz |-;subst h2;clear hr;obtain⟨J,y⟩:∃K,Hid (stg r.key=K):=⟨_,rfl⟩;show Calls Tryz.prog 72 #[.pointer (some ⟨g,0,none⟩),.pointer (some ⟨gc,0,none⟩),.agg #[.string (stg r.key),.slice vo vn vc,.int .i64 l]] w _;rw[y.o];obtain⟨U,e1,AU,BU,hz⟩:=qG w 63 [.string J,.slice vo vn vc,.int .i64 l];obtain⟨y0,y1,y2⟩:=AU.c3;have hU:Hid (w.heap.size<=U.heap.size):=BU.size;have GU:=jA (zH BU (some g));have SU:=jA (h.keep BU);have a0:=jA (Row.keep hv (ky g) (qD _ BU));have a3:=jA (Row.mono a0.o λ_ _=>trivial:StrL qU U vo vn vc vs);replace hsz:=jA hsz;have HN:=jA λlo hi LO HI e1 H=>Md J vs vo vn vc l lo hi LO HI e1 H _ f g U a3.o hsz.o SU.o
 have HL:=jA λm MO e1=>Xq J vs vo vn vc l m MO e1 _ f g U a0.o hsz.o hn SU.o
 unfold vF at HN HL;have hA:=jA (A.kept BU);have a1:=jA h.lt;have b0:(J.toList == [109,101,116,104,111,100])=decide (r.key=zG):=by rw[<- y.o];exact xN _ zG
 have b1:(J.toList == [115,101,97,116,115])=decide (r.key=zO):=by rw[<- y.o];exact xN _ zO
 have b2:(J.toList == [114,97,110,107,115])=decide (r.key=kp):=by rw[<- y.o];exact xN _ kp
 have b3:(J.toList == [100,105,103,105,116,115])=decide (r.key=qY):=by rw[<- y.o];exact xN _ qY
 have b4:(J.toList == [116,105,101,115])=decide (r.key=xO):=by rw[<- y.o];exact xN _ xO
 have b5:(J.toList == [111,118,101,114,118,111,116,101])=decide (r.key=zj):=by rw[<- y.o];exact xN _ zj
 have b6:(J.toList == [115,107,105,112])=decide (r.key=kX):=by rw[<- y.o];exact xN _ kX
 have HC:Hid (∀key ws,jP key=[] :: ws->([]:List UInt8)∉ws->0<ws.length->ws.length<=100->ws.length<=1000->∃G,U.alloc (.cells (ws.map λv=>Value.string (stg v)).toArray 9)=G/\∃n:Int,Hid (jC 125 #[.pointer (some ⟨g,0,none⟩),.agg #[.string J,.slice vo vn vc,.int .i64 l],.slice (some ⟨U.heap.size,0,none⟩) ws.length ws.length] G λx w'=>x=.returned (.int .i64 n)/\St w' g D (z7 f (jt vs (chE ws)) l)/\G.grownBy w' (some g))/\Hid (((xP key (vD vs):Nat):Int)=n)/\Hid (w.grownBy G (some g))/\Hid (Arr G gc 76 (kC c co cn cc))):=λkey ws hw h0 l0 l1 l2=>by
  obtain⟨G,H,SL,BV⟩:=kQ U ws l0 l1;refine⟨G,H,jV ws (vD vs)+1,?_,(Wa hw h0 (vD vs)).1,qC GU.o (zH BV (some g)),hA.o.kept BV⟩;exact Gl J vs ws vo vn vc _ _ _ l _ f g G (Row.mono (Row.keep a0.o (ky g) (qD _ BV)) λ_ _=>trivial) (Row.mono SL (λk hk=>by have h1:U.heap.size<=k:=hk.1;have:=hU.o;have:=a1.o;show k≠g;omega)) l2 (SU.o.keep BV)
 clear h hv AU BU hz A;unfold zf at h3;simp only[List.mem_cons,List.not_mem_nil,or_false] at h3;rcases h3 with rfl|rfl|rfl|rfl|rfl|rfl|rfl|rfl|rfl|rfl|rfl|rfl|rfl|rfl|rfl|rfl|rfl|rfl|rfl<;>first|exact absurd h1 (by decide)|skip
 all_goals first|replace b0:=b0.trans (by decide:_=true)|replace b0:=b0.trans (by decide:_=false)
 all_goals first|replace b1:=b1.trans (by decide:_=true)|replace b1:=b1.trans (by decide:_=false)
 all_goals first|replace b2:=b2.trans (by decide:_=true)|replace b2:=b2.trans (by decide:_=false)
 all_goals first|replace b3:=b3.trans (by decide:_=true)|replace b3:=b3.trans (by decide:_=false)
 all_goals first|replace b4:=b4.trans (by decide:_=true)|replace b4:=b4.trans (by decide:_=false)
 all_goals first|replace b5:=b5.trans (by decide:_=true)|replace b5:=b5.trans (by decide:_=false)
 all_goals first|replace b6:=b6.trans (by decide:_=true)|replace b6:=b6.trans (by decide:_=false)
 rw[gw (ws:=[MN,Wn,QH]) rfl rfl (by decide)];have HZ:=jA (US (gc:=gc) (c:=c) (co:=co) (cn:=cn) (cc:=cc) (λn=>{ c with method:=n }) 2 _ (λ_=>rfl) rfl);obtain⟨G,H,n,HI,V,GU,AC⟩:=HC.o zG [MN,Wn,QH] rfl (by decide) (by decide) (by decide) (by decide);replace H:U.alloc (.cells #[.string ⟨#[105,114,118]⟩,.string ⟨#[109,101,101,107]⟩,.string ⟨#[103,114,101,103,111,114,121]⟩] 9)=G:=H
 rotate_left
 rw[xW rfl];have HZ:=jA (US (gc:=gc) (c:=c) (co:=co) (cn:=cn) (cc:=cc) (λn=>{ c with seats:=n }) 3 _ (λ_=>rfl) rfl)
 rotate_left
 rw[xW rfl];have HZ:=jA (US (gc:=gc) (c:=c) (co:=co) (cn:=cn) (cc:=cc) (λn=>{ c with ranks:=n }) 4 _ (λ_=>rfl) rfl)
 rotate_left
 rw[xW rfl];have HZ:=jA (US (gc:=gc) (c:=c) (co:=co) (cn:=cn) (cc:=cc) (λn=>{ c with digits:=n }) 5 _ (λ_=>rfl) rfl)
 rotate_left
 rw[gw (ws:=[uf,wh,MP]) rfl rfl (by decide)];have HZ:=jA (US (gc:=gc) (c:=c) (co:=co) (cn:=cn) (cc:=cc) (λn=>{ c with ties:=n }) 6 _ (λ_=>rfl) rfl);obtain⟨G,H,n,HI,V,GU,AC⟩:=HC.o xO [uf,wh,MP] rfl (by decide) (by decide) (by decide) (by decide);replace H:U.alloc (.cells #[.string ⟨#[98,97,99,107,119,97,114,100,115]⟩,.string ⟨#[102,111,114,119,97,114,100,115]⟩,.string ⟨#[108,111,116]⟩] 9)=G:=H
 rotate_left
 rw[gw (ws:=[ZF,kX]) rfl rfl (by decide)];have HZ:=jA (US (gc:=gc) (c:=c) (co:=co) (cn:=cn) (cc:=cc) (λn=>{ c with over:=n }) 7 _ (λ_=>rfl) rfl);obtain⟨G,H,n,HI,V,GU,AC⟩:=HC.o zj [ZF,kX] rfl (by decide) (by decide) (by decide) (by decide);replace H:U.alloc (.cells #[.string ⟨#[115,116,111,112]⟩,.string ⟨#[115,107,105,112]⟩] 9)=G:=H
 rotate_left
 rw[gw (ws:=[VP,ZF,MQ]) rfl rfl (by decide)];have HZ:=jA (US (gc:=gc) (c:=c) (co:=co) (cn:=cn) (cc:=cc) (λn=>{ c with skip:=n }) 8 _ (λ_=>rfl) rfl);obtain⟨G,H,n,HI,V,GU,AC⟩:=HC.o kX [VP,ZF,MQ] rfl (by decide) (by decide) (by decide) (by decide);replace H:U.alloc (.cells #[.string ⟨#[99,108,111,115,101]⟩,.string ⟨#[115,116,111,112]⟩,.string ⟨#[116,119,111]⟩] 9)=G:=H
 rotate_left
 rw[wa rfl rfl];all_goals
   clear h1;(try simp only[List.length_cons,List.length_nil,Nat.zero_add,Nat.reduceAdd] at HI);go_in;go_wp2_with (first
     | (go_at_call 126;(first|(with_reducible refine(HN.o 1 5 1 5 rfl rfl).mono ?_)|(with_reducible refine(HN.o 1 7 1 7 rfl rfl).mono ?_)|(with_reducible refine(HN.o 1 6 1 6 rfl rfl).mono ?_));rintro x w1 ⟨n,rfl,S1,G1,a2⟩;have A1:=kl hA.o G1 hgc;obtain⟨Z,m5,AZ,GZ,z0,z1⟩:=HZ.o n _ A1)
     | (go_at_call 125;(with_reducible refine HI.o.mono ?_);rintro x w1 ⟨rfl,S1,G1⟩;have A1:=kl AC.o G1 hgc;obtain⟨Z,m5,AZ,GZ,z0,z1⟩:=HZ.o n _ A1)
     | (go_at_call 73;(with_reducible refine(HL.o 7 7 rfl).mono ?_);rintro x w1 ⟨ro,m,d,rfl,S1,G1,L1⟩;have A1:=kl hA.o G1 hgc;obtain⟨Z,m5,AZ,GZ,z0,z1⟩:=wZ A1 1 (.slice ro m d) (.slice co cn cc) rfl)
     | fail)
   go_end0
   first
     | exact⟨rfl,⟨w1,qC GU.o G1,GZ⟩,S1.gr GZ (λe=>hgc e.symm),_,co,cn,cc,AZ,Or.inl ⟨rfl,rfl,rfl,rfl⟩,λh0=>by first|(rw[a2 h0,wY (vS h0).1];rfl)|(rw[<- V.o,wY (vS h0).1];rfl)⟩
     | exact⟨rfl,⟨w1,qC GU.o G1,GZ⟩,S1.gr GZ (λe=>hgc e.symm),{ c with cands:=vs },ro,m,d,AZ,Or.inr (Row.mono (Row.keep L1 (qE _ _) (zD A1 (by decide) GZ)) (je (Fs:=[9]) hU.o (λ_ h=>h))),λh0=>rfl⟩
theorem Ft(kind:List UInt8)(hk1:kind≠qF)(hk2:kind≠qI)(f0:zC)(r:jj)(hr:zi kind f0.key=some r)(vo:Option Addr)(vn vc:Nat)(e:Elc)(s:ESl)(T3:List Value)(hT3:T3.length=3)(f:Nat×Int)(g:Nat)(w:World)(hv:StrL (neF g) w vo vn vc f0.vals)(hsz:∀v∈f0.vals,v.length<=1000000)(hn:vn<=4000000)(h:St w g (eC e s++T3) f) :
    Calls Tryz.prog 74 #[.pointer (some ⟨g,0,none⟩),.string (stg kind),vF (stg f0.key) vo vn vc f0.line] w λx w'=>x=.returned (.tuple #[])/\w.grownBy w' (some g)/\∃e' s',St w' g (eC e' s'++T3) (z7 f (xi r f0.vals) f0.line)/\Upd w w' e s e' s'/\(xi r f0.vals=0->e'=Xm kind f0 e):=by
 obtain⟨k,vs,l⟩:=f0;obtain⟨h1,h2,h3⟩:=yH hr;dsimp only at h2 hv hsz |-;subst h2;subst h1;clear hr;obtain⟨H,G⟩:∃K,Hid (stg r.key=K):=⟨_,rfl⟩;obtain⟨J,y⟩:∃K,Hid (stg r.kind=K):=⟨_,rfl⟩;show Calls Tryz.prog 74 #[.pointer (some ⟨g,0,none⟩),.string (stg r.kind),.agg #[.string (stg r.key),.slice vo vn vc,.int .i64 l]] w _;rw[G.o];rw[y.o];obtain⟨U,e1,AU,BU,hz⟩:=qG w 63 [.string H,.slice vo vn vc,.int .i64 l];obtain⟨y0,y1,y2⟩:=AU.c3;have hU:Hid (w.heap.size<=U.heap.size):=BU.size;have GU:=jA (zH BU (some g));have SU:=jA (h.keep BU);have a2:=jA (Row.keep hv (ky g) (qD _ BU));have a1:=jA (Row.mono a2.o λ_ _=>trivial:StrL qU U vo vn vc vs);replace hsz:=jA hsz;have HN:=jA λlo hi LO HI e1 e2=>Md H vs vo vn vc l lo hi LO HI e1 e2 _ f g U a1.o hsz.o SU.o
 have HL:=jA λm MO e1=>Xq H vs vo vn vc l m MO e1 _ f g U a2.o hsz.o hn SU.o
 unfold vF at HN HL;have sA:J.size<=1000:=by rw[<- y.o,kt];exact(JF h3).1
 have sB:H.size<=1000:=by rw[<- G.o,kt];exact(JF h3).2
 have HK:=jA (NX H vs vo vn vc l _ f g U a1.o hsz.o SU.o);have HD:=jA (NV H vs vo vn vc l _ f g U a1.o hsz.o SU.o);unfold vF at HK HD;have b0:((J++(⟨#[32]⟩:ByteArray)++H).toList == [115,99,97,110,32,100,111,116,115])=decide (r.kind++[32]++r.key=[115,99,97,110,32,100,111,116,115]):=by rw[<- y.o,<- G.o];exact Xr _ _ _
 have b1:((J++(⟨#[32]⟩:ByteArray)++H).toList == [115,99,97,110,32,98,108,97,110,107])=decide (r.kind++[32]++r.key=[115,99,97,110,32,98,108,97,110,107]):=by rw[<- y.o,<- G.o];exact Xr _ _ _
 have b2:((J++(⟨#[32]⟩:ByteArray)++H).toList == [115,99,97,110,32,109,97,114,107,101,100])=decide (r.kind++[32]++r.key=[115,99,97,110,32,109,97,114,107,101,100]):=by rw[<- y.o,<- G.o];exact Xr _ _ _
 have b3:((J++(⟨#[32]⟩:ByteArray)++H).toList == [115,99,97,110,110,101,114,115,32,99,111,117,110,116])=decide (r.kind++[32]++r.key=[115,99,97,110,110,101,114,115,32,99,111,117,110,116]):=by rw[<- y.o,<- G.o];exact Xr _ _ _
 have b4:((J++(⟨#[32]⟩:ByteArray)++H).toList == [115,99,97,110,110,101,114,115,32,98,97,116,99,104])=decide (r.kind++[32]++r.key=[115,99,97,110,110,101,114,115,32,98,97,116,99,104]):=by rw[<- y.o,<- G.o];exact Xr _ _ _
 have b5:((J++(⟨#[32]⟩:ByteArray)++H).toList == [112,114,101,99,105,110,99,116,115,32,110,97,109,101,115])=decide (r.kind++[32]++r.key=[112,114,101,99,105,110,99,116,115,32,110,97,109,101,115]):=by rw[<- y.o,<- G.o];exact Xr _ _ _
 have b6:((J++(⟨#[32]⟩:ByteArray)++H).toList == [97,117,100,105,116,32,114,105,115,107])=decide (r.kind++[32]++r.key=[97,117,100,105,116,32,114,105,115,107]):=by rw[<- y.o,<- G.o];exact Xr _ _ _
 have b7:((J++(⟨#[32]⟩:ByteArray)++H).toList == [97,117,100,105,116,32,115,101,101,100])=decide (r.kind++[32]++r.key=[97,117,100,105,116,32,115,101,101,100]):=by rw[<- y.o,<- G.o];exact Xr _ _ _
 have b8:((J++(⟨#[32]⟩:ByteArray)++H).toList == [112,114,105,118,97,99,121,32,99,101,108,108])=decide (r.kind++[32]++r.key=[112,114,105,118,97,99,121,32,99,101,108,108]):=by rw[<- y.o,<- G.o];exact Xr _ _ _
 clear h hv AU BU hz;unfold zf at h3;simp only[List.mem_cons,List.not_mem_nil,or_false] at h3;rcases h3 with rfl|rfl|rfl|rfl|rfl|rfl|rfl|rfl|rfl|rfl|rfl|rfl|rfl|rfl|rfl|rfl|rfl|rfl|rfl<;>first|exact absurd rfl hk1|exact absurd rfl hk2|skip
 all_goals first|replace b0:=b0.trans (by decide:_=true)|replace b0:=b0.trans (by decide:_=false)
 all_goals first|replace b1:=b1.trans (by decide:_=true)|replace b1:=b1.trans (by decide:_=false)
 all_goals first|replace b2:=b2.trans (by decide:_=true)|replace b2:=b2.trans (by decide:_=false)
 all_goals first|replace b3:=b3.trans (by decide:_=true)|replace b3:=b3.trans (by decide:_=false)
 all_goals first|replace b4:=b4.trans (by decide:_=true)|replace b4:=b4.trans (by decide:_=false)
 all_goals first|replace b5:=b5.trans (by decide:_=true)|replace b5:=b5.trans (by decide:_=false)
 all_goals first|replace b6:=b6.trans (by decide:_=true)|replace b6:=b6.trans (by decide:_=false)
 all_goals first|replace b7:=b7.trans (by decide:_=true)|replace b7:=b7.trans (by decide:_=false)
 all_goals first|replace b8:=b8.trans (by decide:_=true)|replace b8:=b8.trans (by decide:_=false)
 rw[xW rfl];have HZ:=jA (St.setE (g:=g) (f:=z7 f (jt vs (gJ 2 7)) l) (e:=e) (s:=s) (T3:=T3) (λn=>{ e with dots:=n }) 1 (by decide) _ (λ_=>rfl) rfl)
 rotate_left
 rw[xW rfl];have HZ:=jA (St.setE (g:=g) (f:=z7 f (jt vs (gJ 1 100)) l) (e:=e) (s:=s) (T3:=T3) (λn=>{ e with blank:=n }) 2 (by decide) _ (λ_=>rfl) rfl)
 rotate_left
 rw[xW rfl];have HZ:=jA (St.setE (g:=g) (f:=z7 f (jt vs (gJ 1 100)) l) (e:=e) (s:=s) (T3:=T3) (λn=>{ e with marked:=n }) 3 (by decide) _ (λ_=>rfl) rfl)
 rotate_left
 rw[xW rfl];have HZ:=jA (St.setE (g:=g) (f:=z7 f (jt vs (gJ 1 6)) l) (e:=e) (s:=s) (T3:=T3) (λn=>{ e with scanners:=n }) 7 (by decide) _ (λ_=>rfl) rfl)
 rotate_left
 rw[xW rfl];have HZ:=jA (St.setE (g:=g) (f:=z7 f (jt vs (gJ 1 16)) l) (e:=e) (s:=s) (T3:=T3) (λn=>{ e with batch:=n }) 8 (by decide) _ (λ_=>rfl) rfl)
 rotate_left
 rw[wa rfl rfl]
 rotate_left
 rw[UY rfl]
 rotate_left
 rw[UZ rfl]
 rotate_left
 rw[xW rfl];have HZ:=jA (St.setE (g:=g) (f:=z7 f (jt vs (gJ 1 400)) l) (e:=e) (s:=s) (T3:=T3) (λn=>{ e with cell:=n }) 12 (by decide) _ (λ_=>rfl) rfl)
 rotate_left
 all_goals
   clear hk1 hk2;go_in;go_wp2_with (first
     | (go_at_call 126;(first|(with_reducible refine(HN.o 2 7 2 7 rfl rfl).mono ?_)|(with_reducible refine(HN.o 1 100 1 100 rfl rfl).mono ?_)|(with_reducible refine(HN.o 1 6 1 6 rfl rfl).mono ?_)|(with_reducible refine(HN.o 1 16 1 16 rfl rfl).mono ?_)|(with_reducible refine(HN.o 1 400 1 400 rfl rfl).mono ?_));rintro x w1 ⟨n,rfl,Z,G1,a0⟩;obtain⟨V,m5,SV,GV,z0,z1⟩:=HZ.o n _ Z)
     | (go_at_call 73;(with_reducible refine(HL.o 12 12 rfl).mono ?_);rintro x w1 ⟨ro,m,d,rfl,Z,G1,L1⟩;obtain⟨V,m5,SV,GV,z0,z1⟩:=Z.setD 4 (by decide) (.slice ro m d) (.slice s.po s.pn s.pc) rfl)
     | (go_at_call 128;(with_reducible refine HK.o.mono ?_);rintro x w1 ⟨uo,un,uc,dO,dn,dc,N,M,rfl,Z,G1,L1,L2,a0⟩;obtain⟨V1,m5,S2,a4,z0,z1⟩:=Z.setD 9 (by decide) (.bool false) (.bool e.rneg) rfl;obtain⟨V2,m6,S3,a3,z2,z3⟩:=S2.setD 10 (by decide) (.slice uo un uc) (.slice s.uo s.un s.uc) rfl;obtain⟨V,m7,SV,a5,z4,z5⟩:=S3.setD 11 (by decide) (.slice dO dn dc) (.slice s.dO s.dn s.dc) rfl;have GV:=qC a4 (qC a3 a5))
     | (go_at_call 129;(with_reducible refine HD.o.mono ?_);rintro x w1 ⟨rfl,Z,G1⟩;obtain⟨V,m5,SV,GV,z0,z1⟩:=Z.setD 13 (by decide) (.string (stg (vD vs))) (.string (stg e.seed)) rfl)
     | fail)
   go_end0;refine⟨rfl,qC GU.o (qC G1 GV),?_⟩
   first
     | exact⟨_,s,SV,⟨rfl,⟨rfl,rfl,rfl,rfl⟩,⟨rfl,rfl,rfl,rfl⟩,Or.inl ⟨rfl,rfl,rfl,rfl⟩,Or.inl ⟨rfl,rfl,rfl,rfl,rfl,rfl,rfl,rfl⟩⟩,λh0=>by rw[a0 h0,wY (vS h0).1];rfl⟩
     | exact⟨{ e with precs:=vs },{ s with po:=ro,pn:=m,pc:=d },SV,⟨rfl,⟨rfl,rfl,rfl,rfl⟩,⟨rfl,rfl,rfl,rfl⟩,Or.inr (Row.mono (Row.keep L1 (qE _ _) (zD Z.arr (by decide) GV)) (je (Fs:=[9]) hU.o (λ_ h=>h))),Or.inl ⟨rfl,rfl,rfl,rfl,rfl,rfl,rfl,rfl⟩⟩,λh0=>rfl⟩
     | exact⟨{ e with rneg:=false,rnum:=N,rden:=M },{ s with uo:=uo,un:=un,uc:=uc,dO:=dO,dn:=dn,dc:=dc },SV,⟨rfl,⟨rfl,rfl,rfl,rfl⟩,⟨rfl,rfl,rfl,rfl⟩,Or.inl ⟨rfl,rfl,rfl,rfl⟩,Or.inr ⟨Row.mono (Row.keep L1 (qE _ _) (zD Z.arr (by decide) GV)) (je (Fs:=[144]) hU.o (λ_ h=>h)),Row.mono (Row.keep L2 (qE _ _) (zD Z.arr (by decide) GV)) (je (Fs:=[144]) hU.o (λ_ h=>h))⟩⟩,λh0=>by rw[(a0 h0).1,(a0 h0).2,wY (vS h0).1];rfl⟩
     | exact⟨{ e with seed:=vD vs },s,SV,⟨rfl,⟨rfl,rfl,rfl,rfl⟩,⟨rfl,rfl,rfl,rfl⟩,Or.inl ⟨rfl,rfl,rfl,rfl⟩,Or.inl ⟨rfl,rfl,rfl,rfl,rfl,rfl,rfl,rfl⟩⟩,λh0=>by rw[wY (vS h0).1];rfl⟩
namespace Lx
theorem Fu(t:List UInt8)(bs:List qK)(b:qK):yz ((eOf t bs).conts.map Cst.name) ((eOf t bs).stys.map Sty.name) (bs.map qK.kind) b.kind b.name=xm bs b:=by
 have y:(eOf t bs).conts.map Cst.name=jk (qH qF bs):=by unfold eOf jk;rw[List.map_map];rfl
 have G:(eOf t bs).stys.map Sty.name=jk (qH qI bs):=by unfold eOf jk;rw[List.map_map];rfl
 rw[<- Vw,y,G];unfold yz WU;have m:∀l:List qK,(jk l).length=l.length:=λl=>List.length_map _
 by_cases c1:b.kind=qF
 . (have c2:¬ b.kind=qI:=by rw[c1];decide);simp only[m,c1,c2,show ¬ qF=qI by decide,decide_true,decide_false,Bool.true_and,Bool.false_and,Bool.or_false,Bool.true_or]
 . by_cases c2:b.kind=qI
   . simp only[m,c2,show ¬ qI=qF by decide,decide_true,decide_false,Bool.true_and,Bool.false_and,Bool.or_false,Bool.false_or,Bool.or_true]
   . simp only[c1,c2,decide_false,Bool.false_and,Bool.or_false]
end Lx
section
variable {B : Nat} {K : Option Nat} {w : World} {r : RSt} {z : RSl}
theorem RR.cst(h:RR B K w r z):CstS qU w z.s.co z.s.cn z.s.cc r.e.conts:=by
 obtain⟨us,m,y⟩:=h.conts;exact⟨us,Row.mono (Row.own (s:=9) m (by decide)) (λ_ _=>trivial),y.mono (λ_ _=>trivial)⟩
theorem Fv{w:World}:∀ {xs:List Sty},(∀x∈xs,x.precs=[]/\x.conts=[])->TC qU w xs (yZ xs)
  | [],_=>rfl
  | x :: xs,h=>by
   obtain⟨h1,h2⟩:=h x (List.mem_cons_self ..);exact⟨none,0,0,none,0,0,yZ xs,rfl,by rw[h1];exact Row.nil _ _ _,by rw[h2];exact Row.nil _ _ _,Fv λy hy=>h y (List.mem_cons_of_mem _ hy)⟩
theorem RR.sty(h:RR B K w r z)(hn:∀x∈r.e.stys,x.precs=[]/\x.conts=[]):StyS qU w z.s.so z.s.sn z.s.sc r.e.stys :=
 ⟨_,Row.mono (Row.own (s:=3) h.stys (by decide)) (λ_ _=>trivial),Fv hn⟩
theorem RR.sn(h:RR B K w r z):StrL qU w z.qo z.qn z.qc r.seen:=Row.mono (Row.own (s:=1) h.seen (by decide)) (λ_ _=>trivial)
end
theorem Na(t:List UInt8)(bs:List qK)(b:qK)(fo:Option Addr)(fn fc:Nat)(B:Nat)(K:Option Nat)(z:RSl)(f:Nat×Int)(g:Nat)(w:World)(hR:RR B K w (rOf t bs) z)(hbs:bs.length<=1000000)(hnm:b.name.length<=1000000)(h:St w g (rC (rOf t bs) z) f) :
    Calls Tryz.prog 70 #[.pointer (some ⟨g,0,none⟩),.agg #[.string (stg b.kind),.string (stg b.name),.slice fo fn fc,.int .i64 b.line]] w λx w'=>x=.returned (.tuple #[])/\St w' g (rC (rOf t bs) z) (z7 f (xm bs b) b.line)/\w.grownBy w' (some g):=by
 have H:=hR.sty (by
  intro x Z;have G:x∈(qH qI bs).map λb=>(⟨b.name,[],[]⟩:Sty):=Z
  obtain⟨b,_,rfl⟩:=List.mem_map.1 G;exact⟨rfl,rfl⟩)
 have m:z.s.cn<=1000000:=by
  rw[<- hR.cst.len];show((qH qF bs).map j6).length<=_;rw[List.length_map];exact Nat.le_trans (jn _ _) hbs
 have y:z.s.sn<=1000000:=by
  rw[<- H.len];show((qH qI bs).map _).length<=_;rw[List.length_map];exact Nat.le_trans (jn _ _) hbs
 rw[<- Fu t bs b];by_cases J:b.kind=qF
 . rw[J];exact ZP b.name fo fn fc b.line _ z.s _ _ rfl f g w hR.cst H m y hnm h
 . by_cases V:b.kind=qI
   . rw[V];exact Js b.name fo fn fc b.line _ z.s _ _ rfl f g w hR.cst H m y hnm h
   . exact Jo b.kind b.name J V fo fn fc b.line _ z.s _ z.qo z.qn z.qc _ _ f g w hR.sn m y h
end Go.Proofs.YtkefajjcpcoajaaGreatDoor
namespace Go.Proofs.YtkefajjcpcoajaaGreatDoor.Lx
structure Hst where
 c:Cst
 n1:List (List UInt8)
 n2:List (List UInt8)
 l1:Int
 l2:Int
 dg:Int
 st:Int
def Fw:Cst:=⟨[],[],0,0,0,0,0,0,0⟩
def vT(t:List UInt8)(bs:List qK)(b:qK)(F:List zC):RSt:=if b.kind=qF\/b.kind=qI then rOf t bs else { rOf t bs with e:=eOf t (bs++[ju b F]) }
def xX(b:qK)(F:List zC):Hst where
 c:=if b.kind=qF then { j6 (ju b F) with name:=[] } else Fw
 n1:=if b.kind=qI then qN (ju b F) qB else []
 n2:=if b.kind=qI then qN (ju b F) qO else []
 l1:=if b.kind=qI then zx (ju b F) qB else 0
 l2:=if b.kind=qI then zx (ju b F) qO else 0
 dg:=if b.kind=qF then zx (ju b F) qY else 0
 st:=if b.kind=qF then zx (ju b F) zO else 0
section
variable {t : List UInt8} {bs : List qK} {b : qK} {F : List zC} {f : zC} {r : jj}
theorem Gs(hh:xm bs b=0):vT t bs b []=rOf t bs:=by
 unfold vT;by_cases c:b.kind=qF\/b.kind=qI
 . rw[if_pos c]
 . rw[if_neg c];(have m:b.kind≠qF:=λe=>c (Or.inl e));(have y:b.kind≠qI:=λe=>c (Or.inr e));have G:qH b.kind bs=[]:=by
    rw[<- Vw] at hh;unfold WU at hh;rw[QY] at hh;simp only[m,y,decide_false,Bool.or_false,Bool.false_and,Bool.not_false,Bool.true_and] at hh;cases H:qH b.kind bs with
    | nil=>rfl
    | cons x l =>
     rw[H] at hh;simp at hh;split at hh
     . cases hh
     . split at hh<;>cases hh
   rw[Fa t bs b m y G];rfl
theorem Gt(b:qK):xX b []=⟨Fw,[],[],0,0,0,0⟩:=by
 unfold xX;congr 1;all_goals first|(split<;>rfl)|skip
theorem YA(hk:b.kind=qF)(hr:zi b.kind f.key=some r)(hf:F.any (λg=>decide (g.key=f.key))=false) :
    vT t bs b (F++[f])=vT t bs b F/\xX b (F++[f])={ xX b F with c:=Vu f (xX b F).c,dg:=if f.key=qY then f.line else (xX b F).dg,st:=if f.key=zO then f.line else (xX b F).st }:=by
 have m:¬ b.kind=qI:=by rw[hk];decide
 constructor
 . unfold vT;rw[if_pos (Or.inl hk),if_pos (Or.inl hk)]
 . unfold xX;simp only[if_pos hk,if_neg m];rw[Gi b F f hk r hr hf,yG b F f _ hf,yG b F f _ hf];have:({ Vu f (j6 (ju b F)) with name:=[] }:Cst)=Vu f { j6 (ju b F) with name:=[] }:=by
    unfold Vu;dsimp only
    repeat (first|rfl|split)
   rw[this]
theorem Fx(hk:b.kind=qI)(hf:F.any (λg=>decide (g.key=f.key))=false)(hp:f.key=qB) :
    vT t bs b (F++[f])=vT t bs b F/\xX b (F++[f])={ xX b F with n1:=f.vals,l1:=f.line }:=by
 have m:¬ b.kind=qF:=by rw[hk];decide
 constructor
 . unfold vT;rw[if_pos (Or.inr hk),if_pos (Or.inr hk)]
 . unfold xX;simp only[if_pos hk,if_neg m];rw[kj b F f _ hf,yG b F f _ hf,kj b F f _ hf,yG b F f _ hf,if_pos hp,if_pos hp,if_neg (by rw[hp];decide),if_neg (by rw[hp];decide)]
theorem Fy(hk:b.kind=qI)(hr:zi b.kind f.key=some r)(hf:F.any (λg=>decide (g.key=f.key))=false)(hp:f.key≠qB) :
    f.key=qO/\r=⟨qI,qO,2,1,4⟩/\vT t bs b (F++[f])=vT t bs b F/\xX b (F++[f])={ xX b F with n2:=f.vals,l2:=f.line }:=by
 have J:¬ b.kind=qF:=by rw[hk];decide
 obtain⟨H,G,y⟩:=yH hr;have m:f.key=qO/\r=⟨qI,qO,2,1,4⟩:=by
  rw[hk] at H;unfold zf at y;simp only[List.mem_cons,List.not_mem_nil,or_false] at y;rcases y with rfl|rfl|rfl|rfl|rfl|rfl|rfl|rfl|rfl|rfl|rfl|rfl|rfl|rfl|rfl|rfl|rfl|rfl|rfl<;>first|exact absurd H (by decide)|exact absurd G.symm hp|exact⟨G.symm,rfl⟩
 refine⟨m.1,m.2,?_,?_⟩
 . unfold vT;rw[if_pos (Or.inr hk),if_pos (Or.inr hk)]
 . unfold xX;simp only[if_pos hk,if_neg J];rw[kj b F f _ hf,yG b F f _ hf,kj b F f _ hf,yG b F f _ hf,if_neg hp,if_neg hp,if_pos m.1,if_pos m.1]
theorem Gu(hk:b.kind=qI)(hr:zi b.kind f.key=some r)(hp:f.key=qB):r=⟨qI,qB,2,1,12⟩:=by
 rw[hk,hp] at hr;have:zi qI qB=some ⟨qI,qB,2,1,12⟩:=by rfl
 rw[this] at hr;injection hr with hr;exact hr.symm
theorem Gv(h1:b.kind≠qF)(h2:b.kind≠qI)(hr:zi b.kind f.key=some r)(hf:F.any (λg=>decide (g.key=f.key))=false) :
    vT t bs b (F++[f])={ vT t bs b F with e:=Xm b.kind f (vT t bs b F).e }/\xX b (F++[f])=xX b F:=by
 have m:¬ (b.kind=qF\/b.kind=qI):=λh=>h.elim h1 h2
 constructor
 . unfold vT;rw[if_neg m,if_neg m,NT t bs b F f h1 h2 r hr hf]
 . unfold xX;simp only[if_neg h1,if_neg h2]
theorem JG(b:qK):ju b b.flds=b:=rfl
theorem U4(hk:b.kind=qF):rOf t (bs++[b])={ rOf t bs with e:={ (rOf t bs).e with conts:=(rOf t bs).e.conts++[{ (xX b b.flds).c with name:=b.name }] },seen:=(rOf t bs).seen++[b.kind] }:=by
 have G:¬ b.kind=qI:=by rw[hk];decide
 unfold rOf eOf;have y:∀k,k≠qF->qH k (bs++[b])=qH k bs:=λk h=>by rw[jQ,if_neg (by rw[hk];exact λe=>h e.symm)]
 have m:∀k,k≠qF->zJ k (bs++[b])=zJ k bs:=λk h=>by unfold zJ;rw[y k h]
 rw[y qI (by decide),m zT (by decide),m qB (by decide),m qe (by decide),m ql (by decide),m qy (by decide),jQ,if_pos hk,List.map_append,List.map_append];simp only[xX,if_pos hk,JG];rfl
theorem U5(hk:b.kind=qI):rOf t (bs++[b])=⟨{ (rOf t bs).e with stys:=(rOf t bs).e.stys++[⟨b.name,[],[]⟩] },(rOf t bs).seen++[b.kind],(rOf t bs).lines++[((xX b b.flds).l1,(xX b b.flds).l2)],(rOf t bs).names++[((xX b b.flds).n1,(xX b b.flds).n2)]⟩:=by
 have G:¬ b.kind=qF:=by rw[hk];decide
 unfold rOf eOf;have y:∀k,k≠qI->qH k (bs++[b])=qH k bs:=λk h=>by rw[jQ,if_neg (by rw[hk];exact λe=>h e.symm)]
 have m:∀k,k≠qI->zJ k (bs++[b])=zJ k bs:=λk h=>by unfold zJ;rw[y k h]
 rw[y qF (by decide),m zT (by decide),m qB (by decide),m qe (by decide),m ql (by decide),m qy (by decide),jQ,if_pos hk,List.map_append,List.map_append,List.map_append,List.map_append];simp only[xX,if_pos hk,JG];rfl
theorem U6(h1:b.kind≠qF)(h2:b.kind≠qI):rOf t (bs++[b])={ vT t bs b b.flds with seen:=(vT t bs b b.flds).seen++[b.kind] }:=by
 have m:¬ (b.kind=qF\/b.kind=qI):=λh=>h.elim h1 h2
 unfold vT;rw[if_neg m,JG];unfold rOf;rw[List.map_append,jQ,if_neg h2];rfl
end
end Go.Proofs.YtkefajjcpcoajaaGreatDoor.Lx
namespace Go.Proofs.YtkefajjcpcoajaaGreatDoor
open Go.RowKit Lx
variable {n:Nat}
abbrev Txt:=Option Addr×Nat×Nat×List (List UInt8)
structure LR (B:Nat) (v:Value) (w:World) (r:RSt) (z:RSl) (L:List Txt):Prop where
 rr:RR B v.ownBlock w r z
 sep:(Value.slice z.qo z.qn z.qc).ownBlock=none\/(Value.slice z.qo z.qn z.qc).ownBlock≠v.ownBlock
 more:∀x∈L,StrL (fS B (Value.slice z.qo z.qn z.qc).ownBlock v.ownBlock) w x.1 x.2.1 x.2.2.1 x.2.2.2
theorem yP{B s:Nat}{E:TypeId}{v:Value}{us:List Value}{w:World}(h:w.ownsRow B E s v n us):∀k,v.ownBlock=some k->k<w.heap.size:=λk hk=>(World.ownsRow.lt h k hk).2
section
variable {B : Nat} {v v' : Value} {w w' : World} {r : RSt} {z : RSl} {L L' : List Txt}
theorem LR.below(h:LR B v w r z L)(hb:Below w.heap.size w w'):LR B v w' r z L:=⟨h.rr.below hb,h.sep,λx hx=>Row.keep (h.more x hx) (zE _ _ _) (qD _ hb)⟩
theorem LR.box{g:Nat}{T:TypeId}{cs:List Value}(h:LR B v w r z L)(hA:Arr w g T cs)(hT:T∉[9,3,144,76,60,123,122])(hg:w.grownBy w' (some g)):LR B v w' r z L :=
 ⟨h.rr.box hA hT hg,h.sep,λx hx=>Row.keep (h.more x hx) (zE _ _ _) (jE (zD hA (by simp only[List.mem_cons,List.not_mem_nil,or_false,not_or] at hT;simpa using hT.1) hg))⟩
theorem LR.sub(h:LR B v w r z L)(hs:∀x∈L',x∈L):LR B v w r z L':=⟨h.rr,h.sep,λx hx=>h.more x (hs x hx)⟩
theorem Fz{b:Nat}{q K:Option Nat}(hB:B<=b)(hq:∀k,q=some k->k<b)(hK:∀k,K=some k->k<b):∀k,qS b [9] w k->fS B q K w k:=λk h =>
 ⟨je hB (λ_ h=>h) k h,λe=>by have:=hq k e;have:=h.1;omega,λe=>by have:=hK k e;have:=h.1;omega⟩
theorem LR.ext{b c:Nat}{ao:Option Addr}{xs:List (List UInt8)}(h:LR B v w r z L)(hx:StrL (qS b [9]) w ao n c xs)(hB:B<=b)(hq:∀k,(Value.slice z.qo z.qn z.qc).ownBlock=some k->k<b)(hv:∀k,v.ownBlock=some k->k<b):LR B v w r z ((ao,n,c,xs) :: L) :=
 ⟨h.rr,h.sep,λx hm=>by
  rcases List.mem_cons.1 hm with rfl|hm
  . exact Row.mono hx (Fz hB hq hv)
  . exact h.more x hm⟩
theorem LR.known{Bk:Nat}{us:List Value}(h:LR B v w r z L)(hr:w.ownsRow Bk 9 1 v n us)(hB:B<=Bk)(hg:w.grownBy w' v.ownBlock)(hob:v'.ownBlock=v.ownBlock\/v'.ownBlock=some (w.heap.size+1)):LR B v' w' r z L:=by
 have hs:(Value.slice z.qo z.qn z.qc).ownBlock=none\/(Value.slice z.qo z.qn z.qc).ownBlock≠v'.ownBlock:=by
  rcases h.sep with e|e
  . exact Or.inl e
  . right;rcases hob with e1|e1
    . rw[e1];exact e
    . rw[e1];intro Z;have:=yP h.rr.seen _ Z;omega
 let S2:World->Nat->Prop:=λw k=>fS B (Value.slice z.qo z.qn z.qc).ownBlock v.ownBlock w k/\v'.ownBlock≠some k
 have G:jR S2:=λw w' k m he ⟨y,a2⟩=>⟨zE _ _ _ w w' k m he y,a2⟩
 have V:∀k,fS B (Value.slice z.qo z.qn z.qc).ownBlock v.ownBlock w k->S2 w k:=λk y=>⟨y,λe=>by
  rcases hob with e1|e1
  . exact y.2.2 (e1.symm.trans e)
  . rw[e1] at e;injection e with e;have:=Zx y.1;omega⟩
 have J:Keeps S2 w w':=jL hg (λk m=>m.1.2.2);have dn:∀k,S2 w' k->fS B (Value.slice z.qo z.qn z.qc).ownBlock v'.ownBlock w' k:=λk m=>⟨m.1.1,m.1.2.1,m.2⟩
 exact⟨RR.known h.rr hr hB h.sep hg hob,hs,λx H=>Row.mono (Row.keep (Row.mono (h.more x H) V) G J) dn⟩
theorem LR.upd{g:Nat}{cs:List Value}{e':Elc}{s':ESl}(h:LR B v w r z L)(hA:Arr w g 70 cs)(hg:w.grownBy w' (some g))(hU:Upd w w' r.e z.s e' s')(hB:B<=w.heap.size)(hv:∀k,v.ownBlock=some k->k<w.heap.size):LR B v w' { r with e:=e' } { z with s:=s' } L:=by
 have hq:=yP h.rr.seen;have k:=h.box hA (by decide) hg;obtain⟨us,G,h2⟩:=k.rr.conts;obtain⟨V,y,a3,m⟩:=hU.conts;obtain⟨b1,H,Z,J⟩:=hU.stys;refine⟨⟨?_,⟨us,?_,?_⟩,?_,?_,?_,k.rr.seen,k.rr.lines,k.rr.names⟩,k.sep,k.more⟩
 . rcases hU.precs with ⟨c1,c2,c3,c4⟩|c
   . show StrL _ _ s'.po s'.pn s'.pc e'.precs;rw[c1,c2,c3,c4];exact k.rr.precs
   . exact Row.mono c (Fz hB hq hv)
 . show World.ownsRow _ _ _ _ (.slice s'.co s'.cn s'.cc) s'.cn us;rw[y,a3,m];exact G
 . show CC _ _ e'.conts _;rw[V];exact h2
 . show World.ownsRow _ _ _ _ (.slice s'.so s'.sn s'.sc) s'.sn (yZ e'.stys);rw[b1,H,Z,J];exact k.rr.stys
 . rcases hU.rat with ⟨c1,c2,c3,c4,c5,c6,c7,c8⟩|c
   . show IntL _ _ _ s'.uo s'.un s'.uc e'.rnum;rw[c1,c3,c4,c5];exact k.rr.num
   . exact Row.mono c.1 (je hB λ_ h=>h)
 . rcases hU.rat with ⟨c1,c2,c3,c4,c5,c6,c7,c8⟩|c
   . show IntL _ _ _ s'.dO s'.dn s'.dc e'.rden;rw[c2,c6,c7,c8];exact k.rr.den
   . exact Row.mono c.2 (je hB λ_ h=>h)
theorem RR.free{K:Option Nat}(h:RR B K w r z):RR B none w r z:=by
 obtain⟨us,y,J⟩:=h.conts;obtain⟨ns,G,H⟩:=h.names;have m:∀k,fS B (Value.slice z.qo z.qn z.qc).ownBlock K w k->fS B (Value.slice z.qo z.qn z.qc).ownBlock none w k:=λk a=>⟨a.1,a.2.1,by intro e;cases e⟩
 exact⟨Row.mono h.precs m,⟨us,y,J.mono m⟩,h.stys,h.num,h.den,h.seen,h.lines,⟨ns,G,H.mono m⟩⟩
theorem LR.start(h:RR B none w r z):LR B (.slice none 0 0) w r z []:=⟨h,by
 rcases hq:(Value.slice z.qo z.qn z.qc).ownBlock with _|k
 . exact Or.inl rfl
 . exact Or.inr (by intro e;cases e),λ_ hx=>by(cases hx)⟩
end
