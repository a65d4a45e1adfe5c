/- P13: a part of the proof that the last text tells. -/
import Derived.Test.YtdhophglnhcjbaaGreatDoorP12
set_option linter.all false
set_option maxRecDepth 100000
set_option maxHeartbeats 40000000
open Go.Proofs.Tryz
open Go renaming Calls->la,World->ld,Addr->le,bodyPost_ret->lf,results->lg,block_lt_of_cell->lm,Value->lq,wpAnyH_done->ly,maxLen->na,Ending->nf,wp_region_held_drew->nj
open Nat renaming le_refl->lb,le_trans->li,zero_le->lk,not_lt_zero->ls,le_of_lt->ni,lt_of_lt_of_le->no,lt_trichotomy->nx
open Go.Act renaming put->lh
open Go.RowKit renaming intOf->lj
open List renaming getElem_mem->ll,mem_range->ln,mem_map->lu,range->lv,mem_append_right->lx,getD_eq_getElem?_getD->nb,replicate->nd,mem_flatMap->ng,getElem_range->nk,getElem?_eq_getElem->nq,take_length->nr,mem_append->ns,mem_of_mem_take->nt,length_append->nw,take_succ_eq_append_getElem->ny,take_of_length_le->nz,append_assoc->ub,ext_getElem->uc,getElem_map->ud,getElem?_map->ue,getElem?_range->uf,getElem?_eq_some_iff->ug,getElem_of_mem->uh,flatMap_cons->ui,map_id->ul
open Int renaming natCast_add->nu
open Option renaming some->nv
open Go.World renaming size_alloc->uj,ownsRow->um
open Option renaming none→N,some→O
open Go.IntKind renaming i64→I
open Go.Value renaming int→J,string→Z,pointer→U,bool→G,agg→Q
open Go.Ending renaming returned→Y
open Go.RowKit renaming Hid→X
open Go.Obj renaming cells→H
open Go.Addr renaming mk→A
namespace Go.Proofs.YtdhophglnhcjbaaGreatDoor
section
theorem c8d{P:Prop}(h:P:=by
 intro w5 hSw;try dsimp only at hSw
 obtain⟨q0,q1,q2,q3⟩:=hSw;exact a4m):P:=h
theorem c8g{P:Prop}(h:P:=by
 intro w5 hSw;try dsimp only at hSw
 obtain⟨q0,q1⟩:=hSw;exact a4m):P:=h
theorem c6z{P:Prop}(h:P:=by
 have e1:decide (((k:Nat):Int)≠-1)=true:=decide_eq_true Oo;dsimp only at hIR;rw[e1]at hIR;exact hIR):P:=h
theorem c7l{P:Prop}(h:P:=by
 unfold fxH;rw[List.take_succ_eq_append_getElem hk,List.filter_append,List.map_append];simp[hc]):P:=h
theorem c7v{P:Prop}(h:P:=by
 rw[List.getD_eq_getElem?_getD,List.getElem?_eq_getElem hj];exact List.getElem_mem hj):P:=h
end
section
namespace Cf
variable {c:ByteArray}{m:Me}
theorem c0X(h:0<m.l):(U5 c m).take 1=[(0,0,C5 c)]:=by
 unfold U5;obtain⟨n,d⟩:∃n,m.l=n+1:=⟨m.l-1,by omega⟩
 rw[d,List.range_succ_eq_map];simp[T5]
theorem b0S(c:ByteArray)(m:Me)(k:Nat):(T5 c m).getD (k+1) A8=m.p.getD k A8:=by
 unfold T5;rw[List.getD_cons_succ,nb,nb,List.getElem?_append];split
 ·rfl
 ·rename_i h;rw[List.getElem?_eq_none (by omega:m.p.length<=k),List.getElem?_replicate];split<;>rfl
variable {a j k low:Nat}
theorem b9d(h:k+1<m.l):(U5 c m).take (k+2)=(U5 c m).take (k+1)++ [(0,k+1,m.p.getD k A8)]:=by
 have hl:k+1<(U5 c m).length:=by unfold U5;simpa using h
 rw[ny hl];have e:(U5 c m)[k+1]'hl=(0,k+1,(T5 c m).getD (k+1) A8):=by simp[U5]
 rw[e,b0S]
theorem c0Y(c:ByteArray)(m:Me):(U5 c m).take m.l=U5 c m:=nz (by unfold U5;simp)
theorem b9f(h:0<m.l):(0,0,C5 c)∈U5 c m:=lu.2 ⟨0,ln.2 h,rfl⟩
theorem b9e(h:k+1<m.l):(0,k+1,m.p.getD k A8)∈U5 c m:=lu.2 ⟨k+1,ln.2 h,by rw[b0S]⟩
def fxH(m:Me)(a k:Nat):List (Nat×Nat×Ty):=((m.h.take k).filter λd=>G0 d a).map λd=>(d.t,m.l,C5 d.c)
def a7H(l:List Cl)(m:Me)(a low k:Nat):List (Nat×Nat×Ty):=if((C7 l (A5 m a)).getD k A8).k=0 then []else(E6 (A5 m a) a).map λx=>(x,low+k,(C7 l (A5 m a)).getD k A8)
def fxP(l:List Cl)(m:Me)(a low k:Nat):List (Nat×Nat×Ty):=fxH m a m.h.length++(lv k).flatMap (a7H l m a low)
def fxN(l:List Cl)(m:Me)(a low k j:Nat):List (Nat×Nat×Ty):=fxP l m a low k++((E6 (A5 m a) a).take j).map λx=>(x,low+k,(C7 l (A5 m a)).getD k A8)
theorem b8X(l:List Cl)(m:Me)(a low:Nat):T1 l m a low=fxP l m a low (C7 l (A5 m a)).length:=by
 unfold T1 fxP fxH;rw[nr];rfl
theorem c2j(hk:k<m.h.length)(hc:G0 m.h[k] a=true):fxH m a (k+1)=fxH m a k++ [(m.h[k].t,m.l,C5 m.h[k].c)]:=by
 exact c7l
theorem c3s(hk:k<m.h.length)(hc:G0 m.h[k] a=false):fxH m a (k+1)=fxH m a k:=by
 exact c7l
theorem c0P(l:List Cl)(m:Me)(a low:Nat):fxP l m a low 0=fxH m a m.h.length:=by unfold fxP;simp
theorem b3f(l:List Cl)(m:Me)(a low k:Nat):fxP l m a low (k+1)=fxP l m a low k++a7H l m a low k:=by
 unfold fxP;rw[List.range_succ,List.flatMap_append,ub];simp
variable {l:List Cl}
theorem c0Q(h:((C7 l (A5 m a)).getD k A8).k=0):fxP l m a low (k+1)=fxP l m a low k:=by
 rw[b3f];unfold a7H;rw[if_pos h,List.append_nil]
theorem c0R(l:List Cl)(m:Me)(a low k:Nat):fxN l m a low k 0=fxP l m a low k:=by unfold fxN;simp
theorem c0S(d:j<(E6 (A5 m a) a).length):fxN l m a low k (j+1)=fxN l m a low k j++ [((E6 (A5 m a) a).getD j 0,low+k,(C7 l (A5 m a)).getD k A8)]:=by
 unfold fxN;rw[ny d,List.map_append,ub];simp[d]
theorem c2i(h:¬((C7 l (A5 m a)).getD k A8).k=0):fxN l m a low k (E6 (A5 m a) a).length=fxP l m a low (k+1):=by
 rw[b3f];unfold fxN a7H;rw[if_neg h,nr]
theorem b4l(k:Nat):∀x∈fxH m a k,x∈T1 l m a low:=λx e=>by
 unfold fxH at e;obtain⟨d,hd,rfl⟩:=lu.1 e;obtain⟨h1,h2⟩:=List.mem_filter.1 hd;unfold T1;exact c7b
theorem c3p{d:Hd}(hd:d∈m.h)(hc:G0 d a=true):(d.t,m.l,C5 d.c)∈T1 l m a low:=by
 unfold T1;exact c7r
theorem c3q(hk:k<=(C7 l (A5 m a)).length):∀x∈fxP l m a low k,x∈T1 l m a low:=λx d=>by
 unfold fxP at d;rcases ns.1 d with d|d
 ·exact b4l _ x d
 ·obtain⟨j,e,d⟩:=ng.1 d;unfold T1;exact lx _ (ng.2 ⟨j,ln.2 (by have:=ln.1 e;omega),d⟩)
theorem c3o(hk:k<(C7 l (A5 m a)).length)(h:¬((C7 l (A5 m a)).getD k A8).k=0)(hj:j<(E6 (A5 m a) a).length):((E6 (A5 m a) a).getD j 0,low+k,(C7 l (A5 m a)).getD k A8)∈T1 l m a low:=by
 unfold T1;refine lx _ (ng.2 ⟨k,ln.2 hk,?_⟩);rw[if_neg h];refine lu.2 ⟨(E6 (A5 m a) a).getD j 0,?_,rfl⟩;exact c7v
theorem c3r(hk:k<(C7 l (A5 m a)).length)(h:¬((C7 l (A5 m a)).getD k A8).k=0):∀x∈fxN l m a low k j,x∈T1 l m a low:=λx d=>by
 unfold fxN at d;rcases ns.1 d with d|d
 ·exact c3q (ni hk) x d
 ·obtain⟨y,e,rfl⟩:=lu.1 d;unfold T1;refine lx _ (ng.2 ⟨k,ln.2 hk,?_⟩);rw[if_neg h];exact lu.2 ⟨y,nt e,rfl⟩
end Cf
open Go.RowKit Go.Shelf Cf
namespace Kx
theorem b9c(L:List Cl)(c:ByteArray)(m:Me)(ht:Nat->Option Nat)(F:X (PE L c m ht))(w0:ld)(lim b:Nat)(p:le)(cap m1 m2 m3:Nat)(q:Nat->Qs)(h:X (Lk w0 lim b L p cap m1 m2 m3 q))(hl:lim<=w0.heap.size)(pa ca ha:Option le)(pk ck hk bw eg hg:Nat)(hE:X (TyE w0 lim L m pa pk ca ck ha hk bw eg hg ht))(t tg:Nat)(g:Nat->Nat)(w:ld)(s0:Ps)(hT:X (F8 w0 w w [] t bw b tg g m.c.length L s0 []))(ao:X (P5 L c m s0))(an:U9 L s0<=8000000000000):
 la prog 192 #[U (O (A t 0 N)), Z c] w λe w'=>e= Y (.tuple #[])/\F8 w0 w w' [] t bw b tg g m.c.length L s0 (U5 c m):=by
 have af:=F.o.wld.ent_comes F.o.cok F.o.has F.o.pars;have M:=A1 (F8.raise F.o w0 lim b p cap m1 m2 m3 q h.o hl t bw tg g s0 ao.o an (U5 c m) af);have S:0<m.l:=by have:=F.o.cok.l;omega
 have ar:=F.o.lo;have au:m.p.length<m.l:=by have:=F.o.cok.l;omega
 have ak:X ((0,0,C5 c)∈U5 c m):=b9f S;have ac:=A1 S;clear af S;go_enter func192,ntmps192;go_wp2_with (first|(go_at_call 267;go_loud (refine(y9 _ _).mono ?_;rintro e w1 ⟨rfl,am⟩))|(go_at_call 266;go_loud (refine(M.o w w1 [] [] (hT.o.keep am) (λy hy=>by cases hy) (0,0,C5 c) ak.o).mono ?_;rintro e w2 ⟨rfl,i⟩)))
 go_loopw [4] (λv W=>∃k:Nat,v= J I ((k:Int)+1)/\k+1<=m.l/\F8 w0 w W [] t bw b tg g m.c.length L s0 ((U5 c m).take (k+1))) (λv _=>m.l-(lj v).toNat)
 case atStart=>exact⟨0,rfl,by have:=ac.o;omega,by rw[c0X ac.o];exact i⟩
 case round=>
  obtain⟨k,rfl,hk,hR⟩:=hrel;have K:=A1 hR;clear hR;have zt:=K.o.t0;have z5:=(hE.o.keep K.o.gb).meth 5 _ rfl;have z1:=(hE.o.keep K.o.gb).meth 1 _ rfl;have lt:t<wr.heap.size:=lm zt;have av:bw<wr.heap.size:=lm z5;by_cases hlt:k+1<m.l
  ·have ai:(k:Int)+1<(m.l:Int):=by omega
   obtain⟨T,d⟩:=Oe (m.p.getD k A8)
   have ab:X ((0,k+1,T)∈U5 c m):=by rw[d];exact b9e hlt
   have ad:X ((U5 c m).take (k+2)=(U5 c m).take (k+1)++ [(0,k+1,T)]):=by rw[d];exact b9d hlt
   have E:X (∀y∈(U5 c m).take (k+1),y∈U5 c m):=λy hy=>nt hy
   by_cases hkp:k<m.p.length
   ·have ah:(k:Int)+1<=(m.p.length:Int):=by omega
    have ap:(k:Int)<(m.p.length:Int):=by omega
    obtain⟨pd,aa,-,D⟩:=(hE.o.keep K.o.gb).par k hkp;have ae:m.p[k]=T:=by rw[d];simp[hkp]
    rw[ae]at D;have aq:=A1 aa;rw[aa]at z1;have y0:wr.cell? (pd.add (k*2))=O (J I T.k):=D 0 _ rfl;have y1:wr.cell? (A ((pd.add (k*2)).block) ((pd.add (k*2)).off+1) N)=O (Z T.n):=by rw[C2 pd (k*2) 0];exact D 1 _ rfl
    have aw:=lm y0;clear D ae d aa;go_wp2_with (go_at_call 266;go_loud (refine(M.o w _ [] _ (K.o.keep (A2 _ _ N)) E.o (0,k+1,T) ab.o).mono ?_;rintro e w2 ⟨rfl,i⟩))
    go_roundw
    case rel=>exact⟨k+1,by first|rfl|go_num,by omega,by rw[ad.o];exact i⟩
    case measure=>exact a0s
   ·have ah:¬(k:Int)+1<=(m.p.length:Int):=by omega
    have al:T=A8:=by rw[d];simp[Nat.le_of_not_lt hkp]
    subst al;clear d;go_wp2_with (go_at_call 266;go_loud (refine(M.o w _ [] _ (K.o.keep (A2 _ _ N)) E.o (0,k+1,A8) ab.o).mono ?_;rintro e w2 ⟨rfl,i⟩))
    go_roundw
    case rel=>exact⟨k+1,by first|rfl|go_num,by omega,by rw[ad.o];exact i⟩
    case measure=>exact a0s
  ·have ag:k+1=m.l:=by omega
   have aj:X (F8 w0 w wr [] t bw b tg g m.c.length L s0 (U5 c m)):=by have:=K.o;rw[ag,c0Y]at this;exact this
   have ai:¬(k:Int)+1<(m.l:Int):=by omega
   clear ag;go_wp2_with fail
   go_end0;exact⟨rfl,aj.o⟩
variable {V W W' w w0:World}{Bs:List Nat}{a b base bw j k n t tg:Nat}{g:Nat->Nat}{L:List Cl}{s s1:Ps}
theorem F8.free{d:ld}{A9:List (Nat×Nat×Ty)}(h:F8 w0 V W Bs t bw b tg g n L s1 A9):F8 w0 d W [] t bw b tg g n L s1 A9:=by
 obtain⟨ra,rk,i,e,-⟩:=h;exact⟨ra,rk,i,e,λk hk=>by cases hk⟩
theorem b5H(L:List Cl)(c:ByteArray)(m:Me)(ht:Nat->Option Nat)(hP:X (PE L c m ht))(w0:ld)(lim b:Nat)(p:le)(cap m1 m2 m3:Nat)(q:Nat->Qs)(h:X (Lk w0 lim b L p cap m1 m2 m3 q))(hl:lim<=w0.heap.size)(pa ca ha:Option le)(pk ck hk bw eg hg:Nat)(hE:X (TyE w0 lim L m pa pk ca ck ha hk bw eg hg ht))(t tg:Nat)(g:Nat->Nat)(w:ld)(s0:Ps)(hT:X (F8 w0 w w [] t bw b tg g m.c.length L s0 []))(hs0:X (P5 L c m s0))(hmu:U9 L s0<=8000000000000)(a k:Nat)(hak:X (a<m.c.length/\ht a=O k)):
 la prog 194 #[U (O (A t 0 N)), J I a] w λe w'=>e= Y (.tuple #[])/\F8 w0 w w' [] t bw b tg g m.c.length L s0 (T1 L m a (F0 L m a k)):=by
 have hkr:=(hP.o.hts a k hak.o.1).1 hak.o.2;have hroom:=hP.o.room hkr;obtain⟨lw,hlw⟩:=Oe (F0 L m a k)
 have hcm:=hP.o.wld.fixed_comes (c:=c) hP.o.tyw hP.o.cok hP.o.ok hP.o.hok hkr;rw[<-hlw]at hcm⊢;have HRS:=A1 (F8.raise hP.o w0 lim b p cap m1 m2 m3 q h.o hl t bw tg g s0 hs0.o hmu (T1 L m a lw) hcm)
 have HLW:X (∀(W:ld) (A9:List (Nat×Nat×Ty)) {V:ld} {Bs:List Nat},F8 w0 V W Bs t bw b tg g m.c.length L s0 A9->la prog 269 #[U (O (A t 0 N)), J I a] W λe w'=>e= Y (J I (lw:Nat))/\W.grownBy w' N):=λW A9 V Bs hR=>by
  rw[hlw];exact b1m W lim L c m pa pk ca ck ha hk bw eg hg ht hP (hE.o.keep hR.gb) t hR.t0 a k hak.o.1 hak.o.2
 have hlwb:lw<=510:=by rw[hlw];unfold F0;have:=hP.o.lo;have:=hP.o.st;omega
 have hpnb:(C7 L (A5 m a)).length<=255:=by
  have h1:=hP.o.hok.room a k hkr;unfold N5 at h1;simp only[Bool.and_eq_true,decide_eq_true_eq]at h1;have:=hP.o.st;have h3:(C7 L (A5 m a)).length=I5 L (A5 m a):=rfl;omega
 obtain⟨ta,tk,ua,uk,-,e2,e3⟩:=hE.o.eff a hak.o.1;have HEF:X (w0.cell? (A eg (a*3+1) N)=O (.slice ua (C7 L (A5 m a)).length uk)/\C0 w0 w0.heap.size 2 B8 ua (C7 L (A5 m a))):=⟨e2,e3⟩
 obtain⟨pn,hpn⟩:=Oe ((C7 L (A5 m a)).length)
 have HPN:=A1 hpn;rw[<-hpn]at hpnb;have hnh:=hP.o.nh;have hnc:=hP.o.nc;have haI:(a:Int)<(m.c.length:Int):=by have:=hak.o.1;omega
 have c0:=hT.o.t0;have c7:=(hE.o.keep hT.o.gb).meth 7 _ rfl;clear hkr hroom hlw hcm e2 e3 hpn;go_enter func194,ntmps194;go_wp2_with fail
 go_loopw [19] (λv W=>∃jj:Nat,v= J I jj/\jj<=m.h.length/\F8 w0 w W [] t bw b tg g m.c.length L s0 (fxH m a jj)) (λv _=>m.h.length-(lj v).toNat)
 case atStart=>exact⟨0,rfl,lk _,hT.o⟩
 case round=>
  obtain⟨jj,rfl,hjj,hR⟩:=hrel;have HR:=A1 hR;clear hR c0 c7;by_cases hlt:jj<m.h.length
  ·obtain⟨pd,hpd,-,hcd⟩:=(hE.o.keep HR.o.gb).hand jj hlt;obtain⟨d,hd⟩:=Oe (m.h[jj])
   rw[<-hd]at hcd;have HD:X (d=m.h[jj]/\d∈m.h):=⟨hd,by rw[hd];exact ll hlt⟩
   subst hpd;have y0:wr.cell? (pd.add (jj*4))=O (J I d.f):=hcd 0 _ rfl;have y1:wr.cell? (A ((pd.add (jj*4)).block) ((pd.add (jj*4)).off+1) N)=O (J I d.to):=by rw[C2 pd (jj*4) 0];exact hcd 1 _ rfl
   have y2:wr.cell? (A ((pd.add (jj*4)).block) ((pd.add (jj*4)).off+2) N)=O (J I d.t):=by rw[C2 pd (jj*4) 1];exact hcd 2 _ rfl
   have y3:wr.cell? (A ((pd.add (jj*4)).block) ((pd.add (jj*4)).off+3) N)=O (Z d.c):=by rw[C2 pd (jj*4) 2];exact hcd 3 _ rfl
   have hjI:(jj:Int)<(m.h.length:Int):=by omega
   have HCV:=A1 (λW=>a8s W d a);clear hcd hd;by_cases hcv:G0 d a=true
   ·have HIN:X ((d.t,m.l,C5 d.c)∈T1 L m a lw):=c3p HD.o.2 hcv
    have HNX:X (fxH m a (jj+1)=fxH m a jj++ [(d.t,m.l,C5 d.c)]):=by
     have:=c2j (m:=m) (a:=a) hlt (by rw[<-HD.o.1];exact hcv);rw[<-HD.o.1]at this;exact this
    rw[hcv]at HCV;clear hcv;go_upto_region 4 with(go_at_call 239;go_loud (refine(HCV.o _).mono ?_;rintro e w3 ⟨rfl,hg3⟩))
    have hb5:=(A4.new wr #[J I d.f, J I d.to, J I d.t, Z d.c] 202).keep hg3 B9;have HR3:=A1 (HR.o.more (A0 (A2 wr (H #[J I d.f, J I d.to, J I d.t, Z d.c] 202) N) hg3) (lb _) hb5.lt);generalize wr.heap.size=B5 at hb5 HR3⊢;clear hg3 y0 y1 y2 y3;have b52:=hb5.c2;have b53:=hb5.c3;have z5:=(hE.o.keep HR3.o.gb).meth 5 _ rfl;clear hb5;refine nj (S:=(λw'=>w'.cell? (A B5 2 N)=O (J I d.t)/\w'.cell? (A B5 3 N)=O (Z d.c)/\w'.cell? (A t 0 N)=O (U (O (A bw 0 N)))/\w'.cell? (A bw 5 N)=O (J I m.l))) Ok0 (⟨b52,b53,HR3.o.t0,z5⟩) (λhHeld=> ?_);refine A3 0 ?_;refine A3 1 ?_;refine tkT 2 (v:= ?v4) (hv:= .inl ⟨by rfl,?h4⟩) (k:= ?r4)
    case h4=>
     exact c8d
    try simp only[lh,lz]
    refine A3 3 ?_;refine A3 4 ?_;refine A3 5 ?_;refine tkT 6 (v:= ?v8) (hv:= .inl ⟨by rfl,?h8⟩) (k:= ?r8)
    case h8=>
     exact c8d
    try simp only[lh,lz]
    refine A3 7 ?_;refine A3 8 ?_;refine A3 9 ?_;refine tkT 10 (v:= ?v12) (hv:= .inl ⟨by rfl,?h12⟩) (k:= ?r12)
    case h12=>
     exact c8d
    try simp only[lh,lz]
    refine A3 11 ?_;refine tkT 12 (v:= ?v14) (hv:= .inl ⟨by rfl,?h14⟩) (k:= ?r14)
    case h14=>
     exact c8d
    try simp only[lh,lz]
    refine F3 13 λK hK=> ?_;go_simp
    go_wp2_with (go_at_call 267;go_loud (refine(y9 _ _).mono ?_;rintro e w5 ⟨rfl,hg5⟩))
    refine hK.o _ _ ?_ (λhHeld=> ?_)
    case refine_1=>exact⟨hg5.cell b52 B9,hg5.cell b53 B9,hg5.cell HR3.o.t0 B9,hg5.cell z5 B9⟩
    try clear hK K
    try simp only[lh,lz]
    refine F3 14 λK hK=> ?_;go_simp
    go_wp2_with (go_at_call 266;go_loud (refine(HRS.o w3 w5 [B5] _ ((HR3.o.keep (A7 _ N)).keep hg5) (b4l jj) (d.t,m.l,C5 d.c) HIN.o).mono ?_;rintro e w6 ⟨rfl,hR6⟩))
    refine hK.o _ _ ?_ (λhHeld=> ?_)
    case refine_1=>exact⟨hR6.cell Os b52,hR6.cell Os b53,hR6.t0,(hE.o.keep hR6.gb).meth 5 _ rfl⟩
    try clear hK K
    try simp only[lh,lz]
    refine ly Ok0 ?_ _;go_wp2_with fail
    go_roundw
    case rel=>exact⟨jj+1,by first|rfl|go_num,by omega,by rw[HNX.o];exact hR6.free⟩
    case measure=>exact a0s
   ·have hcv':G0 d a=false:=by simpa using hcv
    have HNX:=A1 (c3s (m:=m) (a:=a) hlt (by rw[<-HD.o.1];exact hcv'));rw[hcv']at HCV;clear hcv hcv';go_wp2_with (go_at_call 239;go_loud (refine(HCV.o _).mono ?_;rintro e w3 ⟨rfl,hg3⟩;have HGW3:=A0 (A2 wr (H #[J I d.f, J I d.to, J I d.t, Z d.c] 202) N) hg3))
    go_roundw
    case rel=>exact c7y
    case measure=>exact a0s
  ·have hjn:jj=m.h.length:=by omega
   have HR2:X (F8 w0 w wr [] t bw b tg g m.c.length L s0 (fxP L m a lw 0)):=by rw[c0P,<-hjn];exact HR.o
   clear HR;subst hjn;have zt:=HR2.o.t0;have z8:=(hE.o.keep HR2.o.gb).c8;have ze:wr.cell? (A eg (a*3+1) N)=O (.slice ua pn uk):=by rw[HPN.o];exact HR2.o.gb.cell HEF.o.1 B9
   go_wp2_with fail
   generalize wr=wq at HR2⊢;clear zt z8 ze;go_loopw [54] (λv W=>∃kk:Nat,v= J I kk/\kk<=pn/\F8 w0 w W [] t bw b tg g m.c.length L s0 (fxP L m a lw kk)) (λv _=>pn-(lj v).toNat)
   case atStart=>exact⟨0,rfl,lk _,HR2.o⟩
   case round=>
    obtain⟨kk,rfl,hkk,hR⟩:=hrel;have HR:=A1 hR;clear hR;by_cases hlt:kk<pn
    ·have hltp:kk<(C7 L (A5 m a)).length:=by rw[<-HPN.o];exact hlt
     obtain⟨pd,hpd,hpl,hcd⟩:=(HEF.o.2.keep HR.o.gb) kk hltp;obtain⟨T,hTd⟩:=Oe ((C7 L (A5 m a)).getD kk A8)
     have hTe:(C7 L (A5 m a))[kk]=T:=by rw[hTd];simp[hltp]
     rw[hTe]at hcd;have HTD:X (T=(C7 L (A5 m a)).getD kk A8/\kk<(C7 L (A5 m a)).length):=⟨hTd,hltp⟩
     subst hpd;have y0:wr.cell? (pd.add (kk*2))=O (J I T.k):=hcd 0 _ rfl;have y1:wr.cell? (A ((pd.add (kk*2)).block) ((pd.add (kk*2)).off+1) N)=O (Z T.n):=by rw[C2 pd (kk*2) 0];exact hcd 1 _ rfl
     have hkI:(kk:Int)<(pn:Int):=by omega
     clear hTe hTd hltp hcd hpl;by_cases hT0:T.k=0
     ·have hT0b:((T.k:Int)==0)=true:=by rw[beq_iff_eq];omega
      have HSK:X (fxP L m a lw (kk+1)=fxP L m a lw kk):=c0Q (by rw[<-HTD.o.1];exact hT0);clear hT0;go_wp2_with fail
      go_roundw
      case rel=>exact⟨kk+1,by first|rfl|go_num,by omega,by rw[HSK.o];exact HR.o.keep (A2 _ _ N)⟩
      case measure=>exact a0s
     ·have hT0b:((T.k:Int)==0)=false:=by rw[beq_eq_false_iff_ne];omega
      have HTK:X (¬((C7 L (A5 m a)).getD kk A8).k=0):=by rw[<-HTD.o.1];exact hT0
      clear hT0;obtain⟨pc,hpc,-,hci⟩:=(hE.o.keep HR.o.gb).c a hak.o.1;obtain⟨i,hi⟩:=Oe (A5 m a)
      have hcm:m.c[a]'hak.o.1=i:=by rw[hi];unfold A5;simp[hak.o.1]
      rw[hcm]at hci;have HIE:=A1 hi;have zt:=HR.o.t0;have c6:wr.cell? (A bw 6 N)=O (.slice (O pc) m.c.length ck):=by rw[<-hpc];exact(hE.o.keep HR.o.gb).meth 6 _ rfl
      have x0:wr.cell? (pc.add (a*4))=O (J I i.o):=hci 0 _ rfl;have x1:wr.cell? (A ((pc.add (a*4)).block) ((pc.add (a*4)).off+1) N)=O (J I i.a):=by rw[C2 pc (a*4) 0];exact hci 1 _ rfl
      have x2:wr.cell? (A ((pc.add (a*4)).block) ((pc.add (a*4)).off+2) N)=O (Z i.c):=by rw[C2 pc (a*4) 1];exact hci 2 _ rfl
      have x3:wr.cell? (A ((pc.add (a*4)).block) ((pc.add (a*4)).off+3) N)=O (Z i.m):=by rw[C2 pc (a*4) 2];exact hci 3 _ rfl
      have ltt:t<wr.heap.size:=lm zt;have lbw:bw<wr.heap.size:=lm c6;have lpc:=lm x0;have hio:R7 i:=by rw[hi];exact hP.o.ok _ (a6c hak.o.1)
      have hioa:12<=i.o->i.o<=15->0<=i.a:=λh1 _=>hio.2 Oo
      obtain⟨gl,hgl⟩:=Oe (E6 i a)
      have HNXT:X (∀W,la prog 268 #[Q #[J I i.o, J I i.a, Z i.c, Z i.m], J I a] W λe w'=>W.grownBy w' N/\∃v,e= Y v/\w'.ownsRow W.heap.size 3 1 v gl.length (gl.flatMap a0p)):=λW=>by
       rw[hgl];exact a8P W i a (by have:=hak.o.1;omega) hioa
      have HGL:X (gl=E6 (A5 m a) a):=by rw[<-HIE.o];exact hgl
      obtain⟨nl,hnl⟩:=Oe gl.length
      have HNL:=A1 hnl;have hnl2:nl<=2:=by rw[hnl,hgl];exact a8U _ _
      rw[<-hnl]at HNXT;clear hio hioa hgl hnl hci hcm hi hpc;go_wp2_with (go_at_call 268;go_loud (refine(HNXT.o _).mono ?_;rintro e w6 ⟨hg6,v6,rfl,ho6⟩;obtain⟨a6,k6,rfl⟩:=F7 ho6))
      have hb7:A4 (wr.alloc (H #[J I T.k, Z T.n] 98)) wr.heap.size #[J I T.k, Z T.n] 98:=A4.new wr _ _;have hR6a:=HR.o.more (A2 _ _ N) (lb _) hb7.lt;obtain⟨Bs,hBs⟩:=Oe ((Value.slice a6 nl k6).ownBlock.toList++ [wr.heap.size])
      have HR6:X (F8 w0 w6 w6 Bs t bw b tg g m.c.length L s0 (fxN L m a lw kk 0)):=by rw[c0R,hBs];exact hR6a.moreO hg6 ho6
      have HV6:X (w6.cell? (A wr.heap.size 0 N)=O (J I T.k)/\w6.cell? (A wr.heap.size 1 N)=O (Z T.n)):=⟨hg6.cell (hb7.cell 0 _ rfl) Os,hg6.cell (hb7.cell 1 _ rfl) Os⟩
      have HBB:X (wr.heap.size∈Bs):=by rw[hBs];exact lx _ Os
      obtain⟨Z6,hZ6⟩:=Oe ((wr.alloc (H #[J I T.k, Z T.n] 98)).heap.size)
      have HO6:X (w6.ownsRow Z6 3 1 (.slice a6 nl k6) nl (gl.flatMap a0p)/\∀k,(Value.slice a6 nl k6).ownBlock=O k->k∈Bs):=⟨by rw[hZ6];exact ho6,λk hk=>by rw[hBs,hk];simp⟩
      clear hZ6 hBs hg6 ho6 hb7 hR6a x0 x1 x2 x3 zt c6 ltt lbw lpc y0 y1;generalize wr.heap.size=B7 at HV6 HBB⊢;go_loopw [76] (λv W=>∃jj:Nat,v= J I jj/\jj<=nl/\F8 w0 w6 W Bs t bw b tg g m.c.length L s0 (fxN L m a lw kk jj)) (λv _=>nl-(lj v).toNat)
      case atStart=>exact⟨0,rfl,lk _,HR6.o⟩
      case round=>
       clear HR;obtain⟨jj,rfl,hjj,hR⟩:=hrel;have HR:=A1 hR;clear hR;by_cases hlt3:jj<nl
       ·have hjl:jj<gl.length:=by rw[<-HNL.o];exact hlt3
        have hown:=HR.o.row HO6.o.1 HO6.o.2;obtain⟨g5,c5,hg5e,-,hg5l⟩:=hown.form Oo;injection hg5e with hg5e hg5n hg5k
        clear hg5n;subst hg5k;obtain⟨x,hx⟩:=Oe (gl.getD jj 0)
        have hgj:wr.cell? (A g5 jj N)=O (J I x):=by
         exact a4q
        have HX:X (x=(E6 (A5 m a) a).getD jj 0):=by unfold X;rw[hx,HGL.o]
        have HJN:X (jj<(E6 (A5 m a) a).length):=by unfold X;rw[<-HGL.o];exact hjl
        have HSUC:X (fxN L m a lw kk (jj+1)=fxN L m a lw kk jj++ [(x,lw+kk,T)]):=by
         have:=c0S (l:=L) (low:=lw) (k:=kk) HJN.o;rw[<-HX.o,<-HTD.o.1]at this;exact this
        have HIN:X ((x,lw+kk,T)∈T1 L m a lw):=by
         have:=c3o (low:=lw) HTD.o.2 HTK.o HJN.o;rw[<-HX.o,<-HTD.o.1]at this;exact this
        have HPRE:X (∀y∈fxN L m a lw kk jj,y∈T1 L m a lw):=c3r HTD.o.2 HTK.o;have z70:=HR.o.cell HBB.o HV6.o.1;have z71:=HR.o.cell HBB.o HV6.o.2;have hjI:(jj:Int)<(nl:Int):=by omega
        have HRQ:X (∀W8,F8 w0 w6 W8 Bs t bw b tg g m.c.length L s0 (fxN L m a lw kk jj)->la prog 266 #[U (O (A t 0 N)), J I x, J I ((lw:Int)+(kk:Int)), Q #[J I T.k, Z T.n]] W8 λe w'=>e= Y (.tuple #[])/\F8 w0 w6 w' Bs t bw b tg g m.c.length L s0 (fxN L m a lw kk jj++ [(x,lw+kk,T)])):=λW8 hW8=>by
         have h9:=HRS.o w6 W8 Bs _ hW8 HPRE.o (x,lw+kk,T) HIN.o;have e9:=nu lw kk;rw[<-e9];exact h9
        have HWR:X (IntKind.i64.wrap ((lw:Int)+(kk:Int))=(lw:Int)+(kk:Int)):=IntWalk.i64_in _ Oo;clear hown hjl hx hg5l;subst hg5e;go_upto_region 13 with fail
        refine nj (S:=(λw'=>w'.cell? (A B7 0 N)=O (J I T.k)/\w'.cell? (A B7 1 N)=O (Z T.n))) Ok0 (⟨z70,z71⟩) (λhHeld=> ?_);refine A3 0 ?_;refine A3 1 ?_;refine A3 2 ?_;refine A3 3 ?_;refine A3 5 ?_;refine tkT 7 (v:= Q #[J I T.k, Z T.n]) (hv:= .inl ⟨by rfl,?h21⟩) (k:= ?r21)
        case h21=>
         exact c8g
        try simp only[lh,lz]
        refine F3 4 λK hK=> ?_;go_simp
        go_wp2_with (go_at_call 269;go_loud (refine(HLW.o _ _ (HR.o.keep (A7 wr N))).mono ?_;rintro e w8 ⟨rfl,hg8⟩))
        refine hK.o _ _ ?_ (λhHeld=> ?_)
        case refine_1=>exact⟨hg8.cell z70 B9,hg8.cell z71 B9⟩
        try clear hK K
        try simp only[lh,lz]
        refine tkT 6 (v:= J I ((lw:Int)+(kk:Int))) (hv:= .inl ⟨by rfl,?h22⟩) (k:= ?r22)
        case h22=>(intro w hSw;(try dsimp only at hSw);go_simp;(try rw[HWR.o]);try with_reducible rfl)
        try simp only[lh,lz]
        refine F3 8 λK hK=> ?_;go_simp
        go_wp2_with (go_at_call 266;go_loud (refine(HRQ.o w8 ((HR.o.keep (A7 _ N)).keep hg8)).mono ?_;rintro e w9 ⟨rfl,hR9⟩))
        refine hK.o _ _ ?_ (λhHeld=> ?_)
        case refine_1=>exact⟨hR9.cell HBB.o HV6.o.1,hR9.cell HBB.o HV6.o.2⟩
        try clear hK K
        try simp only[lh,lz]
        refine ly Ok0 ?_ _;go_wp2_with fail
        go_roundw
        case rel=>exact⟨jj+1,by first|rfl|go_num,by omega,by rw[HSUC.o];exact hR9⟩
        case measure=>exact a0s
       ·have hjn:jj=nl:=by omega
        have HFN:X (F8 w0 w wr [] t bw b tg g m.c.length L s0 (fxP L m a lw (kk+1))):=by
         have:=HR.o;rw[hjn,HNL.o,HGL.o,c2i HTK.o]at this;exact this.free
        clear HR;subst hjn;go_wp2_with fail
        go_roundw
        case rel=>exact⟨kk+1,by first|rfl|go_num,by omega,HFN.o⟩
        case measure=>exact a0s
    ·have hkn:kk=pn:=by omega
     have HFN:X (F8 w0 w wr [] t bw b tg g m.c.length L s0 (T1 L m a lw)):=by rw[b8X,<-HPN.o,<-hkn];exact HR.o
     clear HR;subst hkn;go_wp2_with fail
     go_end0;exact⟨rfl,HFN.o⟩
theorem b0q(w:ld)(t bw y n a:Nat)(x:Int)(c0:w.cell? (A t 0 N)=O (U (O (A bw 0 N))))(c9:w.cell? (A bw 9 N)=O (.slice (O (A y 0 N)) n n))
 (F:w.cell? (A y a N)=O (J I x)) (ha:a<n):
 la prog 193 #[U (O (A t 0 N)), J I a] w λe E=>e= Y (G (decide (x≠-1)))/\E=w:=by
 have D:(a:Int)<(n:Int):=by omega
 by_cases hx1:x= -1
 ·subst hx1;go_enter func193,ntmps193;go_wp2_with fail
  go_ret;exact⟨rfl,rfl⟩
 ·have d:=beq_eq_false_iff_ne.2 hx1;have i:decide (x≠-1)=true:=decide_eq_true hx1;rw[i];have v:(x != -1)=true:=by rw[bne,d];rfl
  go_enter func193,ntmps193;go_wp2_with fail
  go_ret;exact⟨by rw[<-v];rfl,rfl⟩
def htJ(ht:Nat->Option Nat)(j a:Nat):Option Nat:=if a<j then ht a else N
theorem c0F(ht:Nat->Option Nat):htJ ht 0=λ_=>N:=by
 funext a;unfold htJ;rw[if_neg Oo]
variable {ht:Nat->Option Nat}
theorem c0G(h:ht j=N):htJ ht (j+1)=htJ ht j:=by
 funext a
 unfold htJ;by_cases e:a=j
 ·subst e;rw[h];simp
 ·by_cases e2:a<j
  ·rw[if_pos Oo,if_pos e2]
  ·rw[if_neg Oo,if_neg e2]
variable {m:Me}
theorem c1D:N8 m (htJ ht m.c.length)=N8 m ht:=by
 unfold N8;congr 1
 apply List.map_congr_left;intro a ha;have:=ln.1 ha;unfold htJ;rw[if_pos this]
theorem a9m(m:Me)(ht:Nat->Option Nat)(ha:a<m.c.length)(j:Nat):(N8 m (htJ ht j)).ts.getD a []=if a<j then(match ht a with|none=> []|some h=>nd (m.l+h) N)else []:=by
 rw[a4B m _ ha];unfold htJ;by_cases e:a<j
 ·rw[if_pos e,if_pos e];cases ht a<;>rfl
 ·rw[if_neg e,if_neg e]
theorem c0g(m:Me)(g:Nat->Nat):(lv m.c.length).map (a1I g (N8 m (λ_=>N)).ts)=nd m.c.length (.slice N 0 0):=by
 apply uc
 ·simp
 ·intro a d e;have ha:a<m.c.length:=by simpa using d
  simp only[ud,nk,List.getElem_replicate];unfold a1I;rw[a4B m _ ha];simp
theorem c0p(n:Nat):(madeCells (Value.slice N 0 0).cells (n*1)).toList=nd n (Value.slice N 0 0):=by
 exact c5x
theorem K2.newrow{w':ld}{gn:Nat}(h:K2 w base t bw b tg g m.c.length (N8 m (htJ ht j)) N 0)(hg:w.grownBy w' N)(hb:base<=w.heap.size)
 (hj:j<m.c.length) (hk:ht j=O k) (hl:0<m.l)
 (aa:w'.ownsRow w.heap.size 98 2 (.slice (O (A gn 0 N)) (m.l+k) (m.l+k)) (m.l+k) (E4 (m.l+k) [J I (-1), Z ⟨#[]⟩])):
 K2 (w'.setCell (A tg j N) (.slice (O (A gn 0 N)) (m.l+k) (m.l+k))) base t bw b tg (λa=>if a=j then gn else g a) m.c.length (N8 m (htJ ht (j+1))) N 0:=by
 obtain⟨F,ab⟩:=a1S aa;have y:=h.keep hg;have hs:=A6 w' (A tg j N) (.slice (O (A gn 0 N)) (m.l+k) (m.l+k));have ac:=F.lt;have E:=y.types.set j (.slice (O (A gn 0 N)) (m.l+k) (m.l+k))
 have i:∀a,a<m.c.length->a≠j->(N8 m (htJ ht (j+1))).ts.getD a []=(N8 m (htJ ht j)).ts.getD a []:=λa ha d=>by
  rw[a9m m ht ha,a9m m ht ha];by_cases e:a<j
  ·rw[if_pos Oo,if_pos e]
  ·rw[if_neg Oo,if_neg e]
 have T:(N8 m (htJ ht (j+1))).ts.getD j []=nd (m.l+k) N:=by
  rw[a9m m ht hj,if_pos Oo,hk]
 have D:∀a,a<m.c.length->(((N8 m (htJ ht j)).ts.getD a []).length≠0)->g a≠gn:=λa ha d e=>by
  have:=(h.rows a ha d).lt;omega
 refine⟨y.blk.keep hs (λe=>G8 y.blk y.types Od (nv.inj e)),?_,λa ha d=> ?_,⟨rfl, .inl ⟨rfl,rfl⟩⟩,λa c ha hc S M K=> ?_,⟨h.low.1,h.low.2.1,λa ha=> ?_⟩⟩
 ·have e:(((lv m.c.length).map (a1I g (N8 m (htJ ht j)).ts)).toArray.setIfInBounds j (.slice (O (A gn 0 N)) (m.l+k) (m.l+k)))=((lv m.c.length).map (a1I (λa=>if a=j then gn else g a) (N8 m (htJ ht (j+1))).ts)).toArray:=by
   rw[List.setIfInBounds_toArray];congr 1
   apply uc
   ·simp
   ·intro a S M;have ha:a<m.c.length:=by simpa using M
    rw[List.getElem_set];simp only[ud,nk];by_cases e:a=j
    ·subst e;rw[if_pos rfl];unfold a1I;rw[T];simp only[List.length_replicate];rw[if_neg Oo];simp
    ·rw[if_neg (λv=>e v.symm)];unfold a1I;rw[i a ha e];simp[e]
  rw[e]at E;exact E
 ·try dsimp only
  by_cases e:a=j
  ·subst e;rw[if_pos rfl,T];have v:(nd (m.l+k) (N:Option Ty)).flatMap a2v=E4 (m.l+k) [J I (-1), Z ⟨#[]⟩]:=(b6e a2v (m.l+k) N).symm;rw[v];exact F.keep hs (λe3=>G8 F y.types Od (nv.inj e3))
  ·rw[if_neg e];rw[i a ha e]at d⊢;exact(y.rows a ha d).keep hs (λe3=>G8 (y.rows a ha d) y.types Od (nv.inj e3))
 ·try dsimp only at K
  by_cases e1:a=j
  ·by_cases v:c=j
   ·rw[e1,v]
   ·rw[if_pos e1,if_neg v]at K;rw[i c hc v]at M;exact absurd K.symm (D c hc M)
  ·by_cases v:c=j
   ·rw[if_neg e1,if_pos v]at K;rw[i a ha e1]at S;exact absurd K (D a ha S)
   ·rw[if_neg e1,if_neg v]at K;rw[i a ha e1]at S;rw[i c hc v]at M;exact h.d2 a c ha hc S M K
 ·try dsimp only
  by_cases e:a=j
  ·rw[if_pos e];exact⟨li hb ab,no ac hs.size⟩
  ·rw[if_neg e];exact⟨(y.low.2.2 a ha).1,no (y.low.2.2 a ha).2 hs.size⟩
structure TdI(w0 W:World)(t bw b tg:Nat)(g:Nat->Nat)(L:List Cl)(c:ByteArray)(m:Me)(s:Ps)(j:Nat):Prop where
 fl:F8 w0 w0 W [] t bw b tg g m.c.length L s []
 ok:P5 L c m s
 gone:a0J L m s none
 mu:U9 L s<=8000000000000
 ent:∀p∈U5 c m,Z9 L s.ts p
 fix:∀a k,a<j->Cf.G2 L m a k->∀p∈T1 L m a (F0 L m a k),Z9 L s.ts p
theorem F8.fold{A9:List (Nat×Nat×Ty)}(h:F8 w0 V W Bs t bw b tg g n L s1 A9):F8 w0 V W Bs t bw b tg g n L (A9.foldl (O6 L) s1) []:=h
variable {c:ByteArray}
theorem PE.raises(e:PE L c m ht)(i:P5 L c m s)(D:a0J L m s N){d:List (Nat×Nat×Ty)}(hv:∀p∈d,a1j L c m p):
 P5 L c m (d.foldl (O6 L) s)/\a0J L m (d.foldl (O6 L) s) N/\U9 L (d.foldl (O6 L) s)<=U9 L s/\(∀p∈d,Z9 L (d.foldl (O6 L) s).ts p)/\∀p:Nat×Nat×Ty,D9 L p.2.2->Z9 L s.ts p->Z9 L (d.foldl (O6 L) s).ts p:=by
 obtain⟨v,y,K⟩:=e.wld.psRaises_ok d i hv;exact⟨v,e.wld.psGone_all e.tyw e.cok e.ok e.hok i D d hv,y.mu,K,λp E F=>e.wld.satS_rises i.snd v.snd y.up E F⟩
theorem PE.entTy(d:PE L c m ht):∀p∈U5 c m,a1j L c m p:=d.wld.ent_comes d.cok d.has d.pars
theorem PE.fixTy(d:PE L c m ht)(e:Cf.G2 L m a k):∀p∈T1 L m a (F0 L m a k),a1j L c m p:=d.wld.fixed_comes d.tyw d.cok d.ok d.hok e
theorem TdI.put(v:PE L c m ht)(h:TdI w0 W t bw b tg g L c m s j)(y:Cf.G2 L m j k)(E:F8 w0 V W' [] t bw b tg g m.c.length L s (T1 L m j (F0 L m j k))):
 TdI w0 W' t bw b tg g L c m ((T1 L m j (F0 L m j k)).foldl (O6 L) s) (j+1):=by
 obtain⟨K,M,S,T,D⟩:=v.raises h.ok h.gone (v.fixTy y);refine⟨E.free.fold,K,M,li S h.mu,λp i=>D p (v.entTy p i).ok (h.ent p i),λa F ha d p i=> ?_⟩;by_cases e:a=j
 ·subst e;have:=v.hok.one _ _ _ y d;subst this;exact T p i
 ·exact D p (v.fixTy d p i).ok (h.fix a F Oo d p i)
theorem TdI.skip(h:TdI w0 W t bw b tg g L c m s j)(v:∀k,¬Cf.G2 L m j k):TdI w0 W t bw b tg g L c m s (j+1):=
 ⟨h.fl,h.ok,h.gone,h.mu,h.ent,λa k ha d p i=>by
  by_cases e:a=j
  ·subst e;exact absurd d (v k)
  ·exact h.fix a k Oo d p i⟩
def b4o(w w':ld)(bw b:Nat)(L:List Cl)(c:ByteArray)(m:Me)(e:nf):Prop:=
 ∃(t tg:Nat) (g:Nat->Nat) (s:Ps) (ra:Option le) (rk:Nat),e= Y (U (O (A t 0 N)))/\K2 w' w.heap.size t bw b tg g m.c.length s ra rk/\P5 L c m s/\a2O L c m (R9 s.ts)/\
  (∀a k,Cf.G2 L m a k->∀j,j<m.l+k->∃u,tq s.ts a j=O (O u))/\w.grownBy w' N
variable {ra:Option Addr}
theorem c1p(d:PE L c m ht){D:Ps}(h:TdI w0 w t bw b tg g L c m D m.c.length){rk K:Nat}(e:FlI w0 W' t bw b tg g L c m D s ra rk K)(P:s.ris=[]):b4o w0 W' bw b L c m (Y (U (O (A t 0 N)))):=by
 have v:=fun(p:Nat×Nat×Ty) (i:D9 L p.2.2) (M:Z9 L D.ts p)=>d.wld.satS_rises h.ok.snd e.ok.snd e.up i M
 obtain⟨E,F⟩:=d.wld.ps_end d.tyw d.cok d.ok d.hok e.ok e.gone P (λp i=>v p (d.entTy p i).ok (h.ent p i)) (λa k y p i=>v p (d.fixTy y p i).ok (h.fix a k (l5 d.cok d.ok y).1 y p i));exact⟨t,tg,g,s,ra,rk,rfl,e.m,e.ok,E,F,e.gb⟩
theorem c0E:(prog.info? 96).map (λi=>(i.zero,i.size,i.bytes))=O (O (.slice N 0 0),1,24):=by kernel_rfl
theorem c1E{d:Nat}{e:TypeId}{sz:Nat}{v:lq}{xs:List lq}(h:w.ownsRow base e sz v n xs)(E:d<=base):w.ownsRow d e sz v n xs:=by
 refine⟨h.1,?_⟩;rcases h.2 with y|⟨g,cap,i,K,F,D⟩
 ·exact .inl y
 ·exact .inr ⟨g,cap,i,K,li E F,D⟩
theorem b7Y(L:List Cl)(c:ByteArray)(m:Me)(ht:Nat->Option Nat)(i:X (PE L c m ht))(w:ld)(lim b:Nat)(p:le)(cap m1 m2 m3:Nat)(q:Nat->Qs)(h:X (Lk w lim b L p cap m1 m2 m3 q))(hl:lim<=w.heap.size)(pa ca ha:Option le)(pk ck hk bw eg hg:Nat)(hE:X (TyE w lim L m pa pk ca ck ha hk bw eg hg ht)):
 la prog 127 #[U (O (A b 0 N)), Z c, U (O (A bw 0 N))] w λe w'=>b4o w w' bw b L c m e:=by
 have bv:=i.o.nc;have bu:=i.o.lo;have a7:X (0<m.l):=by have:=i.o.cok.l;unfold X;omega
 have T:X (P5 L c m (N8 m ht)/\a0J L m (N8 m ht) N/\U9 L (N8 m ht)<=8000000000000):=⟨c2Q i.o.cok i.o.ok i.o.hts,b9W L m ht,i.o.mu0⟩
 have c9:=hE.o.c9;have bp:bw<w.heap.size:=lm c9;obtain⟨bl,bk,bm,bn,bo⟩:=info_parts c0E;go_enter func127,ntmps127;go_upto_region 2 with(at_make;go_loud (refine wpList_make_full _ rfl _ _ 183 rfl w.heap.size 96 bl _ 1 underlying183 bk bm bn I I (m.c.length:Int) (m.c.length:Int) m.c.length rfl rfl rfl rfl (by rw[bo];omega) Om (lb _) ?_;intro w1 a0 ae;dsimp only))
 obtain⟨tg,a2⟩:=Oe w.heap.size
 have a5:X (w.heap.size<=tg):=by unfold X;omega
 obtain⟨t,ac⟩:=Oe w1.heap.size
 obtain⟨ay,bg⟩:=a1S a0;have aa:A4 (w1.alloc (H #[U (O (A bw 0 N)), U (O (A b 0 N)), .slice (O (A w.heap.size 0 N)) m.c.length m.c.length, .slice N 0 0] 311)) t #[U (O (A bw 0 N)), U (O (A b 0 N)), .slice (O (A w.heap.size 0 N)) m.c.length m.c.length, .slice N 0 0] 311:=by rw[ac];exact A4.new w1 _ _
 have ad:w.grownBy (w1.alloc (H #[U (O (A bw 0 N)), U (O (A b 0 N)), .slice (O (A w.heap.size 0 N)) m.c.length m.c.length, .slice N 0 0] 311)) N:=A0 ae (A2 _ _ N);have E:=ay.keep (A2 w1 (H #[U (O (A bw 0 N)), U (O (A b 0 N)), .slice (O (A w.heap.size 0 N)) m.c.length m.c.length, .slice N 0 0] 311) N) B9;rw[<-ac];rw[<-a2]at aa ad E⊢;generalize w1.alloc (H #[U (O (A bw 0 N)), U (O (A b 0 N)), .slice (O (A tg 0 N)) m.c.length m.c.length, .slice N 0 0] 311)=W2 at aa ad E⊢
 have bb:X (K2 W2 w.heap.size t bw b tg (λ_=>t) m.c.length (N8 m (htJ ht 0)) N 0):=by
  rw[c0F];refine⟨aa,?_,λa ha az=> ?_,⟨rfl, .inl ⟨rfl,rfl⟩⟩,λa c ha hc h1=> ?_,⟨by rw[ac];exact ae.size,a5.o,λa ha=>⟨by rw[ac];exact ae.size,aa.lt⟩⟩⟩
  ·rw[c0g];have e:=c0p m.c.length;rw[e]at E;exact E
  ·rw[a4B m _ ha]at az;simp at az
  ·rw[a4B m _ ha]at h1;simp at h1
 have ao:=A1 ad;clear aa ad E ay bg a0 ae ac a2;have bd:=ao.o.cell c9 B9;go_wp2_with fail
 clear c9 bd bp;go_loopw [26] (λv W=>∃(j:Nat) (g:Nat->Nat),v= J I j/\j<=m.c.length/\K2 W w.heap.size t bw b tg g m.c.length (N8 m (htJ ht j)) N 0/\w.grownBy W N) (λv _=>m.c.length-(lj v).toNat)
 case atStart=>exact⟨0,_,rfl,lk _,bb.o,ao.o⟩
 case round=>
  obtain⟨j,g,rfl,hj,aw,av⟩:=hrel;have D:=A1 aw;have HG:=A1 av;clear aw av;by_cases hlt:j<m.c.length
  ·have bj:(j:Int)<(m.c.length:Int):=by omega
   have ch:=(hE.o.keep HG.o).hts j hlt;unfold htI at ch;cases hkp:ht j with
   |none=>
    rw[hkp]at ch;dsimp only at ch;have ah:=A1 (c0G hkp);clear hkp;go_wp2_with fail
    go_roundw
    case rel=>exact⟨j+1,g,by first|rfl|go_num,by omega,by rw[ah.o];exact D.o,HG.o⟩
    case measure=>exact a0s
   |some k=>
    rw[hkp]at ch;dsimp only at ch;have HJ:X (j<m.c.length/\ht j=O k):=⟨hlt,hkp⟩
    have bt:=li (i.o.hst j k hkp) i.o.st;have bq:((k:Int)== -1)=false:=by rw[beq_eq_false_iff_ne];omega
    have br:¬(k:Int)= -1:=by omega
    have c2:=D.o.blk.c2;have z5:=(hE.o.keep HG.o).meth 5 _ rfl;have am:=A1 HG.o.size;have bc:X (IntKind.i64.wrap ((m.l:Int)+(k:Int))=((m.l+k:Nat):Int)):=by unfold X;rw[IntWalk.i64_in _ Oo];exact(nu m.l k).symm
    clear hkp;go_upto_region 6 with fail
    refine nj (S:=(λw'=>w'.cell? (A t 2 N)=O (.slice (O (A tg 0 N)) m.c.length m.c.length)/\w'.cell? (A bw 5 N)=O (J I m.l))) Ok0 (⟨c2,z5⟩) (λF=> ?_);refine A3 0 ?_;refine A3 1 ?_;refine A3 2 ?_;refine tkT 3 (v:= ?v5) (hv:= .inl ⟨by rfl,?h5⟩) (k:= ?r5)
    case h5=>
     exact c8g
    try simp only[lh,lz]
    refine A3 4 ?_;refine tkT 5 (v:= Q #[J I (-1), Z ⟨#[]⟩]) (hv:= .inl ⟨by rfl,?h7⟩) (k:= ?r7)
    case h7=>(intro w hSw;(try dsimp only at hSw);go_simp;try with_reducible rfl)
    try simp only[lh,lz]
    refine A3 7 ?_;refine A3 8 ?_;refine A3 9 ?_;refine A3 10 ?_;refine tkT 11 (v:= ?v12) (hv:= .inl ⟨by rfl,?h12⟩) (k:= ?r12)
    case h12=>
     exact c8g
    try simp only[lh,lz]
    refine A3 12 ?_;refine tkT 13 (v:= J I ((m.l+k:Nat):Int)) (hv:= .inl ⟨by rfl,?h14⟩) (k:= ?r14)
    case h14=>(intro w hSw;(try dsimp only at hSw);go_simp;(try rw[bc.o]);(try exact nu _ _);try with_reducible rfl)
    try simp only[lh,lz]
    refine F3 6 λK hK=> ?_;go_simp
    have al:wr.grownBy (wr.drew.alloc (H #[J I (-1), Z ⟨#[]⟩] 98)) N:=A0 (A7 _ _) (A2 _ _ N);have bs:A4 (wr.drew.alloc (H #[J I (-1), Z ⟨#[]⟩] 98)) wr.drew.heap.size #[J I (-1), Z ⟨#[]⟩] 98:=A4.new wr.drew _ _;refine hK.o _ _ ?_ (λF=> ?_)
    case refine_1=>exact⟨al.cell c2 B9,al.cell z5 B9⟩
    try clear hK K
    try simp only[lh,lz]
    refine F3 14 λK hK=> ?_;go_simp
    go_wp2_with (go_at_call 191;go_loud (refine(c2N (wr.drew.alloc (H #[J I (-1), Z ⟨#[]⟩] 98)) (A wr.drew.heap.size 0 N) (m.l+k) 1 [J I (-1), Z ⟨#[]⟩] rfl (λjj v hv=>O8 wr.drew _ _ jj v hv) (by simp[Value.oneCell']) Oo).mono ?_;rintro e w3 ⟨gn,rfl,a1,bh⟩))
    have M:=A0 al bh;refine hK.o _ _ ?_ (λF=> ?_)
    case refine_1=>exact⟨M.cell c2 B9,M.cell z5 B9⟩
    try clear hK K
    try simp only[lh,lz]
    refine A3 15 ?_;have ak:=K2.newrow (gn:=gn) (w':=w3) D.o M am.o HJ.o.1 HJ.o.2 a7.o (c1E a1 Os);have cj:=(D.o.keep M).types.frozen j;have ej:=b7 (D.o.keep M).types j _ (by rw[ue,uf HJ.o.1];rfl);refine F3 16 λK hK=> ?_;go_simp
    have bi:=A6 w3 (A tg j N) (.slice (O (A gn 0 N)) (m.l+k) (m.l+k));have ai:=C6 (A0 HG.o M) bi (λk e=>by cases e;exact .inl D.o.low.2.1);generalize w3.setCell (A tg j N) (.slice (O (A gn 0 N)) (m.l+k) (m.l+k))=W9 at ak ai⊢;refine hK.o _ _ ?_ (λF=> ?_)
    case refine_1=>exact⟨ak.blk.cell 2 _ rfl,(hE.o.keep ai).meth 5 _ rfl⟩
    try clear hK K
    try simp only[lh,lz]
    refine ly Ok0 ?_ _;go_wp2_with fail
    go_roundw
    case rel=>exact⟨j+1,_,by first|rfl|go_num,by omega,ak,ai⟩
    case measure=>exact a0s
  ·have ab:j=m.c.length:=by omega
   have ap:X (K2 wr w.heap.size t bw b tg g m.c.length (N8 m ht) N 0):=by have:=D.o;rw[ab,c1D]at this;exact this
   have an:X (F8 w wr wr [] t bw b tg g m.c.length L (N8 m ht) []):=⟨N,0,ap.o,HG.o,λk hk=>by cases hk⟩
   clear D;subst ab;go_upto_region 9 with(first|(go_at_call 192;go_loud (refine(b9c L c m ht i w lim b p cap m1 m2 m3 q h hl pa ca ha pk ck hk bw eg hg hE t tg g wr (N8 m ht) an.o T.o.1 T.o.2.2).mono ?_;rintro e w4 ⟨rfl,aj⟩)))
   have aq:X (TdI w w4 t bw b tg g L c m ((U5 c m).foldl (O6 L) (N8 m ht)) 0):=by
    obtain⟨k1,k2,k3,k4,-⟩:=i.o.raises T.o.1 T.o.2.1 i.o.entTy;exact⟨aj.free.fold,k1,k2,li k3 T.o.2.2,k4,λa k ha=>absurd ha (ls _)⟩
   have c2:=aj.choose_spec.choose_spec.1.blk.c2;clear aj an ap HG;go_wp2_with fail
   clear c2;go_loopw [58] (λv W=>∃(j:Nat) (s:Ps),v= J I j/\j<=m.c.length/\TdI w W t bw b tg g L c m s j) (λv _=>m.c.length-(lj v).toNat)
   case atStart=>exact⟨0,_,rfl,lk _,aq.o⟩
   case round=>
    obtain⟨j,s,rfl,hj,ax⟩:=hrel;have d:=A1 ax;clear ax;by_cases hlt:j<m.c.length
    ·have bj:(j:Int)<(m.c.length:Int):=by omega
     have ar:=hE.o.keep d.o.fl.gb;have hIR:=b0q wr t bw hg m.c.length j _ d.o.fl.t0 ar.c9 (ar.hts j hlt) hlt;unfold htI at hIR;cases hkp:ht j with
     |none=>
      rw[hkp]at hIR;have ag:X (la prog 193 #[U (O (A t 0 N)), J I j] wr λe w'=>e= Y (G false)/\w'=wr):=hIR;have ah:X (∀k,¬Cf.G2 L m j k):=λk hr=>by have:=(i.o.hts j k hlt).2 hr;rw[hkp]at this;cases this
      clear hkp hIR;go_wp2_with (go_at_call 193;go_loud (refine ag.o.mono ?_;rintro e w5 ⟨rfl,rfl⟩))
      go_roundw
      case rel=>exact⟨j+1,s,by first|rfl|go_num,by omega,d.o.skip ah.o⟩
      case measure=>exact a0s
     |some k=>
      rw[hkp]at hIR
      have af:la prog 193 #[U (O (A t 0 N)), J I j] wr λe w'=>e= Y (G true)/\w'=wr:=by
       exact c6z
      have ag:=A1 af
      have a':X (la prog 194 #[U (O (A t 0 N)), J I j] wr λe w'=>e= Y (.tuple #[])/\F8 w wr w' [] t bw b tg g m.c.length L s (T1 L m j (F0 L m j k))):=
       b5H L c m ht i w lim b p cap m1 m2 m3 q h hl pa ca ha pk ck hk bw eg hg hE t tg g wr s d.o.fl.free d.o.ok d.o.mu j k ⟨hlt,hkp⟩
      have ba:=A1 ((i.o.hts j k hlt).1 hkp);clear hkp hIR af;go_wp2_with (first|(go_at_call 193;go_loud (refine ag.o.mono ?_;rintro e w5 ⟨rfl,rfl⟩))|(go_at_call 194;go_loud (refine a'.o.mono ?_;rintro e w6 ⟨rfl,bf⟩)))
      have HN:=d.o.put i.o ba.o bf;go_roundw
      case rel=>exact⟨j+1,_,by first|rfl|go_num,by omega,HN⟩
      case measure=>exact a0s
    ·have ab:j=m.c.length:=by omega
     have y:X (TdI w wr t bw b tg g L c m s m.c.length):=by rw[<-ab];exact d.o
     clear d aq;subst ab;obtain⟨ra,rk,hM,au,-⟩:=y.o.fl
     have a6:X (la prog 195 #[U (O (A t 0 N))] wr λe w'=>e= Y (.tuple #[])/\∃s' a3 a4,FlI w w' t bw b tg g L c m s s' a3 a4 8000000000000/\s'.ris=[]):=
      c0T L c m ht i w lim b p cap m1 m2 m3 q h hl pa ca ha pk ck hk bw eg hg hE t tg g wr s ra rk hM y.o.ok y.o.gone y.o.mu au
     clear hM au;go_wp2_with (go_at_call 195;go_loud (refine a6.o.mono ?_;rintro e w7 ⟨rfl,s',a3,a4,be,hz⟩))
     go_ret;exact c1p i.o y.o be hz
theorem c1w{g:Nat}{xs:List Ty}{t:TypeId}(D:A4 w g (xs.flatMap B8).toArray t)(n:Nat):C0 w w.heap.size 2 B8 (O (A g 0 N)) (xs.take n)/\C0 w w.heap.size 2 B8 (O (A g (n*2) N)) (xs.drop n):=by
 have y:∀j (i:j<xs.length) r u,(B8 xs[j])[r]? =O u->w.cell? (A g (j*2+r) N)=O u:=λj i r u v=>by
  have E:r<2:=(ug.1 v).1;exact b7 D _ _ (by rw[a1U B8 2 (λ_=>rfl) xs j i r E];exact v)
 have d:∀o k:Nat,((A g o N):le).add k=(A g (o+k) N):=λo k=>by
  unfold Addr.add;split
  ·rename_i h;subst h;rfl
  ·rfl
 refine⟨λj i=>⟨(A g 0 N),rfl,D.lt,λr u v=> ?_⟩,λj i=>⟨(A g (n*2) N),rfl,D.lt,λr u v=> ?_⟩⟩
 ·rw[d,Nat.zero_add];have e:j<xs.length:=by simp at i;omega
  exact y j e r u (by rw[<-v];simp)
 ·rw[d];have e:n+j<xs.length:=by simp at i;omega
  have:=y (n+j) e r u (by rw[<-v];simp);rw[show n*2+(j*2+r)=(n+j)*2+r by omega];exact this
theorem b9B{rk:Nat}(h:K2 w base t bw b tg g n s ra rk){len:Nat}(ha:a<n)(E:(s.ts.getD a []).length=len)(D:len≠0)(ht:∀j,j<len->∃u,tq s.ts a j=O (O u)):A4 w (g a) ((R9 s.ts a).flatMap B8).toArray 98:=by
 have v:=h.rows a ha Oo
 have e:(s.ts.getD a []).flatMap a2v=(R9 s.ts a).flatMap B8:=by
  unfold R9;rw[List.flatMap_map]
  have:∀o∈s.ts.getD a [],a2v o=B8 (o.getD A8):=λo i=>by
   obtain⟨j,y,rfl⟩:=uh i;obtain⟨u,d⟩:=ht j Oo;unfold tq at d;rw[nq y]at d;injection d with d
   rw[d];rfl
  generalize s.ts.getD a []=row at this;induction row with
  |nil=>rfl
  |cons x l ih=>rw[ui,ui,this x List.mem_cons_self,ih (λo i=>this o (List.mem_cons_of_mem _ i))]
 rw[e]at v;exact v
theorem b7z(w:ld)(t:Ty):la prog 253 #[Q #[J I t.k, Z t.n]] w λe D=>e= Y (Q #[J I t.k, Z t.n])/\w.grownBy D N:=by
 have i:X (w.grownBy ((w.alloc (H #[J I t.k, Z t.n] 98)).alloc (H #[J I t.k, Z t.n] 98)) N):=A0 (A2 _ _ _) (A2 _ _ _);go_enter func253,ntmps253;go_wp2_with fail
 have d:=A4.new (w.alloc (H #[J I t.k, Z t.n] 98)) #[J I t.k, Z t.n] 98;rw[uj]at d;obtain⟨q0,y⟩:=d.q2;exact lf (v:= Q #[J I t.k, Z t.n]) (by simp[lg,results253,go_sem,q0,y]) rfl ⟨rfl,i.o⟩
def a2Z(lo k:Nat):Nat:=if k=0 then 0 else lo*2
theorem b8x(w:ld)(base t bw b tg:Nat)(g:Nat->Nat)(n:Nat)(s:Ps)(ra:Option le)(rk:Nat)(F:X (K2 w base t bw b tg g n s ra rk))(lo k:Nat)(z5:w.cell? (A bw 5 N)=O (J I lo))(a:Nat)(ha:a<n)(d:(s.ts.getD a []).length=lo+k)(aa:0<lo)(M:lo<=255)(hk:k<=255):
 la prog 199 #[U (O (A t 0 N)), J I a] w λe w'=>e= Y (.tuple #[.slice (O (A (g a) 0 N)) lo (lo+k), .slice (O (A (g a) (a2Z lo k) N)) k k])/\w.grownBy w' N:=by
 have c0:=F.o.blk.c0;have c2:=F.o.blk.c2;obtain⟨y,i⟩:=Oe (lo+k)
 have ca:w.cell? (A tg a N)=O (.slice (O (A (g a) 0 N)) y y):=b7 F.o.types a _ (by rw[ue,uf ha,Option.map_some];unfold a1I;rw[if_neg Oo,d,i]);have T:(a:Int)<(n:Int):=by omega
 have E:=A1 i;have D:lo<=y:=by omega
 have S:y<=510:=by omega
 have K:y-lo=k:=by omega
 rw[<-i];by_cases hk0:k=0
 ·have e:y=lo:=by omega
  have v:X (a2Z lo k=0):=by unfold X a2Z;rw[if_pos hk0]
  rw[v.o];subst hk0;subst e;clear i d K D E;go_enter func199,ntmps199;go_wp2_with fail
  go_quiet (fail)
  go_wp2_with fail
  all_goals
   go_ret2
   exact⟨rfl,F4 _ _ _⟩
 ·have ab:¬y=lo:=by omega
  have v:X (a2Z lo k=lo*2):=by unfold X a2Z;rw[if_neg hk0]
  rw[v.o];clear i d hk0;go_enter func199,ntmps199;go_wp2_with fail
  go_quiet (fail)
  go_wp2_with fail
  all_goals
   go_ret2
   exact⟨rfl,F4 _ _ _⟩
def c4A(L:List Cl)(m:Me)(T:Nat->List Ty)(w w':ld)(e:nf):Prop:=
 ∃(r:Nat) (bo:Bool),e= Y (.tuple #[J I r, G bo])/\w.grownBy w' N/\
  ((bo=true/\r<m.c.length/\∃k,Cf.G2 L m r k/\Z5 L m (A5 m r) ((T r).drop m.l) ((T r).take m.l)=false/\∀a k,a<r->Cf.G2 L m a k->Z5 L m (A5 m a) ((T a).drop m.l) ((T a).take m.l)=true)\/
    (bo=false/\r=0/\∀a k,Cf.G2 L m a k->Z5 L m (A5 m a) ((T a).drop m.l) ((T a).take m.l)=true))
theorem b5m(L:List Cl)(c:ByteArray)(m:Me)(ht:Nat->Option Nat)(T:X (PE L c m ht))(w:ld)(lim b:Nat)(p:le)(cap m1 m2 m3:Nat)(q:Nat->Qs)(h:X (Lk w lim b L p cap m1 m2 m3 q))(hl:lim<=w.heap.size)(pa ca ha:Option le)(pk ck hk bw eg hg:Nat)(hE:X (TyE w lim L m pa pk ca ck ha hk bw eg hg ht))(base t tg:Nat)(g:Nat->Nat)(s:Ps)(ra:Option le)(rk:Nat)(hT:X (K2 w base t bw b tg g m.c.length s ra rk))(hs:X (P5 L c m s))(a':X (a2O L c m (R9 s.ts)))(aw:X (∀a k,Cf.G2 L m a k->∀j,j<m.l+k->∃u,tq s.ts a j=O (O u))):
 la prog 166 #[U (O (A t 0 N))] w λe w'=>c4A L m (R9 s.ts) w w' e:=by
 have bf:=T.o.nc;have bb:=T.o.lo;have ba:0<m.l:=by have:=T.o.cok.l;omega
 have c0:=hT.o.blk.c0;have c6:=hE.o.meth 6 _ rfl;go_enter func166,ntmps166;go_wp2_with fail
 clear c0 c6;go_loopw [17] (λv W=>∃j:Nat,v= J I j/\j<=m.c.length/\w.grownBy W N/\∀a k,a<j->Cf.G2 L m a k->Z5 L m (A5 m a) ((R9 s.ts a).drop m.l) ((R9 s.ts a).take m.l)=true) (λv _=>m.c.length-(lj v).toNat)
 case atStart=>exact⟨0,rfl,lk _,C9 _ _,λa k ha=>absurd ha (ls _)⟩
 case round=>
  obtain⟨j,rfl,hj,a1,am⟩:=hrel;have HG:=A1 a1;have E:=A1 am;clear a1 am;by_cases hlt:j<m.c.length
  ·obtain⟨pd,bc,-,aa⟩:=(hE.o.keep HG.o).c j hlt;obtain⟨i,hi⟩:=Oe (m.c[j])
   rw[<-hi]at aa;have ah:X (i=A5 m j/\i∈m.c):=⟨by rw[hi];unfold A5;simp[hlt],by rw[hi];exact ll hlt⟩
   subst bc;have y0:wr.cell? (pd.add (j*4))=O (J I i.o):=aa 0 _ rfl;have y1:wr.cell? (A ((pd.add (j*4)).block) ((pd.add (j*4)).off+1) N)=O (J I i.a):=by rw[C2 pd (j*4) 0];exact aa 1 _ rfl
   have y2:wr.cell? (A ((pd.add (j*4)).block) ((pd.add (j*4)).off+2) N)=O (Z i.c):=by rw[C2 pd (j*4) 1];exact aa 2 _ rfl
   have y3:wr.cell? (A ((pd.add (j*4)).block) ((pd.add (j*4)).off+3) N)=O (Z i.m):=by rw[C2 pd (j*4) 2];exact aa 3 _ rfl
   have be:(j:Int)<(m.c.length:Int):=by omega
   have ag:X (w.grownBy (wr.alloc (H #[J I i.o, J I i.a, Z i.c, Z i.m] 120)) N):=A0 HG.o (A2 _ _ N);clear aa hi;have ae:=hE.o.keep ag.o;have ai:=hT.o.keep ag.o;have hIR:=b0q (wr.alloc (H #[J I i.o, J I i.a, Z i.c, Z i.m] 120)) t bw hg m.c.length j _ (ai.blk.cell 0 _ rfl) ae.c9 (ae.hts j hlt) hlt;unfold htI at hIR;cases hkp:ht j with
   |none=>
    rw[hkp]at hIR;have ao:X (la prog 193 #[U (O (A t 0 N)), J I j] (wr.alloc (H #[J I i.o, J I i.a, Z i.c, Z i.m] 120)) λe w'=>e= Y (G false)/\w'=(wr.alloc (H #[J I i.o, J I i.a, Z i.c, Z i.m] 120))):=hIR;have a7:X (∀k,¬Cf.G2 L m j k):=λk hr=>by have:=(T.o.hts j k hlt).2 hr;rw[hkp]at this;cases this
    clear hkp hIR ae ai;go_wp2_with (go_at_call 193;go_loud (refine ao.o.mono ?_;rintro e w5 ⟨rfl,rfl⟩))
    go_roundw
    case rel=>exact⟨j+1,by first|rfl|go_num,by omega,ag.o,λa k ha hr=>by
     by_cases e:a=j
     ·subst e;exact absurd hr (a7.o k)
     ·exact E.o a k Oo hr⟩
    case measure=>exact a0s
   |some k=>
    rw[hkp]at hIR
    have al:la prog 193 #[U (O (A t 0 N)), J I j] (wr.alloc (H #[J I i.o, J I i.a, Z i.c, Z i.m] 120)) λe w'=>e= Y (G true)/\w'=(wr.alloc (H #[J I i.o, J I i.a, Z i.c, Z i.m] 120)):=by
     exact c6z
    have ao:=A1 al;have ac:=(T.o.hts j k hlt).1 hkp;have D:=T.o.room ac;have aj:=hs.o.snd.shape j k ac;have a6:=A1 ac
    have a5:X (la prog 199 #[U (O (A t 0 N)), J I j] (wr.alloc (H #[J I i.o, J I i.a, Z i.c, Z i.m] 120)) λe w'=>e= Y (.tuple #[.slice (O (A (g j) 0 N)) m.l (m.l+k), .slice (O (A (g j) (a2Z m.l k) N)) k k])/\(wr.alloc (H #[J I i.o, J I i.a, Z i.c, Z i.m] 120)).grownBy w' N):=
     b8x _ base t bw b tg g m.c.length s ra rk ai m.l k (ae.meth 5 _ rfl) j hlt aj ba bb (li D.2.2 T.o.st)
    have ar:(R9 s.ts j).length=m.l+k:=by unfold R9;rw[List.length_map];exact aj
    have ab:((R9 s.ts j).drop m.l).length=k:=by rw[List.length_drop,ar];omega
    have ak:((R9 s.ts j).take m.l).length=m.l:=by rw[List.length_take,ar];omega
    have hok:=a'.o.sol.ok j k ac;obtain⟨TS,F⟩:=Oe ((R9 s.ts j).drop m.l)
    obtain⟨TL,M⟩:=Oe ((R9 s.ts j).take m.l)
    have ap:∀W,w.grownBy W N->la prog 252 #[U (O (A b 0 N)), Q (mV m pa pk (O pd) ck ha hk), Q #[J I i.o, J I i.a, Z i.c, Z i.m], .slice (O (A (g j) (a2Z m.l k) N)) k k, .slice (O (A (g j) 0 N)) m.l (m.l+k), .func (.func 253) #[] #[]] W λe w'=>e= Y (G (Z5 L m i TS TL))/\W.grownBy w' N:=λW hW=>by
     have hb:=b9B (hT.o.keep hW) hlt aj Oo (aw.o j k ac);obtain⟨r1,r2⟩:=c1w hb m.l
     have af:=b6z W lim b L p cap m1 m2 m3 q (h.o.keep hW hl) (li hl hW.size) m pa (O pd) ha pk ck hk i (T.o.fine i ah.o.2) (.func (.func 253) #[] #[]) rfl id TS TL (O (A (g j) (a2Z m.l k) N)) (O (A (g j) 0 N)) k (m.l+k) W.heap.size (lb _)
      (by
        rw[F];by_cases hk0:k=0
        ·intro r hr;rw[ab]at hr;omega
        ·have:a2Z m.l k=m.l*2:=by unfold a2Z;rw[if_neg hk0]
         rw[this];exact r2) (by rw[M];exact r1)
      (by rw[F,ab];have:=D.2.2;have:=T.o.st;omega) (by rw[M,ak];omega) (by rw[F,ab];exact lb _) (by rw[F,ab];exact D.2.2) (by have:=T.o.st;omega) Oo
      (λx hx=>by
        have a3:D9 L x:=by
         rcases hx with hx|hx
         ·exact hok x (List.mem_of_mem_drop (by rw[F]at hx;exact hx))
         ·exact hok x (nt (by rw[M]at hx;exact hx))
        refine⟨h.o.tySize a3,λe5=> ?_,λW2 _=>b7z W2 x⟩;have h8:=a3.2;have bd:x.k=5:=e5;rw[if_neg Oo]at h8;exact h8)
      (λe2=>by
        rw[M,ak];have h9:=a5R (T.o.cok.need j hlt) (T.o.ok _ (a6c hlt)) (.inl (by rw[<-ah.o.1];exact e2));rw[<-ah.o.1]at h9;exact h9)
     rw[ul,ul]at af;have e1:TS.length=k:=by rw[F,ab]
     have e2:TL.length=m.l:=by rw[M,ak]
     rw[e1,e2]at af;exact af
    obtain⟨fv,au⟩:=Oe (Z5 L m i TS TL)
    rw[<-au]at ap;have a4:=A1 ap;have ax:X (fv=Z5 L m (A5 m j) ((R9 s.ts j).drop m.l) ((R9 s.ts j).take m.l)):=by unfold X;rw[au,F,M,<-ah.o.1]
    clear hkp hIR al ae ai ac D aj ar ab ak hok ap au F M;go_upto_region 6 with(first|(go_at_call 193;go_loud (refine ao.o.mono ?_;rintro e w5 ⟨rfl,rfl⟩))|(go_at_call 199;go_loud (refine a5.o.mono ?_;rintro e w4 ⟨rfl,av⟩)))
    have az:=(A4.new wr #[J I i.o, J I i.a, Z i.c, Z i.m] 120).keep av B9;have ad:=A1 (A0 ag.o av);have c1:=(hT.o.keep ad.o).blk.c1;have c0:=(hT.o.keep ad.o).blk.c0;have y:=hE.o.keep ad.o;have k0:=y.meth 0 _ rfl;have k1:=y.meth 1 _ rfl;have k2:=y.meth 2 _ rfl;have k3:=y.meth 3 _ rfl;have k4:=y.meth 4 _ rfl;have k5:=y.meth 5 _ rfl;have k6:=y.meth 6 _ rfl;have k7:=y.meth 7 _ rfl;obtain⟨x0,x1,x2,x3⟩:=az.q4;clear av az y;refine nj (S:=(λw'=>w4.grownBy w' N)) Ok0 (A7 w4 N) (λaq=> ?_);refine A3 0 ?_;refine A3 1 ?_;refine A3 2 ?_;refine tkT 3 (v:= ?v5) (hv:= .inl ⟨by rfl,?h5⟩) (k:= ?r5)
    case h5=>
     intro w5 d;try dsimp only at d
     have q0:=d.cell c1 B9;exact a4m
    try simp only[lh,lz]
    refine A3 4 ?_;refine A3 5 ?_;refine A3 6 ?_;refine tkT 7 (v:= ?v9) (hv:= .inl ⟨by rfl,?h9⟩) (k:= ?r9)
    case h9=>
     intro w5 d;try dsimp only at d
     have q0:=d.cell c0 B9;exact a4m
    try simp only[lh,lz]
    refine A3 8 ?_;refine A3 9 ?_;refine tkT 10 (v:= Q (mV m pa pk (O pd) ck ha hk)) (hv:= .inl ⟨by rfl,?h12⟩) (k:= ?r12)
    case h12=>
     intro w5 d;try dsimp only at d
     have q0:=d.cell k0 B9;have q1:=d.cell k1 B9;have q2:=d.cell k2 B9;have q3:=d.cell k3 B9;have q4:=d.cell k4 B9;have q5:=d.cell k5 B9;have q6:=d.cell k6 B9;have q7:=d.cell k7 B9;exact a4m
    try simp only[lh,lz]
    refine tkT 11 (v:= Q #[J I i.o, J I i.a, Z i.c, Z i.m]) (hv:= .inl ⟨by rfl,?h13⟩) (k:= ?r13)
    case h13=>
     intro w5 d;try dsimp only at d
     have q0:=d.cell x0 B9;have q1:=d.cell x1 B9;have q2:=d.cell x2 B9;have q3:=d.cell x3 B9;exact a4m
    try simp only[lh,lz]
    refine A3 12 ?_;refine A3 13 ?_;refine F3 14 λK hK=> ?_;go_simp
    go_wp2_with (go_at_call 252;go_loud (refine(a4.o _ (A0 ad.o (A7 _ N))).mono ?_;rintro e w6 ⟨rfl,a0⟩))
    refine hK.o _ _ ?_ (λaq=> ?_)
    case refine_1=>exact A0 (A7 w4 N) a0
    try clear hK K
    try simp only[lh,lz]
    refine A3 15 ?_;refine ly Ok0 ?_ _;have ay:=A0 (A0 ad.o (A7 w4 N)) a0;cases fv with
    |true=>
     go_wp2_with fail
     go_roundw
     case rel=>exact⟨j+1,by first|rfl|go_num,by omega,ay,λa k' ha hr=>by
      by_cases e:a=j
      ·subst e;exact ax.o.symm
      ·exact E.o a k' Oo hr⟩
     case measure=>exact a0s
    |false=>
     go_wp2_with fail
     exact lf (v:= .tuple #[J I j, G true]) (by simp[lg,results166,go_sem]) rfl ⟨j,true,rfl,ay, .inl ⟨rfl,hlt,k,a6.o,ax.o.symm,E.o⟩⟩
  ·have a2:j=m.c.length:=by omega
   have an:=A1 (λa k hr=>E.o a k (by rw[a2];exact(T.o.room hr).2.1) hr);clear E;subst a2;go_wp2_with fail
   exact lf (v:= .tuple #[J I 0, G false]) (by simp[lg,results166,go_sem]) rfl ⟨0,false,rfl,HG.o, .inr ⟨rfl,rfl,an.o⟩⟩
structure MeC(L:List Cl)(c0:ByteArray)(m:Me):Prop where
 wld:C1 L
 tyw:Z1 L
 c:∀i∈m.c,i.c.size<=maxLen/\i.m.size<=maxLen/\R7 i
 few:∀i,(O2 L i).p.length<=1000
 hand:∀d∈m.h,d.c.size<=maxLen
 has:E9 L c0=true
 pars:∀p∈m.p,D9 L p
 nc:m.c.length<=65535
 np:m.p.length<=255
 nh:m.h.length<=65535
 st:m.s<=255
 lo:m.l<=255
 nl:L.length<=65536
theorem MeC.fine(h:MeC L c m)(v:N2 L m):∀i∈m.c,a2R L i:=λi hi=>by
 obtain⟨D,E,F⟩:=h.c i hi;obtain⟨j,y,rfl⟩:=uh hi;refine⟨⟨D,E,λe=> ?_,by have:=h.few m.c[j];omega⟩,h.few _,F⟩;have d:=v.need j y;have K:A5 m j=m.c[j]:=by unfold A5;simp[y]
 rw[K]at d;unfold K8 at d;rw[if_neg Oo,if_neg Oo,if_neg Oo,if_neg Oo,if_pos e]at d;exact Option.isSome_iff_exists.1 d
def htS(s:Wk)(a:Nat):Option Nat:=if s.heights.getD a (-1)= -1 then N else O (s.heights.getD a (-1)).toNat
theorem c3N{s:Wk}(i:Z7 L m s)(a:Nat):htI (htS s) a=s.heights.getD a (-1):=by
 unfold htI htS;by_cases e:s.heights.getD a (-1)= -1
 ·rw[if_pos e];exact e.symm
 ·rw[if_neg e];obtain⟨h,d,-⟩:=i.some_ a e;rw[d];simp
theorem c1n(h:MeC L c m)(v:N2 L m)(y:∀i∈m.c,a2R L i)(D:l4 L m){s:Wk}(P:Z7 L m s)(d:∀a k,sq s.seen a k=true↔Cf.G2 L m a k):PE L c m (htS s):=by
 have F:∀a k,htS s a=O k↔Cf.G2 L m a k:=λa k=>by
  constructor
  ·intro e;unfold htS at e;split at e
   ·cases e
   ·rename_i hne;obtain⟨E,K,M⟩:=P.some_ a hne;rw[K]at e;injection e with e
    have:E=k:=by simpa using e
    subst this;exact(d a E).1 M
  ·intro T;have S:=(d a k).2 T;by_cases e:s.heights.getD a (-1)= -1
   ·rw[P.none_ a e k]at S;cases S
   ·obtain⟨E,K,M⟩:=P.some_ a e;have:=D.one a k E T ((d a E).1 M);subst this;unfold htS;rw[if_neg e,K];simp
 have hok:=λi hi=>(y i hi).okin
 exact⟨h.wld,h.tyw,v,y,D,λa k _=>F a k,λa k e=>(l5 v hok ((F a k).1 e)).2,h.has,h.pars,h.nc,h.st,h.lo,h.nh,h.nl⟩
theorem b9y{i E sg wg:Nat}{pa:Option le}{pk:Nat}{ca:Option le}{ck:Nat}{ha:Option le}{hk st lim:Nat}{s:Wk}{wa:Option le}{wk:Nat}(h:O5 w base bw i E sg wg g m pa pk ca ck ha hk m.c.length st s wa wk)(F:Z7 L m s)(S:∃cs:Array lq,A4 w i cs 315/\∀a,a<m.c.length->a2w w base L m cs a)
 (T:C0 w lim 4 M0 ca m.c) (hh:C0 w lim 4 O3 ha m.h) (hp:C0 w lim 2 B8 pa m.p):TyE w lim L m pa pk ca ck ha hk bw i E (htS s):=by
 obtain⟨cs,D,y⟩:=S;refine⟨λk v e=> ?_,h.blk.cell 8 _ rfl,h.blk.cell 9 _ rfl,λa d=> ?_,λa d=> ?_,T,hh,hp⟩
 ·refine b7 h.blk k v ?_;unfold WkV;unfold meV at e;have aa:k<8:=(ug.1 e).1;rw[<-e];rcases(by omega:k=0\/k=1\/k=2\/k=3\/k=4\/k=5\/k=6\/k=7)with rfl|rfl|rfl|rfl|rfl|rfl|rfl|rfl<;>rfl
 ·have:=b7 h.hts a (J I (s.heights.getD a (-1))) (by
   have:a<s.heights.length:=by rw[F.len3];exact d
   simp[this])
  rw[this,c3N F]
 ·obtain⟨ta,tk,ua,uk,K,M,h3,h4,P⟩:=y a d;exact⟨ta,tk,ua,uk,D.cell _ _ K,D.cell _ _ M,V7 (λ_=>rfl) P⟩
theorem b8c{s:Wk}(M:Z7 L m s)(i:∀a,wq s.wrong a=true↔a0F L m a){r:Int}(v:b0b s.wrong r):(r<0->a1R L m N)/\∀k:Nat,r=(k:Int)->a1R L m (O k):=by
 refine⟨λP j y e=> ?_,λk hk=> ?_⟩
 ·rcases v with⟨-,d⟩|⟨k,d,-⟩
  ·have:=(i j).2 e;unfold wq at this;rw[d j]at this;cases this
  ·omega
 ·rcases v with⟨d,-⟩|⟨D,d,E,F,K⟩
  ·omega
  ·have:D=k:=by omega
   subst this;refine⟨by rw[<-M.len2];exact E,(i D).1 F,λj y e=> ?_⟩;have:=(i j).2 e;unfold wq at this;rw[K j y]at this;cases this
theorem b5u(w:ld)(lim b:Nat)(L:List Cl)(p:le)(cap m1 m2 m3:Nat)(q:Nat->Qs)(h:X (Lk w lim b L p cap m1 m2 m3 q))(hl:lim<=w.heap.size)(c:ByteArray)(m:Me)(pa ca ha:Option le)(pk ck hk:Nat)(K:MeC L c m)(ah:X (C0 w lim 4 M0 ca m.c))(ai:X (C0 w lim 4 O3 ha m.h))(bc:X (C0 w lim 2 B8 pa m.p)):
 la prog 102 #[U (O (A b 0 N)), Z c, Q (mV m pa pk ca ck ha hk)] w λe w'=>∃er aq:Nat,e= Y (.tuple #[J I er, J I aq])/\N3 L c m er aq/\w.grownBy w' N:=by
 have HB:X (A4 (w.alloc (H (mV m pa pk ca ck ha hk) 102)) w.heap.size (mV m pa pk ca ck ha hk) 102):=A4.new w _ _;have F:X (w.grownBy (w.alloc (H (mV m pa pk ca ck ha hk) 102)) N):=A2 _ _ N;have E:=b5t (w.alloc (H (mV m pa pk ca ck ha hk) 102)) lim b L m pa ca ha pk ck hk K.nc p cap m1 m2 m3 q (h.o.keep F.o hl) (li hl F.o.size) (ah.o.keep F.o) (ai.o.keep F.o) (λi hi=>⟨(K.c i hi).1,(K.c i hi).2.1⟩) K.hand (by have:=K.np;omega) K.nh;have E:=A1 E;cases hcf:e8 L m with
 |some a=>
  rw[hcf]at E;have y:X (N3 L c m 13 a):=by unfold X N3;rw[hcf];exact⟨rfl,rfl⟩
  clear hcf;go_enter func102,ntmps102;go_wp2_with (go_at_call 164;go_loud (refine E.o.mono ?_;rintro e w2 ⟨rfl,T⟩;dsimp only[Option.getD_some,Option.isSome_some]))
  exact lf (v:= .tuple #[J I 13, J I a]) (by simp[lg,results102,go_sem]) rfl ⟨13,a,rfl,y.o,A0 F.o T⟩
 |none=>
  rw[hcf]at E;have ad:=b2o hcf;have D:=λi hi=>K.fine ad i hi
  have HX:X (e8 L m=N/\N2 L m/\∀i∈m.c,a2R L i):=⟨hcf,ad,D⟩
  have ba:=A1 (λW hW=>b6K W lim b L m pa ca ha pk ck hk K.nc p cap m1 m2 m3 q (h.o.keep hW hl) (li hl hW.size) (ah.o.keep hW) (ai.o.keep hW) ad D K.st K.nh);clear hcf ad D;go_enter func102,ntmps102;go_upto_region 4 with(go_at_call 164;go_loud (refine E.o.mono ?_;rintro e w2 ⟨rfl,T⟩;dsimp only[Option.getD_none,Option.isSome_none]))
  have ax:=HB.o.keep T B9;obtain⟨k0,k1,k2,k3,k4,k5,k6,k7⟩:=ax.q8;have an:=A1 (A0 F.o T);clear ax T;go_upto_region 5 with(go_at_call 128;go_loud (refine(ba.o _ an.o).mono ?_;rintro e w3 ⟨base,bw,eg,hg,sg,wg,g,s,wa,wk,rfl,bd,be,al,aj,a0,a1,ar,ay⟩))
  have d:=A1 (A0 an.o ay);have bb:=A1 al;have M:X (Z7 L m s/\(∀a k,sq s.seen a k=true↔Cf.G2 L m a k)/\(∀a,wq s.wrong a=true↔a0F L m a)):=⟨aj,a0,a1⟩
  have a2:=A1 ar;have a6:=A1 (b5e w3 base bw eg hg sg wg g m pa pk ca ck ha hk s wa wk al aj.len2 K.nc);clear bd be al aj a0 a1 ar ay k0 k1 k2 k3 k4 k5 k6 k7;go_upto_region 6 with(go_at_call 165;go_loud (refine a6.o.mono ?_;rintro e w4 ⟨⟨r,rfl,ae⟩,rfl⟩))
  have ac:=b8c M.o.1 M.o.2.2 ae;by_cases hr0:(0:Int)<=r
  ·obtain⟨k,rfl⟩:∃k:Nat,r=(k:Int):=⟨r.toNat,by omega⟩
   have y:X (N3 L c m 14 k):=by
    unfold X N3;rw[HX.o.1];exact⟨O k,ac.2 k rfl,rfl,rfl⟩
   clear ac;go_wp2_with fail
   exact lf (v:= .tuple #[J I 14, J I k]) (by simp[lg,results102,go_sem]) rfl ⟨14,k,rfl,y.o,d.o⟩
  ·have S:=A1 (ac.1 Oo);have az:=b0A HX.o.2.1 (λi hi=>(HX.o.2.2 i hi).okin) S.o;have ag:=c1n K HX.o.2.1 HX.o.2.2 az M.o.1 M.o.2.1;have ak:=b9y (L:=L) (lim:=lim) bb.o M.o.1 a2.o (ah.o.keep d.o) (ai.o.keep d.o) (bc.o.keep d.o);have a5:=A1 ag;have a':=A1 ak;have a7:=A1 (b7Y L c m (htS s) ag w4 lim b p cap m1 m2 m3 q (h.o.keep d.o hl) (li hl d.o.size) pa ca ha pk ck hk bw eg hg ak);have bf:decide ((0:Int)<=r)=false:=by simp[hr0]
   clear ac az ag ak ae;go_upto_region 9 with(go_at_call 127;go_loud (refine a7.o.mono ?_;rintro e w5 ⟨t,tg,g2,s2,ra,rk,rfl,av,au,af,ab,aa⟩))
   have a4:=A1 (b5m L c m (htS s) a5 w5 lim b p cap m1 m2 m3 q (h.o.keep (A0 d.o aa) hl) (li hl (A0 d.o aa).size) pa ca ha pk ck hk bw eg hg (a'.o.keep aa) w4.heap.size t tg g2 s2 ra rk av au af ab);have a3:=A1 (A0 d.o aa);have ap:=A1 af;clear av au af ab aa;go_upto_region 10 with(go_at_call 166;go_loud (refine a4.o.mono ?_;rintro e w6 ⟨r6,bo,rfl,am,aw⟩))
   have ao:=A1 (A0 a3.o am);rcases aw with⟨rfl,h1,k,h2,h3,h4⟩|⟨rfl,rfl,h4⟩
   ·have y:X (N3 L c m 15 r6):=by
     unfold X N3;rw[HX.o.1];exact⟨N,S.o,_,ap.o, .inl ⟨k,rfl,h1,h2,h3,h4⟩⟩
    clear h1 h2 h3 h4 am;go_wp2_with fail
    exact lf (v:= .tuple #[J I 15, J I r6]) (by simp[lg,results102,go_sem]) rfl ⟨15,r6,rfl,y.o,ao.o⟩
   ·have y:X (N3 L c m 0 0):=by
     unfold X N3;rw[HX.o.1];exact⟨N,S.o,_,ap.o, .inr ⟨rfl,rfl,h4⟩⟩
    clear h4 am;go_wp2_with fail
    exact lf (v:= .tuple #[J I 0, J I 0]) (by simp[lg,results102,go_sem]) rfl ⟨0,0,rfl,y.o,ao.o⟩
def ChA(w:ld)(L:List Cl)(c:ByteArray)(m:Me)(e:nf)(w':ld):Prop:=
 ∃(a:Option le) (l k E A:Nat),e= Y (.tuple #[.slice a l k, J I (E:Int), J I (A:Int)])/\N3 L c m E A/\w.grownBy w' N
theorem b5S(h:C1 L)(v:Z1 L)(i:In):∀x∈(O2 L i).p,x.k<=5:=λx d=>by
 cases hm:L6 L i.c i.m with
 |none=>
  unfold O2 at d;rw[hm]at d;cases d
 |some p=>
  obtain⟨k,hk,e⟩:=h.called_in (i:=i) (by rw[hm];rfl);have:=(v.meths k hk _ e).2.2.1 x d;omega
section
variable{w:World}{jb lim wb:Nat}{L:List Cl}{p:Addr}{cap:Nat}{q:Nat->Qs}{C:ByteArray}{m:Me}{r:Qj}
theorem b7g(h:Hid (Jb w jb lim wb L p cap q C m r))(hM:Hid (MeC L C m))(a':m.r.k<=5):
 la prog 68 #[U (O (A jb 0 N))] w (ChA w L C m):=by
 have HJ:=A1 (λW (E:w.grownBy W N)=>h.o.keep E);have a4:=h.o.codeN;have bg:=h.o.blk.lt;obtain⟨F,K⟩:=Oe (a4I L m)
 have ah:Hid (la prog 123 #[U (O (A jb 0 N))] w λe w'=>e= Y (J I F)/\w.grownBy w' N):=by rw[K];exact b8p h
 obtain⟨n,hn⟩:=Oe m.c.length
 have HN:=A1 hn;have ar:=A1 K;rw[<-hn]at a4;clear hn h K;go_enter func68,ntmps68;go_upto_region 2 with(go_at_call 123;refine ah.o.mono ?_;rintro e w1 ⟨rfl,aa⟩)
 cases hcf:e8 L m with
 |some a=>
  have K:=ar.o;rw[a5U hcf]at K;subst K;have HA:Hid (N3 L C m 13 a):=by unfold Hid N3;rw[hcf];exact⟨rfl,rfl⟩
  have a3:(a:Int)≥0:=by omega
  clear hcf ah;go_wp2_with fail
  all_goals exact lf (v:= .tuple #[.slice N 0 0, J I 13, J I a]) (by simp[lg,results68,go_sem]) rfl ⟨N,0,0,13,a,rfl,HA.o,aa⟩
 |none=>
  have K:=ar.o;rw[b1A hcf]at K;subst K;have ay:=b2o hcf;have HC:=A1 ay;have ag:=A1 hcf;have au:Hid (la prog 125 #[U (O (A jb 0 N))] w1 λe w'=>HtA w1 L m n m.s e w'):=by rw[HN.o];exact b5E (HJ.o w1 aa) HC.o
  have aw:Hid (∀W sg g s,w.grownBy W N->Mat W sg g n m.s s->a2X L m s->(∀a h,sq s a h=true↔Cf.G2 L m a h)->la prog 124 #[U (O (A jb 0 N)), .slice (O (A sg 0 N)) n n] W λe w'=>∃f,e= Y (J I (stI f))/\a1R L m f/\W.grownBy w' N):=λW sg g s E h1 h2 h3=>by
   rw[HN.o]at h1⊢;exact b6V (HJ.o W E) HC.o sg g s h1 ⟨h2,h3⟩
  clear hcf ah ay
  go_upto_region 5 with(first
   |(go_at_call 125;refine au.o.mono ?_;rintro e w2 ⟨sg,g,s,rfl,k1,k2,k3,an⟩)
   |(go_at_call 124;refine(aw.o _ _ _ _ (A0 aa an) k1 k2 k3).mono ?_;rintro e w3 ⟨f,rfl,hf,az⟩))
  have aj:=A1 (A0 (A0 aa an) az);clear au aw k1 k2 k3 aa an az;cases f with
  |some a=>
   have HA:Hid (N3 L C m 14 a):=by unfold Hid N3;rw[ag.o];exact⟨O a,hf,rfl,rfl⟩
   have a3:(a:Int)≥0:=by omega
   unfold stI;dsimp only;go_wp2_with fail
   all_goals exact lf (v:= .tuple #[.slice N 0 0, J I 14, J I a]) (by simp[lg,results68,go_sem]) rfl ⟨N,0,0,14,a,rfl,HA.o,aj.o⟩
  |none=>
   have HH:=A1 (b0A HC.o (HJ.o w (C9 _ _)).ins hf);have av:=A1 hf;have ax:Hid (la prog 74 #[U (O (A jb 0 N))] w3 (TpA w3 L C m n)):=by rw[HN.o];exact b6d (HJ.o _ aj.o) HC.o HH.o hM.o.tyw (hM.o.wld.entry_ok hM.o.has hM.o.pars)
   unfold stI;dsimp only;clear hf;go_upto_region 8 with(go_at_call 74;refine ax.o.mono ?_;rintro e w4 ⟨ob,re,R,X,rfl,k1,k2,k3,k4,k5⟩)
   obtain⟨T,hT⟩:∃T:Nat->List Ty,T=λa=>(((P4 re X n)[a]?).getD N).getD []:=⟨_,rfl⟩
   have a2:Hid (∀a,a<n->re a=true->T a=X (2*a+1)++X (2*a)):=λa ha y=>by
    rw[hT];dsimp only;rw[a3n _ _ ha];unfold oO;rw[if_pos y];rfl
   rw[<-hT]at k4;have HK:Hid (a2O L C m T/\(∀a,a<n->(re a=false↔∀h,¬Cf.G2 L m a h))/\∀a,a<n->re a=true->(X (2*a+1)).length=m.l):=⟨k4,k5,k3⟩
   have ai:=A1 (λW (E:w4.grownBy W N)=>k1.keep E);have ad:=A1 (A0 aj.o k2);have bd:=k1.lt;clear k1 k2 k3 k4 k5 hT ax;go_wp2_with fail
   go_loopw [5] (λc W=>∃k:Nat,c= J I k/\k<=n/\Hid (∀b j,b<k->Cf.G2 L m b j->Z5 L m (A5 m b) ((T b).drop m.l) ((T b).take m.l)=true)/\Hid (w4.grownBy W N)) (λc _=>n-(lj c).toNat)
   case atStart=>exact⟨0,rfl,lk _,λb j hb=>absurd hb (ls b),C9 _ _⟩
   case round=>
    obtain⟨k,rfl,hk,hA,hg⟩:=hrel;by_cases hkl:k<n
    ·have a6:(k:Int)<(n:Int):=by omega
     obtain⟨y3,y4,y5⟩:=(ai.o _ hg.o).cs hkl;have bc:=(ai.o _ hg.o).lt
     have am:Hid (Z5 L m (A5 m k) ((T k).drop m.l) ((T k).take m.l)=true->∀b j,b<k+1->Cf.G2 L m b j->Z5 L m (A5 m b) ((T b).drop m.l) ((T b).take m.l)=true):=λh0 b j hb D=>by
      by_cases e:b=k
      ·subst e;exact h0
      ·exact hA.o b j Oo D
     cases y:re k with
     |false=>
      rw[y]at y3
      have al:Hid (∀b j,b<k+1->Cf.G2 L m b j->Z5 L m (A5 m b) ((T b).drop m.l) ((T b).take m.l)=true):=λb j hb D=>by
       by_cases e:b=k
       ·subst e;exact absurd D ((HK.o.2.1 b hkl).1 y j)
       ·exact hA.o b j Oo D
      clear y;go_wp2_with fail
      refine⟨⟨k+1,by first|rfl|go_num,by omega,al.o,hg.o⟩,?_⟩;exact a0s
     |true=>
      rw[y]at y3;have ab:k<m.c.length:=by rw[<-HN.o];exact hkl
      have d:=HJ.o _ (A0 ad.o hg.o);obtain⟨pd,a0,i0,i1,i2,i3⟩:=d.ci ab;obtain⟨j0,-,-,-,-,j6,-,j8,j9⟩:=d.cs;rw[a0,<-HN.o]at j8
      obtain⟨j,D⟩:∃j,Cf.G2 L m k j:=by
       refine Classical.byContradiction λa7=> ?_
       have:=(HK.o.2.1 k hkl).2 (λj hj=>a7 ⟨j,hj⟩);rw[y]at this;cases this
      have HR:=A1 D;have ae:=a2.o k hkl y;have af:=HK.o.2.2 k hkl y
      have aq:Hid (Z5 L m (A5 m k) ((T k).drop m.l) ((T k).take m.l)=a3s L m (A5 m k) (X (2*k)) (X (2*k+1))):=by
       have hok:=HK.o.1.sol.ok k j D;rw[ae]at hok;unfold Hid;rw[ae,<-af,List.drop_left,List.take_left,hM.o.wld.fits_eq m (A5 m k) (d.oki ab).1 _ _ (λt ht=>hok t (lx _ ht))]
      have ac:Hid (∀W,wr.grownBy W N->la prog 126 #[U (O (A jb 0 N)),inV (A5 m k),rS R X (2*k),rS R X (2*k+1)] W λe w'=>e= Y (G (a3s L m (A5 m k) (X (2*k)) (X (2*k+1))))/\W.grownBy w' N):=λW E=>by
       have K:=ai.o W (A0 hg.o E);have a1:=HK.o.1.sol.shape k j D;have hok:=HK.o.1.sol.ok k j D;rw[ae]at a1 hok;rw[nw,af]at a1;have bf:=l5 HC.o d.ins D;have ba:=HH.o.room k j D;have e1:(X (2*k)).length=j:=by omega
       have h1:=K.rows (2*k) Oo;have h2:=K.rows (2*k+1) Oo;have hst:=d.s;have bh:=d.l;unfold rS at h1 h2⊢
       have S:(X (2*k)).length<=(R (2*k)).2/\((R (2*k)).1=N->X (2*k)=[]/\(R (2*k)).2=0):=by
        rcases h1.2 with⟨e3,e4⟩|⟨g,c,be,e3,-,-,h5,-⟩
        ·injection e3 with e5 _ e6
         exact⟨by omega,λ_=>⟨List.eq_nil_of_length_eq_zero e4,e6⟩⟩
        ·injection e3 with e5 _ e6
         exact⟨by omega,λe7=>by rw[e5]at e7;cases e7⟩
       refine b8n (HJ.o W (A0 ad.o (A0 hg.o E))) (A5 m k) (X (2*k)) (X (2*k+1)) (R (2*k)).1 (R (2*k+1)).1 (R (2*k)).2 (R (2*k+1)).2 W.heap.size (V7 (λ_=>rfl) h1) (V7 (λ_=>rfl) h2) Oo S.2 S.1 Oo (λx hx=>(hok x (lx _ hx)).1) a' (b5S hM.o.wld hM.o.tyw _) ?_ λe=> ?_
       ·rw[e1];exact ba
       ·have ap:=HC.o.need k ab;unfold K8 at ap;rw[if_pos (.inl e)]at ap;have h3:=of_decide_eq_true ap;have h4:=(d.oki ab).2 Oo;rw[af];exact⟨h4,by omega⟩
      rw[aq.o]at am;obtain⟨B,hB⟩:=Oe (a3s L m (A5 m k) (X (2*k)) (X (2*k+1)))
      have HB:=A1 hB;rw[<-hB]at ac am;unfold inV at ac;have ak:Hid (∀W,wr.grownBy W N->W.cell? (A jb 8 N)=O (.slice (O pd) n r.ck)/\W.cell? (pd.add (k*4))=O (J I (A5 m k).o)/\W.cell? (A ((pd.add (k*4)).block) ((pd.add (k*4)).off+1) N)=O (J I (A5 m k).a)/\W.cell? (A ((pd.add (k*4)).block) ((pd.add (k*4)).off+2) N)=O (Z (A5 m k).c)/\W.cell? (A ((pd.add (k*4)).block) ((pd.add (k*4)).off+3) N)=O (Z (A5 m k).m)/\W.cell? (A ob (k*8+4) N)=O (rS R X (2*k))/\W.cell? (A ob (k*8+5) N)=O (rS R X (2*k+1))):=λW E=>⟨E.cell j8 Os,E.cell i0 Os,E.cell i1 Os,E.cell i2 Os,E.cell i3 Os,E.cell y4 Os,E.cell y5 Os⟩
      have bb:jb<wr.heap.size:=World.block_lt_of_cell? wr _ j0;clear D ae af hB a0 y d j0 j6 j8 j9 i0 i1 i2 i3 y4 y5;generalize A5 m k=i at ac ak;go_upto_region 12 with fail
      refine T6 ak (C9 _ _) (λM=> ?_);refine A3 0 ?_;refine A3 1 ?_;refine A3 2 ?_;refine A3 3 ?_;refine A3 4 ?_;refine A3 5 ?_;refine A3 6 ?_;refine A3 7 ?_;refine A3 8 ?_;refine A3 9 ?_;refine A3 10 ?_;refine A3 11 ?_;refine A3 12 ?_;refine A3 13 ?_;refine A3 14 ?_;refine A3 15 ?_;refine A3 16 ?_;refine A3 17 ?_;refine A3 18 ?_;refine F3 19 λK' hK=> ?_
      go_simp
      go_wp2_with (go_at_call 126;refine(ac.o _ (A7 _ _)).mono ?_;rintro e w6 ⟨rfl,a5⟩)
      have ao:=A0 (A7 wr N) a5;refine hK.o _ _ (ak.o _ ao) (λM=> ?_);clear hK;refine A3 20 ?_;refine ly Ok0 ?_ _;clear M;cases B with
      |true=>
       have al:=A1 (am.o rfl);go_wp2_with fail
       refine⟨⟨k+1,by first|rfl|go_num,by omega,al.o,A0 hg.o ao⟩,?_⟩;exact a0s
      |false=>
       have HE:Hid (N3 L C m 15 k):=by
        unfold Hid N3;rw[ag.o];exact⟨N,av.o,T,HK.o.1, .inl ⟨j,rfl,ab,HR.o,by rw[aq.o];exact HB.o.symm,λb j hb D=>hA.o b j hb D⟩⟩
       go_wp2_with fail
       all_goals exact lf (v:= .tuple #[.slice N 0 0, J I 15, J I k]) (by simp[lg,results68,go_sem]) rfl ⟨N,0,0,15,k,rfl,HE.o,A0 ad.o (A0 hg.o ao)⟩
    ·have a6:¬(k:Int)<(n:Int):=by omega
     have HE:Hid (N3 L C m 0 0):=by
      unfold Hid N3;rw[ag.o];exact⟨N,av.o,T,HK.o.1, .inr ⟨rfl,rfl,λb j D=>hA.o b j (by have:=(l5 HC.o (HJ.o w (C9 _ _)).ins D).1;rw[<-HN.o]at this;omega) D⟩⟩
     go_wp2_with fail
     exact lf (v:= .tuple #[.slice (O (A ob 0 N)) n n, J I 0, J I 0]) (by simp[lg,results68,go_sem]) rfl ⟨_,_,_,0,0,rfl,HE.o,A0 ad.o hg.o⟩
end
def a3q(L fs:List Cl)(er f k at_:Nat):Prop:=
 (er≠0/\f<fs.length/\k<(cl fs f).m.length/\N3 L (cl fs f).n ((cl fs f).m.getD k G3) er at_/\(∀f' k',f'<f->k'<(cl fs f').m.length->N3 L (cl fs f').n ((cl fs f').m.getD k' G3) 0 0)/\∀k',k'<k->N3 L (cl fs f).n ((cl fs f).m.getD k' G3) 0 0)\/
 (er=0/\f=0/\k=0/\at_=0/\∀f' k',f'<fs.length->k'<(cl fs f').m.length->N3 L (cl fs f').n ((cl fs f').m.getD k' G3) 0 0)
variable {L fs:List Cl}{B a lim:Nat}
theorem b1p{c:ByteArray}{m:Me}(h:N3 L c m 0 a):a=0:=by
 unfold N3 at h;split at h
 ·omega
 ·obtain⟨f,-,h⟩:=h;split at h
  ·omega
  ·obtain⟨T,-,h⟩:=h;rcases h with⟨k,d,-⟩|⟨-,d,-⟩
   ·omega
   ·exact d
theorem b5R(w:ld)(lim b:Nat)(fs:List Cl)(L:List Cl)(hL:L=B6++fs)(p:le)(cap m1 m2 m3:Nat)(qf:Nat->Qs)(h:X (Lk w lim b L p cap m1 m2 m3 (M5 qf)))(hl:lim<=w.heap.size)(a:Option le)(kk:Nat)(hR:X (C0 w lim 4 (M6 fs qf) a (lv fs.length)))(a7:X (P8 w lim (B6++fs) (M5 qf)))(a2:fs.length<=12)(bc:∀i,i<fs.length->(cl fs i).m.length<=65535)
 (bb:∀i,i<fs.length->∀j,j<(cl fs i).m.length->MeC L (cl fs i).n ((cl fs i).m.getD j G3)):
 la prog 61 #[U (O (A b 0 N)), .slice a fs.length kk] w λe w'=>∃er f k y:Nat,e= Y (.tuple #[J I er, Q #[J I f, J I k, J I y]])/\a3q L fs er f k y/\w.grownBy w' N:=by
 have ah:X (A4 (w.alloc (H #[J I 0, J I 0, J I 0] 78)) w.heap.size #[J I 0, J I 0, J I 0] 78):=A4.new w _ _;have ae:X (w.grownBy (w.alloc (H #[J I 0, J I 0, J I 0] 78)) N):=A2 _ _ N;obtain⟨n,hn⟩:=Oe fs.length
 have HN:=A1 hn;have be:n<=12:=by rw[hn];exact a2
 rw[<-hn];clear hn;go_enter func61,ntmps61;go_wp2_with fail
 generalize (w.alloc (H #[J I 0, J I 0, J I 0] 78))=W1 at ah ae⊢;go_loopw [14] (λv W=>∃i:Nat,v= J I i/\i<=n/\W1.grownBy W N/\∀f k,f<i->k<(cl fs f).m.length->N3 L (cl fs f).n ((cl fs f).m.getD k G3) 0 0) (λv _=>n-(lj v).toNat)
 case atStart=>exact⟨0,rfl,lk _,C9 _ _,λf k hf=>absurd hf (ls _)⟩
 case round=>
  obtain⟨i,rfl,hi,M,K⟩:=hrel;have au:=A1 M;have HG:=A1 (A0 ae.o M);have ab:=A1 K;clear M K;by_cases hlt:i<n
  ·obtain⟨pd,bd,-,T⟩:=(hR.o.keep HG.o) i (by simp;rw[<-HN.o];exact hlt);simp only[nk,M6]at T;obtain⟨d,af⟩:=Oe (cl fs i)
   obtain⟨⟨fa,fk,ma,mk⟩,hq⟩:∃q2,q2=qf i:=⟨_,rfl⟩
   rw[<-af,<-hq]at T;have E:X (d=cl fs i/\(⟨fa,fk,ma,mk⟩:Qs)=qf i):=⟨af,hq⟩
   subst bd;have y0:wr.cell? (pd.add (i*4))=O (Z d.n):=T 0 _ rfl;have y1:wr.cell? (A ((pd.add (i*4)).block) ((pd.add (i*4)).off+1) N)=O (Z d.s):=by rw[C2 pd (i*4) 0];exact T 1 _ rfl
   have y2:wr.cell? (A ((pd.add (i*4)).block) ((pd.add (i*4)).off+2) N)=O (.slice fa d.f.length fk):=by rw[C2 pd (i*4) 1];exact T 2 _ rfl
   have y3:wr.cell? (A ((pd.add (i*4)).block) ((pd.add (i*4)).off+3) N)=O (.slice ma d.m.length mk):=by rw[C2 pd (i*4) 2];exact T 3 _ rfl
   have bh:(i:Int)<(n:Int):=by omega
   have bj:d.m.length<=65535:=by rw[af];exact bc i (by rw[<-HN.o];exact hlt)
   have am:X (i<fs.length):=by unfold X;rw[<-HN.o];exact hlt
   clear T af hq;go_wp2_with fail
   have ay:A4 (wr.alloc (H #[Z d.n, Z d.s, .slice fa d.f.length fk, .slice ma d.m.length mk] 44)) wr.heap.size #[Z d.n, Z d.s, .slice fa d.f.length fk, .slice ma d.m.length mk] 44:=A4.new wr _ _;have ai:=A1 ay;have ak:X (W1.grownBy (wr.alloc (H #[Z d.n, Z d.s, .slice fa d.f.length fk, .slice ma d.m.length mk] 44)) N):=A0 au.o (A2 _ _ N);generalize wr.alloc (H #[Z d.n, Z d.s, .slice fa d.f.length fk, .slice ma d.m.length mk] 44)=W2 at ai ak⊢;generalize wr.heap.size=B7 at ai⊢;clear ay y0 y1 y2 y3;go_loopw [22] (λv W=>∃j:Nat,v= J I j/\j<=d.m.length/\W2.grownBy W N/\∀k,k<j->N3 L d.n (d.m.getD k G3) 0 0) (λv _=>d.m.length-(lj v).toNat)
   case atStart=>exact⟨0,rfl,lk _,C9 _ _,λk hk=>absurd hk (ls _)⟩
   case round=>
    obtain⟨j,rfl,hj,M,K⟩:=hrel;have av:=A1 (A0 ak.o M);have al:=A1 (A0 ae.o av.o);have a4:=A1 M;have aa:=A1 K;have ao:=ai.o.keep M B9;have z0:=ao.c0;have bk:=ao.lt;clear M K ao;by_cases hlj:j<d.m.length
    ·obtain⟨pm,pa,ca,ha,pk,ck,hk,ap,-,r1,r2,r3,D⟩:=(a7.o.keep al.o) (9+i) (by simp[a9d];have:=am.o;omega) j (by rw[Y6,<-E.o.1];exact hlj);rw[Y6,<-E.o.1]at r1 r2 r3 D;have a3:M5 qf (9+i)=⟨fa,fk,ma,mk⟩:=by unfold M5;rw[if_neg Oo,Nat.add_sub_cancel_left];exact E.o.2.symm
     rw[a3]at ap;dsimp only at ap;obtain⟨me,ag⟩:=Oe (d.m.getD j G3)
     rw[<-ag]at r1 r2 r3 D;have aw:=A1 ag;have an:=bb i am.o j (by rw[<-E.o.1];exact hlj);rw[<-E.o.1,<-ag]at an;subst ap;have x0:wr.cell? (pm.add (j*8))=O (Z me.n):=D 0 _ rfl;have x1:wr.cell? (A ((pm.add (j*8)).block) ((pm.add (j*8)).off+1) N)=O (.slice pa me.p.length pk):=by rw[C2 pm (j*8) 0];exact D 1 _ rfl
     have x2:wr.cell? (A ((pm.add (j*8)).block) ((pm.add (j*8)).off+2) N)=O (J I me.r.k):=by rw[C2 pm (j*8) 1];exact D 2 _ rfl
     have x3:wr.cell? (A ((pm.add (j*8)).block) ((pm.add (j*8)).off+3) N)=O (Z me.r.n):=by rw[C2 pm (j*8) 2];exact D 3 _ rfl
     have x4:wr.cell? (A ((pm.add (j*8)).block) ((pm.add (j*8)).off+4) N)=O (J I me.s):=by rw[C2 pm (j*8) 3];exact D 4 _ rfl
     have x5:wr.cell? (A ((pm.add (j*8)).block) ((pm.add (j*8)).off+5) N)=O (J I me.l):=by rw[C2 pm (j*8) 4];exact D 5 _ rfl
     have x6:wr.cell? (A ((pm.add (j*8)).block) ((pm.add (j*8)).off+6) N)=O (.slice ca me.c.length ck):=by rw[C2 pm (j*8) 5];exact D 6 _ rfl
     have x7:wr.cell? (A ((pm.add (j*8)).block) ((pm.add (j*8)).off+7) N)=O (.slice ha me.h.length hk):=by rw[C2 pm (j*8) 6];exact D 7 _ rfl
     have a5:X (∀W,wr.grownBy W N->la prog 102 #[U (O (A b 0 N)), Z d.n, Q (mV me pa pk ca ck ha hk)] W λe w'=>∃er y:Nat,e= Y (.tuple #[J I er, J I y])/\N3 L d.n me er y/\W.grownBy w' N):=λW hW=>
      b5u W lim b L p cap m1 m2 m3 (M5 qf) (h.o.keep (A0 al.o hW) hl) (li hl (A0 al.o hW).size) d.n me pa ca ha pk ck hk an (r2.keep hW) (r3.keep hW) (r1.keep hW)
     have bi:(j:Int)<(d.m.length:Int):=by omega
     clear D r1 r2 r3 a3 ag an;go_upto_region 8 with(go_at_call 102;go_loud (refine(a5.o _ (A2 _ _ N)).mono ?_;rintro e w5 ⟨er,y,rfl,az,a0⟩))
     have ar:=A1 (A0 (A0 a4.o (A2 _ _ N)) a0);have aj:=A1 az;clear az a0;by_cases he0:er=0
     ·subst he0;have a':=b1p aj.o;subst a';go_wp2_with fail
      go_roundw
      case rel=>exact⟨j+1,by first|rfl|go_num,by omega,ar.o,λk hk=>by
       by_cases e:k=j
       ·subst e;rw[<-aw.o];exact aj.o
       ·exact aa.o k Oo⟩
      case measure=>exact a0s
     ·have bf:((er:Int)==0)=false:=by rw[beq_eq_false_iff_ne];omega
      have bg:¬(er:Int)=0:=by omega
      have ax:=A1 (A0 ak.o ar.o);have S:=ah.o.keep ax.o B9;obtain⟨p0,p1,p2⟩:=S.q3;obtain⟨f0,f1,f2⟩:=S.z3;have ac:X (a3q L fs er i j y):= .inl ⟨he0,am.o,by rw[<-E.o.1];exact hlj,by rw[<-E.o.1,<-aw.o];exact aj.o,ab.o,λk hk=>by rw[<-E.o.1];exact aa.o k hk⟩;clear he0;go_wp2_with fail
      have F:=((S.set 0 (J I i)).set 1 (J I j)).set 2 (J I y);have aq:=A0 (A0 (A6 w5 (A w.heap.size 0 N) (J I i)) (A6 _ (A w.heap.size 1 N) (J I j))) (A6 _ (A w.heap.size 2 N) (J I y));have ad:=C6 (A0 ae.o ax.o) aq (λk e=>by cases e;exact .inl (lb _));clear p0 p1 p2 f0 f1 f2;generalize ((w5.setCell (A w.heap.size 0 N) (J I i)).setCell (A w.heap.size 1 N) (J I j)).setCell (A w.heap.size 2 N) (J I y)=W6 at F ad⊢;have q0:=F.c0;have q1:=F.c1;have q2:=F.c2;exact lf (v:= .tuple #[J I er, Q #[J I i, J I j, J I y]]) (by simp[lg,results61,go_sem,q0,q1,q2]) rfl ⟨er,i,j,y,rfl,ac.o,ad⟩
    ·have ba:j=d.m.length:=by omega
     have a6:X (∀f k,f<i+1->k<(cl fs f).m.length->N3 L (cl fs f).n ((cl fs f).m.getD k G3) 0 0):=λf k hf hk=>by
      by_cases e:f=i
      ·subst e;rw[<-E.o.1]at hk⊢;exact aa.o k Oo
      ·exact ab.o f k Oo hk
     clear aa;subst ba;go_wp2_with fail
     go_roundw
     case rel=>exact⟨i+1,by first|rfl|go_num,by omega,av.o,a6.o⟩
     case measure=>exact a0s
  ·have a1:i=n:=by omega
   have ac:X (a3q L fs 0 0 0 0):= .inr ⟨rfl,rfl,rfl,rfl,λf k hf=>ab.o f k (by rw[a1,HN.o];exact hf)⟩;have S:=ah.o.keep au.o B9;obtain⟨p0,p1,p2⟩:=S.q3;obtain⟨f0,f1,f2⟩:=S.z3;clear ab;subst a1;go_wp2_with fail
   have F:=((S.set 0 (J I 0)).set 1 (J I 0)).set 2 (J I 0);have aq:=A0 (A0 (A6 wr (A w.heap.size 0 N) (J I 0)) (A6 _ (A w.heap.size 1 N) (J I 0))) (A6 _ (A w.heap.size 2 N) (J I 0));have ad:=C6 HG.o aq (λk e=>by cases e;exact .inl (lb _));clear p0 p1 p2 f0 f1 f2;generalize ((wr.setCell (A w.heap.size 0 N) (J I 0)).setCell (A w.heap.size 1 N) (J I 0)).setCell (A w.heap.size 2 N) (J I 0)=W6 at F ad⊢;have q0:=F.c0;have q1:=F.c1;have q2:=F.c2;exact lf (v:= .tuple #[J I 0, Q #[J I 0, J I 0, J I 0]]) (by simp[lg,results61,go_sem,q0,q1,q2]) rfl ⟨0,0,0,0,rfl,ac.o,ad⟩
theorem b4F{n:Nat}(h:n<=12):n<=na:=li h Od
theorem a9E{s:ByteArray}(h:s=D4\/L7 s=true):s.size<=na:=by
 rcases h with rfl|h
 ·exact lk _
 ·exact b4F (a3L h)
theorem a9f(d:∀c∈fs,a0r c)(e:a8 fs= .ok ()):C1 (B6++fs)/\Z1 (B6++fs):=by
 have hok:=λc v=>(d c v).okCl
 have i:y6 fs= .ok ():=by rw[<-a9I fs hok];exact e
 exact⟨b3S fs hok i,b3V fs hok i⟩
variable {w:World}{qf:Nat->Qs}
theorem c3L{W:ld}{b b':Nat}{v:lq}{m1 m2 m3:Nat}(T:Gm w B b v m1 m2 m3 (B6++fs) (M5 qf))(E:∀c∈fs,a0r c)(aa:a8 fs= .ok ())(ad:fs.length<=12)(hg:w.grownBy W N)
 (F:Y3 W lim fs qf) (y:lim<=W.heap.size) (D:∀k x,[v, .map (O m1), .map (O m2), .map (O m3)][k]? =O x->W.cell? (A b' k N)=O x):∃p cap,v= .slice (O p) (B6++fs).length cap/\Lk W W.heap.size b' (B6++fs) p cap m1 m2 m3 (M5 qf):=by
 obtain⟨M,hT⟩:=a9f E aa;have d:∀c∈B6++fs,Okc c:=λc hc=>(ns.1 hc).elim (a7g 9 c) (λh=>a5w (E c h))
 have ae:(B6++fs).length=9+fs.length:=by rw[nw];rfl
 obtain⟨p,cap,hv,e⟩:=(T.keep hg).kls Oo d Oo;have S:=lm (D 0 _ rfl);have K:fs.take fs.length=fs:=nr;have ab:V9 W W.heap.size (B6++fs) (M5 qf):=by have:=F.partF (lb fs.length);rw[K]at this;exact this.upto y
 have ac:P8 W W.heap.size (B6++fs) (M5 qf):=by have:=F.partM (lb fs.length);rw[K]at this;exact this.upto y
 refine⟨p,cap,hv,⟨S,e.p_lt,e.m1_lt,e.m2_lt,e.m3_lt,by rw[<-hv];exact D 0 _ rfl,D 1 _ rfl,D 2 _ rfl,D 3 _ rfl,e.row,e.n1,e.n2,e.n3,e.names,e.small⟩,λn=>M.up_eq n,M.dist,?_,(Okc.sized d).1,(Okc.sized d).2,ab,ac⟩;unfold a7I;cases hf:C8 (B6++fs) ⟨#[]⟩with
 |none=>rfl
 |some i=>
  have:=M8 hf;exact absurd this.2.1 (M.names i this.1)
theorem b4i(M:∀c∈fs,a0r c)(ab:a8 fs= .ok ())(ad:fs.length<=12){i:Nat}(hi:i<fs.length){j:Nat}(hj:j<(cl fs i).m.length):MeC (B6++fs) (cl fs i).n ((cl fs i).m.getD j G3):=by
 obtain⟨T,hT⟩:=a9f M ab;have S:∀k,k<fs.length->a0r (cl fs k):=λk hk=>by rw[V8 hk];exact M _ (ll hk)
 have ae:(B6++fs).length=9+fs.length:=by rw[nw];rfl
 have D:(cl fs i).m.getD j G3∈(cl fs i).m:=by
  exact c7v
 have F:=(S i hi).m _ D;have v:=Y6 fs i;refine⟨T,hT,λx hx=> ?_,λx=> ?_,λd hd=>a9E (.inr (F.h d hd).c),?_,λp hp=> ?_,by have:=F.nc;omega,by have:=F.np;omega,by have:=F.nh;omega,by have:=F.s;omega,by have:=F.l;omega,by omega⟩
 ·have y:=F.c x hx;exact⟨a9E y.c,a9E y.m,y.o,λh0=>(y.nn h0).1⟩
 ·unfold O2;cases hk:L6 (B6++fs) x.c x.m with
  |none=>exact lk _
  |some p=>
   dsimp only;obtain⟨h1,K,-⟩:=T.meth_lt hk;unfold V0;by_cases h9:p.1<9
   ·have E:(cl (B6++fs) p.1).m=[]:=by
     rw[U0 (by have:B6.length=9:=rfl;omega)];rcases a3v h9 with e|e|e|e|e|e|e|e|e<;>rw[e]<;>rfl
    rw[E]at K;simp at K
   ·obtain⟨k,aa⟩:∃k,p.1=9+k:=⟨p.1-9,by omega⟩
    rw[aa,Y6]at K⊢
    have ac:(cl fs k).m.getD p.2 G3∈(cl fs k).m:=by
     rw[nb,nq K];exact ll K
    have:=((S k Oo).m _ ac).np;omega
 ·unfold E9;rw[<-v,a6Q T.dist Oo];rfl
 ·have:=(hT.meths (9+i) Oo _ (by rw[v];exact D)).2.2.1 p hp;exact this.1
def a5A(B0:Nat)(files:List ByteArray)(e:nf)(w':ld):Prop:=
 (12<files.length/\e= Y (.tuple #[U N, J I 17, Q #[J I 0, J I 0, J I 0]]))\/
 (files.length<=12/\∃(j:Nat) (hj:j<files.length) (er:Er),I9 files[j]= .error er/\(∀i (hi:i<files.length),i<j->∃c,I9 files[i]= .ok c)/\e= Y (.tuple #[U N, J I er.1, Q #[J I j, J I 0, J I er.2]]))\/
 (files.length<=12/\∃(fs:List Cl),fs.length=files.length/\(∀i (hi:i<files.length),I9 files[i]= .ok (cl fs i))/\
   ((∃er:Er,a8 fs= .error er/\e= Y (.tuple #[U N, J I er.1, Q #[J I er.2, J I 0, J I 0]]))\/
    (a8 fs= .ok ()/\∃er f k at_:Nat,a3q (B6++fs) fs er f k at_/\
      ((er≠0/\e= Y (.tuple #[U N, J I er, Q #[J I f, J I k, J I at_]]))\/
       (er=0/\∃(P B b:Nat) (v:lq) (m1 m2 m3:Nat) (qf:Nat->Qs),e= Y (.tuple #[U (O (A P 0 N)), J I 0, Q #[J I 0, J I 0, J I 0]])/\
        B0<=P/\B0<=B/\A4 w' P #[v, .map (O m1), .map (O m2), .map (O m3), G true] 158/\Gm w' B b v m1 m2 m3 (B6++fs) (M5 qf)/\Y3 w' w'.heap.size fs qf)))))
theorem Y3.upto{d:Nat}(h:Y3 w lim fs qf)(e:lim<=d):Y3 w d fs qf:=
 ⟨λi hi=>(h.f i hi).upto e,h.meths.upto e,h.sz,h.names,h.memb,h.few⟩
theorem a8C(w:ld)(lim:Nat)(hl:lim<=w.heap.size)(files:List ByteArray)(a:Option le)(kk:Nat)(hR:X (C0 w lim 1 X3 a files))(hz:X (∀s∈files,s.size<=na))(hS:X (Shp w))(bd:X (Bin w)):
 la prog 31 #[.slice a files.length kk, G true] w λe w'=>w.grownBy w' N/\a5A w.heap.size files e w':=by
 obtain⟨n,hn⟩:=Oe files.length
 have HN:=A1 hn
 have b4:X (n<=12->la prog 59 #[.slice a n kk] (w.alloc (H #[J I 0, J I 0, J I 0] 78)) λe w'=>(w.alloc (H #[J I 0, J I 0, J I 0] 78)).grownBy w' N/\b4K (w.heap.size+2) files e w'):=λcf=>by
  have:=b5r (w.alloc (H #[J I 0, J I 0, J I 0] 78)) lim Oi files a kk (hR.o.keep (A2 _ _ _)) hz Oo (hS.o.keep (A2 w (H #[J I 0, J I 0, J I 0] 78) N) Os);rw[<-hn,uj]at this;exact this
 rw[<-hn];clear hn;have au:X (A4 (w.alloc (H #[J I 0, J I 0, J I 0] 78)) w.heap.size #[J I 0, J I 0, J I 0] 78):=A4.new w _ _;have ay:X (w.grownBy (w.alloc (H #[J I 0, J I 0, J I 0] 78)) N):=A2 _ _ _;have cu:X (Bin w):=bd;clear hR hS bd;by_cases cf:12<n
 ·go_enter func31,ntmps31;obtain⟨r0,r1,r2⟩:=au.o.q3;obtain⟨z0,z1,z2⟩:=au.o.z3;go_wp2_with fail
  refine lf (v:= .tuple #[U N, J I 17, Q #[J I 0, J I 0, J I 0]]) (by simp[lg,results31,go_sem,r0,r1,r2]) rfl ⟨ay.o, .inl ⟨by rw[<-HN.o];exact cf,rfl⟩⟩
 ·go_enter func31,ntmps31;go_wp2_with (go_at_call 59;refine(b4.o Oo).mono ?_)
  rintro e M ⟨aj,⟨j,hj,er,bv,bl,rfl⟩|⟨fs,v,qf,a2,av,rfl,hD⟩⟩
  ·have c':=a9x bv;have cr:(er.1:Int)≠0:=by omega
   have cv:=A1 bv;have cx:=G7 bl;clear bv bl c';have cz:=au.o.keep aj Os;have bx:=cz.keep (A2 M (H #[J I j, J I 0, J I er.2] 78) N) Os;have cy:A4 (M.alloc (H #[J I j, J I 0, J I er.2] 78)) M.heap.size #[J I j, J I 0, J I er.2] 78:=A4.new M _ _;obtain⟨z0,z1,z2⟩:=bx.z3;obtain⟨r0,r1,r2⟩:=bx.q3;obtain⟨p0,p1,p2⟩:=cy.q3;have co:w.grownBy (M.alloc (H #[J I j, J I 0, J I er.2] 78)) N:=A0 (A0 ay.o aj) (A2 _ _ _);go_wp2_with fail
   go_region
   all_goals
    have d:=A4.keep (row:=N) (((bx.set 0 (J I j)).set 1 (J I 0)).set 2 (J I er.2)) (A7 _ N) Os;have T:=A0 (a2o (w:=w) co (lb _) (i:=0) (j:=1) (k:=2) (x:= J I j) (y:= J I 0) (z:= J I er.2)) (A7 _ N);clear r0 r1 r2 z0 z1 z2 p0 p1 p2;generalize ((((M.alloc (H #[J I j, J I 0, J I er.2] 78)).setCell (A w.heap.size 0 N) (J I j)).setCell (A w.heap.size 1 N) (J I 0)).setCell (A w.heap.size 2 N) (J I er.2)).drew=W6 at d T⊢;have q0:=d.c0;have q1:=d.c1;have q2:=d.c2;go_wp2_with fail
    refine lf (v:= .tuple #[U N, J I er.1, Q #[J I j, J I 0, J I er.2]]) (by simp[lg,results31,go_sem,q0,q1,q2]) rfl ⟨T, .inr (.inl ⟨by rw[<-HN.o];omega,j,hj,er,cv.o,cx.o,rfl⟩)⟩
  ·obtain⟨va,vk,rfl⟩:=F7 hD.own;have aq:=a9b a2 av;have bc:fs.length<=12:=by rw[a2,<-HN.o];omega
   obtain⟨W2,a1⟩:=Oe (M.alloc (H #[J I 0, J I 0, J I 0] 78))
   have aa:M.grownBy W2 N:=by rw[a1];exact A2 _ _ _
   have a4:=(hD.keep aa).gvn aq bc;have b5:=A1 (hD.keep aa)
   have br:X (la prog 60 #[.slice va fs.length vk] W2 λe w'=>W2.grownBy w' N/\a4b (W2.heap.size+1) fs qf (a8 fs) e w'):=
    c0u W2 W2.heap.size (lb _) fs qf va vk a4.1 (λc hc=>a5w (aq c hc)) (λc hc=>(aq c hc).okCl) (c2I aq) a4.2 (cu.o.keep (A0 ay.o (A0 aj aa)))
   have bz:W2.heap.size=M.heap.size+1:=by rw[a1];simp
   have bq:=A1 a4;have D:X ((∀c∈fs,a0r c)/\fs.length<=12):=⟨aq,bc⟩
   have b1:=A1 ((au.o.keep aj Os).keep aa Os);have bs:X (A4 W2 M.heap.size #[J I 0, J I 0, J I 0] 78):=by rw[a1];exact A4.new M _ _
   have az:=A1 (A0 ay.o (A0 aj aa));have ar:=G7 av;have bp:=G7 a2;have dc:=G7 bz;rw[bz]at br;have cq:w.heap.size+1<=M.heap.size:=by have:=aj.size;simp at this;omega
   clear aq aa a4 hD av a2 b4 aj bz;rw[a1]at br b1 bs az bq b5;go_wp2_with (go_at_call 60;refine br.o.mono ?_)
   rintro e S ⟨ad,a5⟩;have bu:=b1.o.keep ad Os;cases hlp:a8 fs with
   |error er=>
    rw[hlp]at a5;obtain rfl:=a5;have a0:=A1 hlp;have cr:(er.1:Int)≠0:=by have:=c0s hlp;omega
    clear hlp;have ap:=bu.keep (A2 S (H #[.slice N 0 0, .map N, .map N, .map N] 151) N) Os;have cn:w.grownBy (S.alloc (H #[.slice N 0 0, .map N, .map N, .map N] 151)) N:=A0 (A0 az.o ad) (A2 _ _ _);obtain⟨r0,r1,r2⟩:=ap.q3;obtain⟨z0,z1,z2⟩:=ap.z3;go_wp2_with fail
    clear r0 r1 r2 z0 z1 z2;have d:=((ap.set 0 (J I er.2)).set 1 (J I 0)).set 2 (J I 0);have T:=a2o (w:=w) cn (lb _) (i:=0) (j:=1) (k:=2) (x:= J I er.2) (y:= J I 0) (z:= J I 0);generalize (((S.alloc (H #[.slice N 0 0, .map N, .map N, .map N] 151)).setCell (A w.heap.size 0 N) (J I er.2)).setCell (A w.heap.size 1 N) (J I 0)).setCell (A w.heap.size 2 N) (J I 0)=W6 at d T⊢;have q0:=d.c0;have q1:=d.c1;have q2:=d.c2;refine lf (v:= .tuple #[U N, J I er.1, Q #[J I er.2, J I 0, J I 0]]) (by simp[lg,results31,go_sem,q0,q1,q2]) rfl ⟨T, .inr (.inr ⟨by rw[<-HN.o];omega,fs,bp.o,ar.o, .inl ⟨er,a0.o,rfl⟩⟩)⟩
   |ok u=>
    rw[hlp]at a5;obtain⟨b,v,E,F,K,rfl,a3⟩:=a5;obtain⟨ra,rk,rfl⟩:=F7 a3.own;have ap:=(bu.keep (A2 S (H #[.slice ra (B6++fs).length rk, .map (O E), .map (O F), .map (O K)] 151) N) Os)
    have bk:=(bs.o.keep ad Os).keep (A2 S (H #[.slice ra (B6++fs).length rk, .map (O E), .map (O F), .map (O K)] 151) N) Os;have aw:A4 (S.alloc (H #[.slice ra (B6++fs).length rk, .map (O E), .map (O F), .map (O K)] 151)) S.heap.size #[.slice ra (B6++fs).length rk, .map (O E), .map (O F), .map (O K)] 151:=A4.new S _ _;have bi:=bq.o.1.keep (A0 ad (A2 S (H #[.slice ra (B6++fs).length rk, .map (O E), .map (O F), .map (O K)] 151) N));have bm:=(bq.o.2.keep (A0 ad (A2 S (H #[.slice ra (B6++fs).length rk, .map (O E), .map (O F), .map (O K)] 151) N)))
    have ak:=(A0 ad (A2 S (H #[.slice ra (B6++fs).length rk, .map (O E), .map (O F), .map (O K)] 151) N)).size;obtain⟨pp,cap,hv,bt⟩:=c3L a3 D.o.1 hlp D.o.2 (A2 S (H #[.slice ra (B6++fs).length rk, .map (O E), .map (O F), .map (O K)] 151) N) (bi.upto ak) (lb _) (b':=S.heap.size) (λk x hx=>aw.cell k x (by simpa using hx));have cg:=b5R (S.alloc (H #[.slice ra (B6++fs).length rk, .map (O E), .map (O F), .map (O K)] 151)) (S.alloc (H #[.slice ra (B6++fs).length rk, .map (O E), .map (O F), .map (O K)] 151)).heap.size S.heap.size fs (B6++fs) rfl pp cap E F K qf bt (lb _) va vk (bm.upto ak) bt.pm D.o.2 (λi hi=>by have:=(D.o.1 _ (by rw[V8 hi];exact ll hi):a0r (cl fs i)).nm;omega) (λi hi j hj=>b4i D.o.1 hlp D.o.2 hi hj);have b3:=A1 cg;have a0:X (a8 fs= .ok ()):=hlp;have ba:=G7 (a3.keep (A2 S (H #[.slice ra (B6++fs).length rk, .map (O E), .map (O F), .map (O K)] 151) N));have a':=G7 (b5.o.keep (A0 ad (A2 S (H #[.slice ra (B6++fs).length rk, .map (O E), .map (O F), .map (O K)] 151) N)));have b2:=G7 ap;have bb:=G7 bk;have a7:=G7 aw;have cc:=G7 (A0 (A0 az.o ad) (A2 S (H #[.slice ra (B6++fs).length rk, .map (O E), .map (O F), .map (O K)] 151) N));clear bu ap bk aw bi bm ak bt cg hlp a3 hv;have bj:M.heap.size<S.heap.size:=by have:=ad.size;simp at this;omega
    have ao:X (w.heap.size<M.heap.size/\M.heap.size<S.heap.size/\S.heap.size<(S.alloc (H #[.slice ra (B6++fs).length rk, .map (O E), .map (O F), .map (O K)] 151)).heap.size):=⟨by have:=au.o.lt;have h2:=az.o.size;have h3:=bs.o.lt;have h4:=cq;omega,bj,by simp⟩
    obtain⟨NL,cj⟩:=Oe ((B6++fs).length)
    rw[<-cj]at b3 ba b2 bb a7 cc ao a'⊢;clear cj bj;go_upto_region 11 with(go_at_call 61;go_loud (refine b3.o.mono ?_;rintro e w5 ⟨er,f,k,ab,rfl,ai,af⟩;have ag:=bb.o.keep af B9;obtain⟨p0,p1,p2⟩:=ag.q3;obtain⟨f0,f1,f2⟩:=ag.z3))
    clear p0 p1 p2 f0 f1 f2;have ah:=A0 (A0 (A6 w5 (A M.heap.size 0 N) (J I f)) (A6 _ (A M.heap.size 1 N) (J I k))) (A6 _ (A M.heap.size 2 N) (J I ab));have an:=((ag.set 0 (J I f)).set 1 (J I k)).set 2 (J I ab);have d:=(b2.o.keep af B9).keep ah (by simp;have:=ao.o;omega);have ae:=(a7.o.keep af B9).keep ah (by simp;have:=ao.o;omega);have al:=(a'.o.keep af).blk ag ah;have am:=Am.far (ba.o.keep af) ah (by show M.heap.size<_;first|omega|(simp;omega));have T:=C6 (A0 cc.o af) ah (λk e=>by cases e;exact .inl (ni ao.o.1));have da:=ae.lt;clear ag;generalize ((w5.setCell (A M.heap.size 0 N) (J I f)).setCell (A M.heap.size 1 N) (J I k)).setCell (A M.heap.size 2 N) (J I ab)=W6 at ah an d ae am al T da⊢;have b0:=A1 ai;obtain⟨r0,r1,r2⟩:=d.q3;obtain⟨z0,z1,z2⟩:=d.z3;have bo:=G7 d;have cd:=G7 T;have ce:=G7 am;have cb:=G7 al;by_cases he0:er=0
    ·subst he0;obtain⟨n0,n1,n2,n3⟩:=ae.q4;have db:=d.lt;clear ah an d ae am al T af ai;go_wp2_with fail
     clear r0 r1 r2 z0 z1 z2 n0 n1 n2 n3;have a6:=A0 (A0 (A6 W6 (A w.heap.size 0 N) (J I 0)) (A6 _ (A w.heap.size 1 N) (J I 0))) (A6 _ (A w.heap.size 2 N) (J I 0));have cm:=((bo.o.set 0 (J I 0)).set 1 (J I 0)).set 2 (J I 0);have be:=cb.o.blk bo.o a6;have bg:=Am.far ce.o a6 (by show w.heap.size<_;have:=ao.o.1;first|omega|(simp;omega));have cp:=C6 cd.o a6 (λk e=>by cases e;exact .inl (lb _));have bn:(((W6.setCell (A w.heap.size 0 N) (J I 0)).setCell (A w.heap.size 1 N) (J I 0)).setCell (A w.heap.size 2 N) (J I 0)).heap.size=W6.heap.size:=by simp[World.setCell]
     generalize ((W6.setCell (A w.heap.size 0 N) (J I 0)).setCell (A w.heap.size 1 N) (J I 0)).setCell (A w.heap.size 2 N) (J I 0)=W7 at a6 cm bg be cp bn⊢;have ac:=cm.keep (A2 W7 (H #[.slice ra NL rk, .map (O E), .map (O F), .map (O K), G true] 158) N) Os
     have ct:A4 (W7.alloc (H #[.slice ra NL rk, .map (O E), .map (O F), .map (O K), G true] 158)) W6.heap.size #[.slice ra NL rk, .map (O E), .map (O F), .map (O K), G true] 158:=by
      have:=A4.new W7 #[.slice ra NL rk, .map (O E), .map (O F), .map (O K), G true] 158;rw[bn]at this;exact this
     have ax:=A0 cp (A2 W7 (H #[.slice ra NL rk, .map (O E), .map (O F), .map (O K), G true] 158) N);have bh:=Gm.keep bg (A2 W7 (H #[.slice ra NL rk, .map (O E), .map (O F), .map (O K), G true] 158) N);have bf:=(be.keep (A2 W7 (H #[.slice ra NL rk, .map (O E), .map (O F), .map (O K), G true] 158) N)).gvn D.o.1 D.o.2;generalize W7.alloc (H #[.slice ra NL rk, .map (O E), .map (O F), .map (O K), G true] 158)=W8 at ac ct bh bf ax⊢;have q0:=ac.c0;have q1:=ac.c1;have q2:=ac.c2;refine lf (v:= .tuple #[U (O (A W6.heap.size 0 N)), J I 0, Q #[J I 0, J I 0, J I 0]]) (by simp[lg,results31,go_sem,q0,q1,q2]) rfl ⟨ax, .inr (.inr ⟨by rw[<-HN.o];omega,fs,bp.o,ar.o, .inr ⟨a0.o,0,f,k,ab,b0.o, .inr ⟨rfl,W6.heap.size,M.heap.size+1+1,b,_,E,F,K,qf,rfl,ni db,by have:=ao.o.1;omega,ct,?_⟩⟩⟩)⟩;exact⟨bh,bf.1⟩
    ·have cr:(er:Int)≠0:=by omega
     have cw:X (er≠0):=he0;obtain⟨p0,p1,p2⟩:=an.q3;clear ah an d ae am al T af ai he0;go_wp2_with fail
     go_region
     all_goals
      have ac:=A4.keep (row:=N) (((bo.o.set 0 (J I f)).set 1 (J I k)).set 2 (J I ab)) (A7 _ N) Os;have ax:=A0 (a2o (w:=w) cd.o (lb _) (i:=0) (j:=1) (k:=2) (x:= J I f) (y:= J I k) (z:= J I ab)) (A7 _ N);clear r0 r1 r2 z0 z1 z2 p0 p1 p2;generalize (((W6.setCell (A w.heap.size 0 N) (J I f)).setCell (A w.heap.size 1 N) (J I k)).setCell (A w.heap.size 2 N) (J I ab)).drew=W8 at ac ax⊢;have q0:=ac.c0;have q1:=ac.c1;have q2:=ac.c2;go_wp2_with fail
      refine lf (v:= .tuple #[U N, J I er, Q #[J I f, J I k, J I ab]]) (by simp[lg,results31,go_sem,q0,q1,q2]) rfl ⟨ax, .inr (.inr ⟨by rw[<-HN.o];omega,fs,bp.o,ar.o, .inr ⟨a0.o,er,f,k,ab,b0.o, .inl ⟨cw.o,rfl⟩⟩⟩)⟩
def a9K(B0:Nat)(files:List ByteArray)(e:nf)(w':ld):Prop:=
 (12<files.length/\e= Y (.tuple #[U N, J I 17, Q #[J I 0, J I 0, J I 0]]))\/
 (files.length<=12/\∃(j:Nat) (hj:j<files.length) (er:Er),I9 files[j]= .error er/\(∀i (hi:i<files.length),i<j->∃c,I9 files[i]= .ok c)/\e= Y (.tuple #[U N, J I er.1, Q #[J I j, J I 0, J I er.2]]))\/
 (files.length<=12/\∃(fs:List Cl),fs.length=files.length/\(∀i (hi:i<files.length),I9 files[i]= .ok (cl fs i))/\
   ((∃er:Er,y6 fs= .error er/\e= Y (.tuple #[U N, J I er.1, Q #[J I er.2, J I 0, J I 0]]))\/
    (y6 fs= .ok ()/\∃er f k at_:Nat,a3q (B6++fs) fs er f k at_/\
      ((er≠0/\e= Y (.tuple #[U N, J I er, Q #[J I f, J I k, J I at_]]))\/
       (er=0/\∃(P B wb:Nat) (va vf:lq) (qf:Nat->Qs),e= Y (.tuple #[U (O (A P 0 N)), J I 0, Q #[J I 0, J I 0, J I 0]])/\
        B0<=P/\B0<=B/\A4 w' P #[U (O (A wb 0 N)), G true] 95/\Mk w' B wb va vf fs qf fs.length)))))
theorem c3F{wb:Nat}{va vf:lq}(T:Mk w B wb va vf fs qf fs.length)(i:Y3 w lim fs qf)(P:lim<=w.heap.size)(y:∀c∈fs,a0r c)(d:y6 fs= .ok ()):∃p D,Rw w w.heap.size wb (B6++fs) p D (M5 qf):=by
 obtain⟨p,D,-,v⟩:=T.wo (lb _) i (lb w.heap.size);have e:fs.take fs.length=fs:=nz (lb _);have hok:=λc S=>(y c S).okCl
 have E:=(i.partF (lb fs.length)).upto P;have F:=(i.partM (lb fs.length)).upto P;have K:=i.few' (lb fs.length);have M:=i.szc (lb fs.length);rw[e]at v E F K M;exact⟨p,D,v,E,F,K,b3S fs hok d,c1S fs d,b3V fs hok d,lb _,M⟩
theorem b7c(w:ld)(lim:Nat)(hl:lim<=w.heap.size)(files:List ByteArray)(a:Option le)(kk:Nat)(hR:X (C0 w lim 1 X3 a files))(hz:X (∀s∈files,s.size<=na)):
 la prog 35 #[.slice a files.length kk, G true] w λe w'=>w.grownBy w' N/\a9K w.heap.size files e w':=by
 obtain⟨n,hn⟩:=Oe files.length
 have HN:=A1 hn;rw[<-hn];clear hn;have HB0:X (A4 (w.alloc (H #[J I 0, J I 0, J I 0] 78)) w.heap.size #[J I 0, J I 0, J I 0] 78):=A4.new w _ _;have HG0:X (w.grownBy (w.alloc (H #[J I 0, J I 0, J I 0] 78)) N):=A2 _ _ _;by_cases ba:12<n
 ·go_enter func35,ntmps35;obtain⟨r0,r1,r2⟩:=HB0.o.q3;obtain⟨z0,z1,z2⟩:=HB0.o.z3;go_wp2_with fail
  refine lf (v:= .tuple #[U N, J I 17, Q #[J I 0, J I 0, J I 0]]) (by simp[lg,results35,go_sem,r0,r1,r2]) rfl ⟨HG0.o, .inl ⟨by rw[<-HN.o];exact ba,rfl⟩⟩
 ·have a4:n<=12:=by omega
  clear ba;have ba:decide (12<(n:Int))=false:=by simp;omega
  go_enter func35,ntmps35;go_wp2_with fail
  go_loopw [7,8] (λo i wr=>∃(k:Nat) (fs:List Cl) (qf:Nat->Qs),k<=n/\fs.length=k/\i= J I k/\X (T9 wr (w.heap.size+1) o fs qf)/\X (∀j (hj:j<files.length),j<k->I9 files[j]= .ok (cl fs j))/\X (A4 wr w.heap.size #[J I 0, J I 0, J I 0] 78)/\X (w.grownBy wr N)) (λ_ i _=>n-(lj i).toNat)
  case atStart=>exact c7w
  case round=>
   obtain⟨k,fs,qf,hk,ag,rfl,hD,hall,hb,S⟩:=hrel;obtain⟨va,vk,rfl⟩:=F7 hD.o.own;have HFL:=A1 ag;rw[ag];by_cases hlt:k<n
   ·have bd:k<files.length:=by rw[<-HN.o];exact hlt
    obtain⟨p,hp,-,hc⟩:=hR.o.keep S.o k bd;have c0:wr.cell? (p.add k)=O (Z files[k]):=by have:=hc 0 _ rfl;simpa using this
    subst hp;clear hc;obtain⟨s,hs⟩:=Oe (files[k])
    rw[<-hs]at c0;have bt:s.size<=na:=by rw[hs];exact hz.o _ (ll bd)
    have HS1:=A1 hs;clear hs ag;cases hd:I9 s with
    |error er=>
     have de:=a9x hd;have HDE:=A1 hd;have cv:(er.1:Int)≠0:=by omega
     clear hd;go_wp2_with (go_at_call 66;refine(b0U _ s bt).mono ?_;intro e w4 he;rw[HDE.o]at he;obtain⟨am,rfl⟩:=b0V he;clear he;have ad:=(hb.o.keep am Os).keep (A2 w4 (H #[Z ⟨#[]⟩, Z ⟨#[]⟩, .slice N 0 0, .slice N 0 0] 44) N) Os;obtain⟨r0,r1,r2⟩:=ad.q3;obtain⟨z0,z1,z2⟩:=ad.z3;have aw:=G7 ad;have T:=G7 (A0 (A0 S.o am) (A2 w4 (H #[Z ⟨#[]⟩, Z ⟨#[]⟩, .slice N 0 0, .slice N 0 0] 44) N));clear ad am)
     clear r0 r1 r2 z0 z1 z2;generalize w4.alloc (H #[Z ⟨#[]⟩, Z ⟨#[]⟩, .slice N 0 0, .slice N 0 0] 44)=W5 at aw T⊢;have d:=((aw.o.set 0 (J I k)).set 1 (J I 0)).set 2 (J I er.2);have F:=a2o (w:=w) T.o (lb _) (i:=0) (j:=1) (k:=2) (x:= J I k) (y:= J I 0) (z:= J I er.2);generalize ((W5.setCell ⟨w.heap.size,0,N⟩ (J I k)).setCell ⟨w.heap.size,1,N⟩ (J I 0)).setCell ⟨w.heap.size,2,N⟩ (J I er.2)=W6 at d F⊢;have q0:=d.c0;have q1:=d.c1;have q2:=d.c2;refine lf (v:= .tuple #[U N, J I er.1, Q #[J I k, J I 0, J I er.2]]) (by simp[lg,results35,go_sem,q0,q1,q2]) rfl ⟨F, .inr (.inl ⟨by rw[<-HN.o];omega,k,bd,er,by rw[<-HS1.o];exact HDE.o,λi hi cq=>⟨_,hall.o i hi cq⟩,rfl⟩)⟩
    |ok c=>
     have HDE:=A1 hd;clear hd;obtain⟨cz,co,cw,cx,cy⟩:=info_parts a5p;rw[HFL.o]at hD
     go_wp2_with (first
      |(go_at_call 66;refine(b0U _ s bt).mono ?_;intro e w4 he;rw[HDE.o]at he;obtain⟨am,q,rfl,an⟩:=b1v he;clear he;have cb:=G7 an;have T:=G7 am;clear an am)
      |(at_builtin;go_loud (refine wpList_append_own _ rfl _ _ 90 rfl (w.heap.size+1) 44 cz _ 4 80 underlying90 co cw cx cy rfl Od _ k ((lv fs.length).flatMap (M6 fs qf)) rfl (um.alloc (um.alloc ((T9.keep hD.o T.o).ownk HFL.o) _) _) ⟨w4.heap.size+1,0,N⟩ 1 1 (G9 c q) rfl rfl (NC w4 c q).o (by simp[G9,Value.oneCell']) Om Oo (by have:=S.o.size;have:=T.o.size;have:=hb.o.lt;simp;omega) ?_;intro v' w6 a5 ae _;have HD6:=G7 (T9.push (((T9.keep hD.o T.o).keep (A2 w4 (H #[Z c.n, Z c.s, .slice q.fa c.f.length q.fk, .slice q.ma c.m.length q.mc] 44) N)).keep (A2 _ (H #[Z c.n, Z c.s, .slice q.fa c.f.length q.fk, .slice q.ma c.m.length q.mc] 44) N)) (((cb.o.lower (by have:=S.o.size;have:=hb.o.lt;omega)).keep (A2 w4 (H #[Z c.n, Z c.s, .slice q.fa c.f.length q.fk, .slice q.ma c.m.length q.mc] 44) N)).keep (A2 _ (H #[Z c.n, Z c.s, .slice q.fa c.f.length q.fk, .slice q.ma c.m.length q.mc] 44) N)) (b2N HFL.o a5) ae);have HG6:=G7 (C6 (A0 (A0 (A0 S.o T.o) (A2 w4 (H #[Z c.n, Z c.s, .slice q.fa c.f.length q.fk, .slice q.ma c.m.length q.mc] 44) N)) (A2 _ (H #[Z c.n, Z c.s, .slice q.fa c.f.length q.fk, .slice q.ma c.m.length q.mc] 44) N)) ae (λx e=> .inl (by have:=(K7 hD.o.own e).1;omega)));have HB6:=G7 ((((hb.o.keep T.o Os).keep (A2 w4 (H #[Z c.n, Z c.s, .slice q.fa c.f.length q.fk, .slice q.ma c.m.length q.mc] 44) N) Os).keep (A2 _ (H #[Z c.n, Z c.s, .slice q.fa c.f.length q.fk, .slice q.ma c.m.length q.mc] 44) N) Os).keep ae (λe=>F9 hD.o.own (Nat.lt_succ_self _) e.symm));clear a5 ae)))
     exact a3e
   ·obtain rfl:k=n:=by omega
    have aj:=A1 (λi hi=>hall.o i hi (by rw[HN.o];exact hi));have bb:=a9b (ag.trans HN.o) aj.o;have ar:=hD.o.gvn bb (by rw[ag];exact a4)
    have cc:X (la prog 67 #[.slice va k vk] wr λe w'=>wr.grownBy w' N/\a9y wr.heap.size fs qf (y6 fs) e w'):=by
     have:=b8m wr wr.heap.size fs qf va vk (lb _) ar.1 ar.2;rw[ag]at this;exact this
    have ak:=A1 (ag.trans HN.o);have bn:=A1 ar.1;have br:=A1 ar.2;have ao:=A1 bb;clear bb ar ag hall hD hR hz hk hlt;go_wp2_with (go_at_call 67;refine cc.o.mono ?_)
    rintro e w3 ⟨ah,a0⟩;have af:=hb.o.keep ah Os;have ac:=A0 S.o ah;cases hlp:y6 fs with
    |error er=>
     rw[hlp]at a0;obtain rfl:=a0;have al:=A1 hlp;have cv:(er.1:Int)≠0:=by have:=c0q hlp;omega
     clear hlp;obtain⟨r0,r1,r2⟩:=af.q3;obtain⟨z0,z1,z2⟩:=af.z3;go_wp2_with fail
     clear r0 r1 r2 z0 z1 z2;have d:=((af.set 0 (J I er.2)).set 1 (J I 0)).set 2 (J I 0);have F:=a2o (w:=w) ac (lb _) (i:=0) (j:=1) (k:=2) (x:= J I er.2) (y:= J I 0) (z:= J I 0);generalize ((w3.setCell ⟨w.heap.size,0,N⟩ (J I er.2)).setCell ⟨w.heap.size,1,N⟩ (J I 0)).setCell ⟨w.heap.size,2,N⟩ (J I 0)=W6 at d F⊢;have q0:=d.c0;have q1:=d.c1;have q2:=d.c2;refine lf (v:= .tuple #[U N, J I er.1, Q #[J I er.2, J I 0, J I 0]]) (by simp[lg,results35,go_sem,q0,q1,q2]) rfl ⟨F, .inr (.inr ⟨by rw[<-HN.o];omega,fs,ak.o,aj.o, .inl ⟨er,al.o,rfl⟩⟩)⟩
    |ok u=>
     rw[hlp]at a0;obtain⟨wb,c',da,rfl,bz⟩:=a0;have al:X (y6 fs= .ok ()):=hlp;have bo:=G7 bz;clear hlp bz;have b1:=br.o.keep ah;have au:=bn.o.keep ah;obtain⟨p,kq,b2⟩:=c3F bo.o au ah.size ao.o al.o;have bs:=A1 b2;have a2:=A1 (au.upto ah.size);have a3:=A1 b1;have bh:=A1 af;have bl:=A1 ac;have cj:=hb.o.lt;have bi:=A1 cj;obtain⟨L,hL⟩:=Oe (B6++fs)
     have HL:=A1 hL;rw[<-hL]at bs;clear b1 au b2 af ac hL br bn;go_wp2_with fail
     go_loopw [14] (λc W=>∃i:Nat,c= J I i/\i<=k/\X (∀f' D,f'<i->D<(cl fs f').m.length->N3 L (cl fs f').n ((cl fs f').m.getD D G3) 0 0)/\X (w3.grownBy W N)) (λc _=>k-(lj c).toNat)
     case atStart=>exact⟨0,rfl,lk _,λf' D hf=>absurd hf (ls f'),C9 _ _⟩
     case round=>
      obtain⟨i,rfl,hi,hA,S⟩:=hrel;by_cases hil:i<k
      ·have cp:(i:Int)<(k:Int):=by omega
       have aa:i<fs.length:=by rw[ak.o,<-HN.o];exact hil
       obtain⟨lp,rfl,cu,-⟩:=(a3.o.keep S.o) i (by simpa using aa)
       have a7:X (∀W,w3.grownBy W N->W.cell? (lp.add (i*4))=O (Z (cl fs i).n)/\W.cell? ⟨(lp.add (i*4)).block,(lp.add (i*4)).off+3,N⟩=O (.slice (qf i).ma (cl fs i).m.length (qf i).mc)):=λW hW=>by
        obtain⟨p2,e2,-,an⟩:=(a3.o.keep hW) i (by simpa using aa);injection e2 with e2
        subst e2;simp only[nk]at an;exact⟨an 0 _ rfl,by rw[C2 lp (i*4) 2];exact an 3 _ rfl⟩
       obtain⟨mn,a1⟩:=Oe ((cl fs i).m.length)
       have bq:=A1 a1;obtain⟨cn,bc⟩:=Oe ((cl fs i).n)
       have ax:=A1 bc;rw[<-a1,<-bc]at a7;have df:mn<=255:=by rw[a1];exact(a2.o.memb i aa).2
       clear a1 bc;go_wp2_with fail
       go_loopw [15] (λc W=>∃j:Nat,c= J I j/\j<=mn/\X (∀D,D<j->N3 L cn ((cl fs i).m.getD D G3) 0 0)/\X (w3.grownBy W N)) (λc _=>mn-(lj c).toNat)
       case atStart=>exact⟨0,rfl,lk _,λD ab=>absurd ab (ls D),S.o⟩
       case round=>
        clear S;obtain⟨j,rfl,hj,hB,S⟩:=hrel;obtain⟨y0,y3⟩:=a7.o _ S.o;have db:=no cu (li ah.size S.o.size);by_cases hjl:j<mn
        ·have cr:(j:Int)<(mn:Int):=by omega
         have ai:j<(cl fs i).m.length:=by rw[<-bq.o];exact hjl
         obtain⟨M,pa,ca,ha,pk,ck,hk,bx,b0,g1,g2,g3,be⟩:=a2.o.meths i aa j ai;have aq:MeC L cn ((cl fs i).m.getD j G3):=by rw[HL.o,ax.o];exact b4i ao.o (by rw[a9I fs (λc hc=>(ao.o c hc).okCl)];exact al.o) (by rw[ak.o,<-HN.o];exact a4) aa ai
         have av:((cl fs i).m.getD j G3).r.k<=5:=by
          have h0:(cl fs i).m.getD j G3∈(cl fs i).m:=by rw[nb,nq ai];exact ll ai
          have:=((ao.o (cl fs i) (by rw[V8 aa];exact ll aa)).m _ h0).r.1;omega
         have K:=(ao.o (cl fs i) (by rw[V8 aa];exact ll aa)).m ((cl fs i).m.getD j G3) (by rw[nb,nq ai];exact ll ai)
         have bg:X (N3 L cn ((cl fs i).m.getD j G3) 0 0->∀D,D<j+1->N3 L cn ((cl fs i).m.getD D G3) 0 0):=λh0 D ab=>by
          by_cases e:D=j
          ·subst e;exact h0
          ·exact hB.o D Oo
         have bk:X (∀E A:Nat,E≠0->N3 L cn ((cl fs i).m.getD j G3) E A->a3q (B6++fs) fs E i j A):=λE A hE hI=>by
          refine .inl ⟨hE,aa,ai,?_,?_,?_⟩
          ·rw[<-HL.o,<-ax.o];exact hI
          ·rw[<-HL.o];exact λf' D hf ab=>hA.o f' D hf ab
          ·rw[<-HL.o,<-ax.o];exact λD ab=>hB.o D ab
         generalize (cl fs i).m.getD j G3=m at g1 g2 g3 be aq av K bg bk;have HM:=A1 aq
         have a':X (∀W,wr.grownBy W N->W.cell? (lp.add (i*4))=O (Z cn)/\W.cell? ⟨(lp.add (i*4)).block,(lp.add (i*4)).off+3,N⟩=O (.slice (O M) mn (qf i).mc)/\W.cell? (M.add (j*8))=O (Z m.n)/\W.cell? ⟨(M.add (j*8)).block,(M.add (j*8)).off+1,N⟩=O (.slice pa m.p.length pk)/\W.cell? ⟨(M.add (j*8)).block,(M.add (j*8)).off+2,N⟩=O (J I m.r.k)/\W.cell? ⟨(M.add (j*8)).block,(M.add (j*8)).off+3,N⟩=O (Z m.r.n)/\W.cell? ⟨(M.add (j*8)).block,(M.add (j*8)).off+4,N⟩=O (J I m.s)/\W.cell? ⟨(M.add (j*8)).block,(M.add (j*8)).off+5,N⟩=O (J I m.l)/\W.cell? ⟨(M.add (j*8)).block,(M.add (j*8)).off+6,N⟩=O (.slice ca m.c.length ck)/\W.cell? ⟨(M.add (j*8)).block,(M.add (j*8)).off+7,N⟩=O (.slice ha m.h.length hk)):=λW hW=>by
          obtain⟨z0,z3⟩:=a7.o W (A0 S.o hW);rw[bx]at z3;have hc:=λr u hu=>(A0 S.o hW).cell (be r u hu) Os
          exact⟨z0,z3,hc 0 _ rfl,by rw[C2 M (j*8) 0];exact hc 1 _ rfl,by rw[C2 M (j*8) 1];exact hc 2 _ rfl,by rw[C2 M (j*8) 2];exact hc 3 _ rfl,by rw[C2 M (j*8) 3];exact hc 4 _ rfl,by rw[C2 M (j*8) 4];exact hc 5 _ rfl,by rw[C2 M (j*8) 5];exact hc 6 _ rfl,by rw[C2 M (j*8) 6];exact hc 7 _ rfl⟩
         have bj:X (∀W jb,w3.grownBy W N->A4 W jb #[U (O ⟨wb,0,N⟩), Z cn, Z m.n, .slice pa m.p.length pk, J I m.r.k, Z m.r.n, J I m.s, J I m.l, .slice ca m.c.length ck, .slice ha m.h.length hk] 171->la prog 68 #[U (O ⟨jb,0,N⟩)] W (ChA W L cn m)):=λW jb hW hb=>by
          have ct:Jb W jb w3.heap.size wb L p kq (M5 qf) cn m ⟨pa,pk,ca,ck,ha,hk⟩:=⟨bs.o.keep hW,hb,g1.keep hW,g2.keep hW,g3.keep hW,by have:=K.s;omega,by have:=K.l;omega,by have:=K.nc;omega,by have:=K.nh;omega,by have:=K.np;omega,λx hx=>(HM.o.c x hx).2.2⟩
          exact b7g ct HM av
         have dc:=no b0 S.o.size;rw[bx]at y3;clear g1 g2 g3 be aq av K;go_upto_region 20 with fail
         refine T6 a' (C9 _ _) (λap=> ?_);refine A3 0 ?_;refine A3 1 ?_;refine A3 2 ?_;refine A3 3 ?_;refine A3 4 ?_;refine A3 5 ?_;refine A3 6 ?_;refine A3 7 ?_;refine A3 8 ?_;refine A3 9 ?_;refine A3 10 ?_;refine A3 11 ?_;refine A3 12 ?_;refine A3 13 ?_;refine A3 14 ?_;refine F3 15 λK' hK=> ?_
         go_simp
         have bu:=A4.new wr #[U (O ⟨wb,0,N⟩), Z cn, Z m.n, .slice pa m.p.length pk, J I m.r.k, Z m.r.n, J I m.s, J I m.l, .slice ca m.c.length ck, .slice ha m.h.length hk] 171;have az:=A0 (A2 wr (H #[U (O ⟨wb,0,N⟩), Z cn, Z m.n, .slice pa m.p.length pk, J I m.r.k, Z m.r.n, J I m.s, J I m.l, .slice ca m.c.length ck, .slice ha m.h.length hk] 171) N) (A7 _ N);refine hK.o _ _ (a'.o _ az) (λap=> ?_);clear hK;refine A3 16 ?_;refine ly Ok0 ?_ _;have a6:=G7 (bj.o _ _ (A0 S.o az) (bu.keep (A7 _ N) Os));have bm:X (w3.grownBy _ N):=A0 S.o az;generalize (wr.alloc (H #[U (O ⟨wb,0,N⟩), Z cn, Z m.n, .slice pa m.p.length pk, J I m.r.k, Z m.r.n, J I m.s, J I m.l, .slice ca m.c.length ck, .slice ha m.h.length hk] 171)).drew=W5 at a6 bm⊢;clear ap bu az y0 y3 a' bj;go_upto_region 22 with(go_at_call 68;refine a6.o.mono ?_;rintro e w6 ⟨fa,fl,fk,E,A,rfl,hI,F⟩)
         have HG6:=A1 (A0 bm.o F);have HI:=A1 hI;clear hI F a6;by_cases hE:E=0
         ·subst hE;have cf:=b1p HI.o;subst cf;have b5:=A1 (bg.o HI.o);go_wp2_with fail
          refine⟨⟨j+1,by first|rfl|go_num,by omega,b5.o,HG6.o⟩,?_⟩;exact a0s
         ·have dE:((E:Int)==0)=false:=beq_eq_false_iff_ne.2 Oo;have dd:¬(E:Int)=0:=by omega
          have b3:=A1 (bk.o E A hE HI.o);have cd:X (E≠0):=hE;have d:=bh.o.keep HG6.o Os;have cm:=A0 bl.o HG6.o;obtain⟨r0,r1,r2⟩:=d.q3;obtain⟨z0,z1,z2⟩:=d.z3;clear hE;go_wp2_with fail
          all_goals
           clear r0 r1 r2 z0 z1 z2;have ay:=((d.set 0 (J I i)).set 1 (J I j)).set 2 (J I A);have bv:=a2o (w:=w) cm (lb _) (i:=0) (j:=1) (k:=2) (x:= J I i) (y:= J I j) (z:= J I A);generalize ((w6.setCell ⟨w.heap.size,0,N⟩ (J I i)).setCell ⟨w.heap.size,1,N⟩ (J I j)).setCell ⟨w.heap.size,2,N⟩ (J I A)=W8 at ay bv⊢;have q0:=ay.c0;have q1:=ay.c1;have q2:=ay.c2;refine lf (v:= .tuple #[U N, J I E, Q #[J I i, J I j, J I A]]) (by simp[lg,results35,go_sem,q0,q1,q2]) rfl ⟨bv, .inr (.inr ⟨by rw[<-HN.o];omega,fs,ak.o,aj.o, .inr ⟨al.o,E,i,j,A,b3.o, .inl ⟨cd.o,rfl⟩⟩⟩)⟩
        ·have cr:¬(j:Int)<(mn:Int):=by omega
         have cg:X (∀f' D,f'<i+1->D<(cl fs f').m.length->N3 L (cl fs f').n ((cl fs f').m.getD D G3) 0 0):=λf' D hf ab=>by
          by_cases e:f'=i
          ·subst e;rw[<-ax.o];exact hB.o D (by have:=bq.o;omega)
          ·exact hA.o f' D Oo ab
         go_wp2_with fail
         refine⟨⟨i+1,by first|rfl|go_num,by omega,cg.o,S.o⟩,?_⟩;exact a0s
      ·have cp:¬(i:Int)<(k:Int):=by omega
       have b4:X (a3q (B6++fs) fs 0 0 0 0):= .inr ⟨rfl,rfl,rfl,rfl,λf' D hf ab=>by rw[<-HL.o];exact hA.o f' D (by rw[ak.o,<-HN.o]at hf;omega) ab⟩;have af:=bh.o.keep S.o Os;have ac:=A0 bl.o S.o;have ad:=af.keep (A2 wr (H #[U (O ⟨wb,0,N⟩), G true] 95) N) Os;have T:X (w.grownBy (wr.alloc (H #[U (O ⟨wb,0,N⟩), G true] 95)) N):=A0 ac (A2 _ _ _);have ce:X (A4 (wr.alloc (H #[U (O ⟨wb,0,N⟩), G true] 95)) wr.heap.size #[U (O ⟨wb,0,N⟩), G true] 95):=A4.new wr _ _;have bp:=G7 ((bo.o.keep S.o).keep (A2 wr (H #[U (O ⟨wb,0,N⟩), G true] 95) N));have aw:=G7 ad;have b':=A1 ac.size;obtain⟨r0,r1,r2⟩:=ad.q3;obtain⟨z0,z1,z2⟩:=ad.z3;clear ad;go_wp2_with fail
       all_goals
        clear r0 r1 r2 z0 z1 z2;have d:=((aw.o.set 0 (J I 0)).set 1 (J I 0)).set 2 (J I 0);have bf:=A0 (A0 (A6 (wr.alloc (H #[U (O ⟨wb,0,N⟩), G true] 95)) ⟨w.heap.size,0,N⟩ (J I 0)) (A6 _ ⟨w.heap.size,1,N⟩ (J I 0))) (A6 _ ⟨w.heap.size,2,N⟩ (J I 0));have F:=a2o (w:=w) T.o (lb _) (i:=0) (j:=1) (k:=2) (x:= J I 0) (y:= J I 0) (z:= J I 0);generalize (((wr.alloc (H #[U (O ⟨wb,0,N⟩), G true] 95)).setCell ⟨w.heap.size,0,N⟩ (J I 0)).setCell ⟨w.heap.size,1,N⟩ (J I 0)).setCell ⟨w.heap.size,2,N⟩ (J I 0)=W6 at d F bf⊢;have q0:=d.c0;have q1:=d.c1;have q2:=d.c2;refine lf (v:= .tuple #[U (O ⟨wr.heap.size,0,N⟩), J I 0, Q #[J I 0, J I 0, J I 0]]) (by simp[lg,results35,go_sem,q0,q1,q2]) rfl ⟨F, .inr (.inr ⟨by rw[<-HN.o];omega,fs,ak.o,aj.o, .inr ⟨al.o,0,0,0,0,b4.o, .inr ⟨rfl,wr.heap.size,_,wb,c',da,qf,rfl,b'.o,ni bi.o,ce.o.keep bf (by simp;have:=af.lt;omega),Mk.far bp.o bf (by show w.heap.size<_;exact bi.o)⟩⟩⟩)⟩
theorem b7x(files:List ByteArray):∀B e W,a5A B files e W->∃d c x y z,e=ldE d c x y z:=by
 rintro B e W (⟨-,rfl⟩|⟨-,j,hj,er,-,-,rfl⟩|⟨-,fs,-,-,⟨er,-,rfl⟩|⟨-,er,f,k,a,-,⟨-,rfl⟩|⟨-,P,B2,b,v,m1,m2,m3,qf,rfl,-⟩⟩⟩)
 all_goals exact⟨_,_,_,_,_,rfl⟩
theorem b5x(h:C1 L){e f k e' D v a':Nat}(h1:a3q L fs e f k a)(h2:a3q L fs e' D v a'):e=e'/\f=D/\k=v/\a=a':=by
 rcases h1 with⟨K,T,S,E,g5,g6⟩|⟨K,T,S,E,g5⟩
 ·rcases h2 with⟨y,M,F,i,P,k6⟩|⟨y,M,F,i,P⟩
  ·have ef:f=D:=by
    rcases nx f D with d|d|d
    ·exact absurd (h.isChk_unique E (P f k d S)).1 K
    ·exact d
    ·exact absurd (h.isChk_unique i (g5 D v d F)).1 y
   subst ef
   have ek:k=v:=by
    rcases nx k v with d|d|d
    ·exact absurd (h.isChk_unique E (k6 k d)).1 K
    ·exact d
    ·exact absurd (h.isChk_unique i (g6 v d)).1 y
   subst ek;obtain⟨e1,e2⟩:=h.isChk_unique E i;exact⟨e1,rfl,rfl,e2⟩
  ·exact absurd (h.isChk_unique E (P f k T S)).1 K
 ·rcases h2 with⟨y,M,F,i,P,k6⟩|⟨y,M,F,i,P⟩
  ·exact absurd (h.isChk_unique i (g5 D v M F)).1 y
  ·exact⟨K.trans y.symm,T.trans M.symm,S.trans F.symm,E.trans i.symm⟩
theorem b6G(files:List ByteArray)(B B':Nat):b4B (a5A B files) (a9K B' files):=by
 rintro e w1 f w2 (⟨h1,rfl⟩|⟨h1,j,hj,er,hd,M,rfl⟩|⟨h1,fs,hf,hd,M⟩) (⟨k1,rfl⟩|⟨k1,j',hj',D,hd',d,rfl⟩|⟨k1,gs,hf',hd',d⟩)
 ·exact⟨_,_,_,_,_,_,rfl,rfl,rfl⟩
 ·omega
 ·omega
 ·omega
 ·have e:j=j':=by
   rcases nx j j' with h|h|h
   ·obtain⟨c,F⟩:=d j hj h;rw[hd]at F;cases F
   ·exact h
   ·obtain⟨c,F⟩:=M j' hj' h;rw[hd']at F;cases F
  subst e;rw[hd]at hd';cases hd';exact⟨_,_,_,_,_,_,rfl,rfl,rfl⟩
 ·rw[hd' j hj]at hd;cases hd
 ·omega
 ·rw[hd j' hj']at hd';cases hd'
 ·obtain rfl:=c2k hf hf' hd hd';have K:=a9b hf hd;have hl:=a9I fs (λc F=>(K c F).okCl);rcases M with⟨er,y,rfl⟩|⟨y,er,f,k,a,hA,M⟩
  ·rcases d with⟨D,i,rfl⟩|⟨i,-⟩
   ·rw[hl,i]at y;cases y;exact⟨_,_,_,_,_,_,rfl,rfl,rfl⟩
   ·rw[hl,i]at y;cases y
  ·rcases d with⟨D,i,rfl⟩|⟨i,D,f',k',a',T,d⟩
   ·rw[hl,i]at y;cases y
   ·obtain⟨rfl,rfl,rfl,rfl⟩:=b5x (a9f K y).1 hA T;rcases M with⟨S,rfl⟩|⟨S,P,B2,b,v,m1,m2,m3,qf,rfl,-⟩
    ·rcases d with⟨-,rfl⟩|⟨E,-⟩
     ·exact⟨_,_,_,_,_,_,rfl,rfl,rfl⟩
     ·exact absurd E S
    ·rcases d with⟨E,-⟩|⟨-,P',B3,wb,va,vf,aa,rfl,-⟩
     ·exact absurd S E
     ·exact⟨_,_,_,_,_,_,rfl,rfl,rfl⟩
theorem c5n(w:ld)(lim:Nat)(hl:lim<=w.heap.size)(files:List ByteArray)(a:Option le)(i:Nat)(ha:a=N->files.length=0/\i=0)(hR:X (C0 w lim 1 X3 a files))(hn:files.length<=1048576)(T:X (∀s∈files,s.size<=na))(hS:X (Shp w))(d:X (Bin w))
 (F:X (∀W,w.grownBy W N->la prog 33 #[] W λe D=>e= Y (G true)/\W.grownBy D N)):
 la prog 4 #[.slice a files.length i] w λe D=>e= Y (G true)/\w.grownBy D N:=by
 have E:X (la prog 13 #[.slice a files.length i, G true] w λe D=>LdG w (λB=>a5A B files) (λB=>a9K B files) e D):=
  b7w w lim hl files a i true ha hR hn _ _ (b7x files) (λB B'=>b6G files B B') F
   (λW ra rk K S=>a8C W W.heap.size (lb _) files ra rk S T (hS.o.keep K Os) (d.o.keep K))
   (λW K S=>b7c W W.heap.size (lb _) files a i S T)
 go_enter func4,ntmps4;go_wp2_with (go_at_call 13;refine E.o.mono ?_)
 rintro e w1 ⟨⟨pv,qv,c,x,y,z,B1,B2,wa,wb,wm,row,rfl,-⟩,M⟩;go_wp2_with fail
 exact lf (v:= G true) (by simp[lg,results4,go_sem]) rfl ⟨rfl,M⟩
end Kx
end
end Go.Proofs.YtdhophglnhcjbaaGreatDoor
