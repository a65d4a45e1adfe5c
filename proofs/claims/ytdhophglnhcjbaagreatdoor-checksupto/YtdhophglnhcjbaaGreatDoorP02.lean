/- P02: a part of the proof that the last text tells. -/
import Derived.Test.YtdhophglnhcjbaaGreatDoorP01
import Derived.Deep.RegionLaw
import Derived.RangeFuncFrom
set_option linter.all false
set_option maxRecDepth 100000
set_option maxHeartbeats 40000000
open Go.Proofs.Tryz
open Go renaming World->la,Value->le,maxLen->lh,Addr->lj,Calls->lk,results->lm,grownBy_putObj'->lo,Code->lq,plainElem->lx,bodyPost_ret->nc,run_takeDeferred->ng,Program->nh,ownFrom_below->nk,info_parts->np,step_append_lies->ny,KeepsFrom->nz,wpQuietIn_nil->un,callsIn_of_wp_marks->vd
open Go.RowKit renaming intOf->ld,Below->lg
open Nat renaming le_refl->lf,lt_or_ge->ls,le_trans->lu,lt_of_lt_of_le->nu,add_sub_cancel_left->nv,reduceAdd->ue,reduceSub->uf
open List renaming range->li,getElem_mem->ll,mem_range->ln,getD_eq_getElem?_getD->lr,getElem?_eq_getElem->ly,any_eq_true->na,any_eq_false->nb,mem_map->nd,length_nil->nj,flatMap_append->nn,flatMap_cons->nt,range'->nw,getElem_range->nx,findIdx?_eq_none_iff->ua,size_toArray->uc,length_cons->ud,push_toArray->ui,append_toArray->uj,nil_append->uk,cons_append->ul,mem_append->um,take_succ_eq_append_getElem->uo,range_succ->ur,append_nil->ut,getElem?_range->uu,find?_eq_none->uv,range'_succ->uw,map_cons->ux,take_length->uy,length_append->vb,length_singleton->vc,getElem_map->ve
open Go.World renaming ownsRow->lv,drew->lw,size_alloc->ni,alloc_heap_new->uz
open Option renaming getD_some->ub,some->uq
open Array renaming replicate_succ->ug,replicate_zero->uh
open Option renaming none→N,some→O
open Go.IntKind renaming i64→I
open Go.Value renaming int→J,string→Z,slice→V,pointer→U,bool→G,agg→Q
open Go.Ending renaming returned→Y
open Go.RowKit renaming Hid→X
open Go.Obj renaming cells→H
namespace Go.Proofs.YtdhophglnhcjbaaGreatDoor
section
theorem c6b{P:Prop}(h:P:=by
 exact⟨fx+1,by omega,by go_num,A0 HG4'.o (F4 _ _ _),λr hr=>by
  rcases Nat.lt_or_ge r fx with h1|h1
  ·exact HV.o r h1
  ·obtain rfl:r=fx:=by omega
   exact HNO.o⟩):P:=h
theorem c6l{P:Prop}(h:P:=by
 exact⟨p,pa,ca,ha,pk,ck,hk,h1,h2,a2J h3 hb hl,a2J h4 hb hl,a2J h5 hb hl,λr u hu=>(hb.cell (by rw[a4y];omega)).trans (h6 r u hu)⟩):P:=h
theorem c6q{P:Prop}(h:P:=by
 go_ret;exact⟨rfl,A0 (A2 _ _ _) hg4⟩):P:=h
theorem c6v{P:Prop}(h:P:=by
 unfold Hid;simpa using this):P:=h
theorem c7g{P:Prop}(h:P:=by
 exact⟨j+1,by omega,by go_num,by have:=HNO2.o HOB.o;exact this,A0 hg3.o (A0 (A2 _ _ none) hg5)⟩):P:=h
theorem c7k{P:Prop}(h:P:=by
 exact⟨0,by omega,rfl,λj _ hj=>by omega,C9 _ _⟩):P:=h
end
section
open Go.RowKit Go.Shelf Cf
namespace Kx
theorem a5Z(w:la)(l1 l2:Nat)(xs ys:List Ty)(a1 a2:Option lj)(k1 k2:Nat)(h1:X (C0 w l1 2 B8 a1 xs))(h2:X (C0 w l2 2 B8 a2 ys))(hx:xs.length<=65536)(hy:ys.length<=65536):
 lk prog 261 #[V a1 xs.length k1, V a2 ys.length k2] w λe w'=>e= Y (G (Z4 xs ys))/\w.grownBy w' N:=by
 by_cases hl:xs.length=ys.length
 ·obtain⟨n,M⟩:=Oe xs.length
  have HX:=A1 M;have HY:=A1 (M.trans hl);rw[<-hl,<-M];have aa:n<=65536:=by omega
  clear M hl hx hy;go_enter func261,ntmps261;go_wp2_with fail
  go_loopw [5] (λk wr=>∃j:Nat,j<=n/\k= J I j/\w.grownBy wr N/\∀r,r<j->∀(g1:r<xs.length) (g2:r<ys.length),I4 xs[r] ys[r]=true) (λk _=>n-(ld k).toNat)
  case atStart=>exact a4r
  case round=>
   obtain⟨j,hj,rfl,K,hv⟩:=hrel;have HG:=A1 K;have HV:=A1 hv;clear K hv;by_cases hlt:j<n
   ·have hjx:j<xs.length:=by rw[<-HX.o];exact hlt
    have hjy:j<ys.length:=by rw[<-HY.o];exact hlt
    obtain⟨S,e1,-,d⟩:=h1.o.keep HG.o j hjx;obtain⟨T,e2,-,g⟩:=h2.o.keep HG.o j hjy;obtain⟨x,C⟩:=Oe (xs[j])
    obtain⟨y,E⟩:=Oe (ys[j])
    rw[<-C]at d;rw[<-E]at g;have HXX:=A1 C;have HYY:=A1 E;have f0:wr.cell? (S.add (j*2))=O (J I x.k):=d 0 _ rfl;have f1:wr.cell? ⟨(S.add (j*2)).block,(S.add (j*2)).off+1,N⟩=O (Z x.n):=by rw[C2 S (j*2) 0];exact d 1 _ rfl
    have g0:wr.cell? (T.add (j*2))=O (J I y.k):=g 0 _ rfl;have g1:wr.cell? ⟨(T.add (j*2)).block,(T.add (j*2)).off+1,N⟩=O (Z y.n):=by rw[C2 T (j*2) 0];exact g 1 _ rfl
    subst e1;subst e2;clear d g C E;obtain⟨xk,xn⟩:=x;obtain⟨yk,yn⟩:=y;dsimp only at f0 f1 g0 g1;by_cases hk:xk=yk
    ·exact a2c
    ·exact c8f
   ·exact c5y
 ·rw[b1I hl];have hA:((xs.length:Int)==(ys.length:Int))=false:=by simp;omega
  go_enter func261,ntmps261;go_wp2
  go_ret;exact⟨rfl,C9 _ _⟩
def a4f(m o:Me):Bool:=decide (o.n=m.n)&&(!Z4 m.p o.p|| !I4 o.r m.r)
def a6p(L:List Cl)(s:ByteArray)(m:Me):Bool:=(up L s).any λk=>(cl L k).m.any (a4f m)
theorem c2S(L:List Cl)(c:Cl):ovR L c=c.m.any (a6p L c.s):=rfl
theorem b5f(w:la)(lim wb:Nat)(L:List Cl)(p:lj)(cap:Nat)(q:Nat->Qs)(h:X (Wo w lim wb L p cap q))(b0:X (P8 w lim L q))(b2:X (∀i,i<L.length->Szc (cl L i)))(c:Cl)(qc:Qs)(hM:X (PM w lim qc.ma c.m))(hz:X (Szc c)):
 lk prog 181 #[U (O ⟨wb,0,N⟩), Q (G9 c qc).toArray] w λe w'=>e= Y (G (ovR L c))/\w.grownBy w' N:=by
 have b4:=hz.o.2.1;have cd:=h.o.small;obtain⟨nf,hf⟩:=Oe c.f.length
 obtain⟨nm,hm⟩:=Oe c.m.length
 have bg:=A1 hm;unfold G9;rw[<-hf,<-hm];rw[<-hm]at b4;clear hf hm;obtain⟨sp,ba⟩:=Oe c.s
 have b5:=a5u (L:=L) sp;obtain⟨l,hl⟩:=Oe (up L sp)
 obtain⟨nl,a5⟩:=Oe l.length
 have HL:=A1 hl.symm;have az:=A1 a5.symm;rw[<-hl,<-a5]at b5;have bs:X (∀i∈l,i<L.length):=by unfold X;rw[hl];exact a2s _ _
 have bx:=A1 ba;rw[<-ba];clear hl a5 ba;have bi:X (ovR L c=c.m.any (a6p L sp)):=by unfold X;rw[bx.o];exact c2S L c
 go_enter func181,ntmps181;have bc:X (A4 (w.alloc (H #[Z c.n, Z sp, V qc.fa nf qc.fk, V qc.ma nm qc.mc] 44)) w.heap.size #[Z c.n, Z sp, V qc.fa nf qc.fk, V qc.ma nm qc.mc] 44):=A4.new w _ _;have bd:X (w.grownBy (w.alloc (H #[Z c.n, Z sp, V qc.fa nf qc.fk, V qc.ma nm qc.mc] 44)) N):=A2 _ _ _;have HW:∀ob,X (Wo (w.alloc ob) lim wb L p cap q):=λob=>h.o.keep (A2 _ _ _)
 go_wp2_with (go_at_call 130;refine(a6S _ lim wb L p cap q (HW _) sp).mono ?_;rintro e w4 ⟨aa,ak,rfl,a',a0⟩;rw[HL.o]at a'⊢;rw[az.o])
 have bv:=A1 a';have ar:=A1 (A0 bd.o a0);have bp:=A1 (bc.o.keep a0 Os);have bt:=A1 (hM.o.keep ar.o);have bj:=A1 (b0.o.keep ar.o);clear a' a0 bc bd HW;go_loopw [6] (λf wx=>∃k:Nat,k<=nm/\f= J I k/\X (∀j (hj:j<c.m.length),j<k->a6p L sp c.m[j]=false)/\X (w4.grownBy wx N)) (λf _=>nm-(ld f).toNat)
 case atStart=>exact c7k
 case round=>
  obtain⟨i,hi,rfl,aw,hg⟩:=hrel;have c3:=(bp.o.keep hg.o Os).cell 3 _ rfl;by_cases hlt:i<nm
  ·have a1:i<c.m.length:=by rw[<-bg.o];exact hlt
   obtain⟨mp,pa,ca,ha,pk,ck,hh,bm,-,r1,-,-,m0,m1,m2,m3,m4,m5,m6,m7⟩:=a5h (bt.o.keep hg.o) a1;rw[bm]at c3;have ab:=(hz.o.2.2 i a1).1;obtain⟨d,a4⟩:=Oe (c.m[i])
   rw[<-a4]at r1 m0 m1 m2 m3 m4 m5 m6 m7 ab;have bf:=A1 a4;have bk:=A1 r1;clear a4 r1 bm;go_wp2
   have bq:X (A4 (wr.alloc (H #[Z d.n, V pa d.p.length pk, J I d.r.k, Z d.r.n, J I d.s, J I d.l, V ca d.c.length ck, V ha d.h.length hh] 102)) wr.heap.size #[Z d.n, V pa d.p.length pk, J I d.r.k, Z d.r.n, J I d.s, J I d.l, V ca d.c.length ck, V ha d.h.length hh] 102):=A4.new wr _ _;have ay:X (w4.grownBy (wr.alloc (H #[Z d.n, V pa d.p.length pk, J I d.r.k, Z d.r.n, J I d.s, J I d.l, V ca d.c.length ck, V ha d.h.length hh] 102)) N):=A0 hg.o (A2 _ _ _);have bw:X (C0 (wr.alloc (H #[Z d.n, V pa d.p.length pk, J I d.r.k, Z d.r.n, J I d.s, J I d.l, V ca d.c.length ck, V ha d.h.length hh] 102)) lim 2 B8 pa d.p):=bk.o.keep (A2 _ _ _);clear c3 m0 m1 m2 m3 m4 m5 m6 m7 bk;go_loopw [8] (λf wx=>∃k:Nat,k<=nl/\f= J I k/\X (∀j (hj:j<l.length),j<k->(cl L l[j]).m.any (a4f d)=false)/\X ((wr.alloc (H #[Z d.n, V pa d.p.length pk, J I d.r.k, Z d.r.n, J I d.s, J I d.l, V ca d.c.length ck, V ha d.h.length hh] 102)).grownBy wx N)) (λf _=>nl-(ld f).toNat)
   case atStart=>exact c7k
   case round=>
    obtain⟨k,hk,rfl,ao,ah⟩:=hrel;by_cases hlt2:k<nl
    ·have a3:k<l.length:=by rw[az.o];exact hlt2
     have av:=A1 (A0 ay.o ah.o);obtain⟨cp,b3,-,-,-,-,d3⟩:=a3R (bv.o.keep av.o) a3;subst b3;have bl:=bs.o _ (ll a3);obtain⟨ms,ai⟩:=Oe ((cl L l[k]).m)
     have be:=A1 ai.symm;have bu:X (PM wr lim (q l[k]).ma ms):=by unfold X;rw[ai];exact(bj.o.at bl).keep av.o
     have aq:=b2.o _ bl;have bn:ms.length<=65536:=by rw[ai];exact aq.2.1
     have bz:X (∀(j:Nat) (hj:j<ms.length),ms[j].p.length<=65536):=by subst ai;exact λj hj=>(aq.2.2 j hj).1
     rw[<-ai]at d3;obtain⟨no,a6⟩:=Oe ms.length
     have bh:=A1 a6.symm;rw[<-a6]at d3 bn;clear ai aq a6;go_wp2
     have br:=A1 d3;clear d3;go_loopw [9] (λf wx=>∃j:Nat,j<=no/\f= J I j/\X (∀r (hr:r<ms.length),r<j->a4f d ms[r]=false)/\X (wr.grownBy wx N)) (λf _=>no-(ld f).toNat)
     case atStart=>exact c7k
     case round=>
      obtain⟨j,hj,rfl,ap,hg3⟩:=hrel;have d3:=hg3.o.cell br.o Os;by_cases hlt3:j<no
      ·have a2:j<ms.length:=by rw[bh.o];exact hlt3
       obtain⟨op,E,ac,ae,M,ad,af,bo,-,r2,-,-,m0,m1,m2,m3,m4,m5,m6,m7⟩:=a5h (bu.o.keep hg3.o) a2;rw[bo]at d3;have S:=bz.o j a2;obtain⟨ox,a7⟩:=Oe (ms[j])
       rw[<-a7]at r2 m0 m1 m2 m3 m4 m5 m6 m7 S;obtain⟨on,C,⟨T,K⟩,os,ol,oc,oh⟩:=ox;dsimp only at r2 m0 m1 m2 m3 m4 m5 m6 m7 S;have ag:=(bq.o.keep ah.o Os).keep hg3.o Os;have b1:=(ag.keep (A2 wr (H #[Z on, V E C.length M, J I T, Z K, J I os, J I ol, V ac oc.length ad, V ae oh.length af] 102) N) Os).cell 1 _ rfl;have aj:X (C0 (wr.alloc (H #[Z on, V E C.length M, J I T, Z K, J I os, J I ol, V ac oc.length ad, V ae oh.length af] 102)) lim 2 B8 pa d.p):=((bw.o.keep ah.o).keep hg3.o).keep (A2 _ _ _);have al:X (C0 (wr.alloc (H #[Z on, V E C.length M, J I T, Z K, J I os, J I ol, V ac oc.length ad, V ae oh.length af] 102)) lim 2 B8 E C):=r2.keep (A2 _ _ _);obtain⟨sv,bb⟩:=Oe (Z4 d.p C)
       have am:=A1 bb.symm;have HOB:X (a4f d ms[j]=(decide (on=d.n)&&(!sv|| !I4 ⟨T,K⟩ d.r))):=by unfold X a4f;rw[<-a7,bb]
       have cf:=ag.lt;clear bo a7 r2 bb;have g:X (A4 (wr.alloc (H #[Z on, V E C.length M, J I T, Z K, J I os, J I ol, V ac oc.length ad, V ae oh.length af] 102)) _ #[Z d.n, V pa d.p.length pk, J I d.r.k, Z d.r.n, J I d.s, J I d.l, V ca d.c.length ck, V ha d.h.length hh] 102):=ag.keep (A2 wr (H #[Z on, V E C.length M, J I T, Z K, J I os, J I ol, V ac oc.length ad, V ae oh.length af] 102) N) Os;have y:X (A4 (wr.alloc (H #[Z on, V E C.length M, J I T, Z K, J I os, J I ol, V ac oc.length ad, V ae oh.length af] 102)) wr.heap.size #[Z on, V E C.length M, J I T, Z K, J I os, J I ol, V ac oc.length ad, V ae oh.length af] 102):=A4.new wr _ _
       have an:X (a4f d ms[j]=true->ovR L c=true):=λe=>by
        rw[bi.o];refine a3W a1 ?_;rw[<-bf.o];unfold a6p;rw[HL.o];refine a3W a3 ?_;rw[be.o];exact a3W a2 e
       have HNO2:X (a4f d ms[j]=false->∀r (hr:r<ms.length),r<j+1->a4f d ms[r]=false):=λe r hr cg=>by
        rcases ls r j with h1|h1
        ·exact ap.o r hr h1
        ·obtain rfl:r=j:=by omega
         exact e
       have ax:=A1 (A0 ar.o (A0 (A0 ay.o ah.o) hg3.o));clear ag;by_cases hname:on=d.n
       ·subst hname;simp only[decide_true,Bool.true_and]at HOB;cases sv with
        |false=>
         simp only[Bool.not_false,Bool.true_or]at HOB;go_wp2_with (go_at_call 261;refine(a5Z _ lim lim d.p C pa E pk M aj al ab S).mono ?_;rintro e w5 ⟨rfl,hg5⟩;rw[am.o];have e0:=(g.o.keep hg5 Os).cell 0 _ rfl;have e2:=(g.o.keep hg5 Os).cell 2 _ rfl;have e3:=(g.o.keep hg5 Os).cell 3 _ rfl;have f0:=(y.o.keep hg5 Os).cell 0 _ rfl;have f2:=(y.o.keep hg5 Os).cell 2 _ rfl;have f3:=(y.o.keep hg5 Os).cell 3 _ rfl)
         go_ret;exact⟨N0 (an.o HOB.o).symm,A0 ax.o (A0 (A2 _ _ N) hg5)⟩
        |true=>
         simp only[Bool.not_true,Bool.false_or]at HOB;by_cases au:T=d.r.k
         ·subst au;by_cases hrn:K=d.r.n
          ·subst hrn;have HQ:X (I4 ⟨d.r.k,d.r.n⟩ d.r=true):=by unfold X I4;simp
           rw[HQ.o]at HOB;go_wp2_with (go_at_call 261;refine(a5Z _ lim lim d.p C pa E pk M aj al ab S).mono ?_;rintro e w5 ⟨rfl,hg5⟩;rw[am.o];have e0:=(g.o.keep hg5 Os).cell 0 _ rfl;have e2:=(g.o.keep hg5 Os).cell 2 _ rfl;have e3:=(g.o.keep hg5 Os).cell 3 _ rfl;have f0:=(y.o.keep hg5 Os).cell 0 _ rfl;have f2:=(y.o.keep hg5 Os).cell 2 _ rfl;have f3:=(y.o.keep hg5 Os).cell 3 _ rfl)
           go_roundw
           case rel=>exact c7g
           case measure=>simp[ld];omega
          ·have cb:=l6 hrn;have cc:¬K.toList=d.r.n.toList:=λe=>hrn (a0U e)
           have HQ:X (I4 ⟨d.r.k,K⟩ d.r=false):=by unfold X I4;simp[hrn]
           rw[HQ.o]at HOB;go_wp2_with (go_at_call 261;refine(a5Z _ lim lim d.p C pa E pk M aj al ab S).mono ?_;rintro e w5 ⟨rfl,hg5⟩;rw[am.o];have e0:=(g.o.keep hg5 Os).cell 0 _ rfl;have e2:=(g.o.keep hg5 Os).cell 2 _ rfl;have e3:=(g.o.keep hg5 Os).cell 3 _ rfl;have f0:=(y.o.keep hg5 Os).cell 0 _ rfl;have f2:=(y.o.keep hg5 Os).cell 2 _ rfl;have f3:=(y.o.keep hg5 Os).cell 3 _ rfl)
           go_ret;exact⟨N0 (an.o HOB.o).symm,A0 ax.o (A0 (A2 _ _ N) hg5)⟩
         ·have b':¬((T:Int)=(d.r.k:Int)):=by omega
          have HQ:X (I4 ⟨T,K⟩ d.r=false):=by unfold X I4;simp[au]
          rw[HQ.o]at HOB;go_wp2_with (go_at_call 261;refine(a5Z _ lim lim d.p C pa E pk M aj al ab S).mono ?_;rintro e w5 ⟨rfl,hg5⟩;rw[am.o];have e0:=(g.o.keep hg5 Os).cell 0 _ rfl;have e2:=(g.o.keep hg5 Os).cell 2 _ rfl;have e3:=(g.o.keep hg5 Os).cell 3 _ rfl;have f0:=(y.o.keep hg5 Os).cell 0 _ rfl;have f2:=(y.o.keep hg5 Os).cell 2 _ rfl;have f3:=(y.o.keep hg5 Os).cell 3 _ rfl)
          go_ret;exact⟨N0 (an.o HOB.o).symm,A0 ax.o (A0 (A2 _ _ N) hg5)⟩
       ·have ce:=l6 hname;simp only[hname,decide_false,Bool.false_and]at HOB;go_wp2_with (go_at_call 261;refine(a5Z _ lim lim d.p C pa E pk M aj al ab S).mono ?_;rintro e w5 ⟨rfl,hg5⟩;rw[am.o];have e0:=(g.o.keep hg5 Os).cell 0 _ rfl;have e2:=(g.o.keep hg5 Os).cell 2 _ rfl;have e3:=(g.o.keep hg5 Os).cell 3 _ rfl;have f0:=(y.o.keep hg5 Os).cell 0 _ rfl;have f2:=(y.o.keep hg5 Os).cell 2 _ rfl;have f3:=(y.o.keep hg5 Os).cell 3 _ rfl)
        go_roundw
        case rel=>exact c7g
        case measure=>simp[ld];omega
      ·go_wp2
       exact⟨⟨k+1,by omega,by go_num,by
        intro r hr au;rcases ls r k with h1|h1
        ·exact ao.o r hr h1
        ·obtain rfl:r=k:=by omega
         rw[be.o];exact a3T (λr hr=>ap.o r hr (by rw[bh.o]at hr;omega)),A0 ah.o hg3.o⟩,by simp[ld];omega⟩
    ·go_wp2
     exact⟨⟨i+1,by omega,by go_num,by
      intro r hr au;rcases ls r i with h1|h1
      ·exact aw.o r hr h1
      ·obtain rfl:r=i:=by omega
       rw[<-bf.o];unfold a6p;rw[HL.o];exact a3T (λr hr=>ao.o r hr (by rw[az.o]at hr;omega)),A0 ay.o ah.o⟩,by simp[ld];omega⟩
  ·have HF:=A1 (a3T (λj hj=>aw.o j hj (by rw[<-bg.o]at hj;omega)));go_wp2
   go_ret;exact⟨N0 (by rw[bi.o,HF.o]),A0 ar.o hg.o⟩
def wrR(L:List Cl)(kind:Nat)(c:Cl):Bool:=
 if kind=0 then !E9 L c.s else if kind=1 then G5 L c.s c.n else if kind=2 then tyR L c else if kind=3 then mbR L c else ovR L c
theorem b1f(w:la)(lim wb:Nat)(L:List Cl)(p:lj)(cap:Nat)(q:Nat->Qs)(h:X (Wo w lim wb L p cap q))(ab:X (V9 w lim L q))(ac:X (P8 w lim L q))(K:X (Few L))(ad:X (∀i,i<L.length->Szc (cl L i)))(kind:Nat)(hk:kind<5)(c:Cl)(d:Qs)(hF:X (C0 w lim 3 K3 d.fa c.f))(hM:X (PM w lim d.ma c.m))(hz:X (Szc c)):
 lk prog 122 #[U (O ⟨wb,0,N⟩), J I kind, Q (G9 c d).toArray] w λe w'=>e= Y (G (wrR L kind c))/\w.grownBy w' N:=by
 have E:X (∀g,Wo (w.alloc g) lim wb L p cap q):=λg=>h.o.keep (A2 _ _ _)
 have T:X (∀g,V9 (w.alloc g) lim L q):=λg i hi=>(ab.o i hi).keep (A2 _ _ _)
 have aa:X (∀g,P8 (w.alloc g) lim L q):=λg=>ac.o.keep (A2 _ _ _)
 have HF:X (∀g,C0 (w.alloc g) lim 3 K3 d.fa c.f):=λg=>hF.o.keep (A2 _ _ _)
 have S:X (∀g,PM (w.alloc g) lim d.ma c.m):=λg=>hM.o.keep (A2 _ _ _)
 have HC:X (G9 c d=[Z c.n, Z c.s, V d.fa c.f.length d.fk, V d.ma c.m.length d.mc]):=rfl;rw[HC.o];obtain⟨r,hr⟩:=Oe (wrR L kind c)
 have C:=A1 hr;rw[<-hr];clear hr;rcases(by omega:kind=0\/kind=1\/kind=2\/kind=3\/kind=4)with rfl|rfl|rfl|rfl|rfl
 ·have y:X (r= !E9 L c.s):=C.o;go_enter func122,ntmps122;go_wp2_with (go_at_call 177;refine(b5C _ lim wb L p cap q (E.o _) c d).mono ?_;rintro e M ⟨rfl,hg4⟩;rw[<-y.o])
  exact c6q
 ·have y:X (r=G5 L c.s c.n):=C.o;go_enter func122,ntmps122;go_wp2_with (go_at_call 178;refine(b7b _ lim wb L p cap q (E.o _) c d).mono ?_;rintro e M ⟨rfl,hg4⟩;rw[<-y.o])
  exact c6q
 ·have y:X (r=tyR L c):=C.o;go_enter func122,ntmps122;go_wp2_with (go_at_call 179;refine(b5A _ lim wb L p cap q (E.o _) c d (HF.o _) (S.o _) hz).mono ?_;rintro e M ⟨rfl,hg4⟩;rw[<-y.o])
  exact c6q
 ·have y:X (r=mbR L c):=C.o;go_enter func122,ntmps122;go_wp2_with (go_at_call 180;refine(b5D _ lim wb L p cap q (E.o _) (T.o _) K c d (HF.o _) (S.o _) hz).mono ?_;rintro e M ⟨rfl,hg4⟩;rw[<-y.o])
  exact c6q
 ·have y:X (r=ovR L c):=C.o;go_enter func122,ntmps122;go_wp2_with (go_at_call 181;refine(b5f _ lim wb L p cap q (E.o _) (aa.o _) ad c d (S.o _) hz).mono ?_;rintro e M ⟨rfl,hg4⟩;rw[<-y.o])
  exact c6q
theorem b1h(w:la)(n s:ByteArray):lk prog 176 #[Z n, Z s] w λe w'=>e= Y (Q #[Z n, Z s, V N 0 0, V N 0 0])/\w'=w.alloc (H #[Z n, Z s, V N 0 0, V N 0 0] 44):=by
 go_enter func176,ntmps176;go_wp2
 exact nc (v:= Q #[Z n, Z s, V N 0 0, V N 0 0]) (by simp[lm,results176,go_sem]) rfl ⟨rfl,rfl⟩
theorem b9u{P:nh}{c:lq}{Q:Exit->Act->la->Prop}{a:Act}{W:la}(h:c.wp P Q a W):c.wp P Q a W:=h
theorem a1g(w:la)(e:TypeId)(sz n base:Nat)(xs:List le)(d:xs.length=n*sz)(g:base<=w.heap.size)(y:n<=lh):(w.alloc (H xs.toArray e)).ownsRow base e sz (V (O ⟨w.heap.size,0,N⟩) n n) n xs:=
 ⟨d, .inr ⟨w.heap.size,n,xs.toArray,rfl,g,heap_alloc_new w _,lf _,y,by simpa using d,by simp[<-d]⟩⟩
def q0:Qs:=⟨N,0,N,0⟩
def a1X:List ByteArray:=[a9V,a9F,a9P,a9Q,a9O,a9o,a9G]
def plV(n s:ByteArray):List le:=[Z n, Z s, V N 0 0, V N 0 0]
def a1n(k:Nat):List le:=plV D5 D4++plV G6 D5++(a1X.take k).flatMap λn=>plV n G6
variable {base i k lim:Nat}
theorem b7Q(hk:k<a1X.length):a1n (k+1)=a1n k++plV a1X[k] G6:=by
 unfold a1n;rw[uo hk,nn];simp
theorem b8q(w:la):lk prog 120 #[] w λe w'=>∃wb a k,e= Y (U (O ⟨wb,0,N⟩))/\A4 w' wb #[V a 9 k, V N 0 0] 92/\w'.ownsRow w.heap.size 44 4 (V a 9 k) 9 (a1n 7)/\w.grownBy w' N/\w.heap.size<=wb:=by
 go_enter func120,ntmps120;go_wp2_with (go_at_call 176;refine(b1h _ _ _).mono ?_;rintro e w' ⟨rfl,rfl⟩)
 have ho:=a1g ((w.alloc (H #[Z D5, Z D4, V N 0 0, V N 0 0] 44)).alloc (H #[Z G6, Z D5, V N 0 0, V N 0 0] 44)) 44 4 2 w.heap.size (a1n 0) rfl Oi Om;have E:=ho.alloc (H (a1X.map Value.string).toArray 9);have K:=A4.new (((w.alloc (H #[Z D5, Z D4, V N 0 0, V N 0 0] 44)).alloc (H #[Z G6, Z D5, V N 0 0, V N 0 0] 44)).alloc (H (a1n 0).toArray 44)) (a1X.map Value.string).toArray 9;have C:w.grownBy ((((w.alloc (H #[Z D5, Z D4, V N 0 0, V N 0 0] 44)).alloc (H #[Z G6, Z D5, V N 0 0, V N 0 0] 44)).alloc (H (a1n 0).toArray 44)).alloc (H (a1X.map Value.string).toArray 9)) N:=A0 (A0 (A0 (A2 _ _ _) (A2 _ _ _)) (A2 _ _ _)) (A2 _ _ _);simp only[ni]at E K;refine b9u (W:=(((w.alloc (H #[Z D5, Z D4, V N 0 0, V N 0 0] 44)).alloc (H #[Z G6, Z D5, V N 0 0, V N 0 0] 44)).alloc (H (a1n 0).toArray 44)).alloc (H (a1X.map Value.string).toArray 9)) ?_;obtain⟨W2,ac⟩:=Oe ((((w.alloc (H #[Z D5, Z D4, V N 0 0, V N 0 0] 44)).alloc (H #[Z G6, Z D5, V N 0 0, V N 0 0] 44)).alloc (H (a1n 0).toArray 44)).alloc (H (a1X.map Value.string).toArray 9))
 rw[<-ac]at E K C⊢;have HO:=A1 E;have HB:=A1 K;have HG:=A1 C;clear ho E K C ac;go_loopw [1,3] (λl i wr=>∃k g y:Nat,k<=7/\i= J I k/\l= V (O ⟨g,0,N⟩) (2+k) y/\g≠w.heap.size+1+1+1/\w.heap.size+1+1<=g/\X (wr.ownsRow w.heap.size 44 4 (V (O ⟨g,0,N⟩) (2+k) y) (2+k) (a1n k))/\X (A4 wr (w.heap.size+1+1+1) (a1X.map Value.string).toArray 9)/\X (w.grownBy wr N)) (λ_ i _=>7-(ld i).toNat)
 case atStart=>exact⟨0,w.heap.size+1+1,2,by omega,rfl,rfl,by omega,by omega,HO,HB,HG⟩
 case round=>
  obtain⟨k,g,y,hk,rfl,rfl,ar,aq,S,K,C⟩:=hrel;by_cases hlt:k<7
  ·have ae:k<a1X.length:=hlt;have c0:=K.o.cell k (Z a1X[k]) (by simp[ae]);obtain⟨nm,T⟩:=Oe (a1X[k])
   rw[<-T]at c0;have af:X (a1n (k+1)=a1n k++plV nm G6):=by unfold X;rw[T];exact b7Q ae
   clear T;obtain⟨an,ai,ak,al,am⟩:=np a5p;have au:=K.o.lt
   have NC:X (∀j u,(plV nm G6)[j]? =O u->((wr.alloc (H (plV nm G6).toArray 44)).alloc (H (plV nm G6).toArray 44)).cell? ((⟨wr.heap.size+1,0,N⟩:lj).add j)=O u):=by
    have:=O8 (wr.alloc (H (plV nm G6).toArray 44)) (plV nm G6) 44;exact c6v
   go_wp2_with (first
    |(go_at_call 176;refine(b1h _ _ _).mono ?_;rintro e w' ⟨rfl,rfl⟩)
    |(at_builtin;go_loud (refine wpList_append_lies _ rfl _ _ 90 rfl w.heap.size 44 an _ 4 80 underlying90 ai ak al am rfl Od _ (2+k) (a1n k) rfl (lv.alloc (lv.alloc S.o _) _) ⟨wr.heap.size+1,0,N⟩ 1 1 (plV nm G6) rfl rfl NC.o (by simp[plV,Value.oneCell']) Oo Om Oo (by have:=C.o.size;simp;omega) _ rfl ?_
                          intro g2 ab w4 M d ad ao;have aa:X (wr.grownBy w4 (O g)):=A0 (A0 (A2 wr (H (plV nm G6).toArray 44) _) (A2 _ (H (plV nm G6).toArray 44) _)) d;have ag:=A1 M
                          have ap:g2=g\/wr.heap.size<=g2:=by
                           rcases ad with e|e
                           ·simp only[Act.eval,Value.ownBlock]at e;left;simpa using e.symm
                           ·right;rw[e];simp;omega
                          clear M d ad)))
   have ah:=C6 C.o aa.o (λx e=> .inl (by cases e;omega));go_roundw
   case rel=>exact⟨k+1,g2,ab,by omega,by go_num,rfl,by omega,by have:=C.o.size;omega,by rw[af.o];exact ag.o,K.o.keep aa.o Oi,ah⟩
   case measure=>simp[ld];omega
  ·have aj:k=7:=by omega
   subst aj;go_wp2
   refine nc (v:= U (O ⟨wr.heap.size,0,N⟩)) (by simp[lm,results120,go_sem]) rfl ⟨wr.heap.size,O ⟨g,0,N⟩,y,rfl,A4.new wr _ _,lv.alloc S.o _,A0 C.o (A2 _ _ _),C.o.size⟩
def M5(qf:Nat->Qs)(i:Nat):Qs:=if i<9 then q0 else qf (i-9)
theorem a9d:B6.length=9:=rfl
theorem a5P{α β:Type}{f g:α->List β}:∀{l:List α},(∀x∈l,f x=g x)->l.flatMap f=l.flatMap g
 | [],_=>rfl
 |a::l,h=>by rw[nt,nt,h a Os,a5P (λx d=>h x (by simp[d]))]
theorem b9s(fs:List Cl)(qf:Nat->Qs):a1n 7=(li 9).flatMap (M6 (B6++fs) (M5 qf)):=by
 have h:∀i,i<9->cl (B6++fs) i=cl B6 i:=λi hi=>U0 hi
 have e:(li 9).flatMap (M6 (B6++fs) (M5 qf))=(li 9).flatMap (M6 B6 λ_=>q0):=by
  refine a5P (λi hi=> ?_);have:=ln.1 hi;unfold M6 M5;rw[h i this,if_pos this]
 rw[e];rfl
variable {w:World}
theorem c3C{wb:Nat}{L:List Cl}{a:Option lj}{q:Nat->Qs}{K:le}(hn:0<L.length)(S:A4 w wb #[V a L.length k,K] 92)(hw:wb<lim)(hl:w.heap.size<=lim)
 (C:w.ownsRow base 44 4 (V a L.length k) L.length ((li L.length).flatMap (M6 L q))) (hz:∀i,i<L.length->(cl L i).n.size<=lh/\(cl L i).s.size<=lh) (hs:L.length<=65536):
 ∃p,a=O p/\Wo w lim wb L p k q:=by
 obtain⟨g,E,y,-,T⟩:=C.form hn;injection y with y _ _
 subst y;refine⟨⟨g,0,N⟩,rfl,hw,nu T hl,S.cell 0 _ rfl,λi hi r u hu=> ?_,hz,hs⟩;have e:=V7 (w:=w) (xs:=li L.length) (a6f L q) (by simpa using C);obtain⟨p,d,-,M⟩:=e i (by simpa using hi);injection d with d
 subst d;exact M r u (by simpa[M6]using hu)
theorem N4{e sz n b:Nat}{v:le}{xs:List le}{cs:Array le}{t:TypeId}(h:w.ownsRow base e sz v n xs)(E:A4 w b cs t)(K:t≠e):v.ownBlock≠O b:=by
 rcases h.2 with⟨rfl,-⟩|⟨g,y,C,rfl,-,d,-⟩
 ·simp[Value.ownBlock]
 ·simp only[Value.ownBlock,ne_eq,uq.injEq];rintro rfl;rw[show w.heap[g]? =O (H cs t (0,0))from E]at d;cases d;exact K rfl
structure Y3(w:World)(lim:Nat)(fs:List Cl)(qf:Nat->Qs):Prop where
 f:V9 w lim fs qf
 meths:P8 w lim fs qf
 sz:∀i,i<fs.length->Szc (cl fs i)
 names:∀i,i<fs.length->(cl fs i).n.size<=maxLen/\(cl fs i).s.size<=maxLen
 memb:∀i,i<fs.length->(cl fs i).f.length<=255/\(cl fs i).m.length<=255
 few:fs.length<=12
variable {fs:List Cl}
theorem Y3.keep{w':la}{qf:Nat->Qs}(h:Y3 w lim fs qf)(d:w.grownBy w' N):Y3 w' lim fs qf:=
 ⟨λi hi=>(h.f i hi).keep d,h.meths.keep d,h.sz,h.names,h.memb,h.few⟩
theorem a5m(hi:9<=i)(hk:i-9<k)(d:i-9<fs.length):cl (B6++fs.take k) i=cl fs (i-9):=by
 obtain⟨j,rfl⟩:∃j,i=9+j:=⟨i-9,by omega⟩
 rw[Y6,nv];unfold cl;rw[lr,List.getElem?_take,if_pos Oo,<-lr]
theorem a2l(hk:k<=fs.length):(B6++fs.take k).length=9+k:=by simp[a9d];omega
theorem a2k(hi:i<9):(cl B6 i).f=[]/\(cl B6 i).m=[]/\(cl B6 i).n.size<=lh/\(cl B6 i).s.size<=lh:=by
 rcases a3v hi with rfl|rfl|rfl|rfl|rfl|rfl|rfl|rfl|rfl<;>exact⟨rfl,rfl,by decide,by decide⟩
section
variable{w:World}{lim:Nat}{fs:List Cl}{qf:Nat->Qs}{k:Nat}
theorem Y3.names'(h:Y3 w lim fs qf)(hk:k<=fs.length):∀i,i<(B6++fs.take k).length->(cl (B6++fs.take k) i).n.size<=lh/\(cl (B6++fs.take k) i).s.size<=lh:=λi hi=>by
 rw[a2l hk]at hi;by_cases h9:i<9
 ·rw[U0 h9];exact(a2k h9).2.2
 ·rw[a5m Oo Oo Oo];exact h.names _ Oo
theorem Y3.partF(h:Y3 w lim fs qf)(hk:k<=fs.length):V9 w lim (B6++fs.take k) (M5 qf):=λi hi=>by
 rw[a2l hk]at hi;by_cases h9:i<9
 ·rw[U0 h9,(a2k h9).1];intro j d;cases d
 ·rw[a5m Oo Oo Oo,M5,if_neg h9];exact h.f _ Oo
theorem Y3.partM(h:Y3 w lim fs qf)(hk:k<=fs.length):P8 w lim (B6++fs.take k) (M5 qf):=λi hi=>by
 rw[a2l hk]at hi;by_cases h9:i<9
 ·rw[U0 h9,(a2k h9).2.1];intro j d;cases d
 ·rw[a5m Oo Oo Oo,M5,if_neg h9];exact h.meths _ Oo
theorem Y3.szc(h:Y3 w lim fs qf)(hk:k<=fs.length):∀i,i<(B6++fs.take k).length->Szc (cl (B6++fs.take k) i):=λi hi=>by
 rw[a2l hk]at hi;by_cases h9:i<9
 ·rw[U0 h9];have:=a2k h9;refine⟨by rw[this.1];simp,by rw[this.2.1];simp,λj d=> ?_⟩;exfalso;rw[this.2.1]at d;cases d
 ·rw[a5m Oo Oo Oo];exact h.sz _ Oo
theorem Y3.few'(h:Y3 w lim fs qf)(hk:k<=fs.length):Few (B6++fs.take k):=⟨by rw[a2l hk];have:=h.few;omega,λi hi=>by
 rw[a2l hk]at hi;by_cases h9:i<9
 ·rw[U0 h9,(a2k h9).1,(a2k h9).2.1];simp
 ·rw[a5m Oo Oo Oo];exact h.memb _ Oo⟩
end
def a3r(fs:List Cl)(qf:Nat->Qs)(k:Nat):List le:=(li (9+k)).flatMap (M6 (B6++fs) (M5 qf))
def a5C(fs:List Cl)(qf:Nat->Qs)(k:Nat):List le:=(li k).flatMap (M6 fs qf)
theorem b6X(fs:List Cl)(qf:Nat->Qs)(k:Nat):a5C fs qf (k+1)=a5C fs qf k++G9 (cl fs k) (qf k):=by
 unfold a5C;rw[ur,nn];simp[M6]
theorem b6Z(fs:List Cl)(qf:Nat->Qs)(k:Nat):a3r fs qf (k+1)=a3r fs qf k++G9 (cl fs k) (qf k):=by
 unfold a3r;rw[show 9+(k+1)=(9+k)+1 from by omega,ur,nn];congr 1
 simp only[nt,List.flatMap_nil,ut,M6];rw[Y6,M5,if_neg Oo,nv]
variable {B k lim lim' n wb:Nat}
theorem b6Y(fs:List Cl)(qf:Nat->Qs)(hk:k<=fs.length):a3r fs qf k=(li (B6++fs.take k).length).flatMap (M6 (B6++fs.take k) (M5 qf)):=by
 unfold a3r;rw[a2l hk];refine a5P (λi hi=> ?_);have hi:=ln.1 hi;unfold M6;congr 1
 by_cases h9:i<9
 ·rw[U0 h9,U0 h9]
 ·rw[a5m Oo Oo Oo];obtain⟨j,rfl⟩:∃j,i=9+j:=⟨i-9,by omega⟩
  rw[Y6,nv]
structure Mk(w:World)(B wb:Nat)(va vf:Value)(fs:List Cl)(qf:Nat->Qs)(k:Nat):Prop where
 blk:A4 w wb #[va,vf] 92
 all:w.ownsRow B 44 4 va (9+k) (a3r fs qf k)
 files:w.ownsRow B 44 4 vf k (a5C fs qf k)
 apart:∀g,va.ownBlock=some g->vf.ownBlock≠some g
 low:B<=wb
variable {w:World}{va vf:Value}{L fs:List Cl}{q qf:Nat->Qs}
theorem Mk.wo(h:Mk w B wb va vf fs qf k)(hk:k<=fs.length){M:la}{K:Nat}(y:Y3 M K fs qf)(C:w.heap.size<=lim):
 ∃p d,va= V (O p) (9+k) d/\Wo w lim wb (B6++fs.take k) p d (M5 qf):=by
 obtain⟨a,d,rfl⟩:=F7 h.all;have g:=h.blk;have e:=h.all;rw[b6Y fs qf hk]at e;rw[<-a2l hk]at g e⊢;obtain⟨p,rfl,E⟩:=c3C (L:=B6++fs.take k) (by rw[a2l hk];omega) g (nu h.blk.lt C) C e (y.names' hk) (by rw[a2l hk];have:=y.few;omega);exact⟨p,d,rfl,E⟩
theorem Mk.keep{w':la}(h:Mk w B wb va vf fs qf k)(d:w.grownBy w' N):Mk w' B wb va vf fs qf k:=
 ⟨h.blk.keep d Os,h.all.kept d (by cases va.ownBlock<;>simp),h.files.kept d (by cases vf.ownBlock<;>simp),h.apart,h.low⟩
structure Mk1(w:World)(B wb:Nat)(va vf:Value)(fs:List Cl)(qf:Nat->Qs)(k:Nat):Prop where
 blk:A4 w wb #[va,vf] 92
 all:w.ownsRow B 44 4 va (9+k+1) (a3r fs qf (k+1))
 files:w.ownsRow B 44 4 vf k (a5C fs qf k)
 apart:∀g,va.ownBlock=some g->vf.ownBlock≠some g
 low:B<=wb
def a9y(B:Nat)(fs:List Cl)(qf:Nat->Qs)(r:Except Er Unit)(e:Ending)(w':la):Prop:=match r with
 | .error er=>e= Y (.tuple #[U N, J I er.1, J I er.2])
 | .ok _=>∃wb va vf,e= Y (.tuple #[U (O ⟨wb,0,N⟩), J I 0, J I 0])/\Mk w' B wb va vf fs qf fs.length
variable {p:Nat->Bool}
theorem a6B(hk:k<n)(h:p k=true)(T:∀j,j<k->p j=false):a0T p n=O k:=by
 cases hf:a0T p n with
 |none=>rw[a6C hf k hk]at h;cases h
 |some i=>
  unfold a0T at hf;have C:=List.find?_some hf
  have M:k<i->False:=λaa=>by
   have:=List.find?_eq_some_iff_append.1 hf;obtain⟨-,g,vs,e,y⟩:=this
   have K:g.length=i:=by
    have d:(li n)[g.length]? =O i:=by rw[e];simp
    have S:=uu (n:=n) (i:=g.length) (by
     have:=(List.getElem?_eq_some_iff.1 d).1;simpa using this)
    rw[S]at d;injection d
   have E:(li n)[k]? =g[k]? :=by rw[e,List.getElem?_append_left Oo]
   rw[uu hk]at E;have:=y k (List.mem_of_getElem? E.symm);rw[h]at this;cases this
  rcases Nat.lt_trichotomy i k with d|d|d
  ·rw[T i d]at C;cases C
  ·rw[d]
  ·exact(M d).elim
theorem a8f(h:∀j,j<n->p j=false):a0T p n=N:=by
 unfold a0T;rw[uv];intro j d;rw[h j (ln.1 d)];simp
def a3p(fs:List Cl)(kind:Nat):Except Er Unit:=b9 ((nw kind (5-kind)).map λk i=>wrR (B6++fs) k (cl fs i)) fs.length (8+kind)
theorem b8J(fs:List Cl)(h:∀j,j<fs.length->twR fs j=false):y6 fs=a3p fs 0:=by
 have e:y6 fs=b9 (twR fs::(nw 0 5).map λk i=>wrR (B6++fs) k (cl fs i)) fs.length 7:=by
  unfold y6;simp[nw,wrR,G5]
 rw[e];unfold a3p;rw[b9,a8f h]
theorem b6n(fs:List Cl){kind i:Nat}(hk:kind<5)(hi:i<fs.length)(h:wrR (B6++fs) kind (cl fs i)=true)(d:∀j,j<i->wrR (B6++fs) kind (cl fs j)=false):a3p fs kind= .error (8+kind,i):=by
 unfold a3p;rw[show 5-kind=(4-kind)+1 from by omega,uw,ux,b9,a6B hi h d]
theorem b5J(fs:List Cl){kind:Nat}(hk:kind<5)(h:∀j,j<fs.length->wrR (B6++fs) kind (cl fs j)=false):a3p fs kind=a3p fs (kind+1):=by
 unfold a3p;rw[show 5-kind=(5-(kind+1))+1 from by omega,uw,ux,b9,a8f h];rfl
theorem b6m(fs:List Cl):a3p fs 5= .ok ():=rfl
theorem V9.upto(h:V9 w lim L q)(d:lim<=lim'):V9 w lim' L q:=λi hi=>(h i hi).upto d
theorem PM.upto{a:Option lj}{ms:List Me}(h:PM w lim a ms)(d:lim<=lim'):PM w lim' a ms:=λj M=>by
 obtain⟨p,pa,ca,ha,pk,ck,hk,e,g,y,C,E,K⟩:=h j M;exact⟨p,pa,ca,ha,pk,ck,hk,e,nu g d,y.upto d,C.upto d,E.upto d,K⟩
theorem P8.upto(h:P8 w lim L q)(d:lim<=lim'):P8 w lim' L q:=λi hi=>PM.upto (h i hi) d
theorem b8m(w:la)(lim:Nat)(fs:List Cl)(qf:Nat->Qs)(a:Option lj)(kk:Nat)(hl:lim<=w.heap.size)(hG:X (Y3 w lim fs qf))(hR:X (C0 w lim 4 (M6 fs qf) a (li fs.length))):
 lk prog 67 #[V a fs.length kk] w λe w'=>w.grownBy w' N/\a9y w.heap.size fs qf (y6 fs) e w':=by
 obtain⟨n,hn⟩:=Oe fs.length
 have HN:=A1 hn;have cj:n<=12:=by rw[hn];exact hG.o.few
 rw[<-hn];rw[<-hn]at hR;clear hn;go_enter func67,ntmps67;go_wp2_with (go_at_call 120;refine(b8q _).mono ?_;rintro e w1 ⟨wb,ba,bk,rfl,hb,ho,hg,cc⟩)
 have b0:X (Mk w1 w.heap.size wb (V ba 9 bk) (V N 0 0) fs qf 0):=
  ⟨hb,by unfold a3r;rw[<-b9s];exact ho,World.ownsRow_nil _ _ _ _,λg _=>by simp[Value.ownBlock],cc⟩
 have bw:=A1 hg;clear hb ho hg;go_loopw [6] (λi wr=>∃(k:Nat) (va vf:le),k<=n/\i= J I k/\X (Mk wr w.heap.size wb va vf fs qf k)/\X (∀j,j<k->twR fs j=false)/\X (w.grownBy wr N)) (λi _=>n-(ld i).toNat)
 case atStart=>exact⟨0,_,_,by omega,rfl,b0,λj hj=>by omega,bw⟩
 case round=>
  obtain⟨k,va,vf,hk,rfl,M,a6,hg⟩:=hrel;by_cases hlt:k<n
  ·have bo:k<fs.length:=by rw[<-HN.o];exact hlt
   obtain⟨p,pk,rfl,hW⟩:=M.o.wo (lim:=wr.heap.size) (Nat.le_of_lt bo) hG.o (lf _);have HW:=A1 hW;obtain⟨lp,a4,-,f0,f1,f2,f3⟩:=a3R (hR.o.keep hg.o) (k:=k) (by simpa using hlt);subst a4;simp only[nx]at f0 f1 f2 f3;obtain⟨ci,S⟩:=Oe (cl fs k)
   rw[<-S]at f0 f1 f2 f3;have ac:=A1 S;have bh:X (twR fs k=E9 (B6++fs.take k) ci.n):=by unfold X twR E9;rw[S]
   obtain⟨fv,bl⟩:=Oe (a0o (B6++fs.take k) ci.n)
   have ai:=A1 bl;clear S hW bl;by_cases hf:0<=fv
   ·have b5:fv≥0:=hf;go_wp2_with (go_at_call 121;refine(a2i _ wr.heap.size wb _ p pk _ HW _).mono ?_;rintro e w' ⟨rfl,rfl⟩;rw[<-ai.o])
    have bv:X (y6 fs= .error (7,k)):=by
     unfold X y6 b9;rw[a6B bo (by rw[bh.o,<-a5i,<-ai.o];simpa using hf) a6.o]
    refine nc (v:= .tuple #[U N, J I 7, J I k]) (by simp[lm,results67,go_sem]) rfl ⟨hg.o,by rw[bv.o];rfl⟩
   ·have b5:¬fv≥0:=hf;have an:twR fs k=false:=by rw[bh.o,<-a5i,<-ai.o];simpa using hf
    have b4:X (∀j,j<k+1->twR fs j=false):=λj hj=>by
     rcases ls j k with h1|h1
     ·exact a6.o j h1
     ·obtain rfl:j=k:=by omega
      exact an
    have c0:=M.o.blk.c0;have z0:=M.o.blk.frozen 0;have ce:=M.o.blk.lt;have a5:=N4 M.o.all M.o.blk Od;have ak:∀o,(wr.drew.alloc o).cell? ⟨wb,0,N⟩=O (V (O p) (9+k) pk):=λo=>(A0 (A7 _ _) (A2 _ _ N)).cell c0 Os
    have ao:=λo=>((A2 wr.drew o N).frozen_far ⟨wb,0,N⟩ ce Os).trans z0
    obtain⟨bu,bn,br,bs,bt⟩:=np a5p;go_wp2_with (go_at_call 121;refine(a2i _ wr.heap.size wb _ p pk _ HW _).mono ?_;rintro e w' ⟨rfl,rfl⟩;rw[<-ai.o])
    go_region_law (refine ny _ rfl _ _ 90 rfl w.heap.size 44 bu _ 4 80 underlying90 bn br bs bt rfl Od _ (9+k) (a3r fs qf k) rfl ((lv.drew M.o.all).alloc _) ⟨wr.heap.size,0,N⟩ 1 1 (G9 ci (qf k)) rfl rfl (O8 wr.drew _ _) (by simp[G9,Value.oneCell']) Oo Om Oo (by have:=hg.o.size;simp;omega) _ rfl ?_
                   intro g ad w4 aa y bj cf;have c4:=(y.cell_far ⟨wb,0,N⟩ Oi (λe=>a5 e.symm)).trans (ak _);have f4:=(y.frozen_far ⟨wb,0,N⟩ Oi (λe=>a5 e.symm)).trans (ao _);have K:wr.grownBy w4 (Value.slice (O p) (9+k) pk).ownBlock:=A0 (A0 (A7 _ _) (A2 _ _ _)) y
                   have d:X (Mk1 (w4.setCell ⟨wb,0,N⟩ (V (O ⟨g,0,N⟩) (9+k+1) ad)) w.heap.size wb (V (O ⟨g,0,N⟩) (9+k+1) ad) vf fs qf k):=by
                    have av:=M.o.blk.keep K (λe=>a5 e.symm);refine⟨av.set 0 _,?_,?_,?_,M.o.low⟩
                    ·rw[b6Z,<-ac.o];exact aa.kept (A6 w4 ⟨wb,0,N⟩ _) (.inr (N4 aa av Od))
                    ·have h1:=M.o.files.kept K (by
                      cases he:vf.ownBlock with
                      |none=>exact .inl rfl
                      |some x=>right;exact λe=>M.o.apart x e.symm he)
                     exact h1.kept (A6 w4 ⟨wb,0,N⟩ _) (.inr (N4 h1 av Od))
                    ·intro x hx;have hx:g=x:=by simpa[Value.ownBlock]using hx
                     subst hx;rcases bj with e|e
                     ·exact M.o.apart g e
                     ·intro hv;have:=(K7 M.o.files hv).2;rw[e]at this;simp[lw]at this;omega
                   have aj:X (w.grownBy (w4.setCell ⟨wb,0,N⟩ (V (O ⟨g,0,N⟩) (9+k+1) ad)) N):=Y4 (C6 hg.o K (λx e=> .inl (K7 M.o.all e).1)) M.o.low 0 _;clear aa y bj K)
    all_goals
     clear c4 f4 ak ao c0 z0 f0 f1 f2 f3;generalize hW5:w4.setCell ⟨wb,0,N⟩ (V (O ⟨g,0,N⟩) (9+k+1) ad)=W5 at d aj⊢;clear hW5;obtain⟨a7,a',rfl⟩:=F7 d.o.files;obtain⟨cn,bp,-,f0,f1,f2,f3⟩:=a3R (hR.o.keep aj.o) (k:=k) (by simpa using hlt);cases bp;simp only[nx]at f0 f1 f2 f3;rw[<-ac.o]at f0 f1 f2 f3;have c0:=d.o.blk.c1;have z0:=d.o.blk.frozen 1;have bq:=d.o.blk.lt;have ag:=N4 d.o.files d.o.blk Od;have ak:∀o,(W5.drew.alloc o).cell? ⟨wb,1,N⟩=O (V a7 k a'):=λo=>(A0 (A7 _ _) (A2 _ _ N)).cell c0 Os
     have ao:=λo=>((A2 W5.drew o N).frozen_far ⟨wb,1,N⟩ bq Os).trans z0
     go_wp2_with fail
     go_region_law (refine ny _ rfl _ _ 90 rfl w.heap.size 44 bu _ 4 80 underlying90 bn br bs bt rfl Od _ k (a5C fs qf k) rfl ((lv.drew d.o.files).alloc _) ⟨W5.heap.size,0,N⟩ 1 1 (G9 ci (qf k)) rfl rfl (O8 W5.drew _ _) (by simp[G9,Value.oneCell']) Oo Om Oo (by have:=aj.o.size;simp;omega) _ rfl ?_
                    intro g2 ae w6 ab C ar cg;have c6:=(C.cell_far ⟨wb,1,N⟩ Oi (λe=>ag e.symm)).trans (ak _);have f6:=(C.frozen_far ⟨wb,1,N⟩ Oi (λe=>ag e.symm)).trans (ao _);have K:W5.grownBy w6 (Value.slice a7 k a').ownBlock:=A0 (A0 (A7 _ _) (A2 _ _ _)) C
                    have b1:X (Mk (w6.setCell ⟨wb,1,N⟩ (V (O ⟨g2,0,N⟩) (k+1) ae)) w.heap.size wb (V (O ⟨g,0,N⟩) (9+(k+1)) ad) (V (O ⟨g2,0,N⟩) (k+1) ae) fs qf (k+1)):=by
                     have aw:=d.o.blk.keep K (λe=>ag e.symm);refine⟨aw.set 1 _,?_,?_,?_,d.o.low⟩
                     ·have h1:=d.o.all.kept K (by
                       cases he:(Value.slice a7 k a').ownBlock with
                       |none=>right;simp[Value.ownBlock]
                       |some x=>right;exact λe=>d.o.apart x e he)
                      exact h1.kept (A6 w6 ⟨wb,1,N⟩ _) (.inr (N4 h1 aw Od))
                     ·rw[b6X,<-ac.o];exact ab.kept (A6 w6 ⟨wb,1,N⟩ _) (.inr (N4 ab aw Od))
                     ·intro x hx hy;have hx:g=x:=by simpa[Value.ownBlock]using hx
                      have hy:g2=x:=by simpa[Value.ownBlock]using hy
                      subst hx;have bm:=(K7 d.o.all (g:=g) rfl).2;rcases ar with e|e
                      ·exact d.o.apart g rfl (by rw[<-hy];exact e)
                      ·rw[hy]at e;rw[e]at bm;simp[lw]at bm;omega
                    have bx:X (w.grownBy (w6.setCell ⟨wb,1,N⟩ (V (O ⟨g2,0,N⟩) (k+1) ae)) N):=Y4 (C6 aj.o K (λx e=> .inl (K7 d.o.files e).1)) d.o.low 1 _;clear ab C ar K)
    all_goals
     go_wp2_with fail
     go_roundw
     case rel=>exact⟨k+1,_,_,by omega,by go_num,b1,b4,bx⟩
     case measure=>simp[ld];omega
  ·have cb:k=n:=by omega
   subst cb;obtain⟨p,pk,rfl,hW⟩:=M.o.wo (lim:=wr.heap.size) (by rw[<-HN.o];exact lf _) hG.o (lf _);have an:fs.take k=fs:=by rw[HN.o];exact uy
   rw[an]at hW;obtain⟨l9,a2⟩:=Oe wr.heap.size
   rw[<-a2]at hW;have HW:=A1 hW;have E:=hG.o.keep hg.o;have am:lim<=l9:=by rw[a2];exact lu hl hg.o.size
   have ah:fs.take fs.length=fs:=uy;have b2:X (V9 wr l9 (B6++fs) (M5 qf)):=by have:=E.partF (lf fs.length);rw[ah]at this;exact this.upto am
   have b3:X (P8 wr l9 (B6++fs) (M5 qf)):=by have:=E.partM (lf fs.length);rw[ah]at this;exact this.upto am
   have bg:X (∀i,i<(B6++fs).length->Szc (cl (B6++fs) i)):=by have:=E.szc (lf fs.length);rw[ah]at this;exact this
   have be:X (Few (B6++fs)):=by have:=E.few' (lf fs.length);rw[ah]at this;exact this
   have au:X (Y3 wr l9 fs qf):=⟨E.f.upto am,E.meths.upto am,E.sz,E.names,E.memb,E.few⟩
   have bz:=A1 (b8J fs (by rw[<-HN.o];exact a6.o));clear hW E ah an a2;go_wp2
   generalize hW1:wr=W1 at*
   clear hW1;go_loopw [8] (λf wx=>∃kind:Nat,kind<=5/\f= J I kind/\X (y6 fs=a3p fs kind)/\X (W1.grownBy wx N)) (λf _=>5-(ld f).toNat)
   case atStart=>exact⟨0,by omega,rfl,bz,C9 _ _⟩
   case round=>
    obtain⟨kind,cm,rfl,a3,a1⟩:=hrel;by_cases hlt5:kind<5
    ·have cd:decide ((kind:Int)<5)=true:=by simp;omega
     go_wp2
     go_loopw [9] (λf wy=>∃i:Nat,i<=k/\f= J I i/\X (∀j,j<i->wrR (B6++fs) kind (cl fs j)=false)/\X (W1.grownBy wy N)) (λf _=>k-(ld f).toNat)
     case atStart=>exact⟨0,by omega,rfl,λj hj=>by omega,a1⟩
     case round=>
      obtain⟨i,hi,rfl,af,T⟩:=hrel;by_cases hlti:i<k
      ·have al:i<fs.length:=by rw[<-HN.o];exact hlti
       have bf:=A1 (A0 hg.o T.o);obtain⟨lp,a4,-,f0,f1,f2,f3⟩:=a3R (hR.o.keep bf.o) (k:=i) (by simpa using hlti);subst a4;simp only[nx]at f0 f1 f2 f3;have ax:=(au.o.keep T.o).f i al;have ay:=(au.o.keep T.o).meths.at al;have az:=au.o.sz i al;obtain⟨ci,S⟩:=Oe (cl fs i)
       rw[<-S]at f0 f1 f2 f3 ax ay az;have ac:=A1 S;have bb:=A1 ax;have bc:=A1 ay;have bd:=A1 az;have bi:=A1 (HW.o.keep T.o);have ap:X (V9 wr l9 (B6++fs) (M5 qf)):=λi hi=>(b2.o i hi).keep T.o
       have aq:=A1 (b3.o.keep T.o);obtain⟨b,hb⟩:=Oe (wrR (B6++fs) kind ci)
       have HB:=A1 hb;clear S ax ay az hb;cases b with
       |true=>
        go_wp2_with (go_at_call 122;refine(b1f _ l9 wb _ p pk _ bi ap aq be bg kind hlt5 ci (qf i) bb bc bd).mono ?_;rintro e w7 ⟨rfl,a0⟩;rw[<-HB.o])
        refine nc (v:= .tuple #[U N, J I (8+kind), J I i]) (by simp[lm,results67,go_sem]) rfl ⟨A0 bf.o a0,?_⟩;rw[a3.o,b6n fs hlt5 al (by rw[<-ac.o,<-HB.o]) af.o];unfold a9y;simp
       |false=>
        go_wp2_with (go_at_call 122;refine(b1f _ l9 wb _ p pk _ bi ap aq be bg kind hlt5 ci (qf i) bb bc bd).mono ?_;rintro e w7 ⟨rfl,a0⟩;rw[<-HB.o])
        go_roundw
        case rel=>exact⟨i+1,by omega,by go_num,by
         intro j hj;rcases ls j i with h1|h1
         ·exact af.o j h1
         ·obtain rfl:j=i:=by omega
          rw[<-ac.o,<-HB.o],A0 T.o a0⟩
        case measure=>simp[ld];omega
      ·go_wp2
       exact⟨⟨kind+1,by omega,by go_num,by
        unfold X;rw[a3.o,b5J fs hlt5 (λj hj=>af.o j (by rw[<-HN.o]at hj;omega))],T⟩,by simp[ld];omega⟩
    ·have b':kind=5:=by omega
     subst b';go_wp2
     refine nc (v:= .tuple #[U (O ⟨wb,0,N⟩), J I 0, J I 0]) (by simp[lm,results67,go_sem]) rfl ⟨A0 hg.o a1.o,?_⟩;rw[a3.o,b6m];exact⟨wb,_,_,rfl,by rw[<-HN.o];exact M.o.keep a1.o⟩
open Go.RowKit
section
variable{F:Fence}{n:Nat}{P:Program}
variable {α:Type}
def b3R(F:Fence)(n:Nat)(P:nh)(g:Nat)(lb:Array le)(encs:α->Array le)(Kp:la->la->Prop)(S Sp:List α->Prop)(N:Nat)(w:la):Prop:=
 ∀(l:Nat) (mu:la->Nat) (J Jx:List α->la->Prop) (W:la),lg w.heap.size w W->AbidesFrom W.heap.size J->AbidesFrom W.heap.size Jx->
  (∀A9 W1,J A9 W1->A9.length<N/\mu W1+A9.length=N)->
  (∀A9 x W1,J A9 W1->YieldAt F (n-1) P l (encs x) W1 λe W'=>(e= Y (G true)/\J (A9++ [x]) W'/\Kp W1 W')\/(e= Y (G false)/\Jx (A9++ [x]) W'))->
  J [] W->CallsIn F n P g (#[.func (.yield l) #[] #[]]++lb) W λe W'=>(∃v,e= Y v)/\((∃xs,S xs/\J xs W')\/(∃A9,Sp A9/\Jx A9 W'))
structure Two(w W:World)(r:Loop):Prop where
 loop:W.heap[w.heap.size+1]? =some (.loop r)
 block:W.heap[w.heap.size]? =some (.deferred (some []))
variable {A B w:World}{r:Loop}
theorem Two.grown{row:Option Nat}(h:Two w A r)(d:A.grownBy B row)(e:∀k,row=O k->∃o:Obj,A.heap[k]? =O o/\o.isWalk=true):Two w B r:=
 ⟨(grownBy_keeps d e h.loop rfl).trans h.loop,(grownBy_keeps d e h.block rfl).trans h.block⟩
theorem Two.kept(h:Two w A r)(hk:nz w.heap.size A B):Two w B r:=
 ⟨hk.same _ _ (Nat.le_succ _) h.loop rfl,hk.same _ _ (lf _) h.block rfl⟩
theorem Two.put{r':Loop}(h:Two w A r):Two w (A.putObj (w.heap.size+1) (.loop r')) r':=
 ⟨World.putObj_heap_same (Array.getElem?_eq_some_iff.1 h.loop).1,(World.putObj_heap_other Oo).trans h.block⟩
theorem b7h{g:Operand}{ps:Array Tmp}{assign body:lq}{Q:Exit->Act->la->Prop}{a:Act}(hro:F.round=none)(h1:1<=n)
 {gf:Nat} {lb:Array le} (hg:a.eval g= .func (.func gf) #[] lb) (hFg:F.fn gf) (eg:∀args w,(callFunc gf args).run P w= .ok (.enter gf args) w)
 {encs:α->Array le} {Kp:la->la->Prop} {S Sp:List α->Prop} {N:Nat} {w0:la} (hseq:b3R F (n-1) P gf lb encs Kp S Sp N w0)
 (hKt:∀{A B C:la},Kp A B->Kp B C->Kp A C) (hKb:∀(W:la) (l:Nat) (o o':Obj),w.heap.size<=l->W.heap[l]? =O o->o.isCells=false->o.isWalk=false->Kp W (W.putObj l o'))
 (hb0:lg w0.heap.size w0 w) (hps:∀x,(encs x).size=ps.size) (mu:la->Nat)
 (I:List α->la->Prop) (Ix:lq->List α->la->Prop) (hI:OwnFrom w.heap.size I) (hIx:∀c,OwnFrom w.heap.size (Ix c)) (hmu:∀A9 W,I A9 W->A9.length<N/\mu W+A9.length=N)
 (h0:I [] w) (Ax:α->Act->la->Prop) (hAx:∀x a',OwnFrom w.heap.size (fun(_:Unit) W=>Ax x a' W))
 (hassign:∀(l:Nat) (A9:List α) (x:α) (W:la) (K:Act->la->Prop),I A9 W->(∀a' W',nz w.heap.size W W'->Kp W W'->I A9 W'->Ax x a' W'->K a' W')->
   assign.wpIn (F.inRound l) (n-1-1) P (Exit.then K (λ_ _ _=>False)) {tmps:=(ps.zip (encs x)).foldl (λt (p,v)=>t.setIfInBounds p v) a.tmps,defers:=[]} W)
 (hbody:∀(l:Nat) (A9:List α) (x:α) (a':Act) (W:la),I A9 W->Ax x a' W->body.wpIn (F.inRound l) (n-1-1) P (ownPostG w.heap.size Kp I Ix (A9++ [x]) W) a' W)
 (hdone:∀(D:Nat) (xs:List α) (W:la),w.heap.size<=D->S xs->I xs W->W.heap[D]? =O (.deferred (O []))->Q .normal {a with defers:={target:= .collected D,args:= #[]}::a.defers} W)
 (hstop:∀(D:Nat) (c:lq) (A9:List α) (W:la),w.heap.size<=D->Sp A9->Ix c A9 W->W.heap[D]? =O (.deferred (O []))->c.wpIn F n P Q {a with defers:={target:= .collected D,args:= #[]}::a.defers} W):
 (Code.rangeFunc g ps assign body).wpIn F n P Q a w:=by
 refine wpIn_rangeFunc λfn hfn=> ?_
 rw[hro];generalize hrec:(fun(st:LoopState) (pe:Option lq)=>({state:=st,pending:=pe,fn,tmps:=a.tmps,params:=ps,assign,body,defers:=w.heap.size}:Loop))=rec;have hst:∀st pe,rec st pe={state:=st,pending:=pe,fn,tmps:=a.tmps,params:=ps,assign,body,defers:=w.heap.size}:=λst pe=>by rw[<-hrec]
 generalize hW1:(w.alloc (.deferred (O []))).alloc (.loop (rec .ready none))=W1;have hsz:W1.heap.size=w.heap.size+2:=by rw[<-hW1];simp
 have hT1:Two w W1 (rec .ready none):=by
  rw[<-hW1];refine⟨?_,(Below.heap_alloc _ _ _ Os).trans (uz w _)⟩;have:=uz (w.alloc (.deferred (O []))) (.loop (rec .ready none));rwa[ni]at this
 have hI1:I [] W1:=by rw[<-hW1];exact hI.alloc _ (hI.alloc _ h0)
 have hb1:lg w0.heap.size w0 W1:=by rw[<-hW1];exact hb0.trans ((((Below.refl _ w).alloc (lf _) _).alloc Os _).mono hb0.size)
 refine⟨w.heap.size+1,[{target:= .collected w.heap.size,args:= #[]}],W1,{target:= .fn (.func gf) lb,args:= #[.func (.yield (w.heap.size+1)) #[] #[]]},W1,gf, #[.func (.yield (w.heap.size+1)) #[] #[]]++lb,W1,?_,?_,?_,?_,λ_=>h1,?_⟩
 ·rw[<-hW1,hst];exact run_enterLoop_outer _ _ _ _ _
 ·simp only[resolve,hg];simp[go_sem]
 ·intro f' hf';simp[Target.leads]at hf';subst hf';exact hFg
 ·simp[invoke,go_sem,eg]
 have hfar:∀{A:la} {row:Option Nat},(∀r,row=O r->W1.heap.size<=r/\∃o:Obj,A.heap[r]? =O o/\o.isWalk=true)->∀r,row=O r->w.heap.size<=r/\∃o:Obj,A.heap[r]? =O o/\o.isCells=false:=λhr r e=>by
  obtain⟨hB,o,ho,hw⟩:=hr r e;exact⟨by omega,o,ho,Obj.not_cells_of_walk hw⟩
 have hturn:∀{A9:List α} {A:la} {r r':Loop},I A9 A->Two w A r->I A9 (A.putObj (w.heap.size+1) (.loop r')):=λhi hT=>hI.putObj _ hi Oo hT.loop rfl
 have hkp:∀{A:la} {r r':Loop},Two w A r->Kp A (A.putObj (w.heap.size+1) (.loop r')):=λhT=>hKb _ _ _ _ Oo hT.loop rfl rfl
 have hend:∀(jump:Option lq) {W3:la},Two w W3 (rec .busy none)->(Instr.endRound (w.heap.size+1) jump).run P W3= .ok (G jump.isNone) (W3.putObj (w.heap.size+1) (.loop (rec (if jump.isNone then .ready else .done) jump))):=λjump W3 hT=>by
  have:=run_endRound (P:=P) jump hT.loop;rw[hst]at this⊢;exact this
 refine(hseq (w.heap.size+1) mu (λA9 W=>I A9 W/\Two w W (rec .ready none)) (λA9 W=>∃c,Ix c A9 W/\Two w W (rec .done (O c))) W1 hb1
  (λs A B row hs hg' hr=>⟨hI s A B row hs.1 hg' (hfar hr),hs.2.grown hg' (λr e=>(hr r e).2)⟩)
  (λs A B row hs hg' hr=>hs.elim λc hc=>⟨c,hIx c s A B row hc.1 hg' (hfar hr),hc.2.grown hg' (λr e=>(hr r e).2)⟩)
  (λA9 W hj=>hmu A9 W hj.1) ?_ ⟨hI1,hT1⟩).mono ?_
 ·rintro A9 x W ⟨hi,hT⟩;have hy:=run_yield (P:=P) (args:=encs x) hT.loop (by rw[hst];exact hps x);rw[hst]at hy;refine⟨fn,_,assign,body,hy,roundIn_of_wpIn hfn (hassign _ A9 x W _ hi λa' Wa hka hpa hia hax=> ?_)⟩;have hTa:=hT.kept hka;refine⟨Wa.putObj (w.heap.size+1) (.loop (rec .busy none)),?_,wpIn_mono (hbody _ A9 x a' _ (hturn hia hTa) ((hAx x a').putObj (s:=()) _ hax Oo hTa.loop rfl)) ?_⟩
  ·have:=run_beginRound (P:=P) hTa.loop (by rw[hst]);rw[hst]at this⊢;exact this
  ·have hp2:Kp W (Wa.putObj (w.heap.size+1) (.loop (rec .busy none))):=hKt hpa (hkp hTa);rintro e a3 W3 hp
   have hout:∀c,nz w.heap.size (Wa.putObj (w.heap.size+1) (.loop (rec .busy none))) W3->Ix c (A9++ [x]) W3->∃v w',(Instr.endRound (w.heap.size+1) (O c)).run P W3= .ok v w'/\
    ((Ending.returned v= Y (G true)/\(I (A9++ [x]) w'/\Two w w' (rec .ready none))/\Kp W w')\/(Ending.returned v= Y (G false)/\∃c,Ix c (A9++ [x]) w'/\Two w w' (rec .done (O c)))):=λc hk hx=>by
    have hT3:=(hTa.put (r':=rec .busy none)).kept hk;exact⟨_,_,hend (O c) hT3, .inr ⟨rfl,c,(hIx c).putObj _ hx Oo hT3.loop rfl,hT3.put⟩⟩
   cases e with
   |normal=>
    obtain⟨hk,hp3,hi3⟩:=hp;have hT3:=(hTa.put (r':=rec .busy none)).kept hk;exact⟨_,_,hend none hT3, .inl ⟨rfl,⟨hturn hi3 hT3,hT3.put⟩,hKt (hKt hp2 hp3) (hkp hT3)⟩⟩
   |ret=>exact hout .ret hp.1 hp.2
   |exit id=>exact hout (.exit id) hp.1 hp.2
   |goto t=>exact hout (.goto t) hp.1 hp.2
   |panic ch=>exact hp.elim
   |outgrown=>exact hp.elim
 ·have hover:∀(st:LoopState) (pe:Option lq) {W2:la},st≠ .busy->Two w W2 (rec st pe)->(Instr.endLoop (w.heap.size+1)).run P W2= .ok pe (W2.putObj (w.heap.size+1) (.loop (rec .exhausted pe))):=λst pe W2 hne hT=>by
   have:=run_endLoop (P:=P) hT.loop (by rw[hst];exact hne);rw[hst]at this⊢;exact this
  rintro e W2 ⟨⟨v,rfl⟩,(⟨xs,hS,hi,hT⟩|⟨A9,hSp,c,hi,hT⟩)⟩
  ·exact⟨none,_,hover .ready none Os hT,hdone _ xs _ (lf _) hS (hturn hi hT) hT.put.block⟩
  ·exact⟨O c,_,hover .done (O c) Os hT,hstop _ c A9 _ (lf _) hSp ((hIx c).putObj _ hi Oo hT.loop rfl) hT.put.block⟩
end
open Go.RowKit Cf
variable {W w w':World}{B j k lim m n:Nat}
theorem b1n{l:List (Ky×Nat)}(h:w.ownsMap (H:=Unit) prog 255 (lx prog 3) m k (T7 l))(c n:ByteArray)(y:c.size<=lh)(C:n.size<=lh)(r:Option Nat)(E:O1 l (P3 c n)=r):
 (Instr.lookup 149 (.map (O m)) (Q #[.string c, .string n]) false).run prog w= .ok (.int I (r.getD 0:Nat)) w:=by
 obtain⟨d,g,e,-⟩:=h.lookup_int a5y underlying149 underlying3 (a3k w) (a4w c n y C);have ha:(T7 l).atKey (.string (P3 c n)) (.lit (.int I 0))= .lit (.int I (r.getD 0:Nat)):=by rw[(a5j l).t,E]
 rw[ha]at e;simp only[DataW.lit.injEq,Lit.int.injEq,true_and]at e;subst e;exact g
variable {L:List Cl}{q:Nat->Qs}
theorem V9.keep(h:V9 w lim L q)(d:w.grownBy w' N):V9 w' lim L q:=λi hi=>(h i hi).keep d
theorem b5p(L:List Cl)(c n:ByteArray):∃(fk:Nat) (d:ByteArray),a2P L c n= .tuple #[Q #[J I fk, Z d], G (O0 L c n).isSome]:=by
 unfold a2P;cases O0 L c n with
 |none=>exact⟨0,⟨#[]⟩,rfl⟩
 |some p=>exact⟨_,_,rfl⟩
variable {c:Cl}
theorem b8W(d:j<c.f.length):∃k,a9 c c.f[j].n=O k:=by
 cases h:a9 c c.f[j].n with
 |some k=>exact⟨k,rfl⟩
 |none=>
  unfold a9 at h;have:=ua.1 h c.f[j] (ll d);simp at this
theorem c0n(d:j<c.m.length):∃k,L2 c c.m[j].n=O k:=by
 cases h:L2 c c.m[j].n with
 |some k=>exact⟨k,rfl⟩
 |none=>
  unfold L2 at h;have:=ua.1 h c.m[j] (ll d);simp at this
def a4k(L:List Cl)(i j:Nat):Bool:=(O0 L (cl L i).s ((cl L i).f.getD j ⟨D4,0,D4⟩).n).isSome||decide (a9 (cl L i) ((cl L i).f.getD j ⟨D4,0,D4⟩).n≠O j)
def a4K(L:List Cl)(i j:Nat):Bool:=decide (L2 (cl L i) (((cl L i).m.map (·.n)).getD j D4)≠O j)
theorem c2W(L:List Cl)(i:Nat):mbP L i=((li (cl L i).f.length).any (a4k L i)||(li (cl L i).m.length).any (a4K L i)):=rfl
theorem b4V(w:la)(lim b:Nat)(L:List Cl)(p:lj)(cap m1 m2 m3:Nat)(q:Nat->Qs)(h:X (L4 w lim b L p cap m1 m2 m3 q))(hl:lim<=w.heap.size)(hU:X (UpL L))(hD:X (a1z L))(a7:X (a0N N1 L))(a':X (a0N I8 L))(hF:X (V9 w lim L q))(hP:X (P8 w lim L q))(hZ:X (SzL L))(i:Nat)(hi:i<L.length):
 lk prog 162 #[U (O ⟨b,0,N⟩), J I i] w λe w'=>e= Y (G (mbP L i))/\w.grownBy w' N:=by
 have c0:=h.o.c0;have K:=h.o.row i hi;have f0:w.cell? (p.add (i*4))=O (Z (cl L i).n):=K 0 _ rfl;have f1:w.cell? ⟨(p.add (i*4)).block,(p.add (i*4)).off+1,N⟩=O (Z (cl L i).s):=by rw[C2 p (i*4) 0];exact K 1 _ rfl
 have f2:w.cell? ⟨(p.add (i*4)).block,(p.add (i*4)).off+2,N⟩=O (V (q i).fa (cl L i).f.length (q i).fk):=by rw[C2 p (i*4) 1];exact K 2 _ rfl
 have f3:w.cell? ⟨(p.add (i*4)).block,(p.add (i*4)).off+3,N⟩=O (V (q i).ma (cl L i).m.length (q i).mc):=by rw[C2 p (i*4) 2];exact K 3 _ rfl
 clear K;have bk:=(hZ.o i hi).2.2.1;have bn:=(hZ.o i hi).2.2.2;have a0:=(h.o.names i hi).1;have bb:=(h.o.names i hi).2;have af:=A1 (c2W L i);obtain⟨d,av⟩:=Oe (cl L i)
 have g:=A1 av;rw[<-av]at f0 f1 f2 f3 bk bn a0 bb af;clear av;go_enter func162,ntmps162;go_wp2_with fail
 obtain⟨W1,am⟩:=Oe (w.alloc (H #[Z d.n, Z d.s, V (q i).fa d.f.length (q i).fk, V (q i).ma d.m.length (q i).mc] 44))
 have a1:X (w.grownBy W1 N):=by rw[am];exact A2 _ _ _
 have ao:X (A4 W1 w.heap.size #[Z d.n, Z d.s, V (q i).fa d.f.length (q i).fk, V (q i).ma d.m.length (q i).mc] 44):=by rw[am];exact A4.new w _ _
 rw[<-am];clear am;go_loopw [22] (λk wr=>∃j:Nat,j<=d.f.length/\k= J I j/\W1.grownBy wr N/\∀r,r<j->a4k L i r=false) (λk _=>d.f.length-(ld k).toNat)
 case atStart=>exact a4r
 case round=>
  obtain⟨j,hj,rfl,ai,hv⟩:=hrel;have HG:=A1 ai;have HV:=A1 hv;have a4:=A1 (A0 a1.o HG.o);clear ai hv;by_cases hlt:j<d.f.length
  ·obtain⟨pp,bo,bp,K⟩:=(hF.o i hi).keep a4.o j (by rw[<-g.o];exact hlt);obtain⟨t,ht⟩:=Oe (d.f[j])
   have T:∀r u,(K3 t)[r]? =O u->wr.cell? (pp.add (j*3+r))=O u:=by
    intro r u hu;refine K r u ?_;rw[ht]at hu;simpa only[g.o]using hu
   have g0:wr.cell? (pp.add (j*3))=O (Z t.n):=T 0 _ rfl;have g1:wr.cell? ⟨(pp.add (j*3)).block,(pp.add (j*3)).off+1,N⟩=O (J I t.ty.k):=by rw[C2 pp (j*3) 0];exact T 1 _ rfl
   have g2:wr.cell? ⟨(pp.add (j*3)).block,(pp.add (j*3)).off+2,N⟩=O (Z t.ty.n):=by rw[C2 pp (j*3) 1];exact T 2 _ rfl
   have al:∀ob,X (w.grownBy (wr.alloc ob) N):=λob=>A0 a4.o (A2 wr ob N)
   have bg:∀ob,X (L4 (wr.alloc ob) lim b L p cap m1 m2 m3 q):=λob=>h.o.keep (al ob).o hl
   have bm:=λob=>lu hl (al ob).o.size
   have be:∀ob,X (V9 (wr.alloc ob) lim L q):=λob=>hF.o.keep (al ob).o
   have ba:t∈d.f:=by rw[ht];exact ll hlt
   have hts:=((hZ.o i hi).2.1 t (by rw[<-g.o];exact ba)).2;obtain⟨fx,y⟩:=b8W hlt;rw[<-ht]at y;have aq:=A1 y;have ap:=A1 (ao.o.keep HG.o Os);have ar:=ap.o.keep (A2 wr (H #[Z t.n, J I t.ty.k, Z t.ty.n] 129) N) Os;obtain⟨bi,bj⟩:=ar.q2;obtain⟨fk,fn,aw⟩:=b5p L d.s t.n;obtain⟨ab,au⟩:=Oe ((O0 L d.s t.n).isSome)
   rw[<-au]at aw;have bd:=A1 aw
   have aa:X (a4k L i j=(ab||decide (fx≠j))):=by
    have ax:(cl L i).f.getD j ⟨D4,0,D4⟩=t:=by rw[<-g.o,ht,lr,ly hlt];rfl
    unfold X a4k;rw[ax,<-g.o,aq.o,au];simp
   have aj:O1 (S7 N1 L) (P3 d.n t.n)=O fx:=by rw[g.o,a6d N1 hD.o a7.o hi t.n hts,b0Q,<-g.o];exact y
   rw[bo];clear K T ht f0 f1 f2 f3 c0 y aw au;go_wp2_with (go_at_call 248;go_loud (refine(a6b _ lim b L p cap m1 m2 m3 q (bg _) (bm _) hU hD a7 (be _) d.s t.n bb hts).mono ?_;rintro e w3 ⟨rfl,an⟩;rw[bd.o];have a5:=ar.keep an Os;have bf:=A1 (A0 (al _).o an);have a2:=A1 (A0 (A0 HG.o (A2 wr _ N)) an);have a6:=(A4.new wr #[Z t.n, J I t.ty.k, Z t.ty.n] 129).keep an Os);try dsimp only)
   have M:X (w3.grownBy (w3.alloc (H #[J I fk, Z fn] 98)) N):=A2 _ _ N;have ac:=A1 (A0 bf.o M.o);have HG4':=A1 (A0 a2.o M.o);have ae:=A1 (h.o.keep ac.o hl);have d2:=ae.o.c2;have ag:=a5.keep M.o Os;have ah:=a6.keep M.o Os;have d0:=ag.c0;have d1:=ah.c0;have ak:=λk:Nat=>b1n (w:=(w3.alloc (H #[J I fk, Z fn] 98)).drewN k) ae.o.n2 d.n t.n a0 hts _ aj
   simp only[ub]at ak;clear bi bj ar a5 a6 ag ah aj;cases ab with
   |true=>
    have E:X (mbP L i=true):=by
     have:(li d.f.length).any (a4k L i)=true:=na.2 ⟨j,ln.2 hlt,by rw[aa.o];rfl⟩;unfold X;rw[af.o,this];rfl
    go_quiet (fail)
    go_wp2
    go_ret;rw[E.o];exact⟨rfl,A0 ac.o (F4 _ _ _)⟩
   |false=>
    by_cases hfj:fx=j
    ·subst hfj;have HNO:X (a4k L i fx=false):=by unfold X;rw[aa.o];simp
     go_quiet (fail)
     go_wp2
     go_roundw
     case rel=>exact c6b
     case measure=>simp[ld];omega
    ·have E:X (mbP L i=true):=by
      have:(li d.f.length).any (a4k L i)=true:=na.2 ⟨j,ln.2 hlt,by rw[aa.o];simp[hfj]⟩;unfold X;rw[af.o,this];rfl
     have hN:((fx:Int)==(j:Int))=false:=by simp;omega
     go_quiet (fail)
     go_wp2
     go_ret;rw[E.o];exact⟨rfl,A0 ac.o (F4 _ _ _)⟩
  ·have ay:j=d.f.length:=by omega
   subst ay;have bc:X ((li d.f.length).any (a4k L i)=false):=nb.2 (λr hr=>by rw[HV.o r (ln.1 hr)];simp);have ap:=A1 (ao.o.keep HG.o Os);have c7:=ap.o.c3;clear HV hlt f0 f1 f2 f3 c0;go_wp2_with fail
   go_loopw [55] (λk wx=>∃j:Nat,j<=d.m.length/\k= J I j/\W1.grownBy wx N/\∀r,r<j->a4K L i r=false) (λk _=>d.m.length-(ld k).toNat)
   case atStart=>exact⟨0,Nat.zero_le _,rfl,HG.o,λr hr=>by omega⟩
   case round=>
    obtain⟨j,hj,rfl,ai,hv⟩:=hrel;have a3:=A1 ai;have HV:=A1 hv;have ad:=A1 (A0 a1.o a3.o);clear ai hv;by_cases hlt:j<d.m.length
    ·have bl:j<(cl L i).m.length:=by rw[<-g.o];exact hlt
     obtain⟨pm,pa,ca,ha,pk,ck,hk,e1,e2,e3,e4,e5,e6⟩:=hP.o.keep ad.o i hi j bl;obtain⟨C,az⟩:=Oe ((cl L i).m.getD j G3)
     rw[<-az]at e6;have S:C=d.m[j]:=by rw[az,<-g.o,lr,ly hlt];rfl
     have f0:wr.cell? (pm.add (j*8))=O (Z C.n):=e6 0 _ rfl;have f1:wr.cell? ⟨(pm.add (j*8)).block,(pm.add (j*8)).off+1,N⟩=O (V pa C.p.length pk):=by rw[C2 pm (j*8) 0];exact e6 1 _ rfl
     have f2:wr.cell? ⟨(pm.add (j*8)).block,(pm.add (j*8)).off+2,N⟩=O (J I C.r.k):=by rw[C2 pm (j*8) 1];exact e6 2 _ rfl
     have f3:wr.cell? ⟨(pm.add (j*8)).block,(pm.add (j*8)).off+3,N⟩=O (Z C.r.n):=by rw[C2 pm (j*8) 2];exact e6 3 _ rfl
     have f4:wr.cell? ⟨(pm.add (j*8)).block,(pm.add (j*8)).off+4,N⟩=O (J I C.s):=by rw[C2 pm (j*8) 3];exact e6 4 _ rfl
     have f5:wr.cell? ⟨(pm.add (j*8)).block,(pm.add (j*8)).off+5,N⟩=O (J I C.l):=by rw[C2 pm (j*8) 4];exact e6 5 _ rfl
     have f6:wr.cell? ⟨(pm.add (j*8)).block,(pm.add (j*8)).off+6,N⟩=O (V ca C.c.length ck):=by rw[C2 pm (j*8) 5];exact e6 6 _ rfl
     have f7:wr.cell? ⟨(pm.add (j*8)).block,(pm.add (j*8)).off+7,N⟩=O (V ha C.h.length hk):=by rw[C2 pm (j*8) 6];exact e6 7 _ rfl
     have hts:C.n.size<=lh:=by
      refine(a'.o (cl L i) (by rw[V8 hi];exact ll hi)).2 C.n ?_;unfold I8;rw[<-g.o];exact nd.2 ⟨C,by rw[S];exact ll hlt,rfl⟩
     obtain⟨fx,y⟩:=c0n hlt;rw[<-S]at y;have aq:=A1 y
     have aa:X (a4K L i j=decide (fx≠j)):=by
      have ax:((cl L i).m.map (·.n)).getD j D4=C.n:=by rw[<-g.o,S,lr,List.getElem?_map,ly hlt];rfl
      unfold X a4K;rw[ax,<-g.o,aq.o];simp
     have aj:O1 (S7 I8 L) (P3 d.n C.n)=O fx:=by rw[g.o,a6d I8 hD.o a'.o hi C.n hts,a6I,<-g.o];exact y
     have M:X (wr.grownBy (wr.alloc (H (mV C pa pk ca ck ha hk) 102)) N):=A2 _ _ N;have ac:=A1 (A0 ad.o M.o);have HG4':=A1 (A0 a3.o M.o);have ae:=A1 (h.o.keep ac.o hl);have d2:=ae.o.c3;have ag:=ao.o.keep HG4'.o Os;have ah:=A4.new wr (mV C pa pk ca ck ha hk) 102;have d0:=ag.c0;have d1:=ah.c0;have ak:=λk:Nat=>b1n (w:=(wr.alloc (H (mV C pa pk ca ck ha hk) 102)).drewN k) ae.o.n3 d.n C.n a0 hts _ aj
     simp only[ub]at ak;rw[e1];clear ag ah aj y az S e3 e4 e5 e6 c7;by_cases hfj:fx=j
     ·subst hfj;have HNO:X (a4K L i fx=false):=by unfold X;rw[aa.o];simp
      go_wp2_with fail
      go_quiet (fail)
      go_wp2
      go_roundw
      case rel=>exact c6b
      case measure=>simp[ld];omega
     ·have E:X (mbP L i=true):=by
       have:(li d.m.length).any (a4K L i)=true:=na.2 ⟨j,ln.2 hlt,by rw[aa.o];simp[hfj]⟩;unfold X;rw[af.o,this];simp
      have hN:((fx:Int)==(j:Int))=false:=by simp;omega
      go_wp2_with fail
      go_quiet (fail)
      go_wp2
      go_ret;rw[E.o];exact⟨rfl,A0 ac.o (F4 _ _ _)⟩
    ·have ay:j=d.m.length:=by omega
     subst ay;have bh:X ((li d.m.length).any (a4K L i)=false):=nb.2 (λr hr=>by rw[HV.o r (ln.1 hr)];simp);have HNO:X (mbP L i=false):=by unfold X;rw[af.o,bc.o,bh.o];rfl
     clear HV hlt c7;go_wp2_with fail
     go_ret;rw[HNO.o];exact⟨rfl,ad.o⟩
attribute [local go_sem] Oper.semAt_some
theorem b9z(F:Fence)(n:Nat)(hF:F.fn 254)(a1:F.round=N)(hn:1<=n)(l n₀ b1 b2 lim b:Nat)(L:List Cl)(p:lj)(cap m1 m2 m3:Nat)(q:Nat->Qs)(nm:ByteArray)(ar:nm.size<=lh)(mu:la->Nat)
 (J Jx:List Nat->la->Prop)
 (ag:∀A9 A B,J A9 A->A.grownBy B N->J A9 B) (a6:∀A9 A B,Jx A9 A->A.grownBy B N->Jx A9 B)
 (aq:∀A9 W,J A9 W->A9.length<L.length/\mu W+A9.length=L.length)
 (hY:∀A9 x W,x<L.length->J A9 W->YieldAt F (n-1) prog l #[a3w L q x] W λe W'=>
   (e= Y (G true)/\J (A9++ [x]) W'/\KpU n₀ b1 W W')\/(e= Y (G false)/\Jx (A9++ [x]) W'))
 (W:la) (K:W.cell? ⟨b1,0,N⟩=O (U (O ⟨b,0,N⟩))) (az:W.cell? ⟨b2,0,N⟩=O (Z nm)) (hK:X (L4 W lim b L p cap m1 m2 m3 q)) (ao:lim<=n₀) (h0:J [] W):
 CallsIn F n prog 254 #[.func (.yield l) #[] #[], U (O ⟨b1,0,N⟩), U (O ⟨b2,0,N⟩)] W λe W'=>(∃v,e= Y v)/\
  ((∃ys,ys=F1 L L.length nm/\J ys W')\/(∃A9,A9<+:F1 L L.length nm/\Jx A9 W')):=by
 have c1:=hK.o.c1;obtain⟨v5,g⟩:∃v,v=E9 L nm:=⟨_,rfl⟩
 obtain⟨v4,aj⟩:∃v,v=(C8 L nm).getD 0:=⟨_,rfl⟩
 have y:=λk:Nat=>a7k (w:=W.drewN k) hK.o.n1 nm ar
 rw[<-g,<-aj]at y;have ac:=A1 g;have ab:=A1 aj;clear g aj;obtain⟨Ffn,Fd,Fa,Fr⟩:=F;obtain rfl:Fr=N:=a1;refine callsIn_of_wp func254 rfl hF ?_ rfl;simp only[ntmps254,uc,ud,nj,ue,uf,ug,uh,ui,uj,uk,ul];gi_wp2
 gi_quiet (fail)
 gi_wp2
 have am:=ag [] W _ h0 (F4 W nq N);have ak:=A1 (hK.o.drewN nq);have ae:(W.drewN nq).cell? ⟨b1,0,N⟩=O (U (O ⟨b,0,N⟩)):=K;clear K az h0 hK c1 y
 gi_loopw [4,5] (λu4 u5 wr=>∃(A9:List Nat) (d:ByteArray),J A9 wr/\F1 L L.length nm=A9++F1 L (L.length-A9.length) d/\d.size<=lh/\u4= .int I ((C8 L d).getD 0:Nat)/\u5= G (E9 L d)/\L4 wr lim b L p cap m1 m2 m3 q/\wr.cell? ⟨b1,0,N⟩=O (U (O ⟨b,0,N⟩)))
  (λ_ _ wz=>mu wz)
 case atStart=>exact⟨[],nm,am,rfl,ar,by rw[ab.o],by rw[ac.o],ak.o,ae⟩
 case round=>
  clear am ak ae ab ac;obtain⟨A9,d,ah,au,a7,rfl,rfl,an,K⟩:=hrel;have HK:=A1 an;have af:=A1 au;have ap:=aq A9 wr ah;have aw:=A1 ap.2
  have C:F1 L (L.length-A9.length) d=match C8 L d with|none=> []|some i=>i::F1 L (L.length-(A9.length+1)) (cl L i).s:=by
   obtain⟨k,hk⟩:∃k,L.length-A9.length=k+1:=⟨L.length-A9.length-1,by omega⟩
   rw[hk,show L.length-(A9.length+1)=k from by omega];rfl
  clear ap;clear an au;cases hf:C8 L d with
  |none=>
   have g:E9 L d=false:=by unfold E9;rw[hf];rfl
   rw[hf]at C;have HS:X (F1 L (L.length-A9.length) d=[]):=C;rw[g];clear C;gi_wp2
   refine⟨λ_ h=>(by cases h),?_⟩;gi_wp2
   go_end0;exact⟨⟨_,rfl⟩, .inl ⟨A9,by rw[af.o,HS.o,ut],ah⟩⟩
  |some i=>
   have g:E9 L d=true:=by unfold E9;rw[hf];rfl
   have hi:=(M8 hf).1;rw[hf]at C;have HS:X (F1 L (L.length-A9.length) d=i::F1 L (L.length-(A9.length+1)) (cl L i).s):=C;obtain⟨fn,av,ad,al,hy,hR⟩:=hY A9 i wr hi ah;have M:=(HK.o.names i hi).2;have S:=HK.o.row i hi;have f0:wr.cell? (p.add (i*4))=O (Z (cl L i).n):=S 0 _ rfl;have f1:wr.cell? ⟨(p.add (i*4)).block,(p.add (i*4)).off+1,N⟩=O (Z (cl L i).s):=by rw[C2 p (i*4) 0];exact S 1 _ rfl
   have f2:wr.cell? ⟨(p.add (i*4)).block,(p.add (i*4)).off+2,N⟩=O (V (q i).fa (cl L i).f.length (q i).fk):=by rw[C2 p (i*4) 1];exact S 2 _ rfl
   have f3:wr.cell? ⟨(p.add (i*4)).block,(p.add (i*4)).off+3,N⟩=O (V (q i).ma (cl L i).m.length (q i).mc):=by rw[C2 p (i*4) 2];exact S 3 _ rfl
   have c0:=HK.o.c0;rw[g];simp only[ub];clear S C;have a':(Instr.yield l #[Q #[Z (cl L i).n, Z (cl L i).s, V (q i).fa (cl L i).f.length (q i).fk, V (q i).ma (cl L i).m.length (q i).mc]]).run prog wr= .ok (.round l fn av ad al) wr:=hy;clear hy;gi_wp2
   refine hR.mono ?_;rintro e W3 (⟨rfl,hJ3,hk3,hk4⟩|⟨rfl,hJx3⟩)
   ·have E:=A1 (HK.o.below hk3 ao);have a0:W3.cell? ⟨b1,0,N⟩=O (U (O ⟨b,0,N⟩)):=by rw[World.cell?_of_block (w:=wr) hk4];exact K
    have a4:=E.o.c0;have a5:=E.o.c1;have ay:W3.cell? ⟨(p.add (i*4)).block,(p.add (i*4)).off+1,N⟩=O (Z (cl L i).s):=by rw[C2 p (i*4) 0];exact E.o.row i hi 1 _ rfl
    obtain⟨sp,ai⟩:=Oe ((cl L i).s)
    rw[<-ai]at ay M;obtain⟨a3,aa⟩:∃v,v=E9 L sp:=⟨_,rfl⟩
    obtain⟨a2,T⟩:∃v,v=(C8 L sp).getD 0:=⟨_,rfl⟩
    have y:=λk:Nat=>a7k (w:=W3.drewN k) E.o.n1 sp M
    rw[<-aa,<-T]at y;have ac:=A1 aa;have ab:=A1 T;have ax:=A1 ai;clear aa T ai f0 f1 f2 f3 c0 hk3 hk4 K;gi_wp2
    gi_quiet (fail)
    go_roundw
    case rel=>
     exact⟨.int I a2, G a3,_,_,_,_,_,_,_,_,_,_,_,_,_,_,_,_,_,_,_,_,_,_,_,_,_,_,_,_,⟨A9++ [i],sp,ag _ _ _ hJ3 (F4 _ _ _),by rw[af.o,HS.o,ax.o,vb,vc];simp,M,by rw[ab.o],by rw[ac.o],E.o.drewN _,a0⟩,rfl⟩
    case measure=>
     have h1:=aq (A9++ [i]) _ (ag _ _ _ hJ3 (F4 W3 nq N));have h2:=aw.o;simp only[vb,vc]at h1;show mu (W3.drewN nq)<mu wr;omega
   ·gi_wp2
    go_end0;exact⟨⟨_,rfl⟩, .inr ⟨A9++ [i],⟨F1 L (L.length-(A9.length+1)) (cl L i).s,by rw[af.o,HS.o];simp⟩,hJx3⟩⟩
theorem c1o(F:Fence)(n:Nat)(hF:F.fn 254)(af:F.round=N)(hn:1<=n)(M b1 C lim b:Nat)(L:List Cl)(p:lj)(cap m1 m2 m3:Nat)(q:Nat->Qs)(nm:ByteArray)(ae:nm.size<=lh)(w:la)
 (E:b1<w.heap.size) (K:C<w.heap.size) (aa:w.cell? ⟨b1,0,N⟩=O (U (O ⟨b,0,N⟩))) (ab:w.cell? ⟨C,0,N⟩=O (Z nm)) (hK:X (L4 w lim b L p cap m1 m2 m3 q)) (y:lim<=M) (ad:M<=w.heap.size):
 b3R F n prog 254 #[U (O ⟨b1,0,N⟩), U (O ⟨C,0,N⟩)] (λi:Ci L=> #[a3w L q i.1]) (KpU M b1) (λys=>o6 ys=F1 L L.length nm) (λA9=>o6 A9<+:F1 L L.length nm) L.length w:=λl mu J Jx W T hJ S ac hY h0=>by
 refine(b9z F n hF af hn l M b1 C lim b L p cap m1 m2 m3 q nm ae mu (λA9 W=>∃g:List (Ci L),o6 g=A9/\J g W) (λA9 W=>∃g:List (Ci L),o6 g=A9/\Jx g W)
  (λA9 A B d hg=>by obtain⟨g,e,d⟩:=d;exact⟨g,e,hJ g A B N d hg (λr e=>by cases e)⟩) (λA9 A B d hg=>by obtain⟨g,e,d⟩:=d;exact⟨g,e,S g A B N d hg (λr e=>by cases e)⟩)
  (λA9 W d=>by obtain⟨g,rfl,d⟩:=d;simpa[o6]using ac g W d)
  (λA9 x W1 hx d=>by
    obtain⟨g,rfl,d⟩:=d;refine(hY g ⟨x,hx⟩ W1 d).mono (λe W' hr=> ?_);rcases hr with⟨E,K,h3⟩|⟨E,K⟩
    ·exact .inl ⟨E,⟨_,by simp[o6],K⟩,h3⟩
    ·exact .inr ⟨E,⟨_,by simp[o6],K⟩⟩) W
  ((T.cell (p:=⟨b1,0,N⟩) E).trans aa) ((T.cell (p:=⟨C,0,N⟩) K).trans ab) (hK.o.below T (lu y ad)) y ⟨[],rfl,h0⟩).mono ?_
 rintro e W' ⟨hv,⟨ys,rfl,g,he,d⟩|⟨A9,hp,g,rfl,d⟩⟩
 ·exact⟨hv, .inl ⟨g,he,d⟩⟩
 ·exact⟨hv, .inr ⟨g,hp,d⟩⟩
attribute [local go_sem] Oper.semAt_some
theorem b2q(l:List Cl):∀(k:Nat) (n:ByteArray),(F1 l k n).length<=k
 |0,_=>lf _
 |k+1,n=>by
  show(match C8 l n with|none=> []|some i=>i::F1 l k (cl l i).s).length<=k+1;cases C8 l n with
  |none=>exact Nat.zero_le _
  |some i=>have:=b2q l k (cl l i).s;simp;omega
def c4B(A:Act)(W:la):Exit->Act->la->Prop
 | .normal,a,w=>a=A/\w=W
 | .panic _,_,_=>False
 | .outgrown,_,_=>False
 | .ret,_,_=>False
 | .exit _,_,_=>False
 | .goto _,_,_=>False
variable {a:Act}
theorem c1l{F:Fence}{P:nh}{c:lq}{Q:Exit->Act->la->Prop}(A:Act)(W:la)(h:c.wpIn F n P (c4B A W) a w)(hQ:Q .normal A W):c.wpIn F n P Q a w:=
 wpIn_mono h (λe y w' hh=>by
  cases e with
  |normal=>obtain⟨d,g⟩:=hh;subst d g;exact hQ
  |panic ch=>exact hh.elim
  |outgrown=>exact hh.elim
  |ret=>exact hh.elim
  |exit id=>exact hh.elim
  |goto id=>exact hh.elim)
theorem b7O{a:la}(h:lg B a W):lg B a W.drew:=⟨h.os,h.tape,h.output,h.size,h.block⟩
def a9W(B:Nat)(W:la):Nat:=match W.cell? ⟨B,0,N⟩with|some (J I v)=>v.toNat|_=>0
variable {t:TypeId}
theorem c1P(h:A4 W B #[J I (n:Int)] t):a9W B W=n:=by
 unfold a9W;rw[h.cell 0 _ rfl];simp
theorem a0M{Fr:(Nat->le)->Act}(h:a=Fr (λk=>a.tmps.getD k undef)):∃t,a=Fr t:=⟨_,h⟩
theorem b5L(w:la)(lim b:Nat)(L:List Cl)(p:lj)(cap m1 m2 m3:Nat)(q:Nat->Qs)(h:Hid (L4 w lim b L p cap m1 m2 m3 q))(hl:lim<=w.heap.size)(i:Nat)(hi:i<L.length):
 lk prog 160 #[U (O ⟨b,0,N⟩), J I i] w λe w'=>e= .returned (G (loP L i))/\w.grownBy w' N:=by
 have bq:=h.o.small;obtain⟨M,ap⟩:=Oe L.length
 obtain⟨S,ah⟩:=Oe ((cl L i).s)
 obtain⟨nm,aq⟩:=Oe ((cl L i).n)
 have ak:=A1 ah;have aj:=A1 aq;have a0:=A1 ap;have ax:=(h.o.names i hi).2;rw[<-ah]at ax
 have av:∀W:la,lg w.heap.size w W->W.cell? ⟨b,0,N⟩=O (V (O p) M cap)/\W.cell? ⟨(p.add (i*4)).block,(p.add (i*4)).off+1,N⟩=O (Z S)/\W.cell? (p.add (i*4))=O (Z nm):=λW hW=>by
  have HK:=h.o.below hW hl;refine⟨by rw[ap];exact HK.c0,by rw[C2 p (i*4) 0,ah];exact HK.row i hi 1 _ rfl,by rw[aq];exact HK.row i hi 0 _ rfl⟩
 have bl:i<M:=by omega
 have bg:M<=65536:=by omega
 have ai:=A1 av;clear ap ah aq av;have bd:=ai.o ((((w.alloc (H #[U (O ⟨b,0,N⟩)] 156)).alloc (H #[J I i] 3)).alloc (H #[G false] 4))) ((((Below.refl _ w).alloc (lf _) _).alloc Os _).alloc Oi _);have be:=ai.o (((((w.alloc (H #[U (O ⟨b,0,N⟩)] 156)).alloc (H #[J I i] 3)).alloc (H #[G false] 4)).alloc (H #[J I (M:Int)] 3))) (((((Below.refl _ w).alloc (lf _) _).alloc Os _).alloc Oi _).alloc Oi _);obtain⟨a1,a2,a3⟩:=bd;obtain⟨a4,a5,a6⟩:=be;refine(callsIn_wide (n:=9)).1 ?_;refine vd func160 rfl trivial ?_ rfl;simp only[ntmps160,uc,ud,nj,ue,uf,ug,uh,ui,uj,uk,ul];have aw:prog.follows .mixedOrders=true:=by kernel_rfl
 gi_wp2
 refine c1l {tmps:= #[U (O ⟨b,0,N⟩), J I (i:Int), U (O ⟨w.heap.size,0,N⟩), U (O ⟨w.heap.size+1,0,N⟩), U (O ⟨w.heap.size+1+1,0,N⟩), U (O ⟨w.heap.size+1+1+1,0,N⟩),undef, U (O ⟨b,0,N⟩), U (O ⟨b,0,N⟩), U (O ⟨b,0,N⟩), V (O p) M cap, J I (M:Int), U (O ⟨b,0,N⟩), U (O ⟨b,0,N⟩), U (O ⟨b,0,N⟩), U (O ⟨b,0,N⟩), V (O p) M cap, J I (i:Int), U (O (p.add (i*4))), U (O ⟨(p.add (i*4)).block,(p.add (i*4)).off+1,N⟩), Z S, .func (.func 254) #[] #[U (O ⟨w.heap.size+1+1+1+1,0,N⟩), U (O ⟨w.heap.size+1+1+1+1+1,0,N⟩)],undef,undef,undef,undef,undef,undef,undef,undef,undef,undef,undef,undef,undef,undef,undef,undef],defers:=[]} ((((((w.alloc (H #[U (O ⟨b,0,N⟩)] 156)).alloc (H #[J I (i:Int)] 3)).alloc (H #[G false] 4)).alloc (H #[J I (M:Int)] 3)).alloc (H #[U (O ⟨b,0,N⟩)] 156)).alloc (H #[Z S] 9)).drew ?reg ?cont
 case reg=>
  gi_region_with_o (refine⟨trivial,?_⟩;gi_at_call 167;refine(a5V _ _ trivial rfl _ _ _).mono ?_;rintro e w' ⟨rfl,rfl⟩)
  all_goals exact⟨rfl,rfl⟩
 clear aw a1 a2 a3 a4 a5 a6;gi_wp2
 have am:lg w.heap.size w ((((((w.alloc (H #[U (O ⟨b,0,N⟩)] 156)).alloc (H #[J I (i:Int)] 3)).alloc (H #[G false] 4)).alloc (H #[J I (M:Int)] 3)).alloc (H #[U (O ⟨b,0,N⟩)] 156)).alloc (H #[Z S] 9)).drew:=b7O (((((((Below.refl _ w).alloc (lf _) _).alloc Os _).alloc Oi _).alloc Oi _).alloc Oi _).alloc Oi _);have bc:((((((w.alloc (H #[U (O ⟨b,0,N⟩)] 156)).alloc (H #[J I (i:Int)] 3)).alloc (H #[G false] 4)).alloc (H #[J I (M:Int)] 3)).alloc (H #[U (O ⟨b,0,N⟩)] 156)).alloc (H #[Z S] 9)).drew.heap.size=w.heap.size+6:=by simp[lw]
 have k0:=((((((A4.new w #[U (O ⟨b,0,N⟩)] 156).keep (A2 _ (H #[J I (i:Int)] 3) N) Os).keep (A2 _ (H #[G false] 4) N) Os).keep (A2 _ (H #[J I (M:Int)] 3) N) Os).keep (A2 _ (H #[U (O ⟨b,0,N⟩)] 156) N) Os).keep (A2 _ (H #[Z S] 9) N) Os).keep (A7 _ N) Os;have k1:=(((((A4.new (w.alloc (H #[U (O ⟨b,0,N⟩)] 156)) #[J I (i:Int)] 3).keep (A2 _ (H #[G false] 4) N) Os).keep (A2 _ (H #[J I (M:Int)] 3) N) Os).keep (A2 _ (H #[U (O ⟨b,0,N⟩)] 156) N) Os).keep (A2 _ (H #[Z S] 9) N) Os).keep (A7 _ N) Os;have k2:=((((A4.new ((w.alloc (H #[U (O ⟨b,0,N⟩)] 156)).alloc (H #[J I (i:Int)] 3)) #[G false] 4).keep (A2 _ (H #[J I (M:Int)] 3) N) Os).keep (A2 _ (H #[U (O ⟨b,0,N⟩)] 156) N) Os).keep (A2 _ (H #[Z S] 9) N) Os).keep (A7 _ N) Os;have k3:=(((A4.new (((w.alloc (H #[U (O ⟨b,0,N⟩)] 156)).alloc (H #[J I (i:Int)] 3)).alloc (H #[G false] 4)) #[J I (M:Int)] 3).keep (A2 _ (H #[U (O ⟨b,0,N⟩)] 156) N) Os).keep (A2 _ (H #[Z S] 9) N) Os).keep (A7 _ N) Os;have k4:=((A4.new ((((w.alloc (H #[U (O ⟨b,0,N⟩)] 156)).alloc (H #[J I (i:Int)] 3)).alloc (H #[G false] 4)).alloc (H #[J I (M:Int)] 3)) #[U (O ⟨b,0,N⟩)] 156).keep (A2 _ (H #[Z S] 9) N) Os).keep (A7 _ N) Os;have k5:=(A4.new (((((w.alloc (H #[U (O ⟨b,0,N⟩)] 156)).alloc (H #[J I (i:Int)] 3)).alloc (H #[G false] 4)).alloc (H #[J I (M:Int)] 3)).alloc (H #[U (O ⟨b,0,N⟩)] 156)) #[Z S] 9).keep (A7 _ N) Os;simp only[ni]at k1 k2 k3 k4 k5;obtain⟨W0,au⟩:∃W0,((((((w.alloc (H #[U (O ⟨b,0,N⟩)] 156)).alloc (H #[J I (i:Int)] 3)).alloc (H #[G false] 4)).alloc (H #[J I (M:Int)] 3)).alloc (H #[U (O ⟨b,0,N⟩)] 156)).alloc (H #[Z S] 9)).drew=W0:=⟨_,rfl⟩
 rw[au]at am bc k0 k1 k2 k3 k4 k5⊢;clear au;have ay:=A1 (h.o.below am hl)
 refine b7h rfl Oo (gf:=254) (lb:= #[U (O ⟨w.heap.size+1+1+1+1,0,N⟩), U (O ⟨w.heap.size+1+1+1+1+1,0,N⟩)]) rfl trivial (enters_of func254 Ok0 rfl)
  (c1o _ _ trivial rfl Oo w.heap.size (w.heap.size+1+1+1+1) (w.heap.size+1+1+1+1+1) lim b L p cap m1 m2 m3 q S ax W0 Oo Oo (k4.cell 0 _ rfl) (k5.cell 0 _ rfl) ay hl Oo) a6r (a6s Oo Oo) (Below.refl _ _) (λ_=>rfl) (a9W (w.heap.size+1+1+1))
  (λA9 W=>((∀k∈A9,(cl L k.1).n≠nm)/\A9.length<L.length/\A4 W (w.heap.size+1+1+1) #[J I ((L.length-A9.length:Nat):Int)] 3/\A4 W (w.heap.size) #[U (O ⟨b,0,N⟩)] 156/\A4 W (w.heap.size+1) #[J I (i:Int)] 3/\A4 W (w.heap.size+1+1) #[G false] 4/\A4 W (w.heap.size+1+1+1+1+1) #[Z S] 9)/\lg w.heap.size w W)
  (λd A9 W=>(((d= .ret/\∃k∈A9,(cl L k.1).n=nm)\/(d= .exit 0/\A9.length=L.length/\∀k∈A9,(cl L k.1).n≠nm))/\∃v,(d= .ret->v=true)/\A4 W (w.heap.size+1+1) #[G v] 4)/\lg w.heap.size w W)
  (OwnFrom.and (λs X Y row hs hg hr=>⟨hs.1,hs.2.1,Own.from (P6 _ _ _) _ () X Y row hs.2.2.1 hg hr,Own.from (P6 _ _ _) _ () X Y row hs.2.2.2.1 hg hr,Own.from (P6 _ _ _) _ () X Y row hs.2.2.2.2.1 hg hr,Own.from (P6 _ _ _) _ () X Y row hs.2.2.2.2.2.1 hg hr,Own.from (P6 _ _ _) _ () X Y row hs.2.2.2.2.2.2 hg hr⟩) (nk (lf _) Oo))
  (λd=>OwnFrom.and (λs X Y row hs hg hr=>by obtain⟨h1,v,h2,h3⟩:=hs;exact⟨h1,v,h2,Own.from (P6 _ _ _) _ () X Y row h3 hg hr⟩) (nk (lf _) Oo))
  (λA9 W hI=>⟨hI.1.2.1,by rw[c1P hI.1.2.2.1];have:=hI.1.2.1;omega⟩)
  ⟨⟨by simp,by simp;omega,by rw[nj,Nat.sub_zero,<-a0.o];exact k3,k0,k1,k2,k5⟩,am⟩
  (λx a' W=>∃Bx:Nat,w.heap.size+6<=Bx/\A4 W Bx #[Z (cl L x.1).n, Z (cl L x.1).s, V (q x.1).fa (cl L x.1).f.length (q x.1).fk, V (q x.1).ma (cl L x.1).m.length (q x.1).mc] 44/\∃t:Nat->le,a'={tmps:= #[t 0,t 1, U (O ⟨w.heap.size,0,N⟩), U (O ⟨w.heap.size+1,0,N⟩), U (O ⟨w.heap.size+1+1,0,N⟩), U (O ⟨w.heap.size+1+1+1,0,N⟩), U (O ⟨Bx,0,N⟩),t 7,t 8,t 9,t 10,t 11,t 12,t 13,t 14,t 15,t 16,t 17,t 18,t 19,t 20,t 21,t 22,t 23,t 24,t 25,t 26,t 27,t 28,t 29,t 30,t 31,t 32,t 33,t 34,t 35,t 36,t 37],defers:=[]})
  (λx a' _ X Y row hs hg hr=>by obtain⟨Bx,h1,h2,h3⟩:=hs;exact⟨Bx,h1,P6 Bx _ _ () X Y row h2 hg (λr e=>(hr r e).2),h3⟩)
  ?assign ?body ?done ?stop
 case assign=>
  rintro l A9 x W K ⟨⟨hne,ae,C,T,aa,g,ab⟩,y⟩ hK;dsimp only[a3w,G9];gi_wp2
  have h3:=ab.lt;exact hK _ _ ((KeepsOthers.alloc _ _).from _) ⟨(Below.refl _ W).alloc y.size _,Below.heap_alloc W _ _ Oo⟩ ⟨⟨hne,ae,C.keep (A2 _ _ N) Os,T.keep (A2 _ _ N) Os,aa.keep (A2 _ _ N) Os,g.keep (A2 _ _ N) Os,ab.keep (A2 _ _ N) Os⟩,y.alloc y.size _⟩ ⟨W.heap.size,by omega,A4.new W _ _,a0M rfl⟩
 case body=>
  rintro l A9 x a' W ⟨⟨hne,ae,C,T,aa,g,ab⟩,y⟩ ⟨Bx,bj,a7,t,rfl⟩;have bm:=ab.lt;obtain⟨m,hm⟩:=Oe (L.length-A9.length)
  have bn:0<m:=by omega
  have bp:m<=65536:=by omega
  rw[<-hm]at C;have HM:=A1 hm;have az:=A1 ae;clear hm ae;obtain⟨c0,c1,c2⟩:=ai.o W y;have cx:=a7.c0;have d0:=T.c0;have d1:=aa.c0;have d2:=g.c0;have bh:=g.frozen 0;have d3:=C.c0;have bi:=C.frozen 0;have l0:=T.lt;have l1:=aa.lt;have l2:=g.lt;have l3:=C.lt;obtain⟨xn,ar⟩:=Oe ((cl L x.1).n)
  have al:=A1 ar;rw[<-ar]at cx;clear ar;by_cases hxe:xn=nm
  ·subst hxe;gi_wp2
   refine a4s rfl Ok0 Ok0 Ok0 ?_;repeat (gi_big_quiet_step (fail))
   refine un ?_;intro _ ag;obtain⟨nq,E⟩:=ag;subst E;gi_wp2
   exact⟨(a4t _ _ _).trans ((KeepsOthers.setCell _ _ _).from _),⟨.inl ⟨rfl,x,by simp,al.o.symm⟩,true,λ_=>rfl,A4.set (w:=W.drewN nq) g 0 (G true)⟩,(a2K y nq).setCell (p:=⟨w.heap.size+1+1,0,N⟩) Oi _⟩
  ·have bk:=l6 hxe;by_cases hm1:m=1
   ·subst hm1;gi_wp2
    refine a4s rfl Ok0 Ok0 Ok0 ?_;repeat (gi_big_quiet_step (fail))
    refine un ?_;intro _ ag;obtain⟨nq,E⟩:=ag;subst E;gi_wp2
    exact⟨(a4t _ _ _).trans ((KeepsOthers.setCell _ _ _).from _),⟨.inr ⟨rfl,by have:=HM.o;have:=az.o;simp;omega,λk hk=>(um.1 hk).elim (hne k) (λe=>by simp at e;subst e;rw[<-al.o];exact hxe)⟩,false,(λe=>by cases e),A4.keep (w:=W.drewN nq) g (A6 _ ⟨w.heap.size+1+1+1,0,N⟩ _) (by first|(simp;done)|(simp;omega))⟩,(a2K y nq).setCell (p:=⟨w.heap.size+1+1+1,0,N⟩) (by first|(simp;done)|(simp;omega)) _⟩
   ·have bo:(((m:Int)-1)==0)=false:=by simp;omega
    gi_wp2
    refine a4s rfl Ok0 Ok0 Ok0 ?_;repeat (gi_big_quiet_step (fail))
    refine un ?_;intro _ ag;obtain⟨nq,E⟩:=ag;subst E;gi_wp2
    have e3:((m:Int)-1)=((L.length-(A9++ [x]).length:Nat):Int):=by have:=HM.o;simp;omega
    exact⟨(a4t _ _ _).trans ((KeepsOthers.setCell _ _ _).from _),⟨(a2K (Below.refl _ W) nq).setCell (p:=⟨w.heap.size+1+1+1,0,N⟩) (by first|(simp;done)|(simp;omega)) _,heap_setCell_other _ _ _ _ (by first|(simp;done)|(simp;omega))⟩,
     ⟨λk hk=>(um.1 hk).elim (hne k) (λe=>by simp at e;subst e;rw[<-al.o];exact hxe),by have:=HM.o;simp;omega,e3▸(A4.set (w:=W.drewN nq) C 0 (J I ((m:Int)-1))),
      A4.keep (w:=W.drewN nq) T (A6 _ ⟨w.heap.size+1+1+1,0,N⟩ _) (by first|(simp;done)|(simp;omega)),A4.keep (w:=W.drewN nq) aa (A6 _ ⟨w.heap.size+1+1+1,0,N⟩ _) (by first|(simp;done)|(simp;omega)),A4.keep (w:=W.drewN nq) g (A6 _ ⟨w.heap.size+1+1+1,0,N⟩ _) (by first|(simp;done)|(simp;omega)),A4.keep (w:=W.drewN nq) ab (A6 _ ⟨w.heap.size+1+1+1,0,N⟩ _) (by first|(simp;done)|(simp;omega))⟩,
     (a2K y nq).setCell (p:=⟨w.heap.size+1+1+1,0,N⟩) (by first|(simp;done)|(simp;omega)) _⟩
 case done=>
  rintro D ys W hD bf ⟨⟨hne,ae,C,T,aa,g,ab⟩,y⟩ hK;have cr:=g.c0;have fr:=g.frozen 0;gi_wp2
  have an:=(KeepsOthers.setCell W ⟨w.heap.size+1+1,0,N⟩ (G false)).same D _ hK rfl;refine⟨by simp, .inl ⟨_,_,rfl,ng an,?_⟩⟩;have ac:=(g.set 0 (G false)).keep (lo _ D (.deferred N)) Oi;have ad:=ac.c0
  have hf:loP L i=false:=by
   unfold loP;rw[nb,<-ak.o,<-bf,<-aj.o];exact c6i
  rw[hf];exact⟨G false,by simp[lm,results160,go_sem,ad],rfl,a1e ((y.setCell (p:=⟨w.heap.size+1+1,0,N⟩) Oi _).grown (lo _ D _) (by simp;exact y.size) (λk e=>by cases e;omega))⟩
 case stop=>
  rintro D d A9 W hD af ⟨⟨ao,v,hv,g⟩,y⟩ hK;rcases ao with⟨rfl,k,hk,ba⟩|⟨rfl,bb,hne⟩
  ·obtain rfl:=hv rfl;have cr:=g.c0;gi_wp2
   refine⟨by simp, .inl ⟨_,_,rfl,ng hK,?_⟩⟩;have ac:=g.keep (lo _ D (.deferred N)) Oi;have ad:=ac.c0
   have hf:loP L i=true:=by
    unfold loP;rw[na,<-ak.o,<-aj.o];exact⟨k.1,af.subset (nd.2 ⟨k,hk,rfl⟩),by simpa using ba⟩
   rw[hf];exact⟨G true,by simp[lm,results160,go_sem,ad],rfl,a1e (y.grown (lo _ D _) y.size (λk e=>by cases e;omega))⟩
  ·have cr:=g.c0;have fr:=g.frozen 0;gi_wp2
   have an:=(KeepsOthers.setCell W ⟨w.heap.size+1+1,0,N⟩ (G false)).same D _ hK rfl;refine⟨by simp, .inl ⟨_,_,rfl,ng an,?_⟩⟩;have ac:=(g.set 0 (G false)).keep (lo _ D (.deferred N)) Oi;have ad:=ac.c0
   have hf:loP L i=false:=by
    have hy:o6 A9=F1 L L.length S:=af.eq_of_length (by
     have h1:=af.length_le;have h2:=b2q L L.length S;have h3:(o6 A9).length=L.length:=by unfold o6;rw[List.length_map];exact bb
     omega)
    unfold loP;rw[nb,<-ak.o,<-hy,<-aj.o];exact c6i
   rw[hf];exact⟨G false,by simp[lm,results160,go_sem,ad],rfl,a1e ((y.setCell (p:=⟨w.heap.size+1+1,0,N⟩) Oi _).grown (lo _ D _) (by simp;exact y.size) (λk e=>by cases e;omega))⟩
attribute [local go_sem] Oper.semAt_some
def a4i(L:List Cl)(i k r:Nat):Bool:=match a2V (cl L k) ((cl L i).m.getD r G3).n with|none=>false|some o=> !a1V ((cl L i).m.getD r G3) o
theorem b7k{n:ByteArray}(h:L2 c n=N):a2V c n=N:=by
 unfold L2 at h;unfold a2V;rw[uv];intro m d;have:=ua.1 h m d;simpa using this
theorem b7j{n:ByteArray}{f:Nat}(h:L2 c n=O f):a2V c n=O (c.m.getD f G3):=by
 unfold L2 at h;obtain⟨d,e,g⟩:=List.findIdx?_eq_some_iff_getElem.1 h;unfold a2V;rw[List.find?_eq_some_iff_getElem];refine⟨by rw[lr,ly d];exact e,f,d,by rw[lr,ly d];rfl,λj y=>by simpa using g j y⟩
theorem b3C(L:List Cl)(i:Nat):ovP L i=(up L (cl L i).s).any λk=>(li (cl L i).m.length).any (a4i L i k):=by
 unfold ovP;refine a5f λk _=> ?_
 exact(b2t (λm:Me=>match a2V (cl L k) m.n with|none=>false|some o=> !a1V m o) G3 _).symm
theorem a8j(h:w.grownBy w' N):lg w.heap.size w w':=⟨h.os,h.tape,h.output,h.size,λk hk=>h.block k hk Os⟩
theorem b5T(h:w.grownBy w' N)(d:B<=w.heap.size):lg B w w':=(a8j h).mono d
theorem b6g(h:P8 w lim L q)(hb:lg B w w')(hl:lim<=B):P8 w' lim L q:=λi hi j d=>by
 obtain⟨p,pa,ca,ha,pk,ck,hk,h1,h2,h3,h4,h5,h6⟩:=h i hi j d;exact c6l
theorem b4T(w:la)(lim b:Nat)(L:List Cl)(p:lj)(cap m1 m2 m3:Nat)(q:Nat->Qs)(h:Hid (L4 w lim b L p cap m1 m2 m3 q))(hl:lim<=w.heap.size)(hU:Hid (UpL L))(hD:Hid (a1z L))(a1:Hid (a0N I8 L))(hZ:Hid (SzL L))(hP:Hid (P8 w lim L q))(i:Nat)(hi:i<L.length):
 lk prog 163 #[U (O ⟨b,0,N⟩), J I i] w λe w'=>e= .returned (G (ovP L i))/\w.grownBy w' N:=by
 obtain⟨ci,ag⟩:=Oe (cl L i)
 obtain⟨nM,a3⟩:=Oe ci.m.length
 have a6:=A1 ag;have bb:=A1 a3;have ce:ci.s.size<=lh:=by rw[ag];exact(h.o.names i hi).2
 have cz:nM<=65536:=by rw[a3,ag];exact(hZ.o i hi).2.2.2
 have bt:∀W:la,lg w.heap.size w W->W.cell? ⟨b,0,N⟩=O (V (O p) L.length cap)/\W.cell? (p.add (i*4))=O (Z ci.n)/\W.cell? ⟨(p.add (i*4)).block,(p.add (i*4)).off+1,N⟩=O (Z ci.s)/\W.cell? ⟨(p.add (i*4)).block,(p.add (i*4)).off+2,N⟩=O (V (q i).fa ci.f.length (q i).fk)/\W.cell? ⟨(p.add (i*4)).block,(p.add (i*4)).off+3,N⟩=O (V (q i).ma nM (q i).mc):=λW hW=>by
  have HK:=h.o.below hW hl;refine⟨HK.c0,by rw[ag];exact HK.row i hi 0 _ rfl,by rw[C2 p (i*4) 0,ag];exact HK.row i hi 1 _ rfl,by rw[C2 p (i*4) 1,ag];exact HK.row i hi 2 _ rfl,by rw[C2 p (i*4) 2,a3,ag];exact HK.row i hi 3 _ rfl⟩
 obtain⟨b0,b1,E,b2,b3⟩:=bt ((w.alloc (H #[U (O ⟨b,0,N⟩)] 156)).alloc (H #[G false] 4)) ((((Below.refl _ w).alloc (lf _) _).alloc Os _));clear ag a3 bt;refine(callsIn_wide (n:=9)).1 ?_;refine vd func163 rfl trivial ?_ rfl;simp only[ntmps163,uc,ud,nj,ue,uf,ug,uh,ui,uj,uk,ul];gi_wp2_with (refine⟨trivial,?_⟩;gi_at_call 167;refine(a5V _ _ trivial rfl _ _ _).mono ?_;rintro e w' ⟨rfl,rfl⟩)
 have bf:lg w.heap.size w (((((w.alloc (H #[U (O ⟨b,0,N⟩)] 156)).alloc (H #[G false] 4)).alloc (H #[Z ci.n, Z ci.s, V (q i).fa ci.f.length (q i).fk, V (q i).ma nM (q i).mc] 44)).alloc (H #[U (O ⟨b,0,N⟩)] 156)).alloc (H #[Z ci.s] 9)):=(((((Below.refl _ w).alloc (lf _) _).alloc Os _).alloc Oi _).alloc Oi _).alloc Oi _;have cf:(((((w.alloc (H #[U (O ⟨b,0,N⟩)] 156)).alloc (H #[G false] 4)).alloc (H #[Z ci.n, Z ci.s, V (q i).fa ci.f.length (q i).fk, V (q i).ma nM (q i).mc] 44)).alloc (H #[U (O ⟨b,0,N⟩)] 156)).alloc (H #[Z ci.s] 9)).heap.size=w.heap.size+5:=by simp
 have k0:=((((A4.new w #[U (O ⟨b,0,N⟩)] 156).keep (A2 _ (H #[G false] 4) N) Os).keep (A2 _ (H #[Z ci.n, Z ci.s, V (q i).fa ci.f.length (q i).fk, V (q i).ma nM (q i).mc] 44) N) Os).keep (A2 _ (H #[U (O ⟨b,0,N⟩)] 156) N) Os).keep (A2 _ (H #[Z ci.s] 9) N) Os;have k1:=(((A4.new (w.alloc (H #[U (O ⟨b,0,N⟩)] 156)) #[G false] 4).keep (A2 _ (H #[Z ci.n, Z ci.s, V (q i).fa ci.f.length (q i).fk, V (q i).ma nM (q i).mc] 44) N) Os).keep (A2 _ (H #[U (O ⟨b,0,N⟩)] 156) N) Os).keep (A2 _ (H #[Z ci.s] 9) N) Os;have k2:=((A4.new ((w.alloc (H #[U (O ⟨b,0,N⟩)] 156)).alloc (H #[G false] 4)) #[Z ci.n, Z ci.s, V (q i).fa ci.f.length (q i).fk, V (q i).ma nM (q i).mc] 44).keep (A2 _ (H #[U (O ⟨b,0,N⟩)] 156) N) Os).keep (A2 _ (H #[Z ci.s] 9) N) Os;have k3:=(A4.new (((w.alloc (H #[U (O ⟨b,0,N⟩)] 156)).alloc (H #[G false] 4)).alloc (H #[Z ci.n, Z ci.s, V (q i).fa ci.f.length (q i).fk, V (q i).ma nM (q i).mc] 44)) #[U (O ⟨b,0,N⟩)] 156).keep (A2 _ (H #[Z ci.s] 9) N) Os;have k4:=A4.new ((((w.alloc (H #[U (O ⟨b,0,N⟩)] 156)).alloc (H #[G false] 4)).alloc (H #[Z ci.n, Z ci.s, V (q i).fa ci.f.length (q i).fk, V (q i).ma nM (q i).mc] 44)).alloc (H #[U (O ⟨b,0,N⟩)] 156)) #[Z ci.s] 9;simp only[ni]at k1 k2 k3 k4;obtain⟨W0,bq⟩:∃W0,((((w.alloc (H #[U (O ⟨b,0,N⟩)] 156)).alloc (H #[G false] 4)).alloc (H #[Z ci.n, Z ci.s, V (q i).fa ci.f.length (q i).fk, V (q i).ma nM (q i).mc] 44)).alloc (H #[U (O ⟨b,0,N⟩)] 156)).alloc (H #[Z ci.s] 9)=W0:=⟨_,rfl⟩
 rw[bq]at bf cf k0 k1 k2 k3 k4⊢;clear bq b0 b1 E b2 b3;have bw:=A1 (h.o.below bf hl)
 refine wpIn_rangeFunc_ownH rfl Oo (gf:=254) (lb:= #[U (O ⟨w.heap.size+1+1+1,0,N⟩), U (O ⟨w.heap.size+1+1+1+1,0,N⟩)]) rfl trivial (enters_of func254 Ok0 rfl)
  (a7b _ _ trivial rfl Oo w.heap.size (w.heap.size+1+1+1) (w.heap.size+1+1+1+1) lim b L p cap m1 m2 m3 q ci.s ce hU W0 Oo Oo (k3.cell 0 _ rfl) (k4.cell 0 _ rfl) bw hl Oo) a6r (a6s Oo Oo) (Below.refl _ _) (λ_=>rfl)
  (λA9 W=>((∀k∈A9,∀r,r<nM->a4i L i k.1 r=false)/\A4 W (w.heap.size) #[U (O ⟨b,0,N⟩)] 156/\A4 W (w.heap.size+1) #[G false] 4/\A4 W (w.heap.size+1+1) #[Z ci.n, Z ci.s, V (q i).fa ci.f.length (q i).fk, V (q i).ma nM (q i).mc] 44/\A4 W (w.heap.size+1+1+1+1) #[Z ci.s] 9)/\lg w.heap.size w W)
  (λd A9 W=>(d= .ret/\(∃k∈A9,∃r,r<nM/\a4i L i k.1 r=true)/\A4 W (w.heap.size+1) #[G true] 4)/\lg w.heap.size w W)
  (OwnFrom.and (λs X Y row hs hg hr=>⟨hs.1,Own.from (P6 _ _ _) _ () X Y row hs.2.1 hg hr,Own.from (P6 _ _ _) _ () X Y row hs.2.2.1 hg hr,Own.from (P6 _ _ _) _ () X Y row hs.2.2.2.1 hg hr,Own.from (P6 _ _ _) _ () X Y row hs.2.2.2.2 hg hr⟩) (nk (lf _) Oo))
  (λd=>OwnFrom.and (λs X Y row hs hg hr=>⟨hs.1,hs.2.1,Own.from (P6 _ _ _) _ () X Y row hs.2.2 hg hr⟩) (nk (lf _) Oo))
  ⟨⟨by simp,k0,k1,k2,k4⟩,bf⟩
  (λx a' W=>∃Bx:Nat,w.heap.size+5<=Bx/\A4 W Bx #[Z (cl L x.1).n, Z (cl L x.1).s, V (q x.1).fa (cl L x.1).f.length (q x.1).fk, V (q x.1).ma (cl L x.1).m.length (q x.1).mc] 44/\∃t:Nat->le,a'={tmps:= #[t 0,t 1, U (O ⟨w.heap.size,0,N⟩),t 3, U (O ⟨w.heap.size+1,0,N⟩), U (O ⟨w.heap.size+1+1,0,N⟩), U (O ⟨Bx,0,N⟩),t 7,t 8,t 9,t 10,t 11,t 12,t 13,t 14,t 15,t 16,t 17,t 18,t 19,t 20,t 21,t 22,t 23,t 24,t 25,t 26,t 27,t 28,t 29,t 30,t 31,t 32,t 33,t 34,t 35,t 36,t 37,t 38,t 39,t 40,t 41,t 42,t 43,t 44,t 45,t 46],defers:=[]})
  (λx a' _ X Y row hs hg hr=>by obtain⟨Bx,h1,h2,h3⟩:=hs;exact⟨Bx,h1,P6 Bx _ _ () X Y row h2 hg (λr e=>(hr r e).2),h3⟩)
  ?assign ?body ?done ?stop
 case assign=>
  rintro l A9 x W K ⟨⟨ay,ak,aa,aw,al⟩,M⟩ hK;dsimp only[a3w,G9];gi_wp2
  have h3:=al.lt;exact hK _ _ ((KeepsOthers.alloc _ _).from _) ⟨(Below.refl _ W).alloc M.size _,Below.heap_alloc W _ _ Oo⟩ ⟨⟨ay,ak.keep (A2 _ _ N) Os,aa.keep (A2 _ _ N) Os,aw.keep (A2 _ _ N) Os,al.keep (A2 _ _ N) Os⟩,M.alloc M.size _⟩ ⟨W.heap.size,by omega,A4.new W _ _,a0M rfl⟩
 case body=>
  rintro l A9 x a' W cu _ ⟨⟨ay,ak,aa,aw,al⟩,M⟩ ⟨Bx,cq,bs,t,rfl⟩ cx;have cv:=al.lt;have c2:=aw.c3;gi_wp2
  gi_loopw [26] (λu wx=>∃j:Nat,j<=nM/\u= J I j/\W.grownBy wx N/\∀r,r<j->a4i L i x.1 r=false) (λu _=>nM-(ld u).toNat)
  case atStart=>exact a4r
  case round=>
   obtain⟨j,hj,rfl,bj,hv⟩:=hrel;have T:=A1 bj;have HV:=A1 hv;have ao:=A1 (M.trans ((a8j bj).mono M.size));clear bj hv;by_cases hlj:j<nM
   ·have bx:=A1 (h.o.below ao.o hl);have bo:=A1 (b6g hP.o ao.o hl);have a2:j<(cl L i).m.length:=by rw[<-a6.o,<-bb.o];exact hlj
    obtain⟨pm,pa,ca,ha,pk,ck,hk,e1,e2,e3,e4,e5,e6⟩:=bo.o i hi j a2;obtain⟨y,am⟩:=Oe ((cl L i).m.getD j G3)
    rw[<-am]at e3 e4 e5 e6;have f0:wr.cell? (pm.add (j*8))=O (Z y.n):=e6 0 _ rfl;have f1:wr.cell? ⟨(pm.add (j*8)).block,(pm.add (j*8)).off+1,N⟩=O (V pa y.p.length pk):=by rw[C2 pm (j*8) 0];exact e6 1 _ rfl
    have f2:wr.cell? ⟨(pm.add (j*8)).block,(pm.add (j*8)).off+2,N⟩=O (J I y.r.k):=by rw[C2 pm (j*8) 1];exact e6 2 _ rfl
    have f3:wr.cell? ⟨(pm.add (j*8)).block,(pm.add (j*8)).off+3,N⟩=O (Z y.r.n):=by rw[C2 pm (j*8) 2];exact e6 3 _ rfl
    have f4:wr.cell? ⟨(pm.add (j*8)).block,(pm.add (j*8)).off+4,N⟩=O (J I y.s):=by rw[C2 pm (j*8) 3];exact e6 4 _ rfl
    have f5:wr.cell? ⟨(pm.add (j*8)).block,(pm.add (j*8)).off+5,N⟩=O (J I y.l):=by rw[C2 pm (j*8) 4];exact e6 5 _ rfl
    have f6:wr.cell? ⟨(pm.add (j*8)).block,(pm.add (j*8)).off+6,N⟩=O (V ca y.c.length ck):=by rw[C2 pm (j*8) 5];exact e6 6 _ rfl
    have f7:wr.cell? ⟨(pm.add (j*8)).block,(pm.add (j*8)).off+7,N⟩=O (V ha y.h.length hk):=by rw[C2 pm (j*8) 6];exact e6 7 _ rfl
    have bu:a6w y:=by rw[am];exact(hZ.o i hi).1 j a2
    have bl:y.n.size<=lh:=by
     refine(a1.o (cl L i) (by rw[V8 hi];exact ll hi)).2 y.n ?_;unfold I8;exact nd.2 ⟨y,by rw[am,lr,ly a2];exact ll a2,rfl⟩
    have a4:=(h.o.names x.1 x.2).1;obtain⟨xn,ai⟩:=Oe ((cl L x.1).n)
    have bp:=A1 e3;have bm:Hid (a4i L i x.1 j=match a2V (cl L x.1) y.n with|none=>false|some o=> !a1V y o):=by unfold Hid a4i;rw[<-am]
    have a5:∀ob,wr.grownBy (wr.alloc ob) N:=λob=>A2 _ _ _
    have ba:Hid (L4 (wr.alloc (H (mV y pa pk ca ck ha hk) 102)) lim b L p cap m1 m2 m3 q):=bx.o.keep (a5 _) (lu hl ao.o.size);have bc:Hid (P8 (wr.alloc (H (mV y pa pk ca ck ha hk) 102)) lim L q):=bo.o.keep (a5 _);have bk:lim<=(wr.alloc (H (mV y pa pk ca ck ha hk) 102)).heap.size:=by have:=ao.o.size;simp;omega
    have aq:=A4.new wr (mV y pa pk ca ck ha hk) 102;have co:=((ak.keep T.o Os).keep (A2 wr (H (mV y pa pk ca ck ha hk) 102) N) Os).c0;have b4:=((bs.keep T.o Os).keep (A2 wr (H (mV y pa pk ca ck ha hk) 102) N) Os).c0;have cp:=aq.c0;have cj:=aa.keep T.o Os;have cw:=T.o.size;have cy:=bs.lt;have ct:=ak.lt;have cm:=aa.lt;rw[<-ai]at b4 a4
    have ah:a2Y L xn y.n=(L2 (cl L x.1) y.n).map λf=>(x.1,f):=by
     unfold a2Y;rw[ai,a6Q hD.o x.2];rfl
    have cn:=A1 ai;clear ai;rw[e1]at*
    cases hmi:L2 (cl L x.1) y.n with
    |none=>
     have bz:Hid (a4i L i x.1 j=false):=by unfold Hid;rw[bm.o,b7k hmi]
     rw[hmi]at ah;simp only[Option.map_none]at ah;have a0:=A1 ah;clear ah hmi am e3 e4 e5 e6 e1;gi_wp2_with (first|(refine⟨trivial,?_⟩;gi_at_call 69;refine(CallsIn.inRound l (callsIn_wide.2 (a5Q _ lim b L p cap m1 m2 m3 q ba bk hD a1 bc xn y.n a4 bl))).mono ?_;rintro e w2 ⟨ae,C⟩;rw[a0.o]at C;unfold a3u at C;dsimp only at C;subst C)|(refine⟨trivial,?_⟩))
     go_roundw
     case rel=>exact⟨j+1,by omega,by go_num,A0 (A0 (A0 T.o (A2 _ _ N)) ae) (A2 _ _ N),λr hr=>by
      rcases ls r j with h1|h1
      ·exact HV.o r h1
      ·obtain rfl:r=j:=by omega
       exact bz.o⟩
     case measure=>simp[ld];omega
    |some fx=>
     have b':=b4j hmi;have ax:a6w (V0 L (x.1,fx)):=(hZ.o x.1 x.2).1 fx b';have an:Hid (a4i L i x.1 j= !a1V y (V0 L (x.1,fx))):=by unfold Hid;rw[bm.o,b7j hmi];rfl
     rw[hmi]at ah;simp only[Option.map_some]at ah;have a0:=A1 ah;clear ah hmi am e3 e4 e5 e6 e1;generalize hmo:V0 L (x.1,fx)=mo at ax an;have bn:=A1 hmo;obtain⟨av,br⟩:=Oe (a1V y mo)
     have az:=A1 br;clear hmo br;cases av with
     |true=>
      gi_wp2_with (first
       |(refine⟨trivial,?_⟩
         gi_at_call 249
         refine(CallsIn.inRound l (callsIn_wide.2 (b2u _ lim lim y mo pa ca ha S E ac pk ck hk ad ab g bd be bu.2.2.2.1 ax.2.2.2.1))).mono ?_;rintro e w4 ⟨rfl,bi⟩;rw[<-az.o];have aj:=A1 (A0 a7.o bi);have af:=A1 (aa.keep aj.o Os);have r0:=af.o.c0;have z0:=af.o.frozen 0)
       |(refine⟨trivial,?_⟩
         gi_at_call 69
         refine(CallsIn.inRound l (callsIn_wide.2 (a5Q _ lim b L p cap m1 m2 m3 q ba bk hD a1 bc xn y.n a4 bl))).mono ?_;rintro e w2 ⟨ae,C⟩;rw[a0.o]at C;unfold a3u at C;dsimp only at C;rw[bn.o]at C;obtain⟨S,E,ac,ad,ab,g,au,r1,r2,r3⟩:=C;unfold mv at au;subst au;have bd:Hid (C0 (w2.alloc (H (mV mo S ad E ab ac g) 102)) lim 2 B8 pa y.p):=((bp.o.keep (A2 wr (H (mV y pa pk ca ck ha hk) 102) N)).keep ae).keep (A2 _ _ N);have be:Hid (C0 (w2.alloc (H (mV mo S ad E ab ac g) 102)) lim 2 B8 S mo.p):=(r1.keep ae).keep (A2 _ _ N);have ap:=(aq.keep ae Os).keep (A2 w2 (H (mV mo S ad E ab ac g) 102) N) Os;have ar:=A4.new w2 (mV mo S ad E ab ac g) 102;obtain⟨d0,d1,d2,d3,d4,d5,d6,d7⟩:=ap.q8;obtain⟨g0,g1,g2,g3,g4,g5,g6,g7⟩:=ar.q8;have a7:Hid (W.grownBy (w2.alloc (H (mV mo S ad E ab ac g) 102)) N):=A0 (A0 (A0 T.o (A2 _ _ N)) ae) (A2 _ _ N);clear ap ar;dsimp only))
      go_roundw
      case rel=>exact⟨j+1,by omega,by go_num,aj.o,λr hr=>by
       rcases ls r j with h1|h1
       ·exact HV.o r h1
       ·obtain rfl:r=j:=by omega
        rw[an.o,<-az.o];rfl⟩
      case measure=>simp[ld];omega
     |false=>
      gi_wp2_with (first
       |(refine⟨trivial,?_⟩
         gi_at_call 249
         refine(CallsIn.inRound l (callsIn_wide.2 (b2u _ lim lim y mo pa ca ha S E ac pk ck hk ad ab g bd be bu.2.2.2.1 ax.2.2.2.1))).mono ?_;rintro e w4 ⟨rfl,bi⟩;rw[<-az.o];have aj:=A1 (A0 a7.o bi);have af:=A1 (aa.keep aj.o Os);have r0:=af.o.c0;have z0:=af.o.frozen 0)
       |(refine⟨trivial,?_⟩
         gi_at_call 69
         refine(CallsIn.inRound l (callsIn_wide.2 (a5Q _ lim b L p cap m1 m2 m3 q ba bk hD a1 bc xn y.n a4 bl))).mono ?_;rintro e w2 ⟨ae,C⟩;rw[a0.o]at C;unfold a3u at C;dsimp only at C;rw[bn.o]at C;obtain⟨S,E,ac,ad,ab,g,au,r1,r2,r3⟩:=C;unfold mv at au;subst au;have bd:Hid (C0 (w2.alloc (H (mV mo S ad E ab ac g) 102)) lim 2 B8 pa y.p):=((bp.o.keep (A2 wr (H (mV y pa pk ca ck ha hk) 102) N)).keep ae).keep (A2 _ _ N);have be:Hid (C0 (w2.alloc (H (mV mo S ad E ab ac g) 102)) lim 2 B8 S mo.p):=(r1.keep ae).keep (A2 _ _ N);have ap:=(aq.keep ae Os).keep (A2 w2 (H (mV mo S ad E ab ac g) 102) N) Os;have ar:=A4.new w2 (mV mo S ad E ab ac g) 102;obtain⟨d0,d1,d2,d3,d4,d5,d6,d7⟩:=ap.q8;obtain⟨g0,g1,g2,g3,g4,g5,g6,g7⟩:=ar.q8;have a7:Hid (W.grownBy (w2.alloc (H (mV mo S ad E ab ac g) 102)) N):=A0 (A0 (A0 T.o (A2 _ _ N)) ae) (A2 _ _ N);clear ap ar;dsimp only))
      exact⟨(KeepsFrom.of_grownBy aj.o (λk e=>by cases e)).trans ((KeepsOthers.setCell _ _ _).from _),⟨rfl,⟨x,by simp,j,hlj,by rw[an.o,<-az.o];rfl⟩,af.o.set 0 (G true)⟩,(M.trans ((a8j aj.o).mono M.size)).setCell (p:=⟨w.heap.size+1,0,N⟩) Os _⟩
   ·have cb:j=nM:=by omega
    subst cb;gi_wp2
    exact⟨KeepsFrom.of_grownBy T.o (λk e=>by cases e),⟨b5T T.o M.size,T.o.block _ Oo Os⟩,⟨λk hk=>(um.1 hk).elim (ay k) (λe=>by simp at e;subst e;exact HV.o),ak.keep T.o Os,aa.keep T.o Os,aw.keep T.o Os,al.keep T.o Os⟩,ao.o⟩
 case done=>
  rintro D ys W hD cg ⟨⟨ay,ak,aa,aw,al⟩,M⟩ hK;have cr:=aa.c0;have fr:=aa.frozen 0;gi_wp2
  have b5:=(KeepsOthers.setCell W ⟨w.heap.size+1,0,N⟩ (G false)).same D _ hK rfl;refine⟨by simp, .inl ⟨_,_,rfl,ng b5,?_⟩⟩;have bg:=(aa.set 0 (G false)).keep (lo _ D (.deferred N)) Oi;have bh:=bg.c0
  have hf:ovP L i=false:=by
   rw[b3C,nb,<-a6.o,<-cg,<-bb.o];intro k hk;obtain⟨k',cc,rfl⟩:=nd.1 hk;rw[Bool.not_eq_true,nb];intro r hr;rw[ay k' cc r (ln.1 hr)];simp
  rw[hf];exact⟨G false,by simp[lm,results163,go_sem,bh],rfl,a1e ((M.setCell (p:=⟨w.heap.size+1,0,N⟩) Os _).grown (lo _ D _) (by simp;exact M.size) (λk e=>by cases e;omega))⟩
 case stop=>
  rintro D d A9 W hD bv ⟨⟨rfl,⟨k,hk,r,hr,cd⟩,aa⟩,M⟩ hK;have cr:=aa.c0;gi_wp2
  refine⟨by simp, .inl ⟨_,_,rfl,ng hK,?_⟩⟩;have bg:=aa.keep (lo _ D (.deferred N)) Oi;have bh:=bg.c0
  have hf:ovP L i=true:=by
   rw[b3C,na,<-a6.o];refine⟨k.1,bv.subset (nd.2 ⟨k,hk,rfl⟩),?_⟩;rw[na];exact⟨r,ln.2 (by rw[<-bb.o];exact hr),cd⟩
  rw[hf];exact⟨G true,by simp[lm,results163,go_sem,bh],rfl,a1e (M.grown (lo _ D _) M.size (λk e=>by cases e;omega))⟩
structure Am(w:World)(B b:Nat)(v:Value)(m1 m2 m3 n1 n2 n3:Nat)(D1 D2 D3:DK)(nr:Nat)(rows:List Value):Prop where
 blk:A4 w b #[v, .map (some m1), .map (some m2), .map (some m3)] 151
 own:w.ownsRow B 44 4 v nr rows
 o1:w.ownsMap (H:=Unit) prog 9 (plainElem prog 3) m1 n1 D1
 o2:w.ownsMap (H:=Unit) prog 255 (plainElem prog 3) m2 n2 D2
 o3:w.ownsMap (H:=Unit) prog 255 (plainElem prog 3) m3 n3 D3
 d12:m1≠m2
 d13:m1≠m3
 d23:m2≠m3
 low:B<=b/\B<=m1/\B<=m2/\B<=m3
variable {D:DK}
theorem a3o{R:le->Option (DK×List MemPlace)}(h:w.ownsMap (H:=Unit) prog k R m n D){b:Nat}{cs:Array le}(g:A4 w b cs t):m≠b:=by
 obtain⟨y,d,e,-⟩:=h;rintro rfl;rw[show w.heap[m]? =O (.cells cs t (0,0))from g]at e;cases e
theorem a5o{R:le->Option (DK×List MemPlace)}(h:w.ownsMap (H:=Unit) prog k R m n D){base e sz l:Nat}{v:le}{xs:List le}(M:w.ownsRow base e sz v l xs):v.ownBlock≠O m:=by
 obtain⟨S,d,K,-⟩:=h;rcases M.2 with⟨rfl,-⟩|⟨g,C,E,rfl,-,y,-⟩
 ·simp[Value.ownBlock]
 ·simp only[Value.ownBlock,ne_eq,uq.injEq];rintro rfl;rw[K]at y;cases y
theorem PM.below{a:Option lj}{ms:List Me}(h:PM w lim a ms)(hb:lg B w w')(hl:lim<=B):PM w' lim a ms:=λj d=>by
 obtain⟨p,pa,ca,ha,pk,ck,hk,h1,h2,h3,h4,h5,h6⟩:=h j d;exact c6l
section
variable{w w':World}{B b m1 m2 m3 n1 n2 n3 nr n':Nat}{v:Value}{D1 D2 D3 D':DK}{rows:List Value}
theorem Am.keep(h:Am w B b v m1 m2 m3 n1 n2 n3 D1 D2 D3 nr rows)(d:w.grownBy w' N):Am w' B b v m1 m2 m3 n1 n2 n3 D1 D2 D3 nr rows:=
 ⟨h.blk.keep d Os,h.own.kept d (by cases v.ownBlock<;>simp),h.o1.kept d Os,h.o2.kept d Os,h.o3.kept d Os,h.d12,h.d13,h.d23,h.low⟩
theorem Am.put1(h:Am w B b v m1 m2 m3 n1 n2 n3 D1 D2 D3 nr rows)(d:w.grownBy w' (O m1))(e:w'.ownsMap (H:=Unit) prog 9 (lx prog 3) m1 n' D'):Am w' B b v m1 m2 m3 n' n2 n3 D' D2 D3 nr rows:=
 ⟨h.blk.keep d (by have:=a3o h.o1 h.blk;simp;omega),h.own.kept d (.inr (a5o h.o1 h.own)),e,h.o2.kept d (by have:=h.d12;simp;omega),h.o3.kept d (by have:=h.d13;simp;omega),h.d12,h.d13,h.d23,h.low⟩
theorem Am.put2(h:Am w B b v m1 m2 m3 n1 n2 n3 D1 D2 D3 nr rows)(d:w.grownBy w' (O m2))(e:w'.ownsMap (H:=Unit) prog 255 (lx prog 3) m2 n' D'):Am w' B b v m1 m2 m3 n1 n' n3 D1 D' D3 nr rows:=
 ⟨h.blk.keep d (by have:=a3o h.o2 h.blk;simp;omega),h.own.kept d (.inr (a5o h.o2 h.own)),h.o1.kept d (by have:=h.d12;simp;omega),e,h.o3.kept d (by have:=h.d23;simp;omega),h.d12,h.d13,h.d23,h.low⟩
theorem Am.put3(h:Am w B b v m1 m2 m3 n1 n2 n3 D1 D2 D3 nr rows)(d:w.grownBy w' (O m3))(e:w'.ownsMap (H:=Unit) prog 255 (lx prog 3) m3 n' D'):Am w' B b v m1 m2 m3 n1 n2 n' D1 D2 D' nr rows:=
 ⟨h.blk.keep d (by have:=a3o h.o3 h.blk;simp;omega),h.own.kept d (.inr (a5o h.o3 h.own)),h.o1.kept d (by have:=h.d13;simp;omega),h.o2.kept d (by have:=h.d23;simp;omega),e,h.d12,h.d13,h.d23,h.low⟩
end
theorem b2e(c:Cl)(d:List ByteArray)(D:DK){k:Nat}(hk:k<d.length):((K6 c d).take (k+1)).foldl I6 D=I6 (((K6 c d).take k).foldl I6 D) (P3 c.n d[k],k):=by
 have e:k<(K6 c d).length:=by unfold K6;simpa using hk
 rw[uo e,List.foldl_append];unfold K6;simp[hk]
theorem b2U(c:Cl)(d:List ByteArray):(K6 c d).take d.length=K6 c d:=List.take_of_length_le (by unfold K6;simp)
theorem a5B{P:nh}{c:lq}{Q:Exit->Act->la->Prop}{a:Act}{w:la}(J:Act->la->Prop)(h:c.wp P (Exit.then J (λ_ _ _=>False)) a w)(hQ:∀g w',J g w'->Q .normal g w'):c.wp P Q a w:=
 Code.wp_mono (λe g w' d=>by
  cases e with
  |normal=>exact hQ _ _ d
  |ret=>exact d.elim
  |panic ch=>exact d.elim
  |outgrown=>exact d.elim
  |exit i=>exact d.elim
  |goto i=>exact d.elim) h
theorem c2z(w:la)(B b:Nat)(v:le)(m1 m2 m3 n1 n2 n3 nr:Nat)(D1 D2 D3:DK)(rows:List le)(lim:Nat)(h:X (Am w B b v m1 m2 m3 n1 n2 n3 D1 D2 D3 nr rows))(hB:B<=w.heap.size)(hl:lim<=B)(c:Cl)(qc:Qs)(hF:X (C0 w lim 3 K3 qc.fa c.f))(hM:X (PM w lim qc.ma c.m))
 (be:c.f.length<=255) (bh:c.m.length<=255) (hn:X (c.n.size<=lh)) (bf:X (∀x∈N1 c,x.size<=lh)) (bi:X (∀x∈I8 c,x.size<=lh)) (bu:nr<=1000) (br:n1<=1000000) (bs:n2<=1000000) (bt:n3<=1000000):
 lk prog 157 #[U (O ⟨b,0,N⟩), Q (G9 c qc).toArray] w λe w'=>e= Y (.tuple #[])/\lg B w w'/\
  ∃v',Am w' B b v' m1 m2 m3 (n1+1) (n2+c.f.length) (n3+c.m.length) (I6 D1 (U3 c.n,nr)) ((K6 c (N1 c)).foldl I6 D2) ((K6 c (I8 c)).foldl I6 D3) (nr+1) (rows++G9 c qc):=by
 obtain⟨fa,fk,ma,mk⟩:=qc;dsimp only at hF hM;obtain⟨va,vk,rfl⟩:=F7 h.o.own;obtain⟨nf,hf⟩:=Oe c.f.length
 obtain⟨nm,hm⟩:=Oe c.m.length
 have a1:=A1 hf;have a2:=A1 hm;have HC:X (G9 c ⟨fa,fk,ma,mk⟩=[.string c.n, .string c.s, V fa nf fk, V ma nm mk]):=by unfold X G9;rw[hf,hm]
 rw[HC.o,<-hf,<-hm];rw[<-hf]at be;rw[<-hm]at bh;clear hf hm;have am:=h.o.keep (A2 w (.cells #[.string c.n, .string c.s, V fa nf fk, V ma nm mk] 44) N);have ah:=A1 am;have ap:X (A4 (w.alloc (.cells #[.string c.n, .string c.s, V fa nf fk, V ma nm mk] 44)) w.heap.size #[.string c.n, .string c.s, V fa nf fk, V ma nm mk] 44):=A4.new w _ _;have c0:=am.blk.c0;have c1:=am.blk.c1;clear am;have aa:=A1 ah.o.o1.drew;go_enter func157,ntmps157;go_wp2_with fail
 refine a5B (λa' W=>(∃t:Nat->le,a'={tmps:= #[U (O ⟨b,0,N⟩),t 1,t 2, U (O ⟨w.heap.size,0,N⟩),t 4,t 5,t 6,t 7,t 8,t 9,t 10,t 11,t 12,t 13,t 14,t 15,t 16,t 17,t 18,t 19,t 20,t 21,t 22,t 23,t 24,t 25,t 26,t 27,t 28,t 29,t 30,t 31,t 32,t 33,t 34,t 35,t 36,t 37,t 38,t 39,t 40,t 41,t 42,t 43,t 44,t 45,t 46,t 47,t 48,t 49,t 50,t 51,t 52,t 53,t 54,t 55,t 56,t 57,t 58,t 59,t 60,t 61,t 62,t 63,t 64,t 65,t 66,t 67,t 68,t 69],defers:=[]})/\Am W B b (V va nr vk) m1 m2 m3 (n1+1) n2 n3 (I6 D1 (U3 c.n,nr)) D2 D3 nr rows/\A4 W w.heap.size #[.string c.n, .string c.s, V fa nf fk, V ma nm mk] 44/\lg B w W) ?h ?q
 case h=>
  go_region_law (go_simp
                 go_at_call 242
                 refine(b8v _ m1 n1 nr D1 c.n hn Oo Om aa).mono ?_;rintro e w1 ⟨rfl,ad,E⟩;dsimp only)
  all_goals exact⟨a0M rfl,(ah.o.keep (A7 _ _)).put1 E ad,(ap.o.keep (A7 _ N) Os).keep E (by have:=a3o ah.o.o1 ap.o;simp;omega),(((Below.refl B w).alloc hB _).drew).grown E (by simp[lw];omega) (λk e=>by cases e;exact ah.o.low.2.1)⟩
 rintro _ W ⟨⟨t,rfl⟩,a3,a5,a4⟩;have S:=A1 a3;have y:=A1 a5;have C:=A1 a4;clear c0 c1 aa ah ap a3 a5 a4;have c2:=y.o.c2;go_wp2_with fail
 clear c2;go_loopw [23] (λi wr=>∃k:Nat,k<=nf/\i= .int I k/\X (Am wr B b (V va nr vk) m1 m2 m3 (n1+1) (n2+k) n3 (I6 D1 (U3 c.n,nr)) (((K6 c (N1 c)).take k).foldl I6 D2) D3 nr rows)/\X (A4 wr w.heap.size #[.string c.n, .string c.s, V fa nf fk, V ma nm mk] 44)/\X (lg B w wr)) (λi _=>nf-(ld i).toNat)
 case atStart=>exact⟨0,by omega,rfl,S,y,C⟩
 case round=>
  clear S y C;obtain⟨k,hk,rfl,S,y,C⟩:=hrel;by_cases hlt:k<nf
  ·have al:k<c.f.length:=by rw[<-a1.o];exact hlt
   have aj:=lu hB C.o.size;obtain⟨fp,aw,-,e0,e1,e2⟩:=a3O (a2J hF.o C.o hl) al;obtain⟨fx,ax⟩:=Oe (c.f[k])
   rw[<-ax]at e0 e1 e2;have K:k<(N1 c).length:=by unfold N1;simpa using al
   have af:(N1 c)[k]=fx.n:=by rw[ax];exact ve (λf:V3=>f.n)
   have ai:X (((K6 c (N1 c)).take (k+1)).foldl I6 D2=I6 (((K6 c (N1 c)).take k).foldl I6 D2) (P3 c.n fx.n,k)):=by unfold X;rw[b2e c _ D2 K,af]
   have a0:X (fx.n.size<=lh):=by unfold X;rw[<-af];exact bf.o _ (ll K)
   have ac:=S.o.keep (A2 wr (.cells (K3 fx).toArray 129) N);have T:=A1 ac;have ab:X (A4 (wr.alloc (.cells (K3 fx).toArray 129)) w.heap.size #[.string c.n, .string c.s, V fa nf fk, V ma nm mk] 44):=y.o.keep (A2 _ _ N) Os;have c2:(wr.alloc (.cells #[.string fx.n, .int I fx.ty.k, .string fx.ty.n] 129)).cell? ⟨b,2,N⟩=O (.map (O m2)):=ac.blk.cell 2 _ rfl;have b0:(wr.alloc (.cells #[.string fx.n, .int I fx.ty.k, .string fx.ty.n] 129)).cell? ⟨w.heap.size,0,N⟩=O (.string c.n):=ab.o.cell 0 _ rfl;obtain⟨D,hD⟩:=Oe (((K6 c (N1 c)).take k).foldl I6 D2)
   have HD:=A1 hD;have aa:X ((wr.alloc (.cells (K3 fx).toArray 129)).drew.ownsMap (H:=Unit) prog 255 (lx prog 3) m2 (n2+k) D):=by rw[hD];exact T.o.o2.drew
   clear ax K af ac hD;subst aw;go_wp2_with fail
   go_region_law (go_simp
                  go_at_call 243
                  refine(b1X _ m2 (n2+k) k D c.n fx.n hn a0 Oo Om aa).mono ?_;rintro e w1 ⟨rfl,ad,E⟩;dsimp only)
   all_goals
    have an:X (Am w1 B b (V va nr vk) m1 m2 m3 (n1+1) (n2+(k+1)) n3 (I6 D1 (U3 c.n,nr)) (((K6 c (N1 c)).take (k+1)).foldl I6 D2) D3 nr rows):=by
     have:=(T.o.keep (A7 _ N)).put2 E ad;unfold X;rw[ai.o,<-HD.o];exact this
    have ao:=A1 ((ab.o.keep (A7 _ N) Os).keep E (by have:=a3o T.o.o2 ab.o;simp;omega));have aq:=A1 (((C.o.alloc aj _).drew).grown E (by simp[lw];omega) (λk e=>by cases e;exact T.o.low.2.2.1));clear ad E c2 b0 aa HD ai;go_wp2_with fail
    go_roundw
    case rel=>exact⟨k+1,by omega,by go_num,an,ao,aq⟩
    case measure=>simp[ld];omega
  ·have K:k=nf:=by omega
   have d:X (Am wr B b (V va nr vk) m1 m2 m3 (n1+1) (n2+nf) n3 (I6 D1 (U3 c.n,nr)) ((K6 c (N1 c)).foldl I6 D2) D3 nr rows):=by
    have:=S.o;rw[K,show(K6 c (N1 c)).take nf=K6 c (N1 c)from by rw[a1.o,show c.f.length=(N1 c).length from by unfold N1;simp];exact b2U c _]at this;exact this
   have c3:=y.o.c3;obtain⟨DF,au⟩:=Oe ((K6 c (N1 c)).foldl I6 D2)
   have a6:=A1 au;rw[<-au]at d;clear S au;go_wp2_with fail
   clear c3 K hlt hk;go_loopw [43] (λi wr=>∃k:Nat,k<=nm/\i= .int I k/\X (Am wr B b (V va nr vk) m1 m2 m3 (n1+1) (n2+nf) (n3+k) (I6 D1 (U3 c.n,nr)) DF (((K6 c (I8 c)).take k).foldl I6 D3) nr rows)/\X (A4 wr w.heap.size #[.string c.n, .string c.s, V fa nf fk, V ma nm mk] 44)/\X (lg B w wr)) (λi _=>nm-(ld i).toNat)
   case atStart=>exact⟨0,by omega,rfl,d,y,C⟩
   case round=>
    clear d y C;obtain⟨k,hk,rfl,S,y,C⟩:=hrel;by_cases hlt:k<nm
    ·have al:k<c.m.length:=by rw[<-a2.o];exact hlt
     have aj:=lu hB C.o.size;obtain⟨fp,pa,ca,ha,pk,ck,hh,aw,-,-,-,-,e0,e1,e2,e3,e4,e5,e6,e7⟩:=a5h (PM.below hM.o C.o hl) al;obtain⟨mx,ay⟩:=Oe (c.m[k])
     rw[<-ay]at e0 e1 e2 e3 e4 e5 e6 e7;have K:k<(I8 c).length:=by unfold I8;simpa using al
     have af:(I8 c)[k]=mx.n:=by rw[ay];exact ve (λf:Me=>f.n)
     have ai:X (((K6 c (I8 c)).take (k+1)).foldl I6 D3=I6 (((K6 c (I8 c)).take k).foldl I6 D3) (P3 c.n mx.n,k)):=by unfold X;rw[b2e c _ D3 K,af]
     have a0:X (mx.n.size<=lh):=by unfold X;rw[<-af];exact bi.o _ (ll K)
     have ac:=S.o.keep (A2 wr (.cells (mV mx pa pk ca ck ha hh) 102) N);have T:=A1 ac;have ab:X (A4 (wr.alloc (.cells (mV mx pa pk ca ck ha hh) 102)) w.heap.size #[.string c.n, .string c.s, V fa nf fk, V ma nm mk] 44):=y.o.keep (A2 _ _ N) Os;have c2:=ac.blk.c3;have b0:=ab.o.c0;obtain⟨D,hD⟩:=Oe (((K6 c (I8 c)).take k).foldl I6 D3)
     have HD:=A1 hD;have aa:X ((wr.alloc (.cells (mV mx pa pk ca ck ha hh) 102)).drew.ownsMap (H:=Unit) prog 255 (lx prog 3) m3 (n3+k) D):=by rw[hD];exact T.o.o3.drew
     clear ay K af ac hD;subst aw;go_wp2_with fail
     go_region_law (go_simp
                    go_at_call 243
                    refine(b1X _ m3 (n3+k) k D c.n mx.n hn a0 Oo Om aa).mono ?_;rintro e w1 ⟨rfl,ad,E⟩;dsimp only)
     all_goals
      have an:X (Am w1 B b (V va nr vk) m1 m2 m3 (n1+1) (n2+nf) (n3+(k+1)) (I6 D1 (U3 c.n,nr)) DF (((K6 c (I8 c)).take (k+1)).foldl I6 D3) nr rows):=by
       have:=(T.o.keep (A7 _ N)).put3 E ad;unfold X;rw[ai.o,<-HD.o];exact this
      have ao:=A1 ((ab.o.keep (A7 _ N) Os).keep E (by have:=a3o T.o.o3 ab.o;simp;omega));have aq:=A1 (((C.o.alloc aj _).drew).grown E (by simp[lw];omega) (λk e=>by cases e;exact T.o.low.2.2.2));clear ad E c2 b0 aa HD ai;go_wp2_with fail
      go_roundw
      case rel=>exact⟨k+1,by omega,by go_num,an,ao,aq⟩
      case measure=>simp[ld];omega
    ·have K:k=nm:=by omega
     have d:X (Am wr B b (V va nr vk) m1 m2 m3 (n1+1) (n2+nf) (n3+nm) (I6 D1 (U3 c.n,nr)) DF ((K6 c (I8 c)).foldl I6 D3) nr rows):=by
      have:=S.o;rw[K,show(K6 c (I8 c)).take nm=K6 c (I8 c)from by rw[a2.o,show c.m.length=(I8 c).length from by unfold I8;simp];exact b2U c _]at this;exact this
     obtain⟨DM,av⟩:=Oe ((K6 c (I8 c)).foldl I6 D3)
     have a7:=A1 av;rw[<-av]at d;clear S av;have aj:=lu hB C.o.size;have c0:=d.o.blk.c0;have z0:=d.o.blk.frozen 0;have bj:=d.o.blk.lt;have az:=N4 d.o.own d.o.blk Od;have bc:∀o,(wr.drew.alloc o).cell? ⟨b,0,N⟩=O (V va nr vk):=λo=>(A0 (A7 _ _) (A2 _ _ N)).cell c0 Os
     have bo:=λo=>((A2 wr.drew o N).frozen_far ⟨b,0,N⟩ bj Os).trans z0
     have b0:=y.o.c0;have b1:=y.o.c1;have b2:=y.o.c2;have b3:=y.o.c3;obtain⟨bn,bg,bk,bl,bm⟩:=np a5p;have bq:=A1 HC.o;go_wp2_with fail
     go_region_law (refine ny _ rfl _ _ 90 rfl B 44 bn _ 4 80 underlying90 bg bk bl bm rfl Od _ nr rows rfl ((lv.drew d.o.own).alloc _) ⟨wr.heap.size,0,N⟩ 1 1 [.string c.n, .string c.s, V fa nf fk, V ma nm mk] rfl rfl (O8 wr.drew _ _) (by simp[Value.oneCell']) Oo Om Oo Oi _ rfl ?_
                    intro g ar w4 ae M bd bp;have c4:=(M.cell_far ⟨b,0,N⟩ Oi (λe=>az e.symm)).trans (bc _);have f4:=(M.frozen_far ⟨b,0,N⟩ Oi (λe=>az e.symm)).trans (bo _);have ag:wr.grownBy w4 (Value.slice va nr vk).ownBlock:=A0 (A0 (A7 _ _) (A2 _ _ _)) M
                    have bb:X (Am (w4.setCell ⟨b,0,N⟩ (V (O ⟨g,0,N⟩) (nr+1) ar)) B b (V (O ⟨g,0,N⟩) (nr+1) ar) m1 m2 m3 (n1+1) (n2+nf) (n3+nm) (I6 D1 (U3 c.n,nr)) DF DM (nr+1) (rows++ [.string c.n, .string c.s, V fa nf fk, V ma nm mk])):=by
                     have ak:=d.o.blk.keep ag (λe=>az e.symm);have q1:=d.o.o1.kept ag (λe=>a5o d.o.o1 d.o.own e.symm);have q2:=d.o.o2.kept ag (λe=>a5o d.o.o2 d.o.own e.symm);have q3:=d.o.o3.kept ag (λe=>a5o d.o.o3 d.o.own e.symm);exact⟨ak.set 0 _,ae.kept (A6 w4 ⟨b,0,N⟩ _) (.inr (N4 ae ak Od)),q1.kept (A6 w4 ⟨b,0,N⟩ _) (by have:=a3o q1 ak;simp;omega),q2.kept (A6 w4 ⟨b,0,N⟩ _) (by have:=a3o q2 ak;simp;omega),q3.kept (A6 w4 ⟨b,0,N⟩ _) (by have:=a3o q3 ak;simp;omega),d.o.d12,d.o.d13,d.o.d23,d.o.low⟩
                    have ba:X (lg B w (w4.setCell ⟨b,0,N⟩ (V (O ⟨g,0,N⟩) (nr+1) ar))):=(C.o.grown ag aj (λx e=>(K7 d.o.own e).1)).setCell (p:=⟨b,0,N⟩) d.o.low.1 _;clear ae M bd ag)
     all_goals
      go_end0;exact⟨rfl,ba.o,_,by rw[<-a6.o,<-a7.o];exact bb.o⟩
end Kx
end
end Go.Proofs.YtdhophglnhcjbaaGreatDoor
