/- P07: a part of the proof that the last text tells. -/
import Derived.Test.YtdhophglnhcjbaaGreatDoorP06
set_option linter.all false
set_option maxRecDepth 100000
set_option maxHeartbeats 40000000
open Go.Proofs.Tryz
open Go renaming Calls->la,bodyPost_ret->lb,results->ld,World->lf,wpAnyH_done->lg,Addr->lk,maxLen->lq,wp_region_held_drew->ls,wpAnyH_ready->lw
open List renaming getD_eq_getElem?_getD->lh,getElem?_eq_getElem->lj,getElem_mem->lp,drop_eq_getElem_cons->lx,length_drop->ly,getElem?_set->na,length_take->nm,ext_getElem?->no,set_getElem_self->nq,nil_append->nt,drop_eq_nil_of_le->nw
open Go.Act renaming put->ll
open Nat renaming le_refl->lm,le_trans->lr,le_of_lt->lv,zero_add->ns,add_comm->nv
open Go.RowKit renaming intOf->lu
open Option renaming some->nc
open Bool renaming eq_iff_iff->nd,decide_or->nh,or_assoc->ni,true_and->nj,false_and->nl
open Go.World renaming size_alloc->nf,ownsRow_nil->nr,block_lt_of_cell?->nu
open Option renaming none→N,some→O
open Go.IntKind renaming i64→I
open Go.Value renaming int→J,string→Z,slice→V,pointer→U,bool→G,agg→Q
open Go.Ending renaming returned→Y
open Go.Obj renaming cells→H
open Go.Addr renaming mk→A
namespace Go.Proofs.YtdhophglnhcjbaaGreatDoor
section
theorem a0h{P:Prop}(h:P:=by
 refine T6 HS3 (C9 _ _) (λhHeld=> ?_);refine A3 0 ?_;refine A3 1 ?_;refine A3 2 ?_;refine A3 3 ?_;refine A3 4 ?_;refine A3 5 ?_;refine A3 6 ?_;refine A3 7 ?_;refine A3 8 ?_;refine A3 9 ?_;refine A3 10 ?_;refine A3 11 ?_;refine A3 12 ?_;refine A3 13 ?_;refine A3 14 ?_;refine wpAnyH_ready (rs:=[15,16]) Ok0 Os ?_;refine AllReadyH.cons rfl (λK' hK=> ?_) (AllReadyH.cons rfl (λK' hK=> ?_) AllReadyH.nil)
 ·go_simp
  go_wp2_with (go_at_call 201;refine(HJN.o _ (hCh.o.tn (A7 _ none))).mono ?_;rintro e w5 ⟨rfl,hg5⟩)
  have hg6:=A0 (A7 wr none) hg5;refine hK.o _ _ (HS3.o _ hg6) (λhHeld=> ?_);clear hK;refine F3 16 λK' hK=> ?_
  go_simp
  have hb7:=A4.new w5 #[.int .i64 0, .string ⟨#[]⟩] 98;have hg7:=A0 hg6 (A2 w5 (.cells #[.int .i64 0, .string ⟨#[]⟩] 98) none);have hgl:=hg6.size;refine hK.o _ _ (HS3.o _ hg7) (λhHeld=> ?_);clear hK;try simp only[Act.put,lz]
  generalize w5.alloc (.cells #[.int .i64 0, .string ⟨#[]⟩] 98)=W7 at hb7 hg7 hHeld⊢;generalize w5.heap.size=g at hb7 hgl⊢;obtain⟨r0,r1,z0,z1⟩:=O7 hb7;refine F3 17 λK' hK=> ?_
  go_simp
  have hg8:=C6 hg7 (A0 (A6 W7 ⟨g,0,none⟩ (.int .i64 jk)) (A6 _ ⟨g,1,none⟩ (.string jm))) (λk e=>by cases e;exact .inl hgl);have hb8:=(hb7.set 0 (.int .i64 jk)).set 1 (.string jm);refine hK.o _ _ (HS3.o _ hg8) (λhHeld=> ?_);clear hK;refine wpAnyH_done Ok0 ?_ _;go_wp2_with fail
  go_meet
  exact⟨_,rfl,hb8,hg8,hgl⟩
 ·go_simp
  refine hK.o _ _ (HS3.o _ (A0 (A2 wr (.cells #[.int .i64 0, .string ⟨#[]⟩] 98) none) (A7 _ none))) (λhHeld=> ?_);clear hK;try simp only[Act.put,lz]
  refine F3 15 λK' hK=> ?_
  go_simp
  go_wp2_with (go_at_call 201;refine(HJN.o _ (hCh.o.tn (A0 (A2 wr (.cells #[.int .i64 0, .string ⟨#[]⟩] 98) none) (A7 _ none)))).mono ?_;rintro e W7 ⟨rfl,hg5⟩)
  have hb7:A4 W7 wr.heap.size #[.int .i64 0, .string ⟨#[]⟩] 98:=A4.keep (A4.new wr.drew #[.int .i64 0, .string ⟨#[]⟩] 98) hg5 Os;have hg7:=A0 (A0 (A2 wr (.cells #[.int .i64 0, .string ⟨#[]⟩] 98) none) (A7 _ none)) hg5;have hgl:=Nat.le_refl wr.heap.size;refine hK.o _ _ (HS3.o _ hg7) (λhHeld=> ?_);clear hK;obtain⟨r0,r1,z0,z1⟩:=O7 hb7;refine F3 17 λK' hK=> ?_
  go_simp
  have hg8:=C6 hg7 (A0 (A6 W7 ⟨wr.heap.size,0,none⟩ (.int .i64 jk)) (A6 _ ⟨wr.heap.size,1,none⟩ (.string jm))) (λk e=>by cases e;exact .inl hgl);have hb8:=(hb7.set 0 (.int .i64 jk)).set 1 (.string jm);refine hK.o _ _ (HS3.o _ hg8) (λhHeld=> ?_);clear hK;refine wpAnyH_done Ok0 ?_ _;go_wp2_with fail
  go_meet
  exact⟨_,rfl,hb8,hg8,hgl⟩):P:=h
theorem a0s{P:Prop}(h:P:=by
 first|omega|(go_num;omega)|(simp[intOf];omega)):P:=h
theorem a0w{P:Prop}(h:P:=by
 skip
 by_cases hh:a<(mco.length:Int)
 ·go_wp2_with fail
  all_goals exact bodyPost_ret (v:= .bool true) (by simp[results,results229,go_sem,hh]) rfl ⟨by rw[<-HT.o];simp[K8,hh],HG0.o⟩
 ·go_wp2_with fail
  all_goals exact bodyPost_ret (v:= .bool false) (by simp[results,results229,go_sem,hh]) rfl ⟨by rw[<-HT.o];simp[K8,hh],HG0.o⟩):P:=h
theorem a1p{P:Prop}(h:P:=by
 refine A3 0 ?_;refine A3 1 ?_;refine A3 2 ?_;refine A3 3 ?_;refine A3 4 ?_;refine A3 5 ?_;refine A3 6 ?_;refine A3 7 ?_;refine A3 8 ?_;refine A3 9 ?_;by_cases hkk:jk=ok
 ·subst hkk;by_cases hnn:jm=on
  ·subst hnn;refine A3 10 (v:= .bool false) ?_;refine A3 11 ?_;refine A3 12 ?_;refine wpAnyH_done Ok0 ?_ _;go_wp2_with fail
   go_meet
   exact⟨false,rfl,by unfold Hid;simp,A7 _ _⟩
  ·have f1:¬jm.toList=on.toList:=λe=>hnn (a0U e)
   refine A3 10 (v:= .bool true) ?_;refine A3 11 ?_;refine A3 12 ?_;refine wpAnyH_done Ok0 ?_ _;go_wp2_with fail
   go_meet
   exact⟨true,rfl,by unfold Hid;simp[*],A7 _ _⟩
 ·have f1:¬(jk:Int)=(ok:Int):=by omega
  refine A3 10 (v:= .bool true) ?_;refine A3 11 ?_;refine A3 12 ?_;refine wpAnyH_done Ok0 ?_ _;go_wp2_with fail
  go_meet
  exact⟨true,rfl,by unfold Hid;simp[*],A7 _ _⟩):P:=h
theorem a1s{P:Prop}(h:P:=by
 go_wp2_with fail
 all_goals exact bodyPost_ret (v:= .bool false) (by simp[results,results229,go_sem,hh]) rfl ⟨by rw[<-HT.o];simp[K8,hh],HG0.o⟩):P:=h
theorem a1t{P:Prop}(h:P:=by
 go_wp2_with fail
 all_goals exact bodyPost_ret (v:= .bool true) (by simp[results,results229,go_sem,hh]) rfl ⟨by rw[<-HT.o];simp[K8,hh],HG0.o⟩):P:=h
theorem a1u{P:Prop}(h:P:=by
 skip
 go_wp2_with (go_at_call 244;refine(HH.o _ HG0.o).mono ?_;rintro e w1 ⟨rfl,rfl⟩)
 all_goals exact bodyPost_ret (v:= .bool (E9 L cs)) (by simp[results,results229,go_sem]) rfl ⟨by rw[<-HT.o];simp[K8],HG0.o⟩):P:=h
theorem a3d{P:Prop}(h:P:=by
 refine wp_region_held_drew (S:=λW'=>True) Ok0 trivial (λhHeld=> ?_);refine A3 0 ?_;refine A3 1 ?_;refine tkO 2 ?_;refine tkO 3 ?_;refine tkO 4 ?_;refine tkO 5 ?_;refine tkO 6 ?_;refine tkO 7 ?_;refine tkO 8 ?_;refine tkO 9 ?_;refine tkO 10 ?_;refine A3 11 ?_;refine A3 12 ?_;refine wpAnyH_done Ok0 ?_ _;go_wp2_with fail
 go_meet
 exact⟨true,rfl,by unfold Hid;simp,A7 _ _⟩):P:=h
theorem a3x{P:Prop}(h:P:=by
 refine A3 13 ?_;refine F3 14 λK' hK=> ?_
 go_simp
 have hg8:=a0l hg7 hgl (i:=0) (j:=1) (x:= .int .i64 M.k) (y:= .string M.n);have hb8:=(hb7.set 0 (.int .i64 M.k)).set 1 (.string M.n);refine hK.o _ _ (HC.o _ hg8) (λhHeld=> ?_);clear hK;refine wpAnyH_done Ok0 ?_ _;go_wp2_with fail
 go_meet
 exact⟨_,rfl,hb8,hg8⟩):P:=h
theorem a6z{P:Prop}(h:P:=by
 go_enter func295,ntmps295;go_wp2_with fail
 all_goals exact bodyPost_ret (v:= .bool true) (by simp[results,results295,go_sem]) rfl ⟨rfl,HG0.o⟩):P:=h
theorem b0h{P:Prop}(h:P:=by
 skip
 go_wp2_with (go_at_call 248;refine(HF.o _ HG0.o).mono ?_;rintro e w1 ⟨hg1,t,rfl⟩)
 all_goals exact bodyPost_ret (v:= .bool (O0 L cs ms).isSome) (by simp[results,results229,go_sem]) rfl ⟨by rw[<-HT.o];simp[K8],A0 HG0.o hg1⟩):P:=h
theorem c5u{P:Prop}(h:P:=by
 refine hK.o _ _ (HS3.o _ hg8) (λhHeld=> ?_);clear hK;refine A3 16 ?_;refine wpAnyH_done Ok0 ?_ _;exact(iff_of_eq (congrFun (congrFun HJJ.o _) _)).2 ⟨_,_,_,hp8,hg8,a0M rfl⟩):P:=h
theorem c6f{P:Prop}(h:P:=by
 clear hg8 hb7 hg7;go_wp2_with fail
 all_goals exact bodyPost_ret (v:= .bool (decide (0<=fi))) (by simp[results,results182,go_sem]) rfl ⟨N0 HD.o,HG8.o⟩):P:=h
theorem c6k{P:Prop}(h:P:=by
 clear hg8 hb7 hg7;go_wp2_with fail
 all_goals exact bodyPost_ret (v:= .bool is) (by simp[results,results182,go_sem]) rfl ⟨rfl,HG8.o⟩):P:=h
end
section
open Go.RowKit Go.Shelf Cf
namespace Kx
def N9(L:List Cl)(xs ss:List Ty)(k:Nat):List Ty:=(I7 L xs ss).take k++xs.drop k
section
variable{L:List Cl}{xs ss:List Ty}{k:Nat}
theorem a7j:N9 L xs ss 0=xs:=by simp[N9]
theorem a8Q(e:xs.length=ss.length)(hk:k<=xs.length)(i:Nat):(N9 L xs ss k)[i]? =if i<k then(I7 L xs ss)[i]? else xs[i]? :=by
 have d:((I7 L xs ss).take k).length=k:=by rw[nm,a3J L e];omega
 unfold N9;rw[List.getElem?_append,d];split
 ·rw[List.getElem?_take,if_pos (by assumption)]
 ·rw[List.getElem?_drop];congr 1;omega
theorem a7q(e:xs.length=ss.length)(hk:k<=xs.length):(N9 L xs ss k).length=xs.length:=by
 have d:((I7 L xs ss).take k).length=k:=by rw[nm,a3J L e];omega
 unfold N9;rw[List.length_append,d,ly];omega
theorem a7r(d:xs.length=ss.length):N9 L xs ss xs.length=I7 L xs ss:=by
 unfold N9;rw[List.drop_length,List.append_nil,List.take_of_length_le (by rw[a3J L d];exact lm _)]
theorem a9H(d:xs.length=ss.length)(hk:k<xs.length):(N9 L xs ss k).getD k A8=xs.getD k A8:=by
 rw[lh,a8Q d (lv hk),if_neg (Nat.lt_irrefl k),lh]
theorem a9q(d:xs.length=ss.length)(hk:k<xs.length):N9 L xs ss (k+1)=(N9 L xs ss k).set k (X7 L (xs.getD k A8) (ss.getD k A8)):=by
 apply no;intro i;rw[a8Q d hk,na,a7q d (lv hk),a8Q d (lv hk)];by_cases e:k=i
 ·subst e;rw[if_pos rfl,if_pos hk,if_pos Oo,<-a5S L d hk];have:k<(I7 L xs ss).length:=by rw[a3J L d];exact hk
  rw[lj this,lh,lj this];rfl
 ·rw[if_neg e];by_cases e2:i<k
  ·rw[if_pos e2,if_pos Oo]
  ·rw[if_neg e2,if_neg Oo]
theorem b4h(i:xs.length=ss.length)(hk:k<xs.length):N9 L xs ss (k+1)≠xs↔N9 L xs ss k≠xs\/X7 L (xs.getD k A8) (ss.getD k A8)≠xs.getD k A8:=by
 have j:xs.getD k A8=xs[k]:=by rw[lh,lj hk];rfl
 rw[a9q i hk,j];generalize X7 L xs[k] (ss.getD k A8)=t;constructor
 ·intro h;by_cases e1:N9 L xs ss k=xs
  ·refine .inr λg=>h ?_
   rw[e1,g,nq]
  ·exact .inl e1
 ·intro h e;have d:k<(N9 L xs ss k).length:=by rw[a7q i (lv hk)];exact hk
  have g:t=xs[k]:=by
   have:=congrArg (λl=>l[k]?) e;simp only[na,if_pos d,↓reduceIte]at this;rw[lj hk]at this;exact nc.inj this
  rcases h with h|h
  ·have v:=a9H (L:=L) i hk;rw[j,lh,lj d]at v;have y:=(show(N9 L xs ss k)[k]=xs[k]from v).trans g.symm;subst y;rw[nq]at e;exact h e
  ·exact h g
end
def InA(L:List Cl)(w:lf)(base ob n:Nat)(re:Nat->Bool)(R:Rr)(X:Nat->List Ty)(a:Nat)(ss vs:List Ty)(e:Ending)(w':lf):Prop:=
 ∃b R' X',e= Y (G b)/\Fm w' base ob n (G1 re a true) R' X'/\Ch (E8 ob n R) w w'/\(∀k,E8 ob n R' k->E8 ob n R k\/w.heap.size<=k)/\
  (re a=false->b=true/\X'=G1 (G1 X (2*a) ss) (2*a+1) vs)/\
  (re a=true->X'=G1 (G1 X (2*a) (I7 L (X (2*a)) ss)) (2*a+1) (I7 L (X (2*a+1)) vs)/\(b=true↔I7 L (X (2*a)) ss≠X (2*a)\/I7 L (X (2*a+1)) vs≠X (2*a+1)))
section
variable{w0 w:World}{jb lim wb:Nat}{L:List Cl}{p:Addr}{cap:Nat}{q:Nat->Qs}{C:ByteArray}{m:Me}{r:Qj}{base ob n:Nat}{re:Nat->Bool}{R:Rr}{X:Nat->List Ty}
theorem c0C(hF:Hid (Fm w base ob n re R X))(a1:base<=w.heap.size)(a:Nat)(ha:a<n)(ae:re a=false)(ss F:List Ty)(sa va:Option lk)(sk vk jb:Nat)(hs:Hid (C0 w w.heap.size 2 B8 sa ss))(hv:Hid (C0 w w.heap.size 2 B8 va F))
 (af:Hid ((∀p,sa=O p->¬E8 ob n R p.block)/\∀p,va=O p->¬E8 ob n R p.block)) (ba:ss.length<=65535) (bb:F.length<=65535):
 la prog 132 #[U (O (A jb 0 N)), U (O (A ob (a*8) N)), V sa ss.length sk, V va F.length vk] w (InA L w base ob n re R X a ss F):=by
 obtain⟨c3,c4,c5⟩:=hF.o.cs ha;have z3:=hF.o.z (a*8+3);have a7:=hF.o.lt;rw[ae]at c3;have ax:=A1 ae;have d:=A1 (hF.o.mark ha);have j:Hid (Ch (E8 ob n R) w (w.setCell (A ob (a*8+3) N) (G true))):=Ch.of (A6 w (A ob (a*8+3) N) (G true)) (λk e=>by cases e;exact .inl rfl);have S:w.heap.size=(w.setCell (A ob (a*8+3) N) (G true)).heap.size:=by simp
 clear ae;obtain⟨sl,D⟩:=Oe ss.length
 have ac:=A1 D;obtain⟨vl,E⟩:=Oe F.length
 have ad:=A1 E;rw[<-D]at ba⊢;rw[<-E]at bb⊢;clear D E;go_enter func132,ntmps132;go_upto_region 3 with fail
 generalize w.setCell (A ob (a*8+3) N) (G true)=w1 at d j S⊢;have al:base<=w1.heap.size:=by rw[<-S];exact a1
 have ak:=A1 (j.o.rd (lm _) hs.o af.o.1);have ay:=A1 (j.o.rd (lm _) hv.o af.o.2);have ao:=d.o.lt;obtain⟨-,d4,-⟩:=d.o.cs ha;have z4:=d.o.z (a*8+4);clear c3 c4 c5 z3 a7;go_upto_region 4 with(at_builtin;go_loud (refine a5z rfl _ _ rfl w1.heap.size N 0 0 [] rfl (nr _ _ _ _) sa sl sk w.heap.size ss rfl ac.o ak.o Oo (lm _) ?_;intro M T W am y a5;have ab:Hid (W.ownsRow w1.heap.size 98 2 (V M ss.length T) ss.length (ss.flatMap B8)):=(by have:=am;simp only[ns,nt]at this;rw[<-ac.o];exact this);have K:Hid (w1.grownBy W N):=y;have d4:=y.cell d4 (by simp[Value.ownBlock]);have z4:W.frozen? (A ob (a*8+4) N)=false:=(d.o.keep y).z _;have ap:=(d.o.keep y).lt;clear am y a5))
 have i:Hid (Fm (W.setCell (A ob (a*8+4) N) (V M sl T)) base ob n (G1 re a true) (G1 R (2*a) (M,T)) (G1 X (2*a) ss)):=by
  have:=d.o.put (x:=0) ha Oo K.o al ab.o;rw[<-ac.o]at this;exact this
 have aa:Hid (Ch (E8 ob n R) w (W.setCell (A ob (a*8+4) N) (V M sl T))):=(j.o.tn K.o).ts (.inl (.inl rfl)) _;have au:W.heap.size=(W.setCell (A ob (a*8+4) N) (V M sl T)).heap.size:=by simp
 have a':=K.o.size;generalize W.setCell (A ob (a*8+4) N) (V M sl T)=w3 at i aa au⊢;have az:=A1 (aa.o.rd (lm _) hv.o af.o.2);have aq:=i.o.lt;obtain⟨-,-,d5⟩:=i.o.cs ha;have z5:=i.o.z (a*8+5);have a3:base<=w3.heap.size:=by omega
 have a0:Hid (w.heap.size<=w3.heap.size):=by unfold Hid;omega
 clear d4 z4 ap ao K a' au al ak ay j;have av:Hid (∀k,E8 ob n (G1 R (2*a) (M,T)) k->E8 ob n R k\/w.heap.size<=k):=λk hk=>hk.put λg e=>by rw[S];exact b4e ab.o g e
 clear S ab;go_upto_region 5 with(at_builtin;go_loud (refine a5z rfl _ _ rfl w3.heap.size N 0 0 [] rfl (nr _ _ _ _) va vl vk w.heap.size F rfl ad.o az.o Oo (lm _) ?_;intro a4 k4 w4 an B a6;have aj:Hid (w4.ownsRow w3.heap.size 98 2 (V a4 F.length k4) F.length (F.flatMap B8)):=(by have:=an;simp only[ns,nt]at this;rw[<-ad.o];exact this);have ai:Hid (w3.grownBy w4 N):=B;have d5:=B.cell d5 (by simp[Value.ownBlock]);have z5:w4.frozen? (A ob (a*8+5) N)=false:=(i.o.keep B).z _;have ar:=(i.o.keep B).lt;clear an B a6))
 have ah:Hid (Fm (w4.setCell (A ob (a*8+5) N) (V a4 vl k4)) base ob n (G1 re a true) (G1 (G1 R (2*a) (M,T)) (2*a+1) (a4,k4)) (G1 (G1 X (2*a) ss) (2*a+1) F)):=by
  have:=i.o.put (x:=1) ha Oo ai.o a3 aj.o;rw[<-ad.o]at this;exact this
 have ag:Hid (Ch (E8 ob n R) w (w4.setCell (A ob (a*8+5) N) (V a4 vl k4))):=(aa.o.tn ai.o).ts (.inl (.inl rfl)) _
 have aw:Hid (∀k,E8 ob n (G1 (G1 R (2*a) (M,T)) (2*a+1) (a4,k4)) k->E8 ob n R k\/w.heap.size<=k):=λk hk=>by
  rcases hk.put (lo:=w.heap.size) (λg e=>lr a0.o (b4e aj.o g e))with e|e
  ·exact av.o k e
  ·exact .inr e
 generalize w4.setCell (A ob (a*8+5) N) (V a4 vl k4)=w5 at ah ag⊢;clear d5 z5 ar aq;go_wp2_with fail
 exact lb (v:= G true) (by simp[ld,results132,go_sem]) rfl ⟨true,_,_,rfl,ah.o,ag.o,aw.o,λ_=>⟨rfl,rfl⟩,λe=>by rw[ax.o]at e;cases e⟩
theorem c0B(h:Hid (Jb w0 jb lim wb L p cap q C m r))(be:Hid (w0.grownBy w N))(bj:w0.heap.size<=base)(hF:Hid (Fm w base ob n re R X))(a:Nat)(ha:a<n)(a6:re a=true)(ss B:List Ty)(sa va:Option lk)(sk vk:Nat)(hs:Hid (C0 w w.heap.size 2 B8 sa ss))(hv:Hid (C0 w w.heap.size 2 B8 va B))
 (bf:Hid ((∀p,sa=O p->¬E8 ob n R p.block)/\∀p,va=O p->¬E8 ob n R p.block)) (bl:ss.length<=65535) (bo:B.length<=65535) (a1:(X (2*a)).length=ss.length) (a2:(X (2*a+1)).length=B.length) (ak:Hid (G4 L (X (2*a))/\G4 L ss)) (al:Hid (G4 L (X (2*a+1))/\G4 L B)):
 la prog 132 #[U (O (A jb 0 N)), U (O (A ob (a*8) N)), V sa ss.length sk, V va B.length vk] w (InA L w base ob n re R X a ss B):=by
 have HJ:=A1 (λW (hW:Ch (E8 ob n R) w W)=>h.o.keep (Ch.low be.o hW λk hk=>lr bj (hF.o.sLow hk).1));have HS3:=A1 (λW (hW:Ch (E8 ob n R) w W)=>hW.rd (lm _) hs.o bf.o.1);have bg:=A1 (λW (hW:Ch (E8 ob n R) w W)=>hW.rd (lm _) hv.o bf.o.2);have bc:=A1 a6;obtain⟨c3,-,-⟩:=hF.o.cs ha;rw[a6]at c3;have bp:=hF.o.lt;obtain⟨xs,a7⟩:=Oe (X (2*a))
 have a3:=A1 a7;obtain⟨D,a'⟩:=Oe (X (2*a+1))
 have au:=A1 a';rw[<-a7]at a1 ak;rw[<-a']at a2 al;obtain⟨sl,ax⟩:=Oe ss.length
 have F:Hid (xs.length=ss.length/\xs.length=sl):=⟨a1,a1.trans ax.symm⟩
 obtain⟨vl,az⟩:=Oe B.length
 have K:Hid (D.length=B.length/\D.length=vl):=⟨a2,a2.trans az.symm⟩
 rw[<-ax]at bl⊢;rw[<-az]at bo⊢;clear ax az a1 a2 a7 a' a6 h be hs hv;go_enter func132,ntmps132;go_wp2_with fail
 go_loopw [9,10] (λc9 c10 W=>∃(b:Bool) (k:Nat),c9= G b/\c10= J I k/\k<=sl/\Hid (Fm W base ob n re R (G1 X (2*a) (N9 L xs ss k)))/\Hid (Ch (E8 ob n R) w W)/\Hid (b=true↔N9 L xs ss k≠xs)) (λ_ c _=>sl-(lu c).toNat)
 case atStart=>exact⟨false,0,rfl,rfl,Nat.zero_le _,(by unfold Hid;rw[a7j,a3.o,a9A];exact hF.o),Ch.refl _ _,(by unfold Hid;rw[a7j];simp)⟩
 case round=>
  obtain⟨b,k,rfl,rfl,hk,y,hCh,hb⟩:=hrel;obtain⟨j0,-⟩:=(HJ.o _ hCh.o).cs;obtain⟨-,y4,y5⟩:=y.o.cs ha;have yo:=y.o.lt;have YL:(N9 L xs ss k).length=sl:=(a7q F.o.1 (by rw[F.o.2];exact hk)).trans F.o.2;have e4:rS R (G1 X (2*a) (N9 L xs ss k)) (2*a)= V (R (2*a)).1 sl (R (2*a)).2:=by unfold rS;rw[a1x,YL]
  rw[e4]at y4;by_cases hlt:k<sl
  ·have a5:(k:Int)<(sl:Int):=by omega
   have ag:k<xs.length:=by rw[F.o.2];exact hlt
   have aa:k<ss.length:=by rw[<-F.o.1];exact ag
   obtain⟨d,tc,hR,bm,bn,o0,o1,oz⟩:=y.o.row (j:=(2*a)) (i:=k) Oo (by rw[a1x,YL];exact hlt);rw[a1x,a9H F.o.1 ag]at o0 o1;rw[hR]at y4;obtain⟨sp,rfl,bk,aj⟩:=(HS3.o _ hCh.o) k aa;have n0:wr.cell? (sp.add (k*2))=O (J I ss[k].k):=aj 0 _ rfl;have n1:wr.cell? (A ((sp.add (k*2)).block) ((sp.add (k*2)).off+1) N)=O (Z ss[k].n):=by rw[C2 sp (k*2) 0];exact aj 1 _ rfl
   have T:Hid (N9 L xs ss (k+1)=(N9 L xs ss k).set k (X7 L (xs.getD k A8) ss[k])):=by have:=a9q (L:=L) F.o.1 ag;rw[lh (l:=ss),lj aa]at this;exact this
   have M:Hid (N9 L xs ss (k+1)≠xs↔N9 L xs ss k≠xs\/X7 L (xs.getD k A8) ss[k]≠xs.getD k A8):=by have:=b4h (L:=L) F.o.1 ag;rw[lh (l:=ss),lj aa]at this;exact this
   have ab:=b6 ak.o.1 k;have ac:=ak.o.2 _ (lp aa);have HJN:Hid (∀W,Ch (E8 ob n R) w W->la prog 201 #[U (O (A wb 0 N)),M7 (xs.getD k A8),M7 ss[k]] W λe w'=>e= Y (M7 (X7 L (xs.getD k A8) ss[k]))/\W.grownBy w' N):=λW hW=>by rw[<-(HJ.o _ hW).rw_.wld.joinR_eq ab ac];exact b1O W lim wb L p cap q (HJ.o _ hW).rw_ _ _ ab.1 ac.1
   clear ab ac aj;generalize xs.getD k A8=old at o0 o1 T M HJN;generalize ss[k]=new at n0 n1 T M HJN;generalize X7 L old new=jn at T M HJN;clear aa;obtain⟨ok,on⟩:=old;obtain⟨nk,nn⟩:=new;obtain⟨jk,jm⟩:=jn;unfold M7 at HJN;dsimp only at o0 o1 n0 n1 HJN;have HS3:Hid (∀W',wr.grownBy W' N->W'.cell? (A jb 0 N)=O (U (O (A wb 0 N)))/\W'.cell? (A ob (a*8+4) N)=O (V (O (A d 0 N)) sl tc)/\W'.cell? (A d (k*2) N)=O (J I ok)/\W'.cell? (A d (k*2+1) N)=O (Z on)/\W'.cell? (sp.add (k*2))=O (J I nk)/\W'.cell? (A ((sp.add (k*2)).block) ((sp.add (k*2)).off+1) N)=O (Z nn)):=λW' hw=>⟨hw.cell j0 Os,hw.cell y4 Os,hw.cell o0 Os,hw.cell o1 Os,hw.cell n0 Os,hw.cell n1 Os⟩
   have bi:jb<wr.heap.size:=nu wr _ j0;clear j0 y4 y5 o0 o1 n0 n1;go_upto_region 10 with fail
   go_cut [11]from 32 to 72 (λc W=>∃g,c= U (O (A g 0 N))/\A4 W g #[J I jk, Z jm] 98/\wr.grownBy W N/\wr.heap.size<=g)
   case first=>
    exact a0h
   obtain⟨g,rfl,hb8,hg8,hgl⟩:=hcut;obtain⟨j0,y4,o0,o1,-,-⟩:=HS3.o _ hg8;obtain⟨t0,t1⟩:=hb8.q2;have aq:=A1 (y.o.keep hg8);have ao:=A1 (hCh.o.tn hg8);clear y hCh HS3 HJN hg8 hb8 yo;go_upto_region 11 with fail
   go_cut [9]from 32 to 72 (λc9 W=>∃b',c9= G b'/\Hid (b'=true↔b=true\/(⟨jk,jm⟩:Ty)≠⟨ok,on⟩)/\wc.grownBy W N)
   case first=>
    cases b with
    |true=>
     exact a3d
    |false=>
     refine ls (S:=λW'=>W'.cell? (A ob (a*8+4) N)=O (V (O (A d 0 N)) sl tc)/\W'.cell? (A d (k*2) N)=O (J I ok)/\W'.cell? (A d (k*2+1) N)=O (Z on)/\W'.cell? (A g 0 N)=O (J I jk)/\W'.cell? (A g 1 N)=O (Z jm)) Ok0 ⟨y4,o0,o1,t0,t1⟩ (λhHeld=> ?_);exact a1p
   obtain⟨b',rfl,am,E⟩:=hcut;replace y4:=E.cell y4 Os
   replace t0:=E.cell t0 Os
   replace t1:=E.cell t1 Os
   have ae:=A1 (aq.o.keep E);have ap:=A1 (ao.o.tn E);have nb:O ob≠O d:=λe=>ae.o.ne (j:=(2*a)) Oo (by unfold rB;rw[hR];exact e.symm)
   have ng:O g≠O d:=λe=>by have:=nc.inj e;omega
   have ah:Hid (∀W',wc.grownBy W' (O d)->W'.cell? (A ob (a*8+4) N)=O (V (O (A d 0 N)) sl tc)/\W'.cell? (A g 0 N)=O (J I jk)/\W'.cell? (A g 1 N)=O (Z jm)):=λW' hw=>⟨hw.cell y4 nb,hw.cell t0 ng,hw.cell t1 ng⟩
   have af:Hid (Fm ((wc.setCell (A d (k*2) N) (J I jk)).setCell (A d (k*2+1) N) (Z jm)) base ob n re R (G1 X (2*a) (N9 L xs ss (k+1)))):=by have:=ae.o.set Oo hR k ⟨jk,jm⟩;rw[a1x,b3u,<-T.o]at this;exact this
   have ad:Hid (Ch (E8 ob n R) w ((wc.setCell (A d (k*2) N) (J I jk)).setCell (A d (k*2+1) N) (Z jm))):=(ap.o.ts (.inl (.inr ⟨(2*a),by omega,by unfold rB;rw[hR];rfl⟩)) _).ts (.inl (.inr ⟨(2*a),by omega,by unfold rB;rw[hR];rfl⟩)) _;have an:Hid (b'=true↔N9 L xs ss (k+1)≠xs):=by unfold Hid;rw[am.o,hb.o,M.o]
   have aw:wc.grownBy ((wc.setCell (A d (k*2) N) (J I jk)).setCell (A d (k*2+1) N) (Z jm)) (O d):=A0 (A6 wc (A d (k*2) N) _) (A6 _ (A d (k*2+1) N) _);obtain⟨bb,ba,av,-,ay,o0,o1,oz⟩:=ae.o.row (j:=(2*a)) (i:=k) Oo (by rw[a1x,YL];exact hlt);rw[hR]at av;obtain⟨rfl,rfl⟩:d=bb/\tc=ba:=by simpa using av
   have z0:=oz (k*2);have z1:=oz (k*2+1);clear oz E ae ap am hb M T aq ao nb ng y4 t0 t1;go_upto_region 12 with fail
   refine T6 ah (C9 _ _) (λhHeld=> ?_);refine A3 0 ?_;refine A3 1 ?_;refine A3 2 ?_;refine A3 3 ?_;refine A3 4 ?_;refine A3 5 ?_;refine A3 6 ?_;refine F3 7 λK' hK=> ?_
   go_simp
   refine hK.o _ _ (ah.o _ (A0 aw (A7 _ _))) (λhHeld=> ?_);clear hK;refine lg Ok0 ?_ _;clear hHeld;replace af:Hid (Fm ((wc.setCell (A d (k*2) N) (J I jk)).setCell (A d (k*2+1) N) (Z jm)).drew base ob n re R (G1 X (2*a) (N9 L xs ss (k+1)))):=af.o.keep (A7 _ _)
   replace ad:Hid (Ch (E8 ob n R) w ((wc.setCell (A d (k*2) N) (J I jk)).setCell (A d (k*2+1) N) (Z jm)).drew):=ad.o.tn (A7 _ _)
   generalize ((wc.setCell (A d (k*2) N) (J I jk)).setCell (A d (k*2+1) N) (Z jm)).drew=W9 at af ad⊢;clear aw ay z0 z1 o0 o1 ah;go_wp2_with fail
   go_roundw
   case rel=>exact⟨b',k+1,rfl,by first|rfl|go_num,by omega,af.o,ad.o,an.o⟩
   case measure=>exact a0s
  ·have a5:¬(k:Int)<(sl:Int):=by omega
   have ai:k=xs.length:=by rw[F.o.2];omega
   have a0:Hid (b=true↔I7 L xs ss≠xs):=by have:=hb.o;rw[ai,a7r F.o.1]at this;exact this
   have ar:Hid (Fm wr base ob n re R (G1 X (2*a) (I7 L xs ss))):=by have:=y.o;rw[ai,a7r F.o.1]at this;exact this
   have bd:Hid (D=G1 X (2*a) (I7 L xs ss) (2*a+1)):=by unfold Hid;rw[a1C _ _ Oo];exact au.o
   obtain⟨X1,a4⟩:=Oe (G1 X (2*a) (I7 L xs ss))
   rw[<-a4]at ar bd;have bh:=A1 a4;clear a4 y hb ai YL e4 y4 y5 yo j0 F ak hk;go_wp2_with fail
   go_loopw [9,12] (λc9 c10 W=>∃(b:Bool) (k:Nat),c9= G b/\c10= J I k/\k<=vl/\Hid (Fm W base ob n re R (G1 X1 (2*a+1) (N9 L D B k)))/\Hid (Ch (E8 ob n R) w W)/\Hid (b=true↔I7 L xs ss≠xs\/N9 L D B k≠D)) (λ_ c _=>vl-(lu c).toNat)
   case atStart=>exact⟨b,0,rfl,rfl,Nat.zero_le _,(by unfold Hid;rw[a7j,bd.o,a9A];exact ar.o),hCh.o,(by unfold Hid;rw[a7j];have:=a0.o;simpa using this)⟩
   case round=>
    clear hCh ar a0;obtain⟨b,k,rfl,rfl,hk,y,hCh,hb⟩:=hrel;obtain⟨j0,-⟩:=(HJ.o _ hCh.o).cs;obtain⟨-,y4,y5⟩:=y.o.cs ha;have yo:=y.o.lt;have YL:(N9 L D B k).length=vl:=(a7q K.o.1 (by rw[K.o.2];exact hk)).trans K.o.2;have e5:rS R (G1 X1 (2*a+1) (N9 L D B k)) (2*a+1)= V (R (2*a+1)).1 vl (R (2*a+1)).2:=by unfold rS;rw[a1x,YL]
    rw[e5]at y5;by_cases hlt:k<vl
    ·have a5:(k:Int)<(vl:Int):=by omega
     have ag:k<D.length:=by rw[K.o.2];exact hlt
     have aa:k<B.length:=by rw[<-K.o.1];exact ag
     obtain⟨d,tc,hR,bm,bn,o0,o1,oz⟩:=y.o.row (j:=(2*a+1)) (i:=k) Oo (by rw[a1x,YL];exact hlt);rw[a1x,a9H K.o.1 ag]at o0 o1;rw[hR]at y5;obtain⟨sp,rfl,bk,aj⟩:=(bg.o _ hCh.o) k aa;have n0:wr.cell? (sp.add (k*2))=O (J I B[k].k):=aj 0 _ rfl;have n1:wr.cell? (A ((sp.add (k*2)).block) ((sp.add (k*2)).off+1) N)=O (Z B[k].n):=by rw[C2 sp (k*2) 0];exact aj 1 _ rfl
     have T:Hid (N9 L D B (k+1)=(N9 L D B k).set k (X7 L (D.getD k A8) B[k])):=by have:=a9q (L:=L) K.o.1 ag;rw[lh (l:=B),lj aa]at this;exact this
     have M:Hid (N9 L D B (k+1)≠D↔N9 L D B k≠D\/X7 L (D.getD k A8) B[k]≠D.getD k A8):=by have:=b4h (L:=L) K.o.1 ag;rw[lh (l:=B),lj aa]at this;exact this
     have ab:=b6 al.o.1 k;have ac:=al.o.2 _ (lp aa);have HJN:Hid (∀W,Ch (E8 ob n R) w W->la prog 201 #[U (O (A wb 0 N)),M7 (D.getD k A8),M7 B[k]] W λe w'=>e= Y (M7 (X7 L (D.getD k A8) B[k]))/\W.grownBy w' N):=λW hW=>by rw[<-(HJ.o _ hW).rw_.wld.joinR_eq ab ac];exact b1O W lim wb L p cap q (HJ.o _ hW).rw_ _ _ ab.1 ac.1
     clear ab ac aj;generalize D.getD k A8=old at o0 o1 T M HJN;generalize B[k]=new at n0 n1 T M HJN;generalize X7 L old new=jn at T M HJN;clear aa;obtain⟨ok,on⟩:=old;obtain⟨nk,nn⟩:=new;obtain⟨jk,jm⟩:=jn;unfold M7 at HJN;dsimp only at o0 o1 n0 n1 HJN;have HS3:Hid (∀W',wr.grownBy W' N->W'.cell? (A jb 0 N)=O (U (O (A wb 0 N)))/\W'.cell? (A ob (a*8+5) N)=O (V (O (A d 0 N)) vl tc)/\W'.cell? (A d (k*2) N)=O (J I ok)/\W'.cell? (A d (k*2+1) N)=O (Z on)/\W'.cell? (sp.add (k*2))=O (J I nk)/\W'.cell? (A ((sp.add (k*2)).block) ((sp.add (k*2)).off+1) N)=O (Z nn)):=λW' hw=>⟨hw.cell j0 Os,hw.cell y5 Os,hw.cell o0 Os,hw.cell o1 Os,hw.cell n0 Os,hw.cell n1 Os⟩
     have bi:jb<wr.heap.size:=nu wr _ j0;clear j0 y4 y5 o0 o1 n0 n1;go_upto_region 16 with fail
     go_cut [13]from 73 to 113 (λc W=>∃g,c= U (O (A g 0 N))/\A4 W g #[J I jk, Z jm] 98/\wr.grownBy W N/\wr.heap.size<=g)
     case first=>
      exact a0h
     obtain⟨g,rfl,hb8,hg8,hgl⟩:=hcut;obtain⟨j0,y4,o0,o1,-,-⟩:=HS3.o _ hg8;obtain⟨t0,t1⟩:=hb8.q2;have aq:=A1 (y.o.keep hg8);have ao:=A1 (hCh.o.tn hg8);clear y hCh HS3 HJN hg8 hb8 yo;go_upto_region 17 with fail
     go_cut [9]from 73 to 113 (λc9 W=>∃b',c9= G b'/\Hid (b'=true↔b=true\/(⟨jk,jm⟩:Ty)≠⟨ok,on⟩)/\wc.grownBy W N)
     case first=>
      cases b with
      |true=>
       exact a3d
      |false=>
       refine ls (S:=λW'=>W'.cell? (A ob (a*8+5) N)=O (V (O (A d 0 N)) vl tc)/\W'.cell? (A d (k*2) N)=O (J I ok)/\W'.cell? (A d (k*2+1) N)=O (Z on)/\W'.cell? (A g 0 N)=O (J I jk)/\W'.cell? (A g 1 N)=O (Z jm)) Ok0 ⟨y4,o0,o1,t0,t1⟩ (λhHeld=> ?_);exact a1p
     obtain⟨b',rfl,am,E⟩:=hcut;replace y4:=E.cell y4 Os
     replace t0:=E.cell t0 Os
     replace t1:=E.cell t1 Os
     have ae:=A1 (aq.o.keep E);have ap:=A1 (ao.o.tn E);have nb:O ob≠O d:=λe=>ae.o.ne (j:=(2*a+1)) Oo (by unfold rB;rw[hR];exact e.symm)
     have ng:O g≠O d:=λe=>by have:=nc.inj e;omega
     have ah:Hid (∀W',wc.grownBy W' (O d)->W'.cell? (A ob (a*8+5) N)=O (V (O (A d 0 N)) vl tc)/\W'.cell? (A g 0 N)=O (J I jk)/\W'.cell? (A g 1 N)=O (Z jm)):=λW' hw=>⟨hw.cell y4 nb,hw.cell t0 ng,hw.cell t1 ng⟩
     have af:Hid (Fm ((wc.setCell (A d (k*2) N) (J I jk)).setCell (A d (k*2+1) N) (Z jm)) base ob n re R (G1 X1 (2*a+1) (N9 L D B (k+1)))):=by have:=ae.o.set Oo hR k ⟨jk,jm⟩;rw[a1x,b3u,<-T.o]at this;exact this
     have ad:Hid (Ch (E8 ob n R) w ((wc.setCell (A d (k*2) N) (J I jk)).setCell (A d (k*2+1) N) (Z jm))):=(ap.o.ts (.inl (.inr ⟨(2*a+1),by omega,by unfold rB;rw[hR];rfl⟩)) _).ts (.inl (.inr ⟨(2*a+1),by omega,by unfold rB;rw[hR];rfl⟩)) _;have an:Hid (b'=true↔I7 L xs ss≠xs\/N9 L D B (k+1)≠D):=by unfold Hid;rw[am.o,hb.o,M.o,or_assoc]
     have aw:wc.grownBy ((wc.setCell (A d (k*2) N) (J I jk)).setCell (A d (k*2+1) N) (Z jm)) (O d):=A0 (A6 wc (A d (k*2) N) _) (A6 _ (A d (k*2+1) N) _);obtain⟨bb,ba,av,-,ay,o0,o1,oz⟩:=ae.o.row (j:=(2*a+1)) (i:=k) Oo (by rw[a1x,YL];exact hlt);rw[hR]at av;obtain⟨rfl,rfl⟩:d=bb/\tc=ba:=by simpa using av
     have z0:=oz (k*2);have z1:=oz (k*2+1);clear oz E ae ap am hb M T aq ao nb ng y4 t0 t1;go_upto_region 18 with fail
     refine T6 ah (C9 _ _) (λhHeld=> ?_);refine A3 0 ?_;refine A3 1 ?_;refine A3 2 ?_;refine A3 3 ?_;refine A3 4 ?_;refine A3 5 ?_;refine A3 6 ?_;refine F3 7 λK' hK=> ?_
     go_simp
     refine hK.o _ _ (ah.o _ (A0 aw (A7 _ _))) (λhHeld=> ?_);clear hK;refine lg Ok0 ?_ _;clear hHeld;replace af:Hid (Fm ((wc.setCell (A d (k*2) N) (J I jk)).setCell (A d (k*2+1) N) (Z jm)).drew base ob n re R (G1 X1 (2*a+1) (N9 L D B (k+1)))):=af.o.keep (A7 _ _)
     replace ad:Hid (Ch (E8 ob n R) w ((wc.setCell (A d (k*2) N) (J I jk)).setCell (A d (k*2+1) N) (Z jm)).drew):=ad.o.tn (A7 _ _)
     generalize ((wc.setCell (A d (k*2) N) (J I jk)).setCell (A d (k*2+1) N) (Z jm)).drew=W9 at af ad⊢;clear aw ay z0 z1 o0 o1 ah;go_wp2_with fail
     go_roundw
     case rel=>exact⟨b',k+1,rfl,by first|rfl|go_num,by omega,af.o,ad.o,an.o⟩
     case measure=>exact a0s
    ·have a5:¬(k:Int)<(vl:Int):=by omega
     have ai:k=D.length:=by rw[K.o.2];omega
     have a0:Hid (b=true↔I7 L xs ss≠xs\/I7 L D B≠D):=by have:=hb.o;rw[ai,a7r K.o.1]at this;exact this
     have ar:Hid (Fm wr base ob n (G1 re a true) R (G1 (G1 X (2*a) (I7 L (X (2*a)) ss)) (2*a+1) (I7 L (X (2*a+1)) B))):=by
      have h1:=y.o;have h2:=a9A re a;rw[bc.o]at h2;rw[ai,a7r K.o.1,bh.o,a3.o,au.o]at h1;rw[h2];exact h1
     clear y hb ai YL e5 y4 y5 yo j0 K al hk;go_wp2_with fail
     exact lb (v:= G b) (by simp[ld,results132,go_sem]) rfl ⟨b,R,_,rfl,ar.o,hCh.o,λ_ h=> .inl h,λe=>(by rw[bc.o]at e;cases e),λ_=>⟨rfl,by rw[<-a3.o,<-au.o];exact a0.o⟩⟩
end
def oO(re:Nat->Bool)(X:Nat->List Ty)(a:Nat):Option (List Ty):=if re a=true then O (X (2*a+1)++X (2*a))else N
def P4(re:Nat->Bool)(X:Nat->List Ty)(n:Nat):V2:=(List.range n).map (oO re X)
theorem a3n(re:Nat->Bool)(X:Nat->List Ty){n a:Nat}(ha:a<n):(P4 re X n)[a]? =O (oO re X a):=by simp[P4,ha]
theorem b3D(re:Nat->Bool)(X:Nat->List Ty){n a:Nat}(ha:a<n)(S V:List Ty):P4 (G1 re a true) (G1 (G1 X (2*a) S) (2*a+1) V) n=(P4 re X n).set a (O (V++S)):=by
 apply no;intro b;rw[na];by_cases hb:b<n
 ·rw[a3n _ _ hb,a3n _ _ hb];by_cases e:a=b
  ·subst e;rw[if_pos rfl,if_pos (by simp[P4,ha])];simp[oO,G1]
  ·rw[if_neg e];unfold oO;rw[a1C _ _ (λg=>e g.symm),a1C _ _ (show 2*b+1≠2*a+1 by omega),a1C _ _ (show 2*b+1≠2*a by omega),a1C _ _ (show 2*b≠2*a+1 by omega),a1C _ _ (show 2*b≠2*a by omega)]
 ·have d:∀(re:Nat->Bool) (X:Nat->List Ty),(P4 re X n)[b]? =N:=λre X=>List.getElem?_eq_none (by simp[P4];omega)
  rw[d,d,if_neg (show a≠b by omega)]
theorem b2c(L:List Cl){a b c d:List Ty}(h:a.length=c.length):I7 L (a++b) (c++d)=I7 L a c++I7 L b d:=by
 unfold I7;rw[List.zipWith_append h]
theorem b8O(L:List Cl){a b c d:List Ty}(h:a.length=c.length)(g:b.length=d.length):a1W L (O (a++b)) (c++d)=true↔I7 L b d≠b\/I7 L a c≠a:=by
 show(!Z4 (I7 L (a++b) (c++d)) (a++b))=true↔_;rw[b2c L h,Bool.not_eq_true',<-Bool.not_eq_true,a4v];have e:I7 L a c++I7 L b d=a++b↔I7 L a c=a/\I7 L b d=b:=⟨λe=>List.append_inj e (a3J L h),λe=>by rw[e.1,e.2]⟩
 rw[e];by_cases e1:I7 L a c=a<;>by_cases e2:I7 L b d=b<;>simp[e1,e2]
def InO(L:List Cl)(w:lf)(base ob n lc:Nat)(re:Nat->Bool)(R:Rr)(X:Nat->List Ty)(a:Nat)(v:List Ty)(e:Ending)(w':lf):Prop:=
 ∃re' R' X',e= Y (G (a1W L (oO re X a) v))/\Fm w' base ob n re' R' X'/\Ch (E8 ob n R) w w'/\(∀k,E8 ob n R' k->E8 ob n R k\/w.heap.size<=k)/\
  P4 re' X' n=(P4 re X n).set a (O (a0C L (oO re X a) v))/\∀b,b<n->re' b=true->(X' (2*b+1)).length=lc
theorem b1Q{w0 w:lf}{jb lim wb:Nat}{L:List Cl}{p:lk}{cap:Nat}{q:Nat->Qs}{C:ByteArray}{m:Me}{r:Qj}{base ob n lc:Nat}{re:Nat->Bool}{R:Rr}{X:Nat->List Ty}
 (h:Hid (Jb w0 jb lim wb L p cap q C m r)) (aa:Hid (w0.grownBy w N)) (ac:w0.heap.size<=base) (hb:base<=w.heap.size) (hF:Hid (Fm w base ob n re R X)) (a:Nat) (ha:a<n) (ss d:List Ty) (D E:Option lk) (sk vk li:Nat) (ab:li<=w.heap.size) (hs:C0 w li 2 B8 D ss) (hv:C0 w li 2 B8 E d)
 (S:(∀p,D=O p->¬E8 ob n R p.block)/\∀p,E=O p->¬E8 ob n R p.block) (M:ss.length<=65535) (T:d.length<=65535) (B:d.length=lc) (F:∀b,b<n->re b=true->(X (2*b+1)).length=lc) (v:re a=true->(X (2*a)).length=ss.length/\G4 L (X (2*a))/\G4 L (X (2*a+1))) (hok:G4 L ss/\G4 L d):
 la prog 132 #[U (O (A jb 0 N)), U (O (A ob (a*8) N)), V D ss.length sk, V E d.length vk] w (InO L w base ob n lc re R X a (d++ss)):=by
 have up:∀{α:Type} {enc:α->List Value} {sz:Nat} {pa:Option lk} {xs:List α},C0 w li sz enc pa xs->C0 w w.heap.size sz enc pa xs:=λhr j hj=>by
  obtain⟨p,W,h2,h3⟩:=hr j hj;exact⟨p,W,Nat.lt_of_lt_of_le h2 ab,h3⟩
 have ad:la prog 132 #[U (O (A jb 0 N)), U (O (A ob (a*8) N)), V D ss.length sk, V E d.length vk] w (InA L w base ob n re R X a ss d):=by
  cases hre:re a with
  |false=>exact c0C hF hb a ha hre ss d D E sk vk jb (up hs) (up hv) S M T
  |true=>exact c0B h aa ac hF a ha hre ss d D E sk vk (up hs) (up hv) S M T (v hre).1 ((F a ha hre).trans B.symm) ⟨(v hre).2.1,hok.1⟩ ⟨(v hre).2.2,hok.2⟩
 refine ad.mono λe w' hA=> ?_
 obtain⟨b,R',X',rfl,W,h2,h3,h4,h5⟩:=hA;cases hre:re a with
 |false=>
  obtain⟨rfl,rfl⟩:=h4 hre;have K:oO re X a=N:=by unfold oO;rw[hre];rfl
  refine⟨_,R',_,by rw[K];rfl,W,h2,h3,by rw[b3D re X ha,K];rfl,λb i g=> ?_⟩;by_cases e:b=a
  ·subst e;rw[a1x];exact B
  ·rw[a1C _ _ Oo,a1C _ _ Oo];rw[a1C _ _ e]at g;exact F b i g
 |true=>
  obtain⟨rfl,h6⟩:=h5 hre;have K:oO re X a=O (X (2*a+1)++X (2*a)):=by unfold oO;rw[hre];rfl
  have y:=(F a ha hre).trans B.symm
  have e1:b=a1W L (oO re X a) (d++ss):=by
   rw[K,nd,h6,b8O L y (v hre).1]
  refine⟨_,R',_,by rw[<-e1],W,h2,h3,?_,λc i g=> ?_⟩
  ·rw[b3D re X ha,K];show _=List.set _ a (O (I7 L (X (2*a+1)++X (2*a)) (d++ss)));rw[b2c L y]
  ·by_cases e:c=a
   ·subst e;rw[a1x,a3J L y];exact F c i hre
   ·rw[a1C _ _ Oo,a1C _ _ Oo];rw[a1C _ _ e]at g;exact F c i g
def o9(base ob fb n lc:Nat)(L:List Cl)(c:ByteArray)(m:Me)(o0:V2)(f0:List Bool)(s0:List Ty)(R0:Rr)(w1 W:lf)(qs:List (Nat×(List Ty->List Ty))):Prop:=
 ∃re R X f,Fm W base ob n re R X/\A4 W fb (f.map Value.bool).toArray 4/\Ch (λk=>E8 ob n R0 k\/k=fb) w1 W/\(∀k,E8 ob n R k->E8 ob n R0 k\/w1.heap.size<=k)/\FlO L c m o0 f0 s0 qs (P4 re X n) f/\∀b,b<n->re b=true->(X (2*b+1)).length=lc
theorem c3v{L:List Cl}(h:C1 L)(d:a4L L)(c n:ByteArray):decide (0<=fdI L c n)=(O0 L c n).isSome:=by
 unfold fdI;rw[h.field_eq d];cases O0 L c n<;>simp
section
variable{w:World}{jb lim wb:Nat}{L:List Cl}{p:Addr}{cap:Nat}{q:Nat->Qs}{C:ByteArray}{m:Me}{r:Qj}
theorem c1M(h:Hid (Jb w jb lim wb L p cap q C m r))(i:Nat)(a:Int)(cls d:ByteArray)(D:Y9 i=⟨#[98]⟩):
 la prog 182 #[U (O (A jb 0 N)), Q #[J I i, J I a, Z cls, Z d]] w λe B=>e= Y (G (decide (a<m.l)))/\w.grownBy B N:=by
 obtain⟨E,-,-,-,-,-,y,F,-⟩:=h.o.cs;have g:Hid (w.grownBy (w.alloc (H #[J I i, J I a, Z cls, Z d] 120)) N):=A2 _ _ _;have j:=A4.new w #[J I i, J I a, Z cls, Z d] 120;clear h E F;go_enter func182,ntmps182;go_upto_region 3 with(go_at_call 258;refine(a2h _ _).mono ?_;rintro e B ⟨rfl,rfl⟩;rw[D])
 generalize w.alloc (H #[J I i, J I a, Z cls, Z d] 120)=W1 at g j⊢;have K:=j.c1;replace y:=g.o.cell y Os
 clear j;go_quiet (fail)
 all_goals
  go_wp2_with fail
  exact lb (v:= G (decide (a<m.l))) (by simp[ld,results182,go_sem]) rfl ⟨rfl,A0 g.o (F4 _ _ N)⟩
theorem c1K(h:Hid (Jb w jb lim wb L p cap q C m r))(i:Nat)(a:Int)(cls d:ByteArray)(D:Y9 i=⟨#[115]⟩):
 la prog 182 #[U (O (A jb 0 N)), Q #[J I i, J I a, Z cls, Z d]] w λe B=>e= Y (G (decide (a<m.c.length)))/\w.grownBy B N:=by
 obtain⟨E,-,-,-,-,-,F,y,-⟩:=h.o.cs;have g:Hid (w.grownBy (w.alloc (H #[J I i, J I a, Z cls, Z d] 120)) N):=A2 _ _ _;have j:=A4.new w #[J I i, J I a, Z cls, Z d] 120;clear h E F;go_enter func182,ntmps182;go_upto_region 5 with(go_at_call 258;refine(a2h _ _).mono ?_;rintro e B ⟨rfl,rfl⟩;rw[D])
 generalize w.alloc (H #[J I i, J I a, Z cls, Z d] 120)=W1 at g j⊢;have K:=j.c1;replace y:=g.o.cell y Os
 clear j;go_quiet (fail)
 all_goals
  go_wp2_with fail
  exact lb (v:= G (decide (a<m.c.length))) (by simp[ld,results182,go_sem]) rfl ⟨rfl,A0 g.o (F4 _ _ N)⟩
theorem c1L(h:Hid (Jb w jb lim wb L p cap q C m r))(y:Nat)(a:Int)(cls i:ByteArray)(hl:Y9 y=⟨#[99]⟩):
 la prog 182 #[U (O (A jb 0 N)), Q #[J I y, J I a, Z cls, Z i]] w λe j=>e= Y (G (E9 L cls))/\w.grownBy j N:=by
 obtain⟨B,-,-,-,-,-,j7,j8,-⟩:=h.o.cs;have g:Hid (w.grownBy (w.alloc (H #[J I y, J I a, Z cls, Z i] 120)) N):=A2 _ _ _;have M:=A1 (λW T=>a2i W lim wb L p cap q (h.o.keep T).rw_.wo cls);have K:Hid (decide (0<=a0o L cls)=E9 L cls):=a5i cls;have D:=A4.new w #[J I y, J I a, Z cls, Z i] 120;clear h j7 j8;go_enter func182,ntmps182;go_upto_region 7 with(go_at_call 258;refine(a2h _ _).mono ?_;rintro e j ⟨rfl,rfl⟩;rw[hl])
 generalize w.alloc (H #[J I y, J I a, Z cls, Z i] 120)=W1 at g D⊢;have E:=D.c2;replace B:=g.o.cell B Os
 clear D;refine ls (S:=λj=>j.cell? (A jb 0 N)=O (U (O (A wb 0 N)))/\j.cell? (A w.heap.size 2 N)=O (Z cls)) Ok0 ⟨B,E⟩ (λd=> ?_);clear B E;refine A3 0 ?_;refine A3 1 ?_;refine A3 2 ?_;refine A3 3 ?_;refine A3 4 ?_;refine A3 5 ?_;refine F3 6 λK' F=> ?_
 go_simp
 go_wp2_with (go_at_call 121;refine(M.o _ (A0 g.o (A7 _ N))).mono ?_;rintro e j ⟨rfl,rfl⟩)
 refine F.o _ _ d (λd=> ?_);clear F;refine A3 7 ?_;refine A3 8 ?_;refine lg Ok0 ?_ _;clear d;go_wp2_with fail
 all_goals exact lb (v:= G (decide (0<=a0o L cls))) (by simp[ld,results182,go_sem]) rfl ⟨N0 K.o,A0 g.o (A7 _ N)⟩
theorem b7r(h:Hid (Jb w jb lim wb L p cap q C m r))(S:Nat)(a:Int)(cls i:ByteArray)(hl:Y9 S=⟨#[99,109]⟩)(ho:S=19):
 la prog 182 #[U (O (A jb 0 N)), Q #[J I S, J I a, Z cls, Z i]] w λe F=>e= Y (G (L6 L cls i).isSome)/\w.grownBy F N:=by
 obtain⟨j0,-,-,-,-,-,j7,j8,-⟩:=h.o.cs;have B:Hid (w.grownBy (w.alloc (H #[J I S, J I a, Z cls, Z i] 120)) N):=A2 _ _ _;have HS:=A1 (λW hW=>a7e W lim wb L p cap q (h.o.keep hW).rw_ cls i);obtain⟨M,hM⟩:=Oe (X4 L cls i)
 rw[<-hM]at HS;obtain⟨is,aa⟩:=Oe ((L6 L cls i).isSome)
 rw[<-aa]at HS⊢;clear hM aa;have d1:((S:Int)==19)=true:=by subst ho;rfl
 have hb:=A4.new w #[J I S, J I a, Z cls, Z i] 120;clear h ho j7 j8;go_enter func182,ntmps182;go_upto_region 9 with(go_at_call 258;refine(a2h _ _).mono ?_;rintro e F ⟨rfl,rfl⟩;rw[hl])
 generalize w.alloc (H #[J I S, J I a, Z cls, Z i] 120)=W1 at B hb⊢;have b2:=hb.c2;have b3:=hb.c3;replace j0:=B.o.cell j0 Os
 clear hb;have y:Hid (∀F,W1.grownBy F N->F.cell? (A jb 0 N)=O (U (O (A wb 0 N)))/\F.cell? (A w.heap.size 2 N)=O (Z cls)/\F.cell? (A w.heap.size 3 N)=O (Z i)):=λF hw=>⟨hw.cell j0 Os,hw.cell b2 Os,hw.cell b3 Os⟩
 refine T6 y (C9 _ _) (λd=> ?_);clear j0 b2 b3;refine A3 0 ?_;refine A3 1 ?_;refine A3 2 ?_;refine A3 3 ?_;refine A3 4 ?_;refine A3 5 ?_;refine A3 6 ?_;refine A3 7 ?_;refine lw (rs:=[8,13]) Ok0 Os ?_;refine AllReadyH.cons rfl (λK' j=> ?_) (AllReadyH.cons rfl (λK' j=> ?_) AllReadyH.nil)
 ·go_simp
  go_wp2_with (go_at_call 188;refine(HS.o _ (A0 B.o (A7 _ N))).mono ?_;rintro e w5 ⟨pa,pk,rfl,-,D⟩;try dsimp only[M7])
  have K:=A0 (A7 W1 N) D;refine j.o _ _ (y.o _ K) (λd=> ?_);clear j;refine A3 9 ?_;refine A3 10 ?_;refine A3 11 ?_;refine A3 12 ?_;refine F3 13 λK' j=> ?_
  go_simp
  have hb7:=A4.new w5 #[J I 0, Z ⟨#[]⟩] 98;have hg7:=A0 K (A2 w5 (H #[J I 0, Z ⟨#[]⟩] 98) N);have E:=K.size;refine j.o _ _ (y.o _ hg7) (λd=> ?_);clear j;try simp only[ll,lz]
  generalize w5.alloc (H #[J I 0, Z ⟨#[]⟩] 98)=T at hb7 hg7 d⊢;generalize w5.heap.size=g at hb7 E⊢;obtain⟨r0,r1,z0,z1⟩:=O7 hb7;refine A3 14 ?_;refine F3 15 λK' j=> ?_
  go_simp
  have hg8:=C6 hg7 (A0 (A6 T (A g 0 N) (J I M.r.k)) (A6 _ (A g 1 N) (Z M.r.n))) (λk e=>by cases e;exact .inl E);refine j.o _ _ (y.o _ hg8) (λd=> ?_);clear j;refine A3 16 ?_;refine lg Ok0 ?_ _;clear d r0 r1 z0 z1;have HG8:Hid (w.grownBy _ N):=A0 B.o hg8;generalize ((T.setCell (A g 0 N) (J I M.r.k)).setCell (A g 1 N) (Z M.r.n))=W8 at HG8⊢;exact c6k
 ·go_simp
  refine j.o _ _ (y.o _ (A0 (A2 W1 (H #[J I 0, Z ⟨#[]⟩] 98) N) (A7 _ N))) (λd=> ?_);clear j;try simp only[ll,lz]
  refine F3 8 λK' j=> ?_
  go_simp
  go_wp2_with (go_at_call 188;refine(HS.o _ (A0 B.o (A0 (A2 W1 (H #[J I 0, Z ⟨#[]⟩] 98) N) (A7 _ N)))).mono ?_;rintro e T ⟨pa,pk,rfl,-,D⟩;try dsimp only[M7])
  have hb7:A4 T W1.heap.size #[J I 0, Z ⟨#[]⟩] 98:=A4.keep (A4.new W1.drew #[J I 0, Z ⟨#[]⟩] 98) D Os;have hg7:=A0 (A0 (A2 W1 (H #[J I 0, Z ⟨#[]⟩] 98) N) (A7 _ N)) D;have E:=lm W1.heap.size;refine j.o _ _ (y.o _ hg7) (λd=> ?_);clear j;obtain⟨r0,r1,z0,z1⟩:=O7 hb7;refine A3 9 ?_;refine A3 10 ?_;refine A3 11 ?_;refine A3 12 ?_;refine A3 14 ?_;refine F3 15 λK' j=> ?_
  go_simp
  have hg8:=C6 hg7 (A0 (A6 T (A W1.heap.size 0 N) (J I M.r.k)) (A6 _ (A W1.heap.size 1 N) (Z M.r.n))) (λk e=>by cases e;exact .inl E);refine j.o _ _ (y.o _ hg8) (λd=> ?_);clear j;refine A3 16 ?_;refine lg Ok0 ?_ _;clear d r0 r1 z0 z1;have HG8:Hid (w.grownBy _ N):=A0 B.o hg8;generalize ((T.setCell (A W1.heap.size 0 N) (J I M.r.k)).setCell (A W1.heap.size 1 N) (Z M.r.n))=W8 at HG8⊢;exact c6k
theorem b6l(h:Hid (Jb w jb lim wb L p cap q C m r))(T:Nat)(a:Int)(cls i:ByteArray)(hl:Y9 T=⟨#[99,109]⟩)(ho:T≠19):
 la prog 182 #[U (O (A jb 0 N)), Q #[J I T, J I a, Z cls, Z i]] w λe F=>e= Y (G (O0 L cls i).isSome)/\w.grownBy F N:=by
 obtain⟨j0,-,-,-,-,-,j7,j8,-⟩:=h.o.cs;have B:Hid (w.grownBy (w.alloc (H #[J I T, J I a, Z cls, Z i] 120)) N):=A2 _ _ _;have HS:=A1 (λW hW=>a8n W lim wb L p cap q (h.o.keep hW).rw_.wo (h.o.keep hW).rw_.pf h.o.rw_.few cls i);have HD:=A1 (c3v h.o.rw_.wld h.o.rw_.mems cls i);obtain⟨M,hM⟩:=Oe (fdT L cls i)
 obtain⟨fi,K⟩:=Oe (fdI L cls i)
 rw[<-hM,<-K]at HS;rw[<-K]at HD;clear hM K;have d1:((T:Int)==19)=false:=beq_eq_false_iff_ne.2 Oo;have hb:=A4.new w #[J I T, J I a, Z cls, Z i] 120;clear h ho j7 j8;go_enter func182,ntmps182;go_upto_region 12 with(go_at_call 258;refine(a2h _ _).mono ?_;rintro e F ⟨rfl,rfl⟩;rw[hl])
 generalize w.alloc (H #[J I T, J I a, Z cls, Z i] 120)=W1 at B hb⊢;have b2:=hb.c2;have b3:=hb.c3;replace j0:=B.o.cell j0 Os
 clear hb;have y:Hid (∀F,W1.grownBy F N->F.cell? (A jb 0 N)=O (U (O (A wb 0 N)))/\F.cell? (A w.heap.size 2 N)=O (Z cls)/\F.cell? (A w.heap.size 3 N)=O (Z i)):=λF hw=>⟨hw.cell j0 Os,hw.cell b2 Os,hw.cell b3 Os⟩
 refine T6 y (C9 _ _) (λd=> ?_);clear j0 b2 b3;refine A3 0 ?_;refine A3 1 ?_;refine A3 2 ?_;refine A3 3 ?_;refine A3 4 ?_;refine A3 5 ?_;refine A3 6 ?_;refine A3 7 ?_;refine lw (rs:=[8,12]) Ok0 Os ?_;refine AllReadyH.cons rfl (λK' j=> ?_) (AllReadyH.cons rfl (λK' j=> ?_) AllReadyH.nil)
 ·go_simp
  go_wp2_with (go_at_call 262;refine(HS.o _ (A0 B.o (A7 _ N))).mono ?_;rintro e w5 ⟨rfl,D⟩;try dsimp only[M7])
  have S:=A0 (A7 W1 N) D;refine j.o _ _ (y.o _ S) (λd=> ?_);clear j;refine A3 9 ?_;refine A3 10 ?_;refine A3 11 ?_;refine F3 12 λK' j=> ?_
  go_simp
  have hb7:=A4.new w5 #[J I 0, Z ⟨#[]⟩] 98;have hg7:=A0 S (A2 w5 (H #[J I 0, Z ⟨#[]⟩] 98) N);have E:=S.size;refine j.o _ _ (y.o _ hg7) (λd=> ?_);clear j;try simp only[ll,lz]
  generalize w5.alloc (H #[J I 0, Z ⟨#[]⟩] 98)=W7 at hb7 hg7 d⊢;generalize w5.heap.size=g at hb7 E⊢;obtain⟨r0,r1,z0,z1⟩:=O7 hb7;refine A3 13 ?_;refine F3 14 λK' j=> ?_
  go_simp
  have hg8:=C6 hg7 (A0 (A6 W7 (A g 0 N) (J I M.k)) (A6 _ (A g 1 N) (Z M.n))) (λk e=>by cases e;exact .inl E);refine j.o _ _ (y.o _ hg8) (λd=> ?_);clear j;refine lg Ok0 ?_ _;clear d r0 r1 z0 z1;have HG8:Hid (w.grownBy _ N):=A0 B.o hg8;generalize ((W7.setCell (A g 0 N) (J I M.k)).setCell (A g 1 N) (Z M.n))=W8 at HG8⊢;exact c6f
 ·go_simp
  refine j.o _ _ (y.o _ (A0 (A2 W1 (H #[J I 0, Z ⟨#[]⟩] 98) N) (A7 _ N))) (λd=> ?_);clear j;try simp only[ll,lz]
  refine F3 8 λK' j=> ?_
  go_simp
  go_wp2_with (go_at_call 262;refine(HS.o _ (A0 B.o (A0 (A2 W1 (H #[J I 0, Z ⟨#[]⟩] 98) N) (A7 _ N)))).mono ?_;rintro e W7 ⟨rfl,D⟩;try dsimp only[M7])
  have hb7:A4 W7 W1.heap.size #[J I 0, Z ⟨#[]⟩] 98:=A4.keep (A4.new W1.drew #[J I 0, Z ⟨#[]⟩] 98) D Os;have hg7:=A0 (A0 (A2 W1 (H #[J I 0, Z ⟨#[]⟩] 98) N) (A7 _ N)) D;have E:=lm W1.heap.size;refine j.o _ _ (y.o _ hg7) (λd=> ?_);clear j;obtain⟨r0,r1,z0,z1⟩:=O7 hb7;refine A3 9 ?_;refine A3 10 ?_;refine A3 11 ?_;refine A3 13 ?_;refine F3 14 λK' j=> ?_
  go_simp
  have hg8:=C6 hg7 (A0 (A6 W7 (A W1.heap.size 0 N) (J I M.k)) (A6 _ (A W1.heap.size 1 N) (Z M.n))) (λk e=>by cases e;exact .inl E);refine j.o _ _ (y.o _ hg8) (λd=> ?_);clear j;refine lg Ok0 ?_ _;clear d r0 r1 z0 z1;have HG8:Hid (w.grownBy _ N):=A0 B.o hg8;generalize ((W7.setCell (A W1.heap.size 0 N) (J I M.k)).setCell (A W1.heap.size 1 N) (Z M.n))=W8 at HG8⊢;exact c6f
theorem b7q(h:Hid (Jb w jb lim wb L p cap q C m r))(g:Nat)(a:Int)(cls d:ByteArray)(i:Y9 g=⟨#[]⟩\/Y9 g=⟨#[108]⟩)(D:g≠19):
 la prog 182 #[U (O (A jb 0 N)), Q #[J I g, J I a, Z cls, Z d]] w λe y=>e= Y (G true)/\w.grownBy y N:=by
 obtain⟨E,-,-,-,-,-,F,K,-⟩:=h.o.cs;have j:Hid (w.grownBy (w.alloc (H #[J I g, J I a, Z cls, Z d] 120)) N):=A2 _ _ _;have d1:((g:Int)==19)=false:=beq_eq_false_iff_ne.2 Oo;have B:=A4.new w #[J I g, J I a, Z cls, Z d] 120;clear h D B E F K;rcases i with i|i
 all_goals
  go_enter func182,ntmps182;go_wp2_with (go_at_call 258;refine(a2h _ _).mono ?_;rintro e y ⟨rfl,rfl⟩;rw[i])
  all_goals exact lb (v:= G true) (by simp[ld,results182,go_sem]) rfl ⟨rfl,j.o⟩
theorem b7a(h:Hid (Jb w jb lim wb L p cap q C m r))(i:In):
 la prog 182 #[U (O (A jb 0 N)),inV i] w λe j=>e= Y (G (K8 L m i))/\w.grownBy j N:=by
 obtain⟨d,a,cls,g⟩:=i;unfold inV K8;dsimp only;by_cases h1:d=2\/d=3
 ·rw[if_pos h1];exact c1M h d a cls g (by unfold Y9 S9;rw[if_neg Oo,if_pos h1])
 rw[if_neg h1];by_cases h2:12<=d/\d<=15
 ·rw[if_pos h2];exact c1K h d a cls g (by unfold Y9 S9;rw[if_neg Oo,if_neg h1,if_pos h2])
 rw[if_neg h2];by_cases h3:d=16\/d=22\/d=28\/d=29
 ·rw[if_pos h3];exact c1L h d a cls g (by unfold Y9 S9;rw[if_neg Oo,if_neg h1,if_neg h2,if_pos h3])
 rw[if_neg h3];by_cases h4:d=17\/d=18
 ·rw[if_pos h4];exact b6l h d a cls g (by unfold Y9 S9;rw[if_neg Oo,if_neg h1,if_neg h2,if_neg h3,if_pos Oo]) Oo
 rw[if_neg h4];by_cases h5:d=19
 ·rw[if_pos h5];exact b7r h d a cls g (by unfold Y9 S9;rw[if_neg Oo,if_neg h1,if_neg h2,if_neg h3,if_pos Oo]) h5
 rw[if_neg h5];refine b7q h d a cls g ?_ h5;unfold Y9 S9;by_cases h6:d=0
 ·rw[if_pos h6];exact .inr rfl
 ·rw[if_neg h6,if_neg h1,if_neg h2,if_neg h3,if_neg Oo];exact .inl rfl
end
variable {L:List Cl}
theorem a9R(h:C1 L)(d:a4L L)(i:In):fdT L i.c i.m=Z3 L i:=by
 unfold fdT Z3;rw[h.field_eq d];cases hf:O0 L i.c i.m with
 |none=>rfl
 |some p=>simp only[Option.map_some];rw[(h.field_get hf).1]
theorem c2q(h:C1 L)(e:Z1 L)(d:a4L L)(c n:ByteArray):(fdT L c n).k<=5:=by
 rw[show fdT L c n=Z3 L ⟨0,0,c,n⟩from a9R h d ⟨0,0,c,n⟩];cases hf:O0 L c n with
 |none=>unfold Z3;rw[hf];exact(by decide:A8.k<=5)
 |some p=>exact(h.field_ok e (i:=⟨0,0,c,n⟩) (by rw[hf];rfl)).1.1
theorem bI(k n:Nat):((k:Int)==(n:Int))=decide (k=n):=by rw[nd,beq_iff_eq,decide_eq_true_eq];omega
section
variable{w:World}{jb lim wb:Nat}{L:List Cl}{p:Addr}{cap:Nat}{q:Nat->Qs}{C:ByteArray}{m:Me}{r:Qj}
theorem b9P(h:Hid (Jb w jb lim wb L p cap q C m r))(c:UInt8)(hc:c=73\/c=65\/c=78\/c=79\/c=67\/c=70\/c=76\/c=74\/c=82\/c=69\/c=84)(t f:Ty)(ht:t.k<=5)(hf:f.k<=5)(i:In):
 la prog 190 #[U (O (A jb 0 N)), .int .u8 c.toNat,M7 t,M7 f,inV i] w λe w'=>e= Y (G (a0E L c t f i))/\w.grownBy w' N:=by
 obtain⟨d,n1⟩:=t;obtain⟨k2,n2⟩:=f;obtain⟨op,a,cls,K⟩:=i;unfold M7 inV;dsimp only at ht hf⊢;obtain⟨T,hT⟩:=Oe (a0E L c ⟨d,n1⟩ ⟨k2,n2⟩ ⟨op,a,cls,K⟩)
 have HR:=A1 hT;rw[<-hT];obtain⟨cn,aa⟩:∃cn:Nat,cn=c.toNat:=⟨_,rfl⟩
 rw[<-aa];have D:Hid (w.grownBy (((w.alloc (H #[J I d, Z n1] 98)).alloc (H #[J I k2, Z n2] 98)).alloc (H #[J I op, J I a, Z cls, Z K] 120)) N):=A0 (A0 (A2 _ _ _) (A2 _ _ _)) (A2 _ _ _);have hA:=((A4.new w #[J I d, Z n1] 98).keep (row:=N) (A2 _ (H #[J I k2, Z n2] 98) _) Os).keep (row:=N) (A2 _ (H #[J I op, J I a, Z cls, Z K] 120) _) Os;have hB:=(A4.new (w.alloc (H #[J I d, Z n1] 98)) #[J I k2, Z n2] 98).keep (row:=N) (A2 _ (H #[J I op, J I a, Z cls, Z K] 120) _) Os;have hI:=A4.new ((w.alloc (H #[J I d, Z n1] 98)).alloc (H #[J I k2, Z n2] 98)) #[J I op, J I a, Z cls, Z K] 120;rw[nf]at hB;rw[nf,nf]at hI;have HJ:=A1 (λW (hW:w.grownBy W N)=>h.o.keep hW);have HU:Hid (∀W M,w.grownBy W N->M.k<=5->la prog 187 #[U (O (A wb 0 N)), Q #[J I d, Z n1], Q #[J I M.k, Z M.n]] W λe w'=>e= Y (G (C4 L ⟨d,n1⟩ M))/\W.grownBy w' N):=λW M hW hM=>a6M W lim wb L p cap q (HJ.o W hW).rw_.wo ⟨d,n1⟩ M ht hM
 have ae:=hf;clear hT h ht hf;go_enter func190,ntmps190;go_upto_region 1 with fail
 generalize ((w.alloc (H #[J I d, Z n1] 98)).alloc (H #[J I k2, Z n2] 98)).alloc (H #[J I op, J I a, Z cls, Z K] 120)=W1 at D hA hB hI⊢;have HC:Hid (∀S,W1.grownBy S N->S.cell? (A jb 0 N)=O (U (O (A wb 0 N)))/\S.cell? (A w.heap.size 0 N)=O (J I d)/\S.cell? (A w.heap.size 1 N)=O (Z n1)/\S.cell? (A (w.heap.size+1) 0 N)=O (J I k2)/\S.cell? (A (w.heap.size+1) 1 N)=O (Z n2)/\S.cell? (A (w.heap.size+1+1) 2 N)=O (Z cls)/\S.cell? (A (w.heap.size+1+1) 3 N)=O (Z K)):=λS hW=>⟨(HJ.o _ (A0 D.o hW)).cs.1,(hA.keep hW Os).cell 0 _ rfl,(hA.keep hW Os).cell 1 _ rfl,(hB.keep hW Os).cell 0 _ rfl,(hB.keep hW Os).cell 1 _ rfl,(hI.keep hW Os).cell 2 _ rfl,(hI.keep hW Os).cell 3 _ rfl⟩
 clear hA hB hI;obtain⟨-,y0,y1,y2,y3,-,-⟩:=HC.o _ (C9 _ _);have d0:((d:Int)==0)=decide (d=0):=bI d 0;have d1:((d:Int)==1)=decide (d=1):=bI d 1;have d3:((d:Int)==3)=decide (d=3):=bI d 3;have d4:((d:Int)==4)=decide (d=4):=bI d 4;have d5:((d:Int)==5)=decide (d=5):=bI d 5;have dn:((d:Int) !=0)= !decide (d=0):=by unfold bne;rw[d0]
 rcases hc with rfl|rfl|rfl|rfl|rfl|rfl|rfl|rfl|rfl|rfl|rfl
 all_goals
  simp at aa;subst aa;simp only[Int.cast_ofNat_Int]
 ·go_wp2_with fail
  all_goals exact lb (v:= G (decide (d=1))) (by simp[ld,results190,go_sem]) rfl ⟨N0 HR.o.symm,D.o⟩
 ·go_wp2_with fail
  all_goals exact lb (v:= G true) (by simp[ld,results190,go_sem]) rfl ⟨N0 HR.o.symm,D.o⟩
 ·have F:Hid (T= !decide (d=0)):=by unfold Hid;rw[HR.o];show decide (d≠0)=_;simp
  go_wp2_with fail
  all_goals exact lb (v:= G (!decide (d=0))) (by simp[ld,results190,go_sem]) rfl ⟨N0 F.o.symm,D.o⟩
 ·skip
  have F:Hid (T=C4 L ⟨d,n1⟩ (C5 D5)):=HR.o;go_upto_region 8 with fail
  refine T6 HC (C9 _ _) (λhHeld=> ?_);refine A3 0 ?_;refine A3 1 ?_;refine A3 2 ?_;refine A3 3 ?_;refine A3 4 ?_;refine F3 5 λK' hK=> ?_
  go_simp
  go_wp2_with (go_at_call 131;refine(a2N _ _).mono ?_;rintro e w5 ⟨rfl,hg⟩)
  have B:=A0 (A7 W1 N) hg;refine hK.o _ _ (HC.o _ B) (λhHeld=> ?_);clear hK;refine F3 6 λK' hK=> ?_
  go_simp
  go_wp2_with (go_at_call 187;refine(HU.o _ (C5 D5) (A0 D.o B) Od).mono ?_;rintro e w6 ⟨rfl,E⟩)
  refine hK.o _ _ (HC.o _ (A0 B E)) (λhHeld=> ?_);clear hK;refine A3 7 ?_;refine lg Ok0 ?_ _;go_wp2_with fail
  all_goals exact lb (v:= G (C4 L ⟨d,n1⟩ (C5 D5))) (by simp[ld,results190,go_sem]) rfl ⟨N0 F.o.symm,A0 D.o (A0 B E)⟩
 ·skip
  have F:Hid (T=C4 L ⟨d,n1⟩ (C5 cls)):=HR.o;go_upto_region 10 with fail
  refine T6 HC (C9 _ _) (λhHeld=> ?_);refine A3 0 ?_;refine A3 1 ?_;refine A3 2 ?_;refine A3 3 ?_;refine A3 4 ?_;refine A3 5 ?_;refine A3 6 ?_;refine F3 7 λK' hK=> ?_
  go_simp
  go_wp2_with (go_at_call 131;refine(a2N _ _).mono ?_;rintro e w5 ⟨rfl,hg⟩)
  have B:=A0 (A7 W1 N) hg;refine hK.o _ _ (HC.o _ B) (λhHeld=> ?_);clear hK;refine F3 8 λK' hK=> ?_
  go_simp
  go_wp2_with (go_at_call 187;refine(HU.o _ (C5 cls) (A0 D.o B) (by show 2<=5;decide)).mono ?_;rintro e w6 ⟨rfl,E⟩)
  refine hK.o _ _ (HC.o _ (A0 B E)) (λhHeld=> ?_);clear hK;refine A3 9 ?_;refine lg Ok0 ?_ _;go_wp2_with fail
  all_goals exact lb (v:= G (C4 L ⟨d,n1⟩ (C5 cls))) (by simp[ld,results190,go_sem]) rfl ⟨N0 F.o.symm,A0 D.o (A0 B E)⟩
 ·obtain⟨M,hM⟩:=Oe (fdT L cls K)
  have F:Hid (T=C4 L ⟨d,n1⟩ M):=by unfold Hid;rw[HR.o,hM,a9R (HJ.o w (C9 _ _)).rw_.wld (HJ.o w (C9 _ _)).rw_.mems ⟨op,a,cls,K⟩];rfl
  have ad:M.k<=5:=by rw[hM];exact c2q (HJ.o w (C9 _ _)).rw_.wld (HJ.o w (C9 _ _)).rw_.tyw (HJ.o w (C9 _ _)).rw_.mems cls K
  have HF:Hid (∀W,W1.grownBy W N->la prog 262 #[U (O (A wb 0 N)), Z cls, Z K] W λe w'=>e= Y (.tuple #[J I (fdI L cls K),M7 M])/\W.grownBy w' N):=by
   rw[hM];exact λW hW=>by have hj:=HJ.o W (A0 D.o hW);exact a8n W lim wb L p cap q hj.rw_.wo hj.rw_.pf hj.rw_.few cls K
  clear hM;go_upto_region 12 with fail
  go_cut [13]from 12 (λc W=>∃g,c= U (O (A g 0 N))/\A4 W g #[J I M.k, Z M.n] 98/\W1.grownBy W N)
  case first=>
   refine T6 HC (C9 _ _) (λhHeld=> ?_);refine A3 0 ?_;refine A3 1 ?_;refine A3 2 ?_;refine A3 3 ?_;refine A3 4 ?_;refine A3 5 ?_;refine A3 6 ?_;refine A3 7 ?_;refine lw (rs:=[8,12]) Ok0 Os ?_;refine AllReadyH.cons rfl (λK' hK=> ?_) (AllReadyH.cons rfl (λK' hK=> ?_) AllReadyH.nil);rotate_left
   ·go_simp
    refine hK.o _ _ (HC.o _ (A0 (A2 W1 (H #[J I 0, Z ⟨#[]⟩] 98) N) (A7 _ N))) (λhHeld=> ?_);clear hK;try simp only[ll,lz]
    refine F3 8 λK' hK=> ?_
    go_simp
    go_wp2_with (go_at_call 262;refine(HF.o _ (A0 (A2 W1 (H #[J I 0, Z ⟨#[]⟩] 98) N) (A7 _ N))).mono ?_;rintro e W7 ⟨rfl,B⟩;dsimp only[M7])
    have hb7:A4 W7 W1.heap.size #[J I 0, Z ⟨#[]⟩] 98:=A4.keep (A4.new W1.drew #[J I 0, Z ⟨#[]⟩] 98) B Os;have hg7:=A0 (A0 (A2 W1 (H #[J I 0, Z ⟨#[]⟩] 98) N) (A7 _ N)) B;have hgl:=lm W1.heap.size;refine hK.o _ _ (HC.o _ hg7) (λhHeld=> ?_);clear hK;obtain⟨r0,r1,z0,z1⟩:=O7 hb7;refine A3 9 ?_;refine A3 10 ?_;refine A3 11 ?_;exact a3x
   ·go_simp
    go_wp2_with (go_at_call 262;refine(HF.o _ (A7 _ N)).mono ?_;rintro e w5 ⟨rfl,B⟩;dsimp only[M7])
    have E:=A0 (A7 W1 N) B;refine hK.o _ _ (HC.o _ E) (λhHeld=> ?_);clear hK;refine A3 9 ?_;refine A3 10 ?_;refine A3 11 ?_;refine F3 12 λK' hK=> ?_
    go_simp
    have hb7:=A4.new w5 #[J I 0, Z ⟨#[]⟩] 98;have hg7:=A0 E (A2 w5 (H #[J I 0, Z ⟨#[]⟩] 98) N);have hgl:=E.size;refine hK.o _ _ (HC.o _ hg7) (λhHeld=> ?_);clear hK;try simp only[ll,lz]
    generalize w5.alloc (H #[J I 0, Z ⟨#[]⟩] 98)=W7 at hb7 hg7 hHeld⊢;generalize w5.heap.size=g at hb7 hgl⊢;obtain⟨r0,r1,z0,z1⟩:=O7 hb7;exact a3x
  obtain⟨g,rfl,hb8,hg8⟩:=hcut
  have ab:Hid (∀S,wc.grownBy S N->S.cell? (A jb 0 N)=O (U (O (A wb 0 N)))/\S.cell? (A w.heap.size 0 N)=O (J I d)/\S.cell? (A w.heap.size 1 N)=O (Z n1)/\S.cell? (A g 0 N)=O (J I M.k)/\S.cell? (A g 1 N)=O (Z M.n)):=λS hW=>by
   obtain⟨h0,h1,h2,-⟩:=HC.o _ (A0 hg8 hW);exact⟨h0,h1,h2,(hb8.keep hW Os).cell 0 _ rfl,(hb8.keep hW Os).cell 1 _ rfl⟩
  go_upto_region 13 with fail
  refine T6 ab (C9 _ _) (λhHeld=> ?_);refine A3 0 ?_;refine A3 1 ?_;refine A3 2 ?_;refine A3 3 ?_;refine A3 4 ?_;refine A3 5 ?_;refine F3 6 λK' hK=> ?_
  go_simp
  go_wp2_with (go_at_call 187;refine(HU.o _ M (A0 D.o (A0 hg8 (A7 _ N))) ad).mono ?_;rintro e w9 ⟨rfl,hg⟩)
  have ac:=A0 (A7 wc N) hg;refine hK.o _ _ (ab.o _ ac) (λhHeld=> ?_);clear hK;refine A3 7 ?_;refine lg Ok0 ?_ _;go_wp2_with fail
  all_goals exact lb (v:= G (C4 L ⟨d,n1⟩ M)) (by simp[ld,results190,go_sem]) rfl ⟨N0 F.o.symm,A0 D.o (A0 hg8 ac)⟩
 ·have F:Hid (T=(decide (d=3)||decide (d=4)||decide (d=5))):=by unfold Hid;rw[HR.o];show decide (d=3\/d=4\/d=5)=_;simp[nh,ni]
  generalize decide (d=3)=b3 at d3 F;generalize decide (d=4)=b4 at d4 F;generalize decide (d=5)=b5 at d5 F;cases b3<;>cases b4<;>cases b5
  all_goals
   go_wp2_with fail
   first
    |all_goals exact lb (v:= G true) (by simp[ld,results190,go_sem]) rfl ⟨N0 F.o.symm,D.o⟩
    |all_goals exact lb (v:= G false) (by simp[ld,results190,go_sem]) rfl ⟨N0 F.o.symm,D.o⟩
 ·have F:Hid (T=(decide (d=3)||decide (d=5))):=by unfold Hid;rw[HR.o];show decide (d=3\/d=5)=_;simp[nh,ni]
  generalize decide (d=3)=b3 at d3 F;generalize decide (d=5)=b5 at d5 F;cases b3<;>cases b5
  all_goals
   go_wp2_with fail
   first
    |all_goals exact lb (v:= G true) (by simp[ld,results190,go_sem]) rfl ⟨N0 F.o.symm,D.o⟩
    |all_goals exact lb (v:= G false) (by simp[ld,results190,go_sem]) rfl ⟨N0 F.o.symm,D.o⟩
 ·have F:Hid (T=(decide (d=4)||decide (d=5))):=by unfold Hid;rw[HR.o];show decide (d=4\/d=5)=_;simp[nh,ni]
  generalize decide (d=4)=b4 at d4 F;generalize decide (d=5)=b5 at d5 F;cases b4<;>cases b5
  all_goals
   go_wp2_with fail
   first
    |all_goals exact lb (v:= G true) (by simp[ld,results190,go_sem]) rfl ⟨N0 F.o.symm,D.o⟩
    |all_goals exact lb (v:= G false) (by simp[ld,results190,go_sem]) rfl ⟨N0 F.o.symm,D.o⟩
 ·by_cases h5:k2=5
  ·have e5:((k2:Int)==5)=true:=by rw[h5];rfl
   have F:Hid (T=C4 L ⟨d,n1⟩ (C5 D5)):=by unfold Hid;rw[HR.o];simp[a0E,h5]
   clear h5;go_upto_region 24 with fail
   refine T6 HC (C9 _ _) (λhHeld=> ?_);refine A3 0 ?_;refine A3 1 ?_;refine A3 2 ?_;refine A3 3 ?_;refine A3 4 ?_;refine F3 5 λK' hK=> ?_
   go_simp
   go_wp2_with (go_at_call 131;refine(a2N _ _).mono ?_;rintro e w5 ⟨rfl,hg⟩)
   have B:=A0 (A7 W1 N) hg;refine hK.o _ _ (HC.o _ B) (λhHeld=> ?_);clear hK;refine F3 6 λK' hK=> ?_
   go_simp
   go_wp2_with (go_at_call 187;refine(HU.o _ (C5 D5) (A0 D.o B) Od).mono ?_;rintro e w6 ⟨rfl,E⟩)
   refine hK.o _ _ (HC.o _ (A0 B E)) (λhHeld=> ?_);clear hK;refine A3 7 ?_;refine lg Ok0 ?_ _;go_wp2_with fail
   all_goals exact lb (v:= G (C4 L ⟨d,n1⟩ (C5 D5))) (by simp[ld,results190,go_sem]) rfl ⟨N0 F.o.symm,A0 D.o (A0 B E)⟩
  ·have e5:((k2:Int)==5)=false:=beq_eq_false_iff_ne.2 Oo;have F:Hid (T=C4 L ⟨d,n1⟩ (N7 ⟨k2,n2⟩)):=by unfold Hid;rw[HR.o];simp[a0E,h5]
   have hM:(N7 ⟨k2,n2⟩).k<=5:=by
    unfold N7;repeat' split
    all_goals first|decide|(show 2<=5;decide)
   go_upto_region 25 with fail
   refine T6 HC (C9 _ _) (λhHeld=> ?_);refine A3 0 ?_;refine A3 1 ?_;refine A3 2 ?_;refine A3 3 ?_;refine A3 4 ?_;refine A3 5 ?_;refine F3 6 λK' hK=> ?_
   go_simp
   go_wp2_with (go_at_call 264;refine(b1U _ ⟨k2,n2⟩).mono ?_;rintro e w5 ⟨rfl,hg⟩)
   have B:=A0 (A7 W1 N) hg;refine hK.o _ _ (HC.o _ B) (λhHeld=> ?_);clear hK;refine F3 7 λK' hK=> ?_
   go_simp
   go_wp2_with (go_at_call 187;refine(HU.o _ (N7 ⟨k2,n2⟩) (A0 D.o B) hM).mono ?_;rintro e w6 ⟨rfl,E⟩)
   refine hK.o _ _ (HC.o _ (A0 B E)) (λhHeld=> ?_);clear hK;refine A3 8 ?_;refine lg Ok0 ?_ _;go_wp2_with fail
   all_goals exact lb (v:= G (C4 L ⟨d,n1⟩ (N7 ⟨k2,n2⟩))) (by simp[ld,results190,go_sem]) rfl ⟨N0 F.o.symm,A0 D.o (A0 B E)⟩
 ·skip
  have F:Hid (T=C4 L ⟨d,n1⟩ (C5 G6)):=HR.o;go_upto_region 15 with fail
  refine T6 HC (C9 _ _) (λhHeld=> ?_);refine A3 0 ?_;refine A3 1 ?_;refine A3 2 ?_;refine A3 3 ?_;refine A3 4 ?_;refine F3 5 λK' hK=> ?_
  go_simp
  go_wp2_with (go_at_call 131;refine(a2N _ _).mono ?_;rintro e w5 ⟨rfl,hg⟩)
  have B:=A0 (A7 W1 N) hg;refine hK.o _ _ (HC.o _ B) (λhHeld=> ?_);clear hK;refine F3 6 λK' hK=> ?_
  go_simp
  go_wp2_with (go_at_call 187;refine(HU.o _ (C5 G6) (A0 D.o B) Od).mono ?_;rintro e w6 ⟨rfl,E⟩)
  refine hK.o _ _ (HC.o _ (A0 B E)) (λhHeld=> ?_);clear hK;refine A3 7 ?_;refine lg Ok0 ?_ _;go_wp2_with fail
  all_goals exact lb (v:= G (C4 L ⟨d,n1⟩ (C5 G6))) (by simp[ld,results190,go_sem]) rfl ⟨N0 F.o.symm,A0 D.o (A0 B E)⟩
end
theorem b8a:∀d,d<32->∀c∈x8 d,c=73\/c=65\/c=78\/c=79\/c=67\/c=70\/c=76\/c=74\/c=82\/c=69\/c=84:=by decide
theorem b8b(e:Nat):∀c∈x8 e,c=73\/c=65\/c=78\/c=79\/c=67\/c=70\/c=76\/c=74\/c=82\/c=69\/c=84:=by
 by_cases h:e<32
 ·exact b8a e h
 ·intro c d;unfold x8 at d;repeat rw[if_neg Oo]at d
  cases d
section
variable{w:World}{jb lim wb:Nat}{L:List Cl}{p:Addr}{cap:Nat}{q:Nat->Qs}{C:ByteArray}{m:Me}{r:Qj}
theorem b8n(h:Hid (Jb w jb lim wb L p cap q C m r))(i:In)(d B:List Ty)(sa va:Option lk)(sk vk li:Nat)(hs:Hid (C0 w li 2 B8 sa d))(hv:Hid (C0 w li 2 B8 va B))
 (dh:d.length<=65535) (bs:sa=N->d=[]/\sk=0) (bt:d.length<=sk) (dj:B.length<=65535) (co:∀x∈d,x.k<=5) (cn:m.r.k<=5) (cj:∀x∈(O2 L i).p,x.k<=5)
 (ar:a4E L m i d.length=true) (hi:i.o=2->0<=i.a/\i.a.toNat<B.length):
 la prog 126 #[U (O (A jb 0 N)),inV i, V sa d.length sk, V va B.length vk] w λe w'=>e= Y (G (a3s L m i d B))/\w.grownBy w' N:=by
 obtain⟨F,a,cls,j⟩:=i;unfold inV;dsimp only at hi⊢;have hst:=h.o.s;obtain⟨n,hn⟩:=Oe (d.length-D7 L m ⟨F,a,cls,j⟩)
 have a1:D7 L m ⟨F,a,cls,j⟩<=d.length/\n+I5 L ⟨F,a,cls,j⟩<=m.s:=by
  unfold a4E at ar;simp only[Bool.and_eq_true,decide_eq_true_eq]at ar;rw[hn];exact ar
 have bf:Hid (a1k L m ⟨F,a,cls,j⟩ d=d.drop n):=by unfold Hid a1k;rw[hn]
 have cu:=A1 ar;have a4:Hid (w.grownBy (w.alloc (H #[.int I F, .int I a, Z cls, Z j] 120)) N):=A2 _ _ _;have hb:=A4.new w #[.int I F, .int I a, Z cls, Z j] 120;have ai:Hid (∀W,w.grownBy W N->la prog 184 #[U (O (A jb 0 N)), Q #[.int I F, .int I a, Z cls, Z j]] W λe w'=>e= Y (.tuple #[.int I (D7 L m ⟨F,a,cls,j⟩), .int I (I5 L ⟨F,a,cls,j⟩)])/\W.grownBy w' N):=λW hW=>a6H W jb lim wb L p cap q C m r (h.o.keep hW) ⟨F,a,cls,j⟩
 have HJ:=A1 (λW (hW:w.grownBy W N)=>h.o.keep hW);obtain⟨t,ht⟩:=Oe (D7 L m ⟨F,a,cls,j⟩)
 obtain⟨u,hu⟩:=Oe (I5 L ⟨F,a,cls,j⟩)
 obtain⟨S,hS⟩:=Oe m.s
 obtain⟨ln,ak⟩:=Oe d.length
 obtain⟨vn,bd⟩:=Oe B.length
 rw[<-ht,<-hu]at ai;rw[<-ht,<-hu,<-hS,<-ak]at a1;rw[<-ht,<-ak]at hn;rw[<-hS]at hst;rw[<-ak]at dh bt;rw[<-bd]at dj hi;have HS:=A1 hS;have HT:=A1 ht;have bi:=A1 ak;have bm:=A1 bd;rw[<-ak,<-bd];have dy:t+n=ln:=by omega
 have hp:=a1.2;have HX:Hid (∀W,w.grownBy W N->C0 W li 2 B8 sa d/\C0 W li 2 B8 va B):=λW hW=>⟨hs.o.keep hW,hv.o.keep hW⟩
 have HK:Hid ((∀x∈d,x.k<=5)/\m.r.k<=5/\∀x∈(O2 L ⟨F,a,cls,j⟩).p,x.k<=5):=⟨co,cn,cj⟩
 have e1:IntKind.i64.wrap ((ln:Int)-(t:Int))=(n:Int):=by rw[IntWalk.i64_in _ Oo];omega
 have e2:IntKind.i64.wrap ((n:Int)+(u:Int))=((n+u:Nat):Int):=by rw[IntWalk.i64_in _ Oo];omega
 have d1:decide ((n:Int)<0)=false:=decide_eq_false Oo;have d2:decide ((S:Int)<(n:Int)+(u:Int))=false:=decide_eq_false Oo;have c':decide (S<u)=false:=decide_eq_false Oo;have H0:Hid (sa=N->ln=0/\sk=0):=λe=>⟨by rw[ak,(bs e).1];rfl,(bs e).2⟩
 have aa:Hid (a3s L m ⟨F,a,cls,j⟩ d B=if F=2 then decide ((B.getD a.toNat A8).k≠0)else if F=20 then decide (t=0)||C4 L ((d.drop n).getD 0 A8) m.r
  else if F=19 then C4 L ((d.drop n).getD 0 A8) (C5 cls)&&T3 L ((d.drop n).drop 1) (O2 L ⟨F,a,cls,j⟩).p else a0R L ⟨F,a,cls,j⟩ ((d.drop n).getD 0 A8) (x8 F) (d.drop n)):=by
  unfold Hid a3s;rw[ar,bf.o,<-ht,nj]
 obtain⟨R,hR⟩:=Oe (a3s L m ⟨F,a,cls,j⟩ d B)
 rw[<-hR]at aa⊢;clear ht hu hS h ak bd hn ar a1 hs hv co cn cj bs bf cu hR;go_enter func126,ntmps126;go_upto_region 1 with fail
 generalize w.alloc (H #[.int I F, .int I a, Z cls, Z j] 120)=W1 at a4 hb⊢;have b0:=hb.c0;have b1:=hb.c1;have b2:=hb.c2;have b3:=hb.c3;go_upto_region 2 with(go_at_call 184;refine(ai.o _ a4.o).mono ?_;rintro e W ⟨rfl,ag⟩)
 obtain⟨-,-,-,-,-,j6,-,-,-⟩:=(HJ.o _ (A0 a4.o ag)).cs;rw[<-HS.o]at j6;have ab:=A1 (A0 a4.o ag);have am:=A1 (hb.keep ag Os);clear b0 b1 b2 b3 hb;have al:=λD=>b3X D sa ln sk n Oo bt
 rw[show ln-n=t by omega]at al;have hT:C0 W li 2 B8 (tlA sa n sk) (d.drop n):=b4s (HX.o _ ab.o).1 (by rw[<-bi.o];exact bt);have ao:=A1 hT;obtain⟨tk,cp⟩:=Oe (sk-n)
 rw[<-cp]at al;clear hT cp;generalize tlA sa n sk=T at al ao
 have bn:t≠0->∃tp,T=O tp:=λh0=>by
  obtain⟨p,e,-⟩:=ao.o 0 (by rw[ly,<-bi.o];omega);exact⟨p,e⟩
 go_upto_region 6 with fail
 have ae:Hid ((d.drop n).length=t):=by unfold Hid;rw[ly,<-bi.o];omega
 obtain⟨K,a2⟩:=Oe (d.drop n)
 have aw:Hid (∀x∈K,x.k<=5):=by rw[a2];exact λx hx=>HK.o.1 x (List.mem_of_mem_drop hx)
 rw[<-a2]at ao ae aa;have cb:=HX.o _ ab.o;have cx:=A1 cb.2;clear a2 cb H0 al e1 d1 d2 c' ai;obtain⟨b0,b1,b2,b3⟩:W.cell? (A w.heap.size 0 N)=O (.int I F)/\W.cell? (A w.heap.size 1 N)=O (.int I a)/\W.cell? (A w.heap.size 2 N)=O (Z cls)/\W.cell? (A w.heap.size 3 N)=O (Z j):=⟨am.o.cell 0 _ rfl,am.o.cell 1 _ rfl,am.o.cell 2 _ rfl,am.o.cell 3 _ rfl⟩
 by_cases ho2:F=2
 ·have HR:Hid (R=decide ((B.getD a.toNat A8).k≠0)):=by unfold Hid;rw[aa.o,if_pos ho2]
  obtain⟨db,a7⟩:=hi ho2;obtain⟨an,rfl⟩:∃an:Nat,a=an:=⟨a.toNat,by omega⟩
  rw[Int.toNat_natCast]at a7 HR;have d3:((F:Int)==2)=true:=by rw[ho2];rfl
  obtain⟨vp,dk,-,cr⟩:=cx.o an (by rw[<-bm.o];exact a7);obtain⟨x,hx⟩:∃x,x=B[an]'(by rw[<-bm.o];exact a7):=⟨_,rfl⟩
  have v0:W.cell? (vp.add (an*2))=O (.int I x.k):=by rw[hx];exact cr 0 _ rfl
  have b5:Hid (R=decide (x.k≠0)):=by unfold Hid;rw[HR.o,hx];simp[lh,lj (show an<B.length by rw[<-bm.o];exact a7)]
  subst dk;clear cr hx HR db hi ho2 aa;by_cases hk:x.k=0
  ·have d4:((x.k:Int)==0)=true:=by rw[hk];rfl
   have av:=A1 hk;clear hk;go_wp2_with fail
   all_goals exact lb (v:= G false) (by simp[ld,results126,go_sem,av.o]) rfl ⟨by rw[b5.o,av.o];rfl,ab.o⟩
  ·have d4:((x.k:Int)==0)=false:=beq_eq_false_iff_ne.2 Oo;have av:=A1 hk;clear hk;go_wp2_with fail
   all_goals exact lb (v:= G true) (by simp[ld,results126,go_sem,av.o]) rfl ⟨by rw[b5.o];simp[av.o],ab.o⟩
 have d2:((F:Int)==2)=false:=beq_eq_false_iff_ne.2 Oo;rw[if_neg ho2]at aa;have HU:Hid (∀D,W.grownBy D N->∀s t:Ty,s.k<=5->t.k<=5->la prog 187 #[U (O (A wb 0 N)), Q #[.int I s.k, Z s.n], Q #[.int I t.k, Z t.n]] D λe w'=>e= Y (G (C4 L s t))/\D.grownBy w' N):=λD hW s t h1 h2=>a6M D lim wb L p cap q (HJ.o D (A0 ab.o hW)).rw_.wo s t h1 h2
 by_cases ho20:F=20
 ·have da:((F:Int)==20)=true:=by rw[ho20];rfl
  rw[if_pos ho20]at aa;obtain⟨j0,-,-,j4,j5,-⟩:=(HJ.o _ ab.o).cs;clear b1 b2 b3 hi;by_cases ht0:t=0
  ·have HR:Hid (R=true):=by unfold Hid;rw[aa.o,ht0];rfl
   subst ht0;clear aa ho20 ho2;go_wp2_with fail
   go_quiet (fail)
   all_goals
    go_wp2_with fail
    exact lb (v:= G true) (by simp[ld,results126,go_sem]) rfl ⟨by rw[HR.o],A0 ab.o (F4 _ _ N)⟩
  ·obtain⟨tp,rfl⟩:=bn ht0;obtain⟨pp,ad,-,he⟩:=ao.o 0 (by rw[ae.o];omega);injection ad with ad
   subst ad;obtain⟨x,hx⟩:∃x,x=K[0]'(by rw[ae.o];omega):=⟨_,rfl⟩
   rw[<-hx]at he;have x0:W.cell? tp=O (.int I x.k):=he 0 _ rfl;have x1:W.cell? (A tp.block (tp.off+1) N)=O (Z x.n):=he 1 _ rfl;have au:x.k<=5:=by rw[hx];exact aw.o _ (lp _)
   have HR:Hid (R=C4 L x m.r):=by
    unfold Hid;rw[aa.o,decide_eq_false ht0,Bool.false_or,hx];simp[lh,lj (show 0<K.length by rw[ae.o];omega)]
   have d0:((t:Int)==0)=false:=beq_eq_false_iff_ne.2 Oo;have du:(0:Int)<(t:Int):=by omega
   have dc:0<t:=by omega
   have df:=HK.o.2.1;clear aa ho20 ho2 he hx ht0;go_wp2_with fail
   have HC:Hid (∀D,W.grownBy D N->D.cell? (A jb 0 N)=O (U (O (A wb 0 N)))/\D.cell? tp=O (.int I x.k)/\D.cell? (A tp.block (tp.off+1) N)=O (Z x.n)/\D.cell? (A jb 4 N)=O (.int I m.r.k)/\D.cell? (A jb 5 N)=O (Z m.r.n)):=λD hW=>⟨hW.cell j0 Os,hW.cell x0 Os,hW.cell x1 Os,hW.cell j4 Os,hW.cell j5 Os⟩
   refine T6 HC (C9 _ _) (λhHeld=> ?_);clear j0 x0 x1 j4 j5;refine A3 0 ?_;refine A3 1 ?_;refine A3 2 ?_;refine A3 3 ?_;refine A3 4 ?_;refine A3 5 ?_;refine A3 6 ?_;refine A3 7 ?_;refine A3 8 ?_;refine A3 9 ?_;refine A3 10 ?_;refine A3 11 ?_;refine A3 12 ?_;refine A3 13 ?_;refine A3 14 ?_;refine F3 15 λK' hK=> ?_
   go_simp
   go_wp2_with (go_at_call 187;refine(HU.o _ (A7 W N) x m.r au df).mono ?_;rintro e w9 ⟨rfl,ah⟩)
   refine hK.o _ _ (HC.o _ (A0 (A7 W N) ah)) (λhHeld=> ?_);clear hK;refine A3 16 ?_;refine A3 17 ?_;refine lg Ok0 ?_ _;clear hHeld;go_wp2_with fail
   all_goals exact lb (v:= G (C4 L x m.r)) (by simp[ld,results126,go_sem]) rfl ⟨by rw[HR.o],A0 ab.o (A0 (A7 W N) ah)⟩
 have da:((F:Int)==20)=false:=beq_eq_false_iff_ne.2 Oo;rw[if_neg ho20]at aa;by_cases ho19:F=19
 ·have cz:((F:Int)==19)=true:=by rw[ho19];rfl
  rw[if_pos ho19]at aa;have bl:=A1 (λD hW=>a7e D lim wb L p cap q (HJ.o _ (A0 ab.o hW)).rw_ cls j);have cd:=(HJ.o _ ab.o).rw_.calledN cls j;have b4:Hid (∀x∈(X4 L cls j).p,x.k<=5):=HK.o.2.2
  have a6:Hid (t=1+(X4 L cls j).p.length):=by
   unfold Hid;rw[HT.o];unfold D7 E5;rw[ho19,a4x];simp;omega
  rw[a4x]at aa;dsimp only at aa;obtain⟨M,hM⟩:=Oe (X4 L cls j)
  rw[<-hM]at bl cd b4 a6 aa;have bz:=A1 ((HJ.o _ ab.o).rw_.le);obtain⟨j0,-,-,-,-,-⟩:=(HJ.o _ ab.o).cs;obtain⟨J2,cc⟩:∃J:Act->lf->Prop,J=λa' D=>∃pa pk g,C0 D lim 2 B8 pa M.p/\W.grownBy D N/\∃E:Nat->Value,a'={tmps:= #[U (O (A jb 0 N)), Q #[.int I F, .int I a, Z cls, Z j], V sa ln sk, V va vn vk,undef, U (O (A w.heap.size 0 N)),undef,undef, G false, .int I (t:Int), .int I (u:Int), .int I (n:Int), V T t tk, V pa M.p.length pk, U (O (A g 0 N)),E 15,undef,undef,undef,undef,undef,undef,E 22,E 23,E 24,E 25,E 26,E 27,E 28,E 29,E 30,E 31,E 32,E 33,E 34,E 35,E 36,E 37,E 38,E 39,E 40,E 41,E 42,E 43,E 44,E 45,E 46,E 47,E 48,E 49,E 50,undef,undef,undef,undef,undef,undef,undef,E 58,E 59,E 60,undef,undef,undef,undef,undef,undef,undef,undef,undef,undef,undef,undef,undef,undef,undef,undef,undef,E 78,E 79,E 80,E 81,E 82,E 83,E 84,E 85,E 86,E 87,E 88,E 89,E 90,E 91,E 92,E 93,undef,undef,undef,undef,undef,undef,undef,undef,undef,undef,undef,undef,undef,undef,undef,undef,undef,undef,undef,undef,undef,undef,undef,undef,undef,undef,undef,undef,undef,undef,undef,undef,undef,undef,undef,undef,undef,undef,undef,undef,undef,undef,undef,undef,undef,undef,undef,undef,undef,undef,undef,undef,undef,undef,undef,undef,undef,undef,undef,undef],defers:=[]}:=⟨_,rfl⟩
  have HJJ:=A1 cc;clear cc hM ho19 ho20 ho2 hi;go_upto_region 11 with fail
  refine a5B J2 ?_ ?_
  ·clear b0 b1;have HS3:Hid (∀w',W.grownBy w' N->w'.cell? (A jb 0 N)=O (U (O (A wb 0 N)))/\w'.cell? (A w.heap.size 2 N)=O (Z cls)/\w'.cell? (A w.heap.size 3 N)=O (Z j)):=λw' hw=>⟨hw.cell j0 Os,hw.cell b2 Os,hw.cell b3 Os⟩
   refine T6 HS3 (C9 _ _) (λhHeld=> ?_);clear j0 b2 b3;refine A3 0 ?_;refine A3 1 ?_;refine A3 2 ?_;refine A3 3 ?_;refine A3 4 ?_;refine A3 5 ?_;refine A3 6 ?_;refine A3 7 ?_;refine lw (rs:=[8,13]) Ok0 Os ?_;refine AllReadyH.cons rfl (λK' hK=> ?_) (AllReadyH.cons rfl (λK' hK=> ?_) AllReadyH.nil)
   ·go_simp
    go_wp2_with (go_at_call 188;refine(bl.o _ (A7 W N)).mono ?_;rintro e w6 ⟨pa,pk,rfl,dg,ag⟩;try dsimp only[M7])
    have ap:=A0 (A7 W N) ag;refine hK.o _ _ (HS3.o _ ap) (λhHeld=> ?_);clear hK;refine A3 9 ?_;refine A3 10 ?_;refine A3 11 ?_;refine A3 12 ?_;refine F3 13 λK' hK=> ?_
    go_simp
    have ax:=A4.new w6 #[.int I 0, Z ⟨#[]⟩] 98;have af:=A0 ap (A2 w6 (H #[.int I 0, Z ⟨#[]⟩] 98) N);have bc:=dg.keep (A2 w6 (H #[.int I 0, Z ⟨#[]⟩] 98) N);have aq:=ap.size;refine hK.o _ _ (HS3.o _ af) (λhHeld=> ?_);clear hK;try simp only[ll,lz]
    generalize w6.alloc (H #[.int I 0, Z ⟨#[]⟩] 98)=W7 at ax af bc hHeld⊢;generalize w6.heap.size=g at ax aq⊢;obtain⟨r0,r1,z0,z1⟩:=O7 ax;refine A3 14 ?_;refine F3 15 λK' hK=> ?_
    go_simp
    have hg8:=C6 af (A0 (A6 W7 (A g 0 N) (.int I M.r.k)) (A6 _ (A g 1 N) (Z M.r.n))) (λk e=>by cases e;exact .inl aq);have hp8:=C0.far bc (A0 (A6 W7 (A g 0 N) (.int I M.r.k)) (A6 _ (A g 1 N) (Z M.r.n))) (lr bz.o aq);exact c5u
   ·go_simp
    refine hK.o _ _ (HS3.o _ (A0 (A2 W (H #[.int I 0, Z ⟨#[]⟩] 98) N) (A7 _ N))) (λhHeld=> ?_);clear hK;try simp only[ll,lz]
    refine F3 8 λK' hK=> ?_
    go_simp
    go_wp2_with (go_at_call 188;refine(bl.o _ (A0 (A2 W (H #[.int I 0, Z ⟨#[]⟩] 98) N) (A7 _ N))).mono ?_;rintro e W7 ⟨pa,pk,rfl,bc,ag⟩;try dsimp only[M7])
    have ax:A4 W7 W.heap.size #[.int I 0, Z ⟨#[]⟩] 98:=A4.keep (A4.new W.drew #[.int I 0, Z ⟨#[]⟩] 98) ag Os;have af:=A0 (A0 (A2 W (H #[.int I 0, Z ⟨#[]⟩] 98) N) (A7 _ N)) ag;have aq:=lm W.heap.size;refine hK.o _ _ (HS3.o _ af) (λhHeld=> ?_);clear hK;obtain⟨r0,r1,z0,z1⟩:=O7 ax;refine A3 9 ?_;refine A3 10 ?_;refine A3 11 ?_;refine A3 12 ?_;refine A3 14 ?_;refine F3 15 λK' hK=> ?_
    go_simp
    have hg8:=C6 af (A0 (A6 W7 (A W.heap.size 0 N) (.int I M.r.k)) (A6 _ (A W.heap.size 1 N) (Z M.r.n))) (λk e=>by cases e;exact .inl aq);have hp8:=C0.far bc (A0 (A6 W7 (A W.heap.size 0 N) (.int I M.r.k)) (A6 _ (A W.heap.size 1 N) (Z M.r.n))) (lr bz.o aq);exact c5u
  intro a' W2 hJ;rw[HJJ.o]at hJ;obtain⟨pa,pk,g,cm,ay,E,rfl⟩:=hJ;have a5:=A1 ay;have ct:=A1 cm;have bu:0<t:=by rw[a6.o];omega
  obtain⟨tp,rfl⟩:=bn Oo;have bg:=A1 (C0.keep ao.o ay);obtain⟨pp,ad,-,he⟩:=bg.o 0 (by rw[ae.o];exact bu);injection ad with ad
  subst ad;obtain⟨x,hx⟩:∃x,x=K[0]'(by rw[ae.o];exact bu):=⟨_,rfl⟩
  rw[<-hx]at he;have x0:W2.cell? tp=O (.int I x.k):=he 0 _ rfl;have x1:W2.cell? (A tp.block (tp.off+1) N)=O (Z x.n):=he 1 _ rfl;have au:x.k<=5:=by rw[hx];exact aw.o _ (lp _)
  have cy:Hid (K.getD 0 A8=x):=by unfold Hid;rw[hx];simp[lh,lj (show 0<K.length by rw[ae.o];exact bu)]
  rw[cy.o]at aa;have b':Hid (∀D,W2.grownBy D N->la prog 187 #[U (O (A wb 0 N)), Q #[.int I x.k, Z x.n], Q #[.int I 2, Z cls]] D λe w'=>e= Y (G (C4 L x (C5 cls)))/\D.grownBy w' N):=λD hW=>a6M D lim wb L p cap q (HJ.o D (A0 (A0 ab.o a5.o) hW)).rw_.wo x (C5 cls) au (by simp[C5])
  have j0:=(HJ.o _ (A0 ab.o ay)).cs.1;have b2:=(am.o.keep ay Os).cell 2 _ rfl;have HC:Hid (∀D,W2.grownBy D N->D.cell? (A jb 0 N)=O (U (O (A wb 0 N)))/\D.cell? tp=O (.int I x.k)/\D.cell? (A tp.block (tp.off+1) N)=O (Z x.n)/\D.cell? (A w.heap.size 2 N)=O (Z cls)):=λD hW=>⟨hW.cell j0 Os,hW.cell x0 Os,hW.cell x1 Os,hW.cell b2 Os⟩
  clear cm ay he hx j0 b2 x0 x1 au;go_wp2_with fail
  refine T6 HC (C9 _ _) (λhHeld=> ?_);refine A3 0 ?_;refine A3 1 ?_;refine A3 2 ?_;refine A3 3 ?_;refine A3 4 ?_;refine A3 5 ?_;refine A3 6 ?_;refine A3 7 ?_;refine A3 8 ?_;refine F3 9 λK' hK=> ?_
  go_simp
  go_wp2_with (go_at_call 131;refine(a2N _ _).mono ?_;rintro e w6 ⟨rfl,ap⟩)
  have bh:=A1 (A0 (A7 W2 N) ap);refine hK.o _ _ (HC.o _ bh.o) (λhHeld=> ?_);clear hK ap;refine F3 10 λK' hK=> ?_
  go_simp
  go_wp2_with (go_at_call 187;refine(b'.o _ bh.o).mono ?_;rintro e w7 ⟨rfl,af⟩)
  have bx:=A1 (A0 bh.o af);refine hK.o _ _ (HC.o _ bx.o) (λhHeld=> ?_);clear hK af;refine A3 11 ?_;refine lg Ok0 ?_ _;clear hHeld;obtain⟨np,br⟩:=Oe M.p.length
  have be:=A1 br;rw[<-br]at cd⊢;clear br;obtain⟨dp,hok⟩:∃ok,ok=C4 L x (C5 cls):=⟨_,rfl⟩
  rw[<-hok]at aa⊢;clear hok b';go_wp2_with fail
  go_loopw [16,17] (λo i wr=>∃(ok:Bool) (k:Nat),k<=np/\o= G ok/\i= .int I k/\Hid (R=(ok&&T3 L (K.drop (1+k)) (M.p.drop k)))/\Hid (W2.grownBy wr N)) (λ_ i _=>np-(lu i).toNat)
  case atStart=>exact⟨dp,0,by omega,rfl,rfl,aa,bx.o⟩
  case round=>
   obtain⟨ok,k,hk,rfl,rfl,hR,hg⟩:=hrel;by_cases hlt:k<np
   ·have cg:k<M.p.length:=by rw[<-be.o];exact hlt
    have az:1+k<K.length:=by rw[ae.o,a6.o];omega
    have dq:k+1<t:=by rw[a6.o];omega
    obtain⟨pq,a0,-,hf⟩:=C0.keep ct.o hg.o k cg;subst a0;obtain⟨pp,ad,-,he⟩:=C0.keep bg.o hg.o (1+k) az;injection ad with ad
    subst ad;obtain⟨y,hy⟩:=Oe (K[1+k])
    obtain⟨z,hz⟩:=Oe (M.p[k])
    rw[<-hy]at he;rw[<-hz]at hf;have y0:wr.cell? (tp.add ((k+1)*2))=O (.int I y.k):=by rw[nv k 1];exact he 0 _ rfl
    have y1:wr.cell? (A ((tp.add ((k+1)*2)).block) ((tp.add ((k+1)*2)).off+1) N)=O (Z y.n):=by rw[nv k 1,C2 tp ((1+k)*2) 0];exact he 1 _ rfl
    have z0:wr.cell? (pq.add (k*2))=O (.int I z.k):=hf 0 _ rfl;have z1:wr.cell? (A ((pq.add (k*2)).block) ((pq.add (k*2)).off+1) N)=O (Z z.n):=by rw[C2 pq (k*2) 0];exact hf 1 _ rfl
    have dl:y.k<=5:=by rw[hy];exact aw.o _ (lp _)
    have dm:z.k<=5:=by rw[hz];exact b4.o _ (lp _)
    have ac:Hid (R=(ok&&(C4 L y z&&T3 L (K.drop (1+(k+1))) (M.p.drop (k+1))))):=by
     unfold Hid;rw[hR.o,lx az,lx cg,T3,<-hy,<-hz];rfl
    have e3:IntKind.i64.wrap ((k:Int)+1)=((k+1:Nat):Int):=by rw[IntWalk.i64_in _ Oo];omega
    have dv:(0:Int)<=(k:Int)+1/\(k:Int)+1<(t:Int):=by omega
    have j0:=(HJ.o _ (A0 (A0 ab.o a5.o) hg.o)).cs.1;have bv:Hid (∀D,wr.grownBy D N->D.cell? (A jb 0 N)=O (U (O (A wb 0 N)))/\D.cell? (tp.add ((k+1)*2))=O (.int I y.k)/\D.cell? (A ((tp.add ((k+1)*2)).block) ((tp.add ((k+1)*2)).off+1) N)=O (Z y.n)/\D.cell? (pq.add (k*2))=O (.int I z.k)/\D.cell? (A ((pq.add (k*2)).block) ((pq.add (k*2)).off+1) N)=O (Z z.n)):=λD hW=>⟨hW.cell j0 Os,hW.cell y0 Os,hW.cell y1 Os,hW.cell z0 Os,hW.cell z1 Os⟩
    clear hf he hy hz j0 y0 y1 z0 z1;go_wp2_with fail
    refine T6 bv (C9 _ _) (λhHeld=> ?_);refine A3 0 ?_;refine A3 1 ?_;refine A3 2 ?_;refine A3 3 ?_;refine A3 4 ?_;refine A3 5 ?_;refine A3 6 ?_;refine A3 7 ?_;refine A3 8 ?_;refine A3 9 ?_;refine A3 10 ?_;refine A3 11 ?_;refine A3 12 ?_;refine F3 13 λK' hK=> ?_
    go_simp
    go_wp2_with (go_at_call 187;refine(HU.o _ (A0 (A0 a5.o hg.o) (A7 wr N)) y z dl dm).mono ?_;rintro e w9 ⟨rfl,ah⟩)
    have aj:=A1 (A0 (A7 wr N) ah);refine hK.o _ _ (bv.o _ aj.o) (λhHeld=> ?_);clear hK ah;refine A3 14 ?_;refine lg Ok0 ?_ _;clear hHeld;obtain⟨uu,cq⟩:=Oe (C4 L y z)
    rw[<-cq]at ac⊢;clear cq;cases ok with
    |true=>
     have bk:Hid (R=(uu&&T3 L (K.drop (1+(k+1))) (M.p.drop (k+1)))):=by unfold Hid;rw[ac.o,nj]
     go_wp2_with fail
     go_roundw
     case rel=>exact⟨uu,k+1,by omega,rfl,by go_num,bk,A0 hg.o aj.o⟩
     case measure=>simp[lu];omega
    |false=>
     have bk:Hid (R=(false&&T3 L (K.drop (1+(k+1))) (M.p.drop (k+1)))):=by unfold Hid;rw[ac.o,nl,nl]
     go_wp2_with fail
     go_roundw
     case rel=>exact⟨false,k+1,by omega,rfl,by go_num,bk,A0 hg.o aj.o⟩
     case measure=>simp[lu];omega
   ·have HR:Hid (R=ok):=by
     unfold Hid;rw[hR.o,show M.p.drop k=[]from nw (by rw[<-be.o];omega)];cases K.drop (1+k)<;>simp[T3]
    go_wp2_with fail
    all_goals exact lb (v:= G ok) (by simp[ld,results126,go_sem]) rfl ⟨by rw[HR.o],A0 ab.o (A0 a5.o hg.o)⟩
 have cz:((F:Int)==19)=false:=beq_eq_false_iff_ne.2 Oo;rw[if_neg ho19]at aa;have bo:t=(x8 F).length:=by rw[HT.o,a7W L m _ ho19 ho20]
 obtain⟨cs,ba⟩:=Oe (x8 F)
 have bq:∀c∈cs,c=73\/c=65\/c=78\/c=79\/c=67\/c=70\/c=76\/c=74\/c=82\/c=69\/c=84:=by rw[ba];exact b8b F
 have cw:Hid (∀D,la prog 189 #[.int I F] D λe w'=>e= Y (Z ⟨cs.toArray⟩)/\D=w'):=by rw[ba];exact λD=>b1g F D
 rw[<-ba]at aa bo;have dt:=A1 bq;have ai:=A1 bo;have bw:Hid (∀D,W.grownBy D N->∀c:UInt8,c∈cs->∀x f:Ty,x.k<=5->f.k<=5->la prog 190 #[U (O (A jb 0 N)), .int .u8 c.toNat, Q #[.int I x.k, Z x.n], Q #[.int I f.k, Z f.n], Q #[.int I F, .int I a, Z cls, Z j]] D λe w'=>e= Y (G (a0E L c x f ⟨F,a,cls,j⟩))/\D.grownBy w' N):=λD hW c hc x f h1 h2=>b9P (HJ.o D (A0 ab.o hW)) c (bq c hc) x f h1 h2 ⟨F,a,cls,j⟩
 have a3:=A1 (λD (hW:W.grownBy D N)=>am.o.keep hW Os);clear ba bq bo ho19 ho20 ho2 hi;go_wp2_with (go_at_call 189;refine(cw.o _).mono ?_;rintro e w' ⟨rfl,rfl⟩)
 have dx:t<=65535:=by omega
 clear b0 b1 b2 b3;go_loopw [20] (λi wr=>∃k:Nat,k<=t/\i= .int I k/\Hid (R=a0R L ⟨F,a,cls,j⟩ (K.getD 0 A8) (cs.drop k) (K.drop k))/\Hid (W.grownBy wr N)) (λi _=>t-(lu i).toNat)
 case atStart=>exact⟨0,by omega,rfl,aa,C9 _ _⟩
 case round=>
  obtain⟨k,hk,rfl,hR,hg⟩:=hrel;by_cases hlt:k<t
  ·have cf:k<cs.length:=by rw[<-ai.o];exact hlt
   have az:k<K.length:=by rw[ae.o];exact hlt
   obtain⟨tp,rfl⟩:=bn Oo;have bj:=C0.keep ao.o hg.o;obtain⟨pp,ad,-,he⟩:=bj k az;injection ad with ad
   subst ad;obtain⟨pq,a0,-,hf⟩:=bj 0 Oo;injection a0 with a0
   subst a0;obtain⟨x,hx⟩:=Oe (K[k])
   obtain⟨f,bb⟩:=Oe (K[0]' Oo)
   rw[<-hx]at he;rw[<-bb]at hf;have x0:wr.cell? (tp.add (k*2))=O (.int I x.k):=he 0 _ rfl;have x1:wr.cell? (A ((tp.add (k*2)).block) ((tp.add (k*2)).off+1) N)=O (Z x.n):=by rw[C2 tp (k*2) 0];exact he 1 _ rfl
   have f0:wr.cell? tp=O (.int I f.k):=hf 0 _ rfl;have f1:wr.cell? (A tp.block (tp.off+1) N)=O (Z f.n):=hf 1 _ rfl;have au:x.k<=5:=by rw[hx];exact aw.o _ (lp _)
   have de:f.k<=5:=by rw[bb];exact aw.o _ (lp _)
   have ce:K.getD 0 A8=f:=by rw[bb];simp[lh,lj (show 0<K.length by omega)]
   have ac:Hid (R=(a0E L cs[k] x f ⟨F,a,cls,j⟩&&a0R L ⟨F,a,cls,j⟩ (K.getD 0 A8) (cs.drop (k+1)) (K.drop (k+1)))):=by
    unfold Hid;rw[hR.o,lx cf,lx az,a0R,<-hx,ce]
   obtain⟨c,hc⟩:=Oe (cs[k])
   have dd:c∈cs:=by rw[hc];exact lp _
   rw[<-hc]at ac;have dr:=A1 hc;obtain⟨b0,b1,b2,b3⟩:wr.cell? (A w.heap.size 0 N)=O (.int I F)/\wr.cell? (A w.heap.size 1 N)=O (.int I a)/\wr.cell? (A w.heap.size 2 N)=O (Z cls)/\wr.cell? (A w.heap.size 3 N)=O (Z j):=⟨(a3.o _ hg.o).cell 0 _ rfl,(a3.o _ hg.o).cell 1 _ rfl,(a3.o _ hg.o).cell 2 _ rfl,(a3.o _ hg.o).cell 3 _ rfl⟩
   have di:k<(⟨cs.toArray⟩:ByteArray).size:=cf;have dw:(⟨cs.toArray⟩:ByteArray)[k]=c:=by rw[hc];rfl
   have dc:0<t:=by omega
   clear he hf hx bb hc bj ce;have j0:=(HJ.o _ (A0 ab.o hg.o)).cs.1;have HC:Hid (∀D,wr.grownBy D N->D.cell? (A jb 0 N)=O (U (O (A wb 0 N)))/\D.cell? (tp.add (k*2))=O (.int I x.k)/\D.cell? (A ((tp.add (k*2)).block) ((tp.add (k*2)).off+1) N)=O (Z x.n)/\D.cell? tp=O (.int I f.k)/\D.cell? (A tp.block (tp.off+1) N)=O (Z f.n)/\D.cell? (A w.heap.size 0 N)=O (.int I F)/\D.cell? (A w.heap.size 1 N)=O (.int I a)/\D.cell? (A w.heap.size 2 N)=O (Z cls)/\D.cell? (A w.heap.size 3 N)=O (Z j)):=λD hW=>⟨hW.cell j0 Os,hW.cell x0 Os,hW.cell x1 Os,hW.cell f0 Os,hW.cell f1 Os,hW.cell b0 Os,hW.cell b1 Os,hW.cell b2 Os,hW.cell b3 Os⟩
   clear j0 x0 x1 f0 f1 b0 b1 b2 b3;go_wp2_with fail
   refine T6 HC (C9 _ _) (λhHeld=> ?_);refine A3 0 ?_;refine A3 1 ?_;refine A3 2 ?_;refine A3 3 ?_;refine A3 4 ?_;refine A3 5 ?_;refine A3 6 ?_;refine A3 7 ?_;refine A3 8 ?_;refine A3 9 ?_;refine A3 10 ?_;refine A3 11 ?_;refine F3 12 λK' hK=> ?_
   go_simp
   go_wp2_with (go_at_call 190;refine(bw.o _ (A0 hg.o (A7 wr N)) c dd x f au de).mono ?_;rintro e w9 ⟨rfl,ah⟩)
   have aj:=A1 (A0 (A7 wr N) ah);refine hK.o _ _ (HC.o _ aj.o) (λhHeld=> ?_);clear hK ah;refine A3 13 ?_;refine lg Ok0 ?_ _;clear hHeld;by_cases hfit:a0E L c x f ⟨F,a,cls,j⟩=true
   ·have cv:Hid (R=a0R L ⟨F,a,cls,j⟩ (K.getD 0 A8) (cs.drop (k+1)) (K.drop (k+1))):=by unfold Hid;rw[ac.o,hfit,nj]
    go_wp2_with fail
    go_roundw
    case rel=>exact⟨k+1,by omega,by go_num,cv,A0 hg.o aj.o⟩
    case measure=>simp[lu];omega
   ·have bp:a0E L c x f ⟨F,a,cls,j⟩=false:=by simpa using hfit
    have HR:Hid (R=false):=by unfold Hid;rw[ac.o,bp,nl]
    clear hfit;go_wp2_with fail
    all_goals exact lb (v:= G false) (by simp[ld,results126,go_sem]) rfl ⟨by rw[HR.o],A0 ab.o (A0 hg.o aj.o)⟩
  ·have HR:Hid (R=true):=by
    unfold Hid;rw[hR.o,nw (by rw[<-ai.o];omega)];rfl
   have di:¬k<(⟨cs.toArray⟩:ByteArray).size:=by
    show¬k<cs.length;rw[<-ai.o];exact hlt
   go_wp2_with fail
   all_goals exact lb (v:= G true) (by simp[ld,results126,go_sem]) rfl ⟨by rw[HR.o],A0 ab.o hg.o⟩
end
theorem c2X(w:lf)(lim b:Nat)(L:List Cl)(p:lk)(cap d g i:Nat)(q:Nat->Qs)(h:Hid (Lk w lim b L p cap d g i q))(y:lim<=w.heap.size)(s:ByteArray)(j:s.size<=lq):la prog 244 #[U (O (A b 0 N)), Z s] w λe v=>e= Y (G (E9 L s))/\v=w:=a5q w lim b L p cap d g i q h.o.kls s j
theorem b2Y(w:lf)(lim b:Nat)(L:List Cl)(p:lk)(cap d g i:Nat)(q:Nat->Qs)(h:Hid (Lk w lim b L p cap d g i q))(v:lim<=w.heap.size)(c o:ByteArray)(j:c.size<=lq):la prog 240 #[U (O (A b 0 N)), Z c, Z o] w λe y=>e= Y (G (G5 L c o))/\w.grownBy y N:=b9p w lim b L p cap d g i q h.o.kls v h.o.up c o j
theorem c0t(w:lf)(lim b:Nat)(L:List Cl)(p:lk)(cap d g i:Nat)(q:Nat->Qs)(h:Hid (Lk w lim b L p cap d g i q))(B:lim<=w.heap.size)(c o:ByteArray)(v:c.size<=lq)(D:o.size<=lq):la prog 248 #[U (O (A b 0 N)), Z c, Z o] w λe j=>w.grownBy j N/\∃t,e= Y (.tuple #[t, G (O0 L c o).isSome]):=by
 refine(a6b w lim b L p cap d g i q h.o.kls B h.o.up h.o.dist h.o.sf h.o.pf c o v D).mono ?_;rintro e j ⟨rfl,y⟩;refine⟨y,?_⟩;unfold a2P;cases O0 L c o with
 |none=>exact⟨_,rfl⟩
 |some k=>exact⟨_,rfl⟩
theorem b8L(w:lf)(lim b:Nat)(L:List Cl)(p:lk)(cap d g i:Nat)(q:Nat->Qs)(h:Hid (Lk w lim b L p cap d g i q))(B:lim<=w.heap.size)(c o:ByteArray)(v:c.size<=lq)(D:o.size<=lq):la prog 62 #[U (O (A b 0 N)), Z c, Z o] w λe j=>w.grownBy j N/\∃t,e= Y (.tuple #[t, G (L6 L c o).isSome]):=by
 refine(b0O w lim b L p cap d g i q h.o.kls B h.o.up h.o.dist h.o.named h.o.sm h.o.pm c o v D).mono ?_;rintro e j ⟨y,ha⟩;refine⟨y,?_⟩;cases hk:L6 L c o with
 |none=>rw[hk]at ha;exact⟨_,ha⟩
 |some k=>
  rw[hk]at ha;obtain⟨pa,ca,ha,pk,ck,hk,rfl,-⟩:=ha;exact⟨_,rfl⟩
theorem b6t(w:lf)(lim b:Nat)(L:List Cl)(p:lk)(cap K M S:Nat)(q:Nat->Qs)(h:Hid (Lk w lim b L p cap K M S q))(y:lim<=w.heap.size)(m:Me)(pa ca ha:Option lk)(pk ck hk:Nat)(i:In)(B:i.c.size<=lq)(F:i.m.size<=lq):
 la prog 229 #[U (O (A b 0 N)), Q #[Z m.n, V pa m.p.length pk, J I m.r.k, Z m.r.n, J I m.s, J I m.l, V ca m.c.length ck, V ha m.h.length hk], Q #[J I i.o, J I i.a, Z i.c, Z i.m]] w λe w'=>e= Y (G (K8 L m i))/\w.grownBy w' N:=by
 obtain⟨d,a,cs,ms⟩:=i;obtain⟨mn,mp,⟨rk,rn⟩,E,g,mco,D⟩:=m;dsimp only at B F⊢;generalize HTT:K8 L ⟨mn,mp,⟨rk,rn⟩,E,g,mco,D⟩ ⟨d,a,cs,ms⟩=TT;have HT:=A1 HTT;clear HTT;generalize mp.length=pn;generalize D.length=hn;have HG0:Hid (w.grownBy ((w.alloc (H #[Z mn, V pa pn pk, J I rk, Z rn, J I E, J I g, V ca mco.length ck, V ha hn hk] 102)).alloc (H #[J I d, J I a, Z cs, Z ms] 120)) N):=A0 (A2 _ _ _) (A2 _ _ _);have HH:=A1 (λW j=>c2X W lim b L p cap K M S q (h.o.keep j y) (lr y j.size) cs B);have HF:=A1 (λW j=>c0t W lim b L p cap K M S q (h.o.keep j y) (lr y j.size) cs ms B F);have HM:=A1 (λW j=>b8L W lim b L p cap K M S q (h.o.keep j y) (lr y j.size) cs ms B F);have T:d=2\/d=3\/d=12\/d=13\/d=14\/d=15\/d=16\/d=22\/d=28\/d=29\/d=17\/d=18\/d=19\/(d≠2/\d≠3/\d≠12/\d≠13/\d≠14/\d≠15/\d≠16/\d≠22/\d≠28/\d≠29/\d≠17/\d≠18/\d≠19):=by omega
 clear h y B F;go_enter func229,ntmps229;go_upto_region 3 with fail
 rcases T with rfl|rfl|rfl|rfl|rfl|rfl|rfl|rfl|rfl|rfl|rfl|rfl|rfl|aa
 ·skip
  by_cases hh:a<(g:Int)
  ·exact a1t
  ·exact a1s
 ·skip
  by_cases hh:a<(g:Int)
  ·exact a1t
  ·exact a1s
 ·exact a0w
 ·exact a0w
 ·exact a0w
 ·exact a0w
 ·exact a1u
 ·exact a1u
 ·exact a1u
 ·exact a1u
 ·exact b0h
 ·exact b0h
 ·skip
  go_wp2_with (go_at_call 62;refine(HM.o _ HG0.o).mono ?_;rintro e w1 ⟨hg1,t,rfl⟩)
  all_goals exact lb (v:= G (L6 L cs ms).isSome) (by simp[ld,results229,go_sem]) rfl ⟨by rw[<-HT.o];simp[K8],A0 HG0.o hg1⟩
 ·obtain⟨n2,n3,am,an,ao,ap,aq,aw,ax,ay,ar,au,av⟩:=aa;have k2:¬(d:Int)=2:=by omega
  have k3:¬(d:Int)=3:=by omega
  have ab:¬(d:Int)=12:=by omega
  have ac:¬(d:Int)=13:=by omega
  have ad:¬(d:Int)=14:=by omega
  have ae:¬(d:Int)=15:=by omega
  have af:¬(d:Int)=16:=by omega
  have aj:¬(d:Int)=22:=by omega
  have ak:¬(d:Int)=28:=by omega
  have al:¬(d:Int)=29:=by omega
  have ag:¬(d:Int)=17:=by omega
  have ah:¬(d:Int)=18:=by omega
  have ai:¬(d:Int)=19:=by omega
  have HN:Hid (TT=true):=by
   unfold Hid;rw[<-HT.o];unfold K8;dsimp only;rw[if_neg Oo,if_neg Oo,if_neg Oo,if_neg Oo,if_neg Oo]
  go_wp2_with fail
  all_goals exact lb (v:= G true) (by simp[ld,results229,go_sem]) rfl ⟨by rw[HN.o],HG0.o⟩
theorem a7h:D5.toList=[79,98,106,101,99,116]:=by simp[D5]
theorem b6M(w:lf)(b:Nat)(k:Nat)(n:ByteArray):
 la prog 295 #[U (O (A b 0 N)), Q #[J I k, Z n], Q #[J I k, Z n]] w λe g=>e= Y (G true)/\w.grownBy g N:=by
 have d:Hid (w.grownBy ((w.alloc (H #[J I k, Z n] 98)).alloc (H #[J I k, Z n] 98)) N):=A0 (A2 _ _ _) (A2 _ _ _);go_enter func295,ntmps295;go_wp2_with fail
 all_goals exact lb (v:= G true) (by simp[ld,results295,go_sem]) rfl ⟨rfl,d.o⟩
theorem a1M(w:lf)(b:Nat)(k:Nat)(n m:ByteArray)(hk:¬(k:Int)=0):
 la prog 295 #[U (O (A b 0 N)), Q #[J I k, Z n], Q #[J I 0, Z m]] w λe g=>e= Y (G true)/\w.grownBy g N:=by
 have d:Hid (w.grownBy ((w.alloc (H #[J I k, Z n] 98)).alloc (H #[J I 0, Z m] 98)) N):=A0 (A2 _ _ _) (A2 _ _ _);go_enter func295,ntmps295;go_wp2_with fail
 all_goals exact lb (v:= G true) (by simp[ld,results295,go_sem]) rfl ⟨rfl,d.o⟩
theorem b6O(w:lf)(b:Nat)(j:Nat)(n m:ByteArray)(i:¬(5:Int)=j)(g:¬(j:Int)=0):
 la prog 295 #[U (O (A b 0 N)), Q #[J I 5, Z n], Q #[J I j, Z m]] w λe d=>e= Y (G (decide ((j:Int)=2)||decide ((j:Int)=3)||decide ((j:Int)=4)))/\w.grownBy d N:=by
 have HG0:Hid (w.grownBy ((w.alloc (H #[J I 5, Z n] 98)).alloc (H #[J I j, Z m] 98)) N):=A0 (A2 _ _ _) (A2 _ _ _);by_cases h2:(j:Int)=2
 ·obtain rfl:j=2:=by omega
  exact a6z
 ·by_cases h3:(j:Int)=3
  ·obtain rfl:j=3:=by omega
   exact a6z
  ·by_cases h4:(j:Int)=4
   ·obtain rfl:j=4:=by omega
    exact a6z
   ·go_enter func295,ntmps295;go_wp2_with fail
    all_goals exact lb (v:= G false) (by simp[ld,results295,go_sem,h2,h3,h4]) rfl ⟨by simp[h2,h3,h4],HG0.o⟩
theorem b5V(w:lf)(b:Nat)(n m:ByteArray)(g:¬n=m):
 la prog 295 #[U (O (A b 0 N)), Q #[J I 5, Z n], Q #[J I 5, Z m]] w λe j=>e= Y (G false)/\w.grownBy j N:=by
 have i:=l6 g;have d:Hid (w.grownBy ((w.alloc (H #[J I 5, Z n] 98)).alloc (H #[J I 5, Z m] 98)) N):=A0 (A2 _ _ _) (A2 _ _ _);go_enter func295,ntmps295;go_wp2_with fail
 all_goals exact lb (v:= G false) (by simp[ld,results295,go_sem]) rfl ⟨rfl,d.o⟩
theorem b7W(w:lf)(b:Nat)(L:List Cl)(n m:ByteArray)(i:¬n=m)(y:Hid (∀W,w.grownBy W N->la prog 240 #[U (O (A b 0 N)), Z n, Z m] W λe j=>e= Y (G (G5 L n m))/\W.grownBy j N)):
 la prog 295 #[U (O (A b 0 N)), Q #[J I 2, Z n], Q #[J I 2, Z m]] w λe j=>e= Y (G (G5 L n m))/\w.grownBy j N:=by
 have B:=l6 i;have d:Hid (w.grownBy ((w.alloc (H #[J I 2, Z n] 98)).alloc (H #[J I 2, Z m] 98)) N):=A0 (A2 _ _ _) (A2 _ _ _);go_enter func295,ntmps295;go_wp2_with (go_at_call 240;refine(y.o _ d.o).mono ?_;rintro e D ⟨rfl,g⟩)
 all_goals exact lb (v:= G (G5 L n m)) (by simp[ld,results295,go_sem]) rfl ⟨rfl,A0 d.o g⟩
theorem b6N(w:lf)(b:Nat)(j:Nat)(n m:ByteArray)(B:¬(2:Int)=j)(g:¬(j:Int)=2)(y:¬(j:Int)=0):
 la prog 295 #[U (O (A b 0 N)), Q #[J I 2, Z n], Q #[J I j, Z m]] w λe i=>e= Y (G false)/\w.grownBy i N:=by
 have d:Hid (w.grownBy ((w.alloc (H #[J I 2, Z n] 98)).alloc (H #[J I j, Z m] 98)) N):=A0 (A2 _ _ _) (A2 _ _ _);go_enter func295,ntmps295;go_wp2_with fail
 all_goals exact lb (v:= G false) (by simp[ld,results295,go_sem]) rfl ⟨rfl,d.o⟩
theorem b6P(w:lf)(b:Nat)(k j:Nat)(n m:ByteArray)(g:¬(k:Int)=j)(y:¬(j:Int)=0)(F:¬(k:Int)=5)(B:¬(k:Int)=2)(D:¬(k:Int)=3)(E:¬(k:Int)=4):
 la prog 295 #[U (O (A b 0 N)), Q #[J I k, Z n], Q #[J I j, Z m]] w λe i=>e= Y (G false)/\w.grownBy i N:=by
 have d:Hid (w.grownBy ((w.alloc (H #[J I k, Z n] 98)).alloc (H #[J I j, Z m] 98)) N):=A0 (A2 _ _ _) (A2 _ _ _);go_enter func295,ntmps295;go_wp2_with fail
 all_goals exact lb (v:= G false) (by simp[ld,results295,go_sem]) rfl ⟨rfl,d.o⟩
theorem b5W(w:lf)(b:Nat)(k:Nat)(n m:ByteArray)(g:¬n=m)(y:¬(k:Int)=0)(F:¬(k:Int)=5)(B:¬(k:Int)=2)(D:¬(k:Int)=3)(E:¬(k:Int)=4):
 la prog 295 #[U (O (A b 0 N)), Q #[J I k, Z n], Q #[J I k, Z m]] w λe j=>e= Y (G false)/\w.grownBy j N:=by
 have i:=l6 g;have d:Hid (w.grownBy ((w.alloc (H #[J I k, Z n] 98)).alloc (H #[J I k, Z m] 98)) N):=A0 (A2 _ _ _) (A2 _ _ _);go_enter func295,ntmps295;go_wp2_with fail
 all_goals exact lb (v:= G false) (by simp[ld,results295,go_sem]) rfl ⟨rfl,d.o⟩
theorem b0J(k:Int)(hk:k=3\/k=4)(w:lf)(b:Nat)(n:ByteArray):
 la prog 295 #[U (O (A b 0 N)), Q #[J I k, Z n], Q #[J I 2, Z D5]] w λe i=>e= Y (G true)/\w.grownBy i N:=by
 have F:=a7h;have j:Hid (w.grownBy ((w.alloc (H #[J I k, Z n] 98)).alloc (H #[J I 2, Z D5] 98)) N):=A0 (A2 _ _ _) (A2 _ _ _)
 have E:A4 ((w.alloc (H #[J I k, Z n] 98)).alloc (H #[J I 2, Z D5] 98)).drew (w.heap.size+1) #[J I 2, Z D5] 98:=by
  have:=A4.new (w.alloc (H #[J I k, Z n] 98)) #[J I 2, Z D5] 98;exact a2f
 obtain⟨y,B⟩:=E.q2;clear E;rcases hk with rfl|rfl
 all_goals
  go_enter func295,ntmps295;go_upto_region 10 with fail
  refine ls (S:=(λi=>i.cell? (A (w.heap.size+1) 0 N)=O (J I 2)/\i.cell? (A (w.heap.size+1) 1 N)=O (Z D5))) Ok0 ⟨y,B⟩ (λd=> ?_);refine A3 0 ?_;refine F3 1 λK D=> ?_;go_simp
  go_wp2_with (go_at_call 267;refine(y9 _ _).mono ?_;rintro e W ⟨rfl,g⟩;have M:=g.cell y B9;have T:=g.cell B B9)
  refine D.o _ _ ⟨M,T⟩ (λd=> ?_);try clear D K
  try simp only[ll,lz]
  refine A3 2 ?_;refine A3 3 ?_;refine lg Ok0 ?_ _;go_wp2_with fail
  all_goals exact lb (v:= G true) (by simp[ld,results295,go_sem]) rfl ⟨rfl,A0 (A0 j.o (A7 _ _)) g⟩
theorem b0I(k:Int)(hk:k=3\/k=4)(w:lf)(b:Nat)(n m:ByteArray)(F:¬m=D5):
 la prog 295 #[U (O (A b 0 N)), Q #[J I k, Z n], Q #[J I 2, Z m]] w λe i=>e= Y (G false)/\w.grownBy i N:=by
 have M:¬m.toList=[79,98,106,101,99,116]:=λe=>F (a0U (e.trans a7h.symm))
 have j:Hid (w.grownBy ((w.alloc (H #[J I k, Z n] 98)).alloc (H #[J I 2, Z m] 98)) N):=A0 (A2 _ _ _) (A2 _ _ _)
 have E:A4 ((w.alloc (H #[J I k, Z n] 98)).alloc (H #[J I 2, Z m] 98)).drew (w.heap.size+1) #[J I 2, Z m] 98:=by
  have:=A4.new (w.alloc (H #[J I k, Z n] 98)) #[J I 2, Z m] 98;exact a2f
 obtain⟨y,B⟩:=E.q2;clear E;rcases hk with rfl|rfl
 all_goals
  go_enter func295,ntmps295;go_upto_region 10 with fail
  refine ls (S:=(λi=>i.cell? (A (w.heap.size+1) 0 N)=O (J I 2)/\i.cell? (A (w.heap.size+1) 1 N)=O (Z m))) Ok0 ⟨y,B⟩ (λd=> ?_);refine A3 0 ?_;refine F3 1 λK D=> ?_;go_simp
  go_wp2_with (go_at_call 267;refine(y9 _ _).mono ?_;rintro e w1 ⟨rfl,g⟩;have T:=g.cell y B9;have W:=g.cell B B9)
  refine D.o _ _ ⟨T,W⟩ (λd=> ?_);try clear D K
  try simp only[ll,lz]
  refine A3 2 ?_;refine A3 3 ?_;refine lg Ok0 ?_ _;go_wp2_with fail
  all_goals exact lb (v:= G false) (by simp[ld,results295,go_sem]) rfl ⟨rfl,A0 (A0 j.o (A7 _ _)) g⟩
theorem b0H(k:Int)(hk:k=3\/k=4)(w:lf)(b:Nat)(j:Nat)(n m:ByteArray)(T:¬k=j)(h0:¬(j:Int)=0)(h2:¬(j:Int)=2)(M:¬(2:Int)=j):
 la prog 295 #[U (O (A b 0 N)), Q #[J I k, Z n], Q #[J I j, Z m]] w λe i=>e= Y (G false)/\w.grownBy i N:=by
 have y:Hid (w.grownBy ((w.alloc (H #[J I k, Z n] 98)).alloc (H #[J I j, Z m] 98)) N):=A0 (A2 _ _ _) (A2 _ _ _)
 have F:A4 ((w.alloc (H #[J I k, Z n] 98)).alloc (H #[J I j, Z m] 98)).drew (w.heap.size+1) #[J I j, Z m] 98:=by
  have:=A4.new (w.alloc (H #[J I k, Z n] 98)) #[J I j, Z m] 98;exact a2f
 obtain⟨B,D⟩:=F.q2;clear F;rcases hk with rfl|rfl
 all_goals
  go_enter func295,ntmps295;go_upto_region 10 with fail
  refine ls (S:=(λi=>i.cell? (A (w.heap.size+1) 0 N)=O (J I j)/\i.cell? (A (w.heap.size+1) 1 N)=O (Z m))) Ok0 ⟨B,D⟩ (λd=> ?_);refine A3 0 ?_;refine F3 1 λK E=> ?_;go_simp
  go_wp2_with (go_at_call 267;refine(y9 _ _).mono ?_;rintro e w1 ⟨rfl,g⟩;have W:=g.cell B B9;have s1:=g.cell D B9)
  refine E.o _ _ ⟨W,s1⟩ (λd=> ?_);try clear E K
  try simp only[ll,lz]
  refine A3 2 ?_;refine A3 3 ?_;refine lg Ok0 ?_ _;go_wp2_with fail
  all_goals exact lb (v:= G false) (by simp[ld,results295,go_sem]) rfl ⟨rfl,A0 (A0 y.o (A7 _ _)) g⟩
theorem b5Y(w:lf)(b:Nat)(n m:ByteArray)(y:¬n=m):
 la prog 295 #[U (O (A b 0 N)), Q #[J I 3, Z n], Q #[J I 3, Z m]] w λe i=>e= Y (G false)/\w.grownBy i N:=by
 have M:=l6 y;have j:Hid (w.grownBy ((w.alloc (H #[J I 3, Z n] 98)).alloc (H #[J I 3, Z m] 98)) N):=A0 (A2 _ _ _) (A2 _ _ _)
 have F:A4 ((w.alloc (H #[J I 3, Z n] 98)).alloc (H #[J I 3, Z m] 98)).drew (w.heap.size+1) #[J I 3, Z m] 98:=by
  have:=A4.new (w.alloc (H #[J I 3, Z n] 98)) #[J I 3, Z m] 98;exact a2f
 obtain⟨B,D⟩:=F.q2;clear F;go_enter func295,ntmps295;go_upto_region 10 with fail
 refine ls (S:=(λi=>i.cell? (A (w.heap.size+1) 0 N)=O (J I 3)/\i.cell? (A (w.heap.size+1) 1 N)=O (Z m))) Ok0 ?hS0 (λd=> ?rest0)
 case hS0=>exact⟨B,D⟩
 refine A3 0 ?_;refine F3 1 λK E=> ?_;go_simp
 go_wp2_with (go_at_call 267;refine(y9 _ _).mono ?_;rintro e w1 ⟨rfl,g⟩;have T:=g.cell B B9;have W:=g.cell D B9)
 refine E.o _ _ ?_ (λd=> ?_)
 case refine_1=>exact⟨T,W⟩
 try clear E K
 try simp only[ll,lz]
 refine A3 2 ?_;refine A3 3 ?_;refine lg Ok0 ?_ _;go_wp2_with fail
 all_goals exact lb (v:= G false) (by simp[ld,results295,go_sem]) rfl ⟨rfl,A0 (A0 j.o (A7 _ _)) g⟩
theorem b5X(w:lf)(b:Nat)(n m:ByteArray)(y:¬n=m):
 la prog 295 #[U (O (A b 0 N)), Q #[J I 4, Z n], Q #[J I 4, Z m]] w λe i=>e= Y (G false)/\w.grownBy i N:=by
 have M:=l6 y;have j:Hid (w.grownBy ((w.alloc (H #[J I 4, Z n] 98)).alloc (H #[J I 4, Z m] 98)) N):=A0 (A2 _ _ _) (A2 _ _ _)
 have F:A4 ((w.alloc (H #[J I 4, Z n] 98)).alloc (H #[J I 4, Z m] 98)).drew (w.heap.size+1) #[J I 4, Z m] 98:=by
  have:=A4.new (w.alloc (H #[J I 4, Z n] 98)) #[J I 4, Z m] 98;exact a2f
 obtain⟨B,D⟩:=F.q2;clear F;go_enter func295,ntmps295;go_upto_region 10 with fail
 refine ls (S:=(λi=>i.cell? (A (w.heap.size+1) 0 N)=O (J I 4)/\i.cell? (A (w.heap.size+1) 1 N)=O (Z m))) Ok0 ?hS0 (λd=> ?rest0)
 case hS0=>exact⟨B,D⟩
 refine A3 0 ?_;refine F3 1 λK E=> ?_;go_simp
 go_wp2_with (go_at_call 267;refine(y9 _ _).mono ?_;rintro e w1 ⟨rfl,g⟩;have T:=g.cell B B9;have W:=g.cell D B9)
 refine E.o _ _ ?_ (λd=> ?_)
 case refine_1=>exact⟨T,W⟩
 try clear E K
 try simp only[ll,lz]
 refine A3 2 ?_;refine A3 3 ?_;refine lg Ok0 ?_ _;go_wp2_with fail
 all_goals exact lb (v:= G false) (by simp[ld,results295,go_sem]) rfl ⟨rfl,A0 (A0 j.o (A7 _ _)) g⟩
theorem b6L(w:lf)(b:Nat)(n m:ByteArray)(g:¬n=m):
 la prog 295 #[U (O (A b 0 N)), Q #[J I 0, Z n], Q #[J I 0, Z m]] w λe j=>e= Y (G true)/\w.grownBy j N:=by
 have i:=l6 g;have d:Hid (w.grownBy ((w.alloc (H #[J I 0, Z n] 98)).alloc (H #[J I 0, Z m] 98)) N):=A0 (A2 _ _ _) (A2 _ _ _);go_enter func295,ntmps295;go_wp2_with fail
 all_goals exact lb (v:= G true) (by simp[ld,results295,go_sem]) rfl ⟨rfl,d.o⟩
theorem a8v(w:lf)(lim b:Nat)(L:List Cl)(p:lk)(cap D E F:Nat)(q:Nat->Qs)(h:Hid (Lk w lim b L p cap D E F q))(y:lim<=w.heap.size)(s t:Ty)(B:s.n.size<=lq):
 la prog 295 #[U (O (A b 0 N)), Q #[J I s.k, Z s.n], Q #[J I t.k, Z t.n]] w λe g=>e= Y (G (C4 L s t))/\w.grownBy g N:=by
 obtain⟨k,n⟩:=s;obtain⟨j,m⟩:=t;dsimp only at B⊢;have d:∀v,C4 L ⟨k,n⟩ ⟨j,m⟩=v->la prog 295 #[U (O (A b 0 N)), Q #[J I k, Z n], Q #[J I j, Z m]] w (λe g=>e= Y (G v)/\w.grownBy g N)->la prog 295 #[U (O (A b 0 N)), Q #[J I k, Z n], Q #[J I j, Z m]] w (λe g=>e= Y (G (C4 L ⟨k,n⟩ ⟨j,m⟩))/\w.grownBy g N):=λv e hh=>by rw[e];exact hh
 by_cases hkj:k=j
 ·subst hkj;by_cases hnm:n=m
  ·subst hnm;exact d true (by simp[C4,I4]) (b6M w b k n)
  ·by_cases h0:k=0
   ·subst h0;exact d true (by simp[C4]) (b6L w b n m hnm)
   ·by_cases h5:k=5
    ·subst h5;exact d false (by simp[C4,I4,hnm]) (b5V w b n m hnm)
    ·by_cases h2:k=2
     ·subst h2;exact d (G5 L n m) (by simp[C4,I4,hnm]) (b7W w b L n m hnm (λW i=>b2Y W lim b L p cap D E F q (h.o.keep i y) (lr y i.size) n m B))
     ·by_cases h3:k=3
      ·subst h3;exact d false (by simp[C4,I4,hnm]) (b5Y w b n m hnm)
      ·by_cases h4:k=4
       ·subst h4;exact d false (by simp[C4,I4,hnm]) (b5X w b n m hnm)
       ·exact d false (by simp[C4,I4,hnm,h0,h5,h2,h3,h4]) (b5W w b k n m hnm Oo Oo Oo Oo Oo)
 ·by_cases h0:j=0
  ·subst h0;exact d true (by simp[C4]) (a1M w b k n m Oo)
  ·by_cases h5:k=5
   ·subst h5;refine d _ ?_ (b6O w b j n m Oo Oo);rw[nd];simp[C4,I4,h0,hkj];omega
   ·by_cases h2:k=2
    ·subst h2;exact d false (by simp[C4,I4,h0,hkj];omega) (b6N w b j n m Oo Oo Oo)
    ·by_cases h3:k=3
     ·subst h3;by_cases hj:j=2
      ·subst hj;by_cases hm:m=D5
       ·subst hm;exact d true (by simp[C4,I4]) (b0J 3 (.inl rfl) w b n)
       ·exact d false (by simp[C4,I4,hm]) (b0I 3 (.inl rfl) w b n m hm)
      ·exact d false (by simp[C4,I4,h0,hkj,hj]) (b0H 3 (.inl rfl) w b j n m Oo Oo Oo Oo)
     ·by_cases h4:k=4
      ·subst h4;by_cases hj:j=2
       ·subst hj;by_cases hm:m=D5
        ·subst hm;exact d true (by simp[C4,I4]) (b0J 4 (.inr rfl) w b n)
        ·exact d false (by simp[C4,I4,hm]) (b0I 4 (.inr rfl) w b n m hm)
       ·exact d false (by simp[C4,I4,h0,hkj,hj]) (b0H 4 (.inr rfl) w b j n m Oo Oo Oo Oo)
      ·exact d false (by simp[C4,I4,h0,hkj,h5,h2,h3,h4]) (b6P w b k j n m Oo Oo Oo Oo Oo Oo)
end Kx
end
end Go.Proofs.YtdhophglnhcjbaaGreatDoor
