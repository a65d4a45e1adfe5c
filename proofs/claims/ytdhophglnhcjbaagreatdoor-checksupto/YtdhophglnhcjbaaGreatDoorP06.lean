/- P06: a part of the proof that the last text tells. -/
import Derived.Test.YtdhophglnhcjbaaGreatDoorP05
set_option linter.all false
set_option maxRecDepth 100000
set_option maxHeartbeats 40000000
open Go.Proofs.Tryz
open Go renaming Addr->la,World->lb,Value->ld,bodyPost_ret->ll,results->lm,Calls->lp,wpAnyH->lq,bytes->lw,maxLen->na,undef->nc,wpAnyH_done->nd,wp_region_held_drew->ng,info_parts->ni,TypeId->nj,PanicEntry->nq,YieldsIf->nr,wpAnyH_take->ns,yielded->nt,Operand->nu
open List renaming set_cons_succ->lf,set_cons_zero->lh,getD_eq_getElem?_getD->li,setIfInBounds_toArray->lj,mem_map->lr,getElem?_set->lx,mem_append->nf,mem_cons->nh,length_take->nk,getElem?_eq_getElem->nm,length_append->no,length_cons->np,mem_singleton->nv,mem_of_mem_take->nw,map_cons->nx,sum_cons->ny,countP_cons->nz,not_mem_nil->ub,flatMap_cons->uc,length_drop->uf,flatMap_append->ug,take_succ_eq_append_getElem->uh,getElem_mem->ui,replicate->ul,map_const'->us,sum_replicate_nat->ut,drop_eq_nil_of_le->uu,take_of_length_le->uv,getElem?_append_left->ux,getElem?_append_right->uy,getElem?_take->uz,mem_filter->va,replicate_succ->vc,length_set->vh
open Go.Act renaming put->lg
open Nat renaming lt_of_succ_lt->lk,lt_of_lt_of_le->ls,le_trans->lu,le_refl->lv,le_of_lt->ud,lt_of_succ_le->ue,succ_mul->un,eq_zero_or_pos->uo,reduceLT->vf,reduceEqDiff->vg
open Go.World renaming size_alloc->ly,drew->um,ownsRow->uq,cell?->vd,block_lt_of_cell?->ve
open Option renaming some->nb,getD_some->nn
open Bool renaming false_and->uj,and_false->uw,toNat_true->vb
open Int renaming cast_ofNat_Int->ur
open Option renaming none→N,some→O
open Go.IntKind renaming i64→I
open Go.Value renaming int→J,string→Z,slice→V,pointer→U,bool→G
open Go.Ending renaming returned→Y
open Go.Obj renaming cells→H
open Go.Addr renaming mk→A
namespace Go.Proofs.YtdhophglnhcjbaaGreatDoor
theorem _root_.Go.Shut.o{p:Prop}(h:Go.Shut p):p:=h
section
theorem a6y{P:Prop}(h:P:=by
 go_wp2_with fail
 go_roundw
 case rel=>exact⟨j+1,by omega,by go_num,by unfold Hid;rw[HE.o];exact HB8.o,HGW.o⟩
 case measure=>simp[intOf];omega):P:=h
end
section
open Go.RowKit Go.Shelf Cf
namespace Kx
theorem c1s(w:lb):w.drew.heap.size=w.heap.size:=rfl
theorem b9E(w:lb)(b:Nat)(L:List Cl)(pp:List Ty)(mn rn:ByteArray)(rk D B:Nat)(T:List In)(aa:List Hd)(pa ca ha:Option la)(pn pk cn ck hn hk:Nat)(a:Int)(cs ms:ByteArray)(lim:Nat)(p:la)(cap m1 m2 m3:Nat)(q:Nat->Qs)(h:Hid (Lk w lim b L p cap m1 m2 m3 q))(hl:lim<=w.heap.size)(hc:cs.size<=na)(hm:ms.size<=na):
 lp prog 272 #[U (O (A b 0 N)), .agg #[Z mn, V pa pn pk, J I rk, Z rn, J I D, J I B, V ca cn ck, V ha hn hk], .agg #[J I 18, J I a, Z cs, Z ms]] w λe w'=>w.grownBy w' N/\∃v,e= Y v/\w'.ownsRow w.heap.size 98 2 v (E5 L ⟨mn,pp,⟨rk,rn⟩,D,B,T,aa⟩ ⟨18,a,cs,ms⟩).length ((E5 L ⟨mn,pp,⟨rk,rn⟩,D,B,T,aa⟩ ⟨18,a,cs,ms⟩).flatMap B8):=by
 have ab:E5 L ⟨mn,pp,⟨rk,rn⟩,D,B,T,aa⟩ ⟨18,a,cs,ms⟩=[C5 cs,Z3 L ⟨18,a,cs,ms⟩]:=rfl;rw[ab];clear ab
 have HF:Hid (∀W,w.grownBy W N->lp prog 322 #[U (O (A b 0 N)), .agg #[J I 18, J I a, Z cs, Z ms]] W λe w'=>e= Y (.agg #[J I (Z3 L ⟨18,a,cs,ms⟩).k, Z (Z3 L ⟨18,a,cs,ms⟩).n])/\W.grownBy w' N):=
  λW hW=>b0v W lim b L p cap m1 m2 m3 q (h.o.keep hW hl) (lu hl hW.size) ⟨18,a,cs,ms⟩ hc hm
 obtain⟨ft,ac⟩:=Oe (Z3 L ⟨18,a,cs,ms⟩)
 rw[<-ac]at HF⊢;clear ac h hl hc hm;obtain⟨fk,fn⟩:=ft;dsimp only at HF;have ad:Hid (w.grownBy ((w.alloc (H #[Z mn, V pa pn pk, J I rk, Z rn, J I D, J I B, V ca cn ck, V ha hn hk] 102)).alloc (H #[J I 18, J I a, Z cs, Z ms] 120)) N):=A0 (A2 _ _ _) (A2 _ _ _);go_enter func272,ntmps272;go_wp2_with (go_at_call 320;refine(a0x _ _).mono ?_)
 rintro e w1 ⟨rfl,F⟩;obtain⟨ah,al⟩:=S0 F;have ae:=F.size;simp only[ly]at ae;have av:w.heap.size<w1.heap.size:=by omega
 have aw:w.heap.size+1<w1.heap.size:=by omega
 go_wp2_with (go_at_call 267;refine(y9 _ _).mono ?_)
 rintro e w2 ⟨rfl,K⟩;obtain⟨ai,am⟩:=S0 K;have ax:=K.size;have ar:w.heap.size<w2.heap.size:=by omega
 have au:w.heap.size+1<w2.heap.size:=by omega
 have E:Hid (w.grownBy ((w2.alloc (H #[J I 1, Z ⟨#[]⟩] 98)).alloc (H #[J I 2, Z ⟨#[79,98,106,101,99,116]⟩] 98)) N):=A0 (A0 (A0 (A0 ad.o F) K) (A2 _ _ _)) (A2 _ _ _);clear F K;go_upto_region 26 with fail
 go_region_with (first|(go_at_call 321;refine(R8 _ _).mono ?_;rintro e w9 ⟨rfl,rfl⟩)|(go_at_call 267;refine(y9 _ _).mono ?_;rintro e w3 ⟨rfl,g⟩;obtain⟨aj,an⟩:=S0 g;have ap:w.heap.size+1<w3.heap.size:=by(have af:=g.size;(try simp[um]at af);omega))|(go_at_call 322;refine(HF.o _ (by first|exact A0 E.o (A7 _ _)|exact A0 (A0 E.o (A7 _ _)) g)).mono ?_;rintro e w4 ⟨rfl,M⟩;obtain⟨ak,ao⟩:=S0 M;have aq:w.heap.size+1<w4.heap.size:=by(have ag:=M.size;(try simp[um]at ag);omega)))
 all_goals go_wp2_with fail
 all_goals first
  |exact ll (v:= V (O (A w4.heap.size 0 N)) 2 2) (by simp[lm,results272,go_sem]) rfl (V4 2 [J I 2, Z cs, J I fk, Z fn] (A0 (A0 (A0 E.o (A7 _ _)) g) M) rfl rfl Oo)
  |exact ll (v:= V (O (A w3.heap.size 0 N)) 2 2) (by simp[lm,results272,go_sem]) rfl (V4 2 [J I 2, Z cs, J I fk, Z fn] (A0 (A0 (A0 E.o (A7 _ _)) M) g) rfl rfl Oo)
theorem c3u(n B:ByteArray)(rk st lo:Int)(e g hv:ld)(w:lb):(Instr.field 102 (.agg #[Z n,e, J I rk, Z B, J I st, J I lo,g,hv]) 1).run prog w= .ok e w:=by kernel_rfl
theorem a9D(l:List Ty):∀u∈l.flatMap B8,u.oneCell'=true:=λu g=>by
 obtain⟨t,_,e⟩:=List.mem_flatMap.1 g;simp only[B8,nh,ub,or_false]at e;rcases e with rfl|rfl<;>rfl
theorem c2Y(l:List Ty):(l.flatMap B8).length=l.length*2:=by
 exact c6n
theorem a9C{α:Type}{w:lb}{lim sz:Nat}{enc:α->List ld}{a:Option la}{xs:List α}(hs:∀x,(enc x).length=sz)(h:C0 w lim sz enc a xs):∀j u,(xs.flatMap enc)[j]? =O u->∃F,a=O F/\w.cell? (F.add j)=O u:=by
 intro j u D
 have B:(xs.flatMap enc).length=xs.length*sz:=by
  clear h D;induction xs with
  |nil=>simp
  |cons x l ih=>rw[uc,no,hs,ih,np,un];omega
 have g:=(List.getElem?_eq_some_iff.1 D).1;rw[B]at g
 have E:0<sz:=by
  rcases uo sz with e|e
  ·subst e;simp at g
  ·exact e
 have hq:=Nat.div_lt_of_lt_mul (by rw[Nat.mul_comm];exact g);have hr:j % sz<sz:=Nat.mod_lt _ E;have T:=(Nat.div_add_mod' j sz).symm;obtain⟨p',e1,_,h3⟩:=h (j/sz) hq;refine⟨p',e1,?_⟩;have K:=a1U enc sz hs xs (j/sz) hq (j % sz) hr;rw[<-T]at K;rw[K]at D;have M:=h3 (j % sz) u D;rw[<-T]at M;exact M
theorem b9D(w:lb)(b:Nat)(L:List Cl)(pp:List Ty)(mn rn:ByteArray)(rk D B:Nat)(ab:List In)(ac:List Hd)(pa ca ha:Option la)(pn pk cn ck hn hk:Nat)(a:Int)(cs ms:ByteArray)(lim:Nat)(p:la)(cap m1 m2 m3:Nat)(q:Nat->Qs)(h:Hid (Lk w lim b L p cap m1 m2 m3 q))(hl:lim<=w.heap.size)(hc:cs.size<=na)(hm:ms.size<=na)(k:Nat×Nat)(ag:L6 L cs ms=O k)(aa:(O2 L ⟨19,a,cs,ms⟩).p.length<=65536):
 lp prog 272 #[U (O (A b 0 N)), .agg #[Z mn, V pa pn pk, J I rk, Z rn, J I D, J I B, V ca cn ck, V ha hn hk], .agg #[J I 19, J I a, Z cs, Z ms]] w λe w'=>w.grownBy w' N/\∃v,e= Y v/\w'.ownsRow w.heap.size 98 2 v (E5 L ⟨mn,pp,⟨rk,rn⟩,D,B,ab,ac⟩ ⟨19,a,cs,ms⟩).length ((E5 L ⟨mn,pp,⟨rk,rn⟩,D,B,ab,ac⟩ ⟨19,a,cs,ms⟩).flatMap B8):=by
 have ae:E5 L ⟨mn,pp,⟨rk,rn⟩,D,B,ab,ac⟩ ⟨19,a,cs,ms⟩=C5 cs::(O2 L ⟨19,a,cs,ms⟩).p:=rfl;rw[ae];clear ae
 have HF:Hid (∀W,w.grownBy W N->lp prog 323 #[U (O (A b 0 N)), .agg #[J I 19, J I a, Z cs, Z ms]] W λe w'=>W.grownBy w' N/\∃xa ya za xk yk zk,e= Y (.agg (mv (O2 L ⟨19,a,cs,ms⟩) xa xk ya yk za zk).toArray)/\a3b w' lim (O2 L ⟨19,a,cs,ms⟩) xa ya za):=
  λW hW=>b1F W lim b L p cap m1 m2 m3 q (h.o.keep hW hl) (lu hl hW.size) ⟨19,a,cs,ms⟩ hc hm k ag
 obtain⟨me,af⟩:=Oe (O2 L ⟨19,a,cs,ms⟩)
 rw[<-af]at HF aa⊢;have ad:=A1 aa;have aj:Hid ((me.p.flatMap B8).length=me.p.length*2):=c2Y _;clear af h hl hc hm ag aa;obtain⟨ar,aq,au,av,aw⟩:=ni a2n;have ai:Hid (w.grownBy ((w.alloc (H #[Z mn, V pa pn pk, J I rk, Z rn, J I D, J I B, V ca cn ck, V ha hn hk] 102)).alloc (H #[J I 19, J I a, Z cs, Z ms] 120)) N):=A0 (A2 _ _ _) (A2 _ _ _);go_enter func272,ntmps272;go_wp2_with (go_at_call 320;refine(a0x _ _).mono ?_)
 rintro e w1 ⟨rfl,F⟩;obtain⟨ax,a1⟩:=S0 F;have ao:=F.size;simp only[ly]at ao;have ba:w.heap.size<w1.heap.size:=by omega
 have bb:w.heap.size+1<w1.heap.size:=by omega
 go_wp2_with (go_at_call 267;refine(y9 _ _).mono ?_)
 rintro e w2 ⟨rfl,K⟩;obtain⟨ay,a2⟩:=S0 K;have bc:=K.size;have a7:w.heap.size<w2.heap.size:=by omega
 have a':w.heap.size+1<w2.heap.size:=by omega
 have E:Hid (w.grownBy ((w2.alloc (H #[J I 1, Z ⟨#[]⟩] 98)).alloc (H #[J I 2, Z ⟨#[79,98,106,101,99,116]⟩] 98)) N):=A0 (A0 (A0 (A0 ai.o F) K) (A2 _ _ _)) (A2 _ _ _);clear F K;have a6:w.heap.size<=w2.heap.size:=by omega
 have HX:Hid (w.heap.size+1<((w2.alloc (H #[J I 1, Z ⟨#[]⟩] 98)).alloc (H #[J I 2, Z ⟨#[79,98,106,101,99,116]⟩] 98)).heap.size):=by(unfold Hid;simp only[ly];omega)
 go_upto_region 28 with fail
 go_region_law (first
  |(go_simp;go_at_call 321;refine(R8 _ _).mono ?_;rintro e w9 ⟨rfl,rfl⟩;dsimp only)
  |(go_simp;go_at_call 267;refine(y9 _ _).mono ?_;rintro e w3 ⟨rfl,g⟩;obtain⟨az,a3⟩:=S0 g;have ah:=ls HX.o g.size;dsimp only)
  |(go_simp;go_at_call 323;refine(HF.o _ (by first|exact A0 E.o (A7 _ _)|exact A0 (A0 E.o (A7 _ _)) g|exact A0 (A0 (A0 E.o (A7 _ _)) g) (A2 _ _ _))).mono ?_;rintro e w4 ⟨M,xa,ya,za,xk,yk,zk,rfl,am⟩;obtain⟨a0,a4⟩:=S0 M;have ap:=lu (Nat.le_of_eq (ly w3 _).symm) M.size;have an:=ls ah (Nat.le_of_succ_le ap);have a5:=λW=>c3u me.n me.r.n (me.r.k:Int) (me.s:Int) (me.l:Int) (V xa me.p.length xk) (V ya me.c.length yk) (V za me.h.length zk) W;dsimp only[mv])
  |(refine b5c rfl _ _ 96 rfl w.heap.size 98 ar _ 2 24 underlying96 aq au av aw rfl Od (O (A w3.heap.size 0 N)) 1 1 [J I 2, Z cs] rfl (uq.kept (a1g w3 98 2 1 w.heap.size [J I 2, Z cs] rfl (ud (lk ah)) Om) M (.inr (by simp[Value.ownBlock]))) xa me.p.length xk (me.p.flatMap B8) rfl aj.o (a9C (λ_=>rfl) am.p) (a9D _) (by have:=ad.o;unfold na;omega) (by have:=ad.o;omega) (ud (lk an)) ?_;intro ga gk w7 T ak;have al:=C6 (A0 (A0 (A0 (A0 E.o (A7 _ _)) g) (A2 _ _ _)) M) ak (λk e=> .inl (by simp only[Value.ownBlock,nb.injEq]at e;omega))))
 all_goals
  go_wp2_with fail
  exact ll (v:= V ga (1+me.p.length) gk) (by simp[lm,results272,go_sem]) rfl ⟨al,_,rfl,by
   have h9:=T;simp only[np,uc,B8,C5];rw[Nat.add_comm 1 me.p.length]at h9⊢;exact h9⟩
structure a4M(L:List Cl)(i:In):Prop where
 c:i.c.size<=maxLen
 m:i.m.size<=maxLen
 call:i.o=19->∃k,L6 L i.c i.m=some k
 few:(O2 L i).p.length<=65536
theorem b7Z(w:lb)(lim b:Nat)(L:List Cl)(p:la)(cap K M T:Nat)(q:Nat->Qs)(h:Hid (Lk w lim b L p cap K M T q))(hl:lim<=w.heap.size)(m:Me)(pa ca ha:Option la)(pk ck hk:Nat)(i:In)(hi:a4M L i):
 lp prog 272 #[U (O (A b 0 N)), .agg (mV m pa pk ca ck ha hk), .agg #[J I i.o, J I i.a, Z i.c, Z i.m]] w λe w'=>w.grownBy w' N/\∃v,e= Y v/\w'.ownsRow w.heap.size 98 2 v (E5 L m i).length ((E5 L m i).flatMap B8):=by
 obtain⟨op,a,cs,ms⟩:=i;obtain⟨mn,mp,⟨rk,rn⟩,E,D,g,B⟩:=m;by_cases h18:op=18
 ·subst h18;exact b9E w b L mp mn rn rk E D g B pa ca ha _ pk _ ck _ hk a cs ms lim p cap K M T q h hl hi.c hi.m
 ·by_cases h19:op=19
  ·subst h19;obtain⟨k,F⟩:=hi.call rfl;exact b9D w b L mp mn rn rk E D g B pa ca ha _ pk _ ck _ hk a cs ms lim p cap K M T q h hl hi.c hi.m k F hi.few
  ·exact b5Z w b L mp mn rn rk E D g B pa ca ha _ pk _ ck _ hk op a cs ms ⟨h18,h19⟩
end Kx
variable {P:Program}{ops:Array Oper}{Q:Exit->Act->World->Prop}{S:World->Prop}{oi:Oper}{v:Value}{fuel:Nat}{listed:Array Bool}{a:Act}{w:World}
theorem tkR{md:Region.Mode}(i:Nat)(K:S w)
 (g:ops[i]? =O oi:=by rfl) (B:Region.noSelect ops=true:=by kernel_rfl) (D:Region.free md ops listed i=true:=by kernel_rfl) (E:(Region.ready md ops listed).contains i=true:=by kernel_rfl)
 (F:∀(c:List nq) (a:Act) (w:lb),Q (Exit.panic c) (a.put oi.dst v) w->Q (Exit.panic c) a w:=by exact λ_ _ _ h=>h)
 (hv:nr P ops S oi v a:=by exact Or.inl ⟨by rfl,by(intro w e;(try dsimp only at e);go_simp;try with_reducible rfl)⟩)
 (k:lq P md ops Q S fuel (listed.setIfInBounds i true) (a.put oi.dst v) w):lq P md ops Q S (fuel+1) listed a w:=
 ns g B D E F hv K k
theorem tkT{md:Region.Mode}(i:Nat)
 (e:ops[i]? =O oi:=by rfl) (g:Region.noSelect ops=true:=by kernel_rfl) (B:Region.free md ops listed i=true:=by kernel_rfl) (D:(Region.ready md ops listed).contains i=true:=by kernel_rfl)
 (E:∀(c:List nq) (a:Act) (w:lb),Q (Exit.panic c) (a.put oi.dst v) w->Q (Exit.panic c) a w:=by exact λ_ _ _ h=>h)
 (hv:nr P ops S oi v a) (k:lq P md ops Q S fuel (listed.setIfInBounds i true) (a.put oi.dst v) w) (F:S w:=by assumption):lq P md ops Q S (fuel+1) listed a w:=
 ns e g B D E hv F k
theorem A3{md:Region.Mode}(i:Nat){G:Prop}(g:G)(M:S w:=by assumption)
 (B:ops[i]? =O oi:=by rfl) (D:Region.noSelect ops=true:=by kernel_rfl) (E:Region.free md ops listed i=true:=by kernel_rfl) (F:(Region.ready md ops listed).contains i=true:=by kernel_rfl)
 (K:∀(c:List nq) (a:Act) (w:lb),Q (Exit.panic c) (a.put oi.dst v) w->Q (Exit.panic c) a w:=by exact λ_ _ _ h=>h)
 (hv:nr P ops S oi v a:=by exact Or.inl ⟨by rfl,by(intro w e;(try dsimp only at e);go_simp;try with_reducible rfl)⟩)
 (k:G->lq P md ops Q S fuel (listed.setIfInBounds i true) (a.put oi.dst v) w:=by(intro k;(try simp only[lg,lz]);exact k)):lq P md ops Q S (fuel+1) listed a w:=
 ns B D E F K hv M (k g)
theorem F3{md:Region.Mode}(i:Nat){o:Oper}
 (h:∀e:Act->lb->Prop,Shut (∀a w,S w->(S w->lq P md ops Q S fuel (listed.setIfInBounds i true) a w)->e a w)->if Region.wanted o (nt ops a.tmps)=true then Oper.wp P o a w e Q else e (a.put o.dst nc) w)
 (B:Region.ready md ops listed=[i]:=by kernel_rfl) (g:ops[i]? =O o:=by rfl):lq P md ops Q S (fuel+1) listed a w:=
 wpAnyH_ready B Os (AllReadyH.cons g h AllReadyH.nil)
namespace Kx
theorem a5e{w:lb}{g b o:Nat}{D E F v:ld}(h:w.cell? (A b o N)=O v)(B:b≠g):(((w.setCell (A g 0 N) D).setCell (A g 1 N) E).setCell (A g 2 N) F).cell? (A b o N)=O v:=
 (A6 _ (A g 2 N) F).cell ((A6 _ (A g 1 N) E).cell ((A6 w (A g 0 N) D).cell h (λe=>B (nb.inj e))) (λe=>B (nb.inj e))) (λe=>B (nb.inj e))
def o4(i:In):Bool:=i.o==20||i.o==30
def a7O(w':lb)(base:Nat)(L:List Cl)(m:Me)(i:In)(v:ld):Prop:=∃ta tk ua uk,v= .agg #[V ta (E5 L m i).length tk, V ua (C7 L i).length uk, G (o4 i)]/\w'.ownsRow base 98 2 (V ta (E5 L m i).length tk) (E5 L m i).length ((E5 L m i).flatMap B8)/\w'.ownsRow base 98 2 (V ua (C7 L i).length uk) (C7 L i).length ((C7 L i).flatMap B8)
theorem b0C(w:lb)(lim b:Nat)(L:List Cl)(p:la)(cap m1 m2 m3:Nat)(q:Nat->Qs)(h:Hid (Lk w lim b L p cap m1 m2 m3 q))(hl:lim<=w.heap.size)(m:Me)(pa ca ha:Option la)(pk ck hk:Nat)(i:In)(hi:a4M L i):
 lp prog 197 #[U (O (A b 0 N)), .agg (mV m pa pk ca ck ha hk), .agg #[J I i.o, J I i.a, Z i.c, Z i.m]] w λe w'=>w.grownBy w' N/\∃v,e= Y v/\a7O w' w.heap.size L m i v:=by
 have HT:Hid (∀W,w.grownBy W N->lp prog 272 #[U (O (A b 0 N)), .agg (mV m pa pk ca ck ha hk), .agg #[J I i.o, J I i.a, Z i.c, Z i.m]] W λe w'=>W.grownBy w' N/\∃v,e= Y v/\w'.ownsRow W.heap.size 98 2 v (E5 L m i).length ((E5 L m i).flatMap B8)):=
  λW hW=>b7Z W lim b L p cap m1 m2 m3 q (h.o.keep hW hl) (lu hl hW.size) m pa ca ha pk ck hk i hi
 have HP:Hid (∀W,w.grownBy W N->lp prog 273 #[U (O (A b 0 N)), .agg #[J I i.o, J I i.a, Z i.c, Z i.m]] W λe w'=>W.grownBy w' N/\∃v,e= Y v/\w'.ownsRow W.heap.size 98 2 v (C7 L i).length ((C7 L i).flatMap B8)):=
  λW hW=>b9S W lim b L p cap m1 m2 m3 q (h.o.keep hW hl) (lu hl hW.size) i hi.c hi.m hi.call
 unfold a7O
 have HE:Hid (o4 i=(decide ((i.o:Int)=20)||decide ((i.o:Int)=30))):=by
  unfold Hid o4;rw[Bool.eq_iff_iff];simp;omega
 obtain⟨eb,bh⟩:=Oe (o4 i)
 rw[<-bh]at HE⊢;clear bh;obtain⟨TT,bg⟩:=Oe (E5 L m i)
 obtain⟨PP,bf⟩:=Oe (C7 L i)
 rw[<-bg]at HT⊢;rw[<-bf]at HP⊢;clear bg bf h hl hi;have D:Hid (w.grownBy (((w.alloc (H (mV m pa pk ca ck ha hk) 102)).alloc (H #[J I i.o, J I i.a, Z i.c, Z i.m] 120)).alloc (H #[V N 0 0, V N 0 0, G false] 315)) N):=A0 (A0 (A2 _ _ _) (A2 _ _ _)) (A2 _ _ _);have HX:Hid (w.heap.size+2<(((w.alloc (H (mV m pa pk ca ck ha hk) 102)).alloc (H #[J I i.o, J I i.a, Z i.c, Z i.m] 120)).alloc (H #[V N 0 0, V N 0 0, G false] 315)).drew.heap.size):=by(unfold Hid;simp[c1s])
 have HB:Hid (A4 (((w.alloc (H (mV m pa pk ca ck ha hk) 102)).alloc (H #[J I i.o, J I i.a, Z i.c, Z i.m] 120)).alloc (H #[V N 0 0, V N 0 0, G false] 315)).drew (w.heap.size+2) #[V N 0 0, V N 0 0, G false] 315):=by
  have:=A4.new ((w.alloc (H (mV m pa pk ca ck ha hk) 102)).alloc (H #[J I i.o, J I i.a, Z i.c, Z i.m] 120)) #[V N 0 0, V N 0 0, G false] 315;simp only[ly]at this;exact this
 have HM:Hid (A4 (((w.alloc (H (mV m pa pk ca ck ha hk) 102)).alloc (H #[J I i.o, J I i.a, Z i.c, Z i.m] 120)).alloc (H #[V N 0 0, V N 0 0, G false] 315)).drew w.heap.size (mV m pa pk ca ck ha hk) 102):=(((A4.new w (mV m pa pk ca ck ha hk) 102).keep (A2 _ _ N) B9).keep (A2 _ _ N) B9).keep (A7 _ N) B9
 have HI:Hid (A4 (((w.alloc (H (mV m pa pk ca ck ha hk) 102)).alloc (H #[J I i.o, J I i.a, Z i.c, Z i.m] 120)).alloc (H #[V N 0 0, V N 0 0, G false] 315)).drew (w.heap.size+1) #[J I i.o, J I i.a, Z i.c, Z i.m] 120):=by
  have:=(A4.new (w.alloc (H (mV m pa pk ca ck ha hk) 102)) #[J I i.o, J I i.a, Z i.c, Z i.m] 120).keep (A2 _ (H #[V N 0 0, V N 0 0, G false] 315) N) B9;exact a2f
 have bv:w.heap.size+1≠w.heap.size+1+1:=by omega
 have F:¬w.heap.size=w.heap.size+1+1:=by omega
 by_cases h20:(i.o:Int)=20
 ·obtain⟨op,a,cs,ms⟩:=i;obtain rfl:op=20:=by dsimp only at h20;omega
  clear h20;obtain rfl:eb=true:=HE.o;simp only[ur]at HT HP D HX HB HM HI⊢;obtain⟨an,ao,ap,aq,ar,au,av,aw⟩:=HM.o.q8;obtain⟨aj,ak,al,am⟩:=HI.o.q4;go_enter func197,ntmps197;go_upto_region 1 with fail
  refine ng (S:=(λw'=>w'.cell? (A w.heap.size 0 N)=O (Z m.n)/\w'.cell? (A w.heap.size 1 N)=O (V pa m.p.length pk)/\w'.cell? (A w.heap.size 2 N)=O (J I m.r.k)/\w'.cell? (A w.heap.size 3 N)=O (Z m.r.n)/\w'.cell? (A w.heap.size 4 N)=O (J I m.s)/\w'.cell? (A w.heap.size 5 N)=O (J I m.l)/\w'.cell? (A w.heap.size 6 N)=O (V ca m.c.length ck)/\w'.cell? (A w.heap.size 7 N)=O (V ha m.h.length hk)/\w'.cell? (A (w.heap.size+1) 0 N)=O (J I 20)/\w'.cell? (A (w.heap.size+1) 1 N)=O (J I a)/\w'.cell? (A (w.heap.size+1) 2 N)=O (Z cs)/\w'.cell? (A (w.heap.size+1) 3 N)=O (Z ms))) Ok0 ?hS0 (λai=> ?rest0)
  case hS0=>(try dsimp only);(first|(go_keep;done)|((repeat' apply And.intro)<;>first|(go_keep;done)|(refine a5e ?_ F;assumption)))
  refine tkR 7 (by assumption) (k:= ?_);try simp only[lg,lj,lh,lf]
  refine tkR 8 (by assumption) (k:= ?_);try simp only[lg,lj,lh,lf]
  refine tkR 9 (by assumption) (k:= ?_);try simp only[lg,lj,lh,lf]
  refine tkR 0 (by assumption) (k:= ?_);try simp only[lg,lj,lh,lf]
  refine tkR 1 (by assumption) (k:= ?_);try simp only[lg,lj,lh,lf]
  refine tkR 2 (by assumption) (k:= ?_);try simp only[lg,lj,lh,lf]
  refine tkR 4 (by assumption) (k:= ?_);try simp only[lg,lj,lh,lf]
  refine tkR 5 (by assumption) (k:= ?_);try simp only[lg,lj,lh,lf]
  refine F3 3 λK hK=> ?_;go_simp
  go_wp2_with (go_at_call 272;refine(HT.o _ (A0 D.o (A7 _ _))).mono ?_;rintro e w3 ⟨g,v3,rfl,E⟩;obtain⟨a3,k3,rfl⟩:=F7 E;have a2:=g.cell an B9;have a5:=g.cell ao B9;have a6:=g.cell ap B9;have a7:=g.cell aq B9;have a':=g.cell ar B9;have ba:=g.cell au B9;have bb:=g.cell av B9;have bc:=g.cell aw B9;have ay:=g.cell aj B9;have az:=g.cell ak B9;have a0:=g.cell al B9;have a1:=g.cell am B9;have af:=ls HX.o g.size;have ag:=lk af;have bd:=lk ag)
  refine hK.o _ _ ?_ (λai=> ?_)
  case refine_1=>((try dsimp only);(first|(go_keep;done)|((repeat' apply And.intro)<;>first|(go_keep;done)|(refine a5e ?_ F;assumption))))
  try clear hK K
  try simp only[lg,lj,lh,lf]
  refine F3 6 λK hK=> ?_;go_simp
  go_wp2_with (go_at_call 273;refine(HP.o _ (A0 (A0 D.o (A7 _ _)) g)).mono ?_;rintro e w4 ⟨B,v4,rfl,ac⟩;obtain⟨a4,k4,rfl⟩:=F7 ac;have bn:=B.cell a2 B9;have bo:=B.cell a5 B9;have bp:=B.cell a6 B9;have bq:=B.cell a7 B9;have br:=B.cell a' B9;have bs:=B.cell ba B9;have bt:=B.cell bb B9;have bu:=B.cell bc B9;have bj:=B.cell ay B9;have bk:=B.cell az B9;have bl:=B.cell a0 B9;have bm:=B.cell a1 B9;have aa:=(HB.o.keep g B9).keep B B9;obtain⟨g0,g1,g2⟩:=aa.q3;obtain⟨f0,f1,f2⟩:=aa.z3;have ax:=ls af B.size;have ah:=lk ax;have be:=lk ah)
  refine hK.o _ _ ?_ (λai=> ?_)
  case refine_1=>((try dsimp only);(first|(go_keep;done)|((repeat' apply And.intro)<;>first|(go_keep;done)|(refine a5e ?_ F;assumption))))
  try clear hK K
  try simp only[lg,lj,lh,lf]
  refine tkR 10 (by assumption) (k:= ?_);try simp only[lg,lj,lh,lf]
  refine tkT 11 (v:=nc) (hv:= .inr ⟨by rfl,rfl⟩) (k:= ?r11);try simp only[lg,lj,lh,lf]
  refine tkT 12 (v:=nc) (hv:= .inr ⟨by rfl,rfl⟩) (k:= ?r12);try simp only[lg,lj,lh,lf]
  refine tkT 13 (v:=nc) (hv:= .inr ⟨by rfl,rfl⟩) (k:= ?r13);try simp only[lg,lj,lh,lf]
  refine tkR 14 (by assumption) (k:= ?_);try simp only[lg,lj,lh,lf]
  refine tkR 15 (by assumption) (k:= ?_);try simp only[lg,lj,lh,lf]
  refine F3 16 λK hK=> ?_;go_simp
  refine hK.o _ _ ?_ (λai=> ?_)
  case refine_1=>((try dsimp only);(first|(go_keep;done)|((repeat' apply And.intro)<;>first|(go_keep;done)|(refine a5e ?_ F;assumption))))
  try clear hK K
  try simp only[lg,lj,lh,lf]
  refine nd Ok0 ?_ _
  all_goals go_wp2_with fail
  all_goals
   have ad:A4 _ (w.heap.size+1+1) #[V a3 TT.length k3, V a4 PP.length k4, G true] 315:=((aa.set 0 (V a3 TT.length k3)).set 1 (V a4 PP.length k4)).set 2 (G true);have ab:w4.grownBy (((w4.setCell (A (w.heap.size+1+1) 0 N) (V a3 TT.length k3)).setCell (A (w.heap.size+1+1) 1 N) (V a4 PP.length k4)).setCell (A (w.heap.size+1+1) 2 N) (G true)) (O (w.heap.size+1+1)):=A0 (A0 (A6 _ (A (w.heap.size+1+1) 0 N) _) (A6 _ (A (w.heap.size+1+1) 1 N) _)) (A6 _ (A (w.heap.size+1+1) 2 N) _);have ae:=C6 (A0 (A0 (A0 D.o (A7 _ _)) g) B) ab (λk e=> .inl (by cases e;omega));have bi:=E.kept B (by cases hv:(Value.slice a3 TT.length k3).ownBlock<;>simp);have M:=(E.kept B (by cases hv:(Value.slice a3 TT.length k3).ownBlock<;>simp)).kept ab (.inr (F9 E (ue HX.o)));have T:=ac.kept ab (.inr (F9 ac Oo));generalize (((w4.setCell (A (w.heap.size+1+1) 0 N) (V a3 TT.length k3)).setCell (A (w.heap.size+1+1) 1 N) (V a4 PP.length k4)).setCell (A (w.heap.size+1+1) 2 N) (G true))=W7 at ad ae M T⊢;obtain⟨z0,z1,z2⟩:=ad.q3;exact ll (v:= .agg #[V a3 TT.length k3, V a4 PP.length k4, G true]) (by simp[lm,results197,go_sem,z0,z1,z2]) rfl ⟨ae,_,rfl,_,_,_,_,rfl,U6 M D.o.size,U6 T (by have:=D.o.size;have:=g.size;exact lu D.o.size g.size)⟩
 ·by_cases h30:(i.o:Int)=30
  ·obtain⟨op,a,cs,ms⟩:=i;obtain rfl:op=30:=by dsimp only at h30;omega
   clear h30 h20;have bw:¬(30:Int)=20:=by omega
   obtain rfl:eb=true:=HE.o;simp only[ur]at HT HP D HX HB HM HI⊢;obtain⟨an,ao,ap,aq,ar,au,av,aw⟩:=HM.o.q8;obtain⟨aj,ak,al,am⟩:=HI.o.q4;go_enter func197,ntmps197;go_upto_region 1 with fail
   go_region_held2 (λw'=>w'.cell? (A w.heap.size 0 N)=O (Z m.n)/\w'.cell? (A w.heap.size 1 N)=O (V pa m.p.length pk)/\w'.cell? (A w.heap.size 2 N)=O (J I m.r.k)/\w'.cell? (A w.heap.size 3 N)=O (Z m.r.n)/\w'.cell? (A w.heap.size 4 N)=O (J I m.s)/\w'.cell? (A w.heap.size 5 N)=O (J I m.l)/\w'.cell? (A w.heap.size 6 N)=O (V ca m.c.length ck)/\w'.cell? (A w.heap.size 7 N)=O (V ha m.h.length hk)/\w'.cell? (A (w.heap.size+1) 0 N)=O (J I 30)/\w'.cell? (A (w.heap.size+1) 1 N)=O (J I a)/\w'.cell? (A (w.heap.size+1) 2 N)=O (Z cs)/\w'.cell? (A (w.heap.size+1) 3 N)=O (Z ms)) (first|(go_keep;done)|((repeat' apply And.intro)<;>first|(go_keep;done)|(refine a5e ?_ F;assumption))) (first
    |(go_at_call 272;refine(HT.o _ (A0 D.o (A7 _ _))).mono ?_;rintro e w3 ⟨g,v3,rfl,E⟩;obtain⟨a3,k3,rfl⟩:=F7 E;have a2:=g.cell an B9;have a5:=g.cell ao B9;have a6:=g.cell ap B9;have a7:=g.cell aq B9;have a':=g.cell ar B9;have ba:=g.cell au B9;have bb:=g.cell av B9;have bc:=g.cell aw B9;have ay:=g.cell aj B9;have az:=g.cell ak B9;have a0:=g.cell al B9;have a1:=g.cell am B9;have af:=ls HX.o g.size;have ag:=lk af;have bd:=lk ag)
    |(go_at_call 273;refine(HP.o _ (A0 (A0 D.o (A7 _ _)) g)).mono ?_;rintro e w4 ⟨B,v4,rfl,ac⟩;obtain⟨a4,k4,rfl⟩:=F7 ac;have bn:=B.cell a2 B9;have bo:=B.cell a5 B9;have bp:=B.cell a6 B9;have bq:=B.cell a7 B9;have br:=B.cell a' B9;have bs:=B.cell ba B9;have bt:=B.cell bb B9;have bu:=B.cell bc B9;have bj:=B.cell ay B9;have bk:=B.cell az B9;have bl:=B.cell a0 B9;have bm:=B.cell a1 B9;have aa:=(HB.o.keep g B9).keep B B9;obtain⟨g0,g1,g2⟩:=aa.q3;obtain⟨f0,f1,f2⟩:=aa.z3;have ax:=ls af B.size;have ah:=lk ax;have be:=lk ah))
   all_goals go_wp2_with fail
   all_goals
    have ad:A4 _ (w.heap.size+1+1) #[V a3 TT.length k3, V a4 PP.length k4, G true] 315:=((aa.set 0 (V a3 TT.length k3)).set 1 (V a4 PP.length k4)).set 2 (G true);have ab:w4.grownBy (((w4.setCell (A (w.heap.size+1+1) 0 N) (V a3 TT.length k3)).setCell (A (w.heap.size+1+1) 1 N) (V a4 PP.length k4)).setCell (A (w.heap.size+1+1) 2 N) (G true)) (O (w.heap.size+1+1)):=A0 (A0 (A6 _ (A (w.heap.size+1+1) 0 N) _) (A6 _ (A (w.heap.size+1+1) 1 N) _)) (A6 _ (A (w.heap.size+1+1) 2 N) _);have ae:=C6 (A0 (A0 (A0 D.o (A7 _ _)) g) B) ab (λk e=> .inl (by cases e;omega));have bi:=E.kept B (by cases hv:(Value.slice a3 TT.length k3).ownBlock<;>simp);have M:=(E.kept B (by cases hv:(Value.slice a3 TT.length k3).ownBlock<;>simp)).kept ab (.inr (F9 E (ue HX.o)));have T:=ac.kept ab (.inr (F9 ac Oo));generalize (((w4.setCell (A (w.heap.size+1+1) 0 N) (V a3 TT.length k3)).setCell (A (w.heap.size+1+1) 1 N) (V a4 PP.length k4)).setCell (A (w.heap.size+1+1) 2 N) (G true))=W7 at ad ae M T⊢;obtain⟨z0,z1,z2⟩:=ad.q3;exact ll (v:= .agg #[V a3 TT.length k3, V a4 PP.length k4, G true]) (by simp[lm,results197,go_sem,z0,z1,z2]) rfl ⟨ae,_,rfl,_,_,_,_,rfl,U6 M D.o.size,U6 T (by have:=D.o.size;have:=g.size;exact lu D.o.size g.size)⟩
  ·obtain rfl:eb=false:=by rw[HE.o];simp[h20,h30]
   have bx:((i.o:Int)==20)=false:=by simp[h20]
   have bz:((i.o:Int)==30)=false:=by simp[h30]
   obtain⟨an,ao,ap,aq,ar,au,av,aw⟩:=HM.o.q8;obtain⟨aj,ak,al,am⟩:=HI.o.q4;go_enter func197,ntmps197;go_upto_region 1 with fail
   go_region_held2 (λw'=>w'.cell? (A w.heap.size 0 N)=O (Z m.n)/\w'.cell? (A w.heap.size 1 N)=O (V pa m.p.length pk)/\w'.cell? (A w.heap.size 2 N)=O (J I m.r.k)/\w'.cell? (A w.heap.size 3 N)=O (Z m.r.n)/\w'.cell? (A w.heap.size 4 N)=O (J I m.s)/\w'.cell? (A w.heap.size 5 N)=O (J I m.l)/\w'.cell? (A w.heap.size 6 N)=O (V ca m.c.length ck)/\w'.cell? (A w.heap.size 7 N)=O (V ha m.h.length hk)/\w'.cell? (A (w.heap.size+1) 0 N)=O (J I i.o)/\w'.cell? (A (w.heap.size+1) 1 N)=O (J I i.a)/\w'.cell? (A (w.heap.size+1) 2 N)=O (Z i.c)/\w'.cell? (A (w.heap.size+1) 3 N)=O (Z i.m)) (first|(go_keep;done)|((repeat' apply And.intro)<;>first|(go_keep;done)|(refine a5e ?_ F;assumption))) (first
    |(go_at_call 272;refine(HT.o _ (A0 D.o (A7 _ _))).mono ?_;rintro e w3 ⟨g,v3,rfl,E⟩;obtain⟨a3,k3,rfl⟩:=F7 E;have a2:=g.cell an B9;have a5:=g.cell ao B9;have a6:=g.cell ap B9;have a7:=g.cell aq B9;have a':=g.cell ar B9;have ba:=g.cell au B9;have bb:=g.cell av B9;have bc:=g.cell aw B9;have ay:=g.cell aj B9;have az:=g.cell ak B9;have a0:=g.cell al B9;have a1:=g.cell am B9;have af:=ls HX.o g.size;have ag:=lk af;have bd:=lk ag)
    |(go_at_call 273;refine(HP.o _ (A0 (A0 D.o (A7 _ _)) g)).mono ?_;rintro e w4 ⟨B,v4,rfl,ac⟩;obtain⟨a4,k4,rfl⟩:=F7 ac;have bn:=B.cell a2 B9;have bo:=B.cell a5 B9;have bp:=B.cell a6 B9;have bq:=B.cell a7 B9;have br:=B.cell a' B9;have bs:=B.cell ba B9;have bt:=B.cell bb B9;have bu:=B.cell bc B9;have bj:=B.cell ay B9;have bk:=B.cell az B9;have bl:=B.cell a0 B9;have bm:=B.cell a1 B9;have aa:=(HB.o.keep g B9).keep B B9;obtain⟨g0,g1,g2⟩:=aa.q3;obtain⟨f0,f1,f2⟩:=aa.z3;have ax:=ls af B.size;have ah:=lk ax;have be:=lk ah))
   all_goals go_wp2_with fail
   all_goals
    have ad:A4 _ (w.heap.size+1+1) #[V a3 TT.length k3, V a4 PP.length k4, G false] 315:=((aa.set 0 (V a3 TT.length k3)).set 1 (V a4 PP.length k4)).set 2 (G false);have ab:w4.grownBy (((w4.setCell (A (w.heap.size+1+1) 0 N) (V a3 TT.length k3)).setCell (A (w.heap.size+1+1) 1 N) (V a4 PP.length k4)).setCell (A (w.heap.size+1+1) 2 N) (G false)) (O (w.heap.size+1+1)):=A0 (A0 (A6 _ (A (w.heap.size+1+1) 0 N) _) (A6 _ (A (w.heap.size+1+1) 1 N) _)) (A6 _ (A (w.heap.size+1+1) 2 N) _);have ae:=C6 (A0 (A0 (A0 D.o (A7 _ _)) g) B) ab (λk e=> .inl (by cases e;omega));have bi:=E.kept B (by cases hv:(Value.slice a3 TT.length k3).ownBlock<;>simp);have M:=(E.kept B (by cases hv:(Value.slice a3 TT.length k3).ownBlock<;>simp)).kept ab (.inr (F9 E (ue HX.o)));have T:=ac.kept ab (.inr (F9 ac Oo));generalize (((w4.setCell (A (w.heap.size+1+1) 0 N) (V a3 TT.length k3)).setCell (A (w.heap.size+1+1) 1 N) (V a4 PP.length k4)).setCell (A (w.heap.size+1+1) 2 N) (G false))=W7 at ad ae M T⊢;obtain⟨z0,z1,z2⟩:=ad.q3;exact ll (v:= .agg #[V a3 TT.length k3, V a4 PP.length k4, G false]) (by simp[lm,results197,go_sem,z0,z1,z2]) rfl ⟨ae,_,rfl,_,_,_,_,rfl,U6 M D.o.size,U6 T (by have:=D.o.size;have:=g.size;exact lu D.o.size g.size)⟩
open Go.RowKit Cf
variable {P:Program}{w:World}{ops:Array Oper}{o:Oper}{a:Act}{Q:Exit->Act->World->Prop}
theorem b4X{K:Act->lb->Prop}{E:Prop}(hgd:o.guard=N)(s x:nu)(t:nj)
 (ho:o.op= .call {callee:= .builtin .append,args:= #[s,x],argTypes:= #[t,t]})
 (base:Nat) (e:nj) (i:TypeInfo) (z:ld) (size lw:Nat) (ht:P.underlying t=O (.slice e)) (hi:P.info? e=O i) (hz:i.zero=O z)
 (hsize:i.size=size) (hby:i.bytes=lw) (hzs:z.cells.size=size) (hsz:0<size)
 (v0:Option la) (n k0:Nat) (xs:List ld) (hs:a.eval s= .slice v0 n k0) (hown:w.ownsRow base e size (.slice v0 n k0) n xs)
 (oa:Option la) (m c:Nat) (news:List ld) (hx:a.eval x= .slice oa m c) (hl:news.length=m*size) (hnews:∀j u,news[j]? =O u->∃ad,oa=O ad/\w.cell? (ad.add j)=O u) (h1:∀u∈news,u.oneCell'=true)
 (h63:n+m<=na) (hbytes:(n+m)*lw<=140737488355328) (hbase:base<=w.heap.size)
 (h:∀a' cap w',w'.ownsRow base e size (.slice a' (n+m) cap) (n+m) (xs++news)->w.grownBy w' (Value.slice v0 n k0).ownBlock->(∀p,a'=O p->(∃q,v0=O q/\q.block=p.block)\/w.heap.size<=p.block)->K (a.put o.dst (.slice a' (n+m) cap)) w'):
 if Region.wanted o (nt ops a.tmps)=true then Oper.wp P o a w K Q else E:=by
 have hw:Region.wanted o (nt ops a.tmps)=true:=by simp[Region.wanted,hgd]
 rw[if_pos hw];exact a7V s x t ho base e i z size lw ht hi hz hsize hby hzs hsz v0 n k0 xs hs hown oa m c news hx hl hnews h1 h63 hbytes hbase h
theorem a5N{rest:List Oper}(hgd:o.guard=N)(s x:nu)(t:nj)
 (ho:o.op= .call {callee:= .builtin .append,args:= #[s,x],argTypes:= #[t,t]})
 (base:Nat) (e:nj) (i:TypeInfo) (z:ld) (size lw:Nat) (ht:P.underlying t=O (.slice e)) (hi:P.info? e=O i) (hz:i.zero=O z)
 (hsize:i.size=size) (hby:i.bytes=lw) (hzs:z.cells.size=size) (hsz:0<size)
 (v0:Option la) (n k0:Nat) (xs:List ld) (hs:a.eval s= .slice v0 n k0) (hown:w.ownsRow base e size (.slice v0 n k0) n xs)
 (oa:Option la) (m c:Nat) (news:List ld) (hx:a.eval x= .slice oa m c) (hl:news.length=m*size) (hnews:∀j u,news[j]? =O u->∃ad,oa=O ad/\w.cell? (ad.add j)=O u) (h1:∀u∈news,u.oneCell'=true)
 (h63:n+m<=na) (hbytes:(n+m)*lw<=140737488355328) (hbase:base<=w.heap.size)
 (h:∀a' cap w',w'.ownsRow base e size (.slice a' (n+m) cap) (n+m) (xs++news)->w.grownBy w' (Value.slice v0 n k0).ownBlock->(∀p,a'=O p->(∃q,v0=O q/\q.block=p.block)\/w.heap.size<=p.block)->wpList P ops Q rest (a.put o.dst (.slice a' (n+m) cap)) w'):
 wpList P ops Q (o::rest) a w:=
 wpList_plain hgd λ_ hK=>a7V s x t ho base e i z size lw ht hi hz hsize hby hzs hsz v0 n k0 xs hs hown oa m c news hx hl hnews h1 h63 hbytes hbase λg cap w' h2 h3 h4=>hK _ _ (h g cap w' h2 h3 h4)
end Kx
theorem T6{P:Program}{ops:Array Oper}{Q:Exit->Act->lb->Prop}{E:Nat}{a:Act}{e w:lb}{S:lb->Prop}{row:Option Nat}(g:Hid (∀W,e.grownBy W row->S W))(B:e.grownBy w row)
 (h:S w.drew->lq P .any ops Q S ops.size (Array.replicate ops.size false) a w.drew) (D:P.follows .mixedOrders=true:=by kernel_rfl):(Code.region E ops true).wp P Q a w:=
 ng D (g.o _ (A0 B (A7 _ _))) h
namespace Kx
theorem b8s(x:la)(i j:Nat):(x.add i).add j=x.add (i+j):=by
 unfold Addr.add;by_cases h1:i=0
 ·subst h1;simp
 ·by_cases h2:j=0
  ·subst h2;simp[h1]
  ·simp[h1,h2,Nat.add_assoc]
variable {w:World}{lim:Nat}{l:List Ty}
theorem c1x{g:la}(h:C0 w lim 2 B8 (O g) l)(n:Nat):C0 w lim 2 B8 (O (g.add (n*2))) (l.drop n):=by
 intro j F;rw[uf]at F;obtain⟨p,e,D,E⟩:=h (n+j) Oo;injection e with e
 subst e;refine⟨g.add (n*2),rfl,?_,λr u B=> ?_⟩
 ·unfold Addr.add;split<;>exact D
 ·rw[b8s,show n*2+(j*2+r)=(n+j)*2+r by omega];exact E r u (by rw[List.getElem_drop]at B;exact B)
theorem a7z{α:Type}{sz:Nat}{enc:α->List ld}{a:Option la}{l:List α}(h:l=[]):C0 w lim sz enc a l:=by subst h;exact λj e=>absurd e Os
variable {sa:Option Addr}
theorem c1v(h:C0 w lim 2 B8 sa l)(n:Nat):C0 w lim 2 B8 sa (l.take n):=λj D=>by
 rw[nk]at D;obtain⟨p,e,g,B⟩:=h j Oo;refine⟨p,e,g,?_⟩;rw[List.getElem_take];exact B
def tlA(a:Option la)(n cap:Nat):Option la:=if cap=n then a else a.map (·.add (n*2))
theorem b3w:∀W,(Go.sizeOf 98).run prog W= .ok 2 W:=λW=>by
 obtain⟨E,e,B,g,D⟩:=ni a2n;simp[sizeOf,typeInfo,e,g,go_sem]
variable {ops:Array Oper}{o:Oper}{a:Act}{Q:Exit->Act->World->Prop}
theorem c2y{K:Act->lb->Prop}{E:Prop}(T:o.guard=N)(s x:nu)(ho:o.op= .call {callee:= .builtin .append,args:= #[s,x],argTypes:= #[96,96]})
 (base:Nat) (F:Option la) (n D:Nat) (xs:List Ty) (hs:a.eval s= V F n D) (e:w.ownsRow base 98 2 (V F n D) n (xs.flatMap B8))
 (oa:Option la) (m c lim:Nat) (M:List Ty) (hx:a.eval x= V oa m c) (hm:m=M.length) (ab:C0 w lim 2 B8 oa M) (hk:n+m<=400000) (g:base<=w.heap.size)
 (h:∀B cap w',w'.ownsRow base 98 2 (V B (n+m) cap) (n+m) ((xs++M).flatMap B8)->w.grownBy w' (Value.slice F n D).ownBlock->K (a.put o.dst (V B (n+m) cap)) w'):
 if Region.wanted o (nt ops a.tmps)=true then Oper.wp prog o a w K Q else E:=by
 obtain⟨af,aa,ac,ad,ae⟩:=ni a2n;refine b4X T s x 96 ho base 98 af _ 2 24 underlying96 aa ac ad ae rfl Od F n D _ hs e oa m c (M.flatMap B8) hx (by rw[hm];clear h e hs;simp[B8,us,ut]) (a9C (λ_=>rfl) ab) (a9D _) Om Oo g λB cap w' h1 h2 _=>h B cap w' (by rw[ug];exact h1) h2
theorem b3X(W:lb)(a:Option la)(len cap n:Nat)(h:n<=len)(hc:len<=cap):(Instr.slice 96 (.slice a len cap) (O (J I (n:Int))) N N).run prog W= .ok (.slice (tlA a n cap) (len-n) (cap-n)) W:=by
 have ht:prog.underlying 96=O (.slice (prog.elem 96)):=by kernel_rfl
 have he:prog.elem 96=98:=by kernel_rfl
 rw[run_slice_l W _ _ _ _ ht I _ Oo Oo,he,b3w];simp[Result.andThen,sliced,tlA]
theorem c2L(W:lb)(a:Option la)(len cap n:Nat)(hc:n<=cap):(Instr.slice 96 (.slice a len cap) N (O (J I (n:Int))) N).run prog W= .ok (.slice a n cap) W:=by
 have ht:prog.underlying 96=O (.slice (prog.elem 96)):=by kernel_rfl
 have he:prog.elem 96=98:=by kernel_rfl
 rw[run_slice_h W _ _ _ _ ht I _ Oo Oo,he,b3w];cases a<;>simp[Result.andThen,sliced,Addr.add]
theorem b4s{n cap:Nat}(h:C0 w lim 2 B8 sa l)(B:l.length<=cap):C0 w lim 2 B8 (tlA sa n cap) (l.drop n):=by
 unfold tlA;split
 ·exact a7z (uu Oo)
 ·cases sa with
  |none=>
   refine a7z (uu ?_);rcases uo l.length with e|e
   ·omega
   ·obtain⟨p,g,-⟩:=h 0 e;cases g
  |some sp=>exact c1x h n
theorem a6o{e:Nat}(h:C0 w lim 2 B8 sa l)(F:lim<=e):C0 w e 2 B8 sa l:=λj E=>by
 obtain⟨p,g,B,D⟩:=h j E;exact⟨p,g,ls B F,D⟩
theorem b4a{W:lb}{g:Nat}{t:Ty}(e:A4 W g #[J I t.k, Z t.n] 98):C0 W W.heap.size 2 B8 (O (A g 0 N)) [t]:=λj D=>by
 have:j=0:=by simp at D;exact D
 subst this
 exact⟨_,rfl,e.lt,λr u B=>by
  rcases r with _|_|r
  ·exact e.cell 0 u (by simpa[B8]using B)
  ·exact e.cell 1 u (by simpa[B8]using B)
  ·simp[B8]at B⟩
theorem a5z{g:List Oper}(M:o.guard=N)(s x:nu)(ho:o.op= .call {callee:= .builtin .append,args:= #[s,x],argTypes:= #[96,96]})
 (base:Nat) (E:Option la) (n F:Nat) (xs:List Ty) (hs:a.eval s= V E n F) (e:w.ownsRow base 98 2 (V E n F) n (xs.flatMap B8))
 (oa:Option la) (m c lim:Nat) (K:List Ty) (hx:a.eval x= V oa m c) (hm:m=K.length) (aa:C0 w lim 2 B8 oa K) (hk:n+m<=400000) (B:base<=w.heap.size)
 (h:∀D cap w',w'.ownsRow base 98 2 (V D (n+m) cap) (n+m) ((xs++K).flatMap B8)->w.grownBy w' (Value.slice E n F).ownBlock->(∀p,D=O p->(∃q,E=O q/\q.block=p.block)\/w.heap.size<=p.block)->wpList prog ops Q g (a.put o.dst (V D (n+m) cap)) w'):
 wpList prog ops Q (o::g) a w:=by
 obtain⟨ae,T,ab,ac,ad⟩:=ni a2n;refine a5N M s x 96 ho base 98 ae _ 2 24 underlying96 T ab ac ad rfl Od E n F _ hs e oa m c (K.flatMap B8) hx (by rw[hm];clear h e hs;simp[B8,us,ut]) (a9C (λ_=>rfl) aa) (a9D _) Om Oo B λD cap w' h1 h2 h3=>h D cap w' (by rw[ug];exact h1) h2 h3
structure Qj where
 pa:Option Addr
 pk:Nat
 ca:Option Addr
 ck:Nat
 ha:Option Addr
 hk:Nat
structure Jb(w:World)(jb lim wb:Nat)(L:List Cl)(p:Addr)(cap:Nat)(q:Nat->Qs)(C:ByteArray)(m:Me)(r:Qj):Prop where
 rw_:Rw w lim wb L p cap q
 blk:A4 w jb #[.pointer (some ⟨wb,0,none⟩), .string C, .string m.n, .slice r.pa m.p.length r.pk, .int .i64 m.r.k, .string m.r.n, .int .i64 m.s, .int .i64 m.l, .slice r.ca m.c.length r.ck, .slice r.ha m.h.length r.hk] 171
 prm:C0 w lim 2 B8 r.pa m.p
 c:C0 w lim 4 M0 r.ca m.c
 hds:C0 w lim 4 O3 r.ha m.h
 s:m.s<=65535
 l:m.l<=65535
 codeN:m.c.length<=65535
 hdN:m.h.length<=255
 prmN:m.p.length<=255
 ins:∀i∈m.c,R7 i
section
variable{w w':World}{jb lim wb:Nat}{L:List Cl}{p:Addr}{cap:Nat}{q:Nat->Qs}{C:ByteArray}{m:Me}{r:Qj}
theorem Jb.keep(h:Jb w jb lim wb L p cap q C m r)(e:w.grownBy w' N):Jb w' jb lim wb L p cap q C m r:=
 ⟨h.rw_.keep e,h.blk.keep e Os,h.prm.keep e,h.c.keep e,h.hds.keep e,h.s,h.l,h.codeN,h.hdN,h.prmN,h.ins⟩
theorem Jb.cs(h:Jb w jb lim wb L p cap q C m r):w.cell? (A jb 0 N)=O (U (O (A wb 0 N)))/\w.cell? (A jb 1 N)=O (Z C)/\w.cell? (A jb 3 N)=O (V r.pa m.p.length r.pk)/\w.cell? (A jb 4 N)=O (J I m.r.k)/\w.cell? (A jb 5 N)=O (Z m.r.n)/\
 w.cell? (A jb 6 N)=O (J I m.s)/\w.cell? (A jb 7 N)=O (J I m.l)/\w.cell? (A jb 8 N)=O (V r.ca m.c.length r.ck)/\w.cell? (A jb 9 N)=O (V r.ha m.h.length r.hk):=
 ⟨h.blk.cell 0 _ rfl,h.blk.cell 1 _ rfl,h.blk.cell 3 _ rfl,h.blk.cell 4 _ rfl,h.blk.cell 5 _ rfl,h.blk.cell 6 _ rfl,h.blk.cell 7 _ rfl,h.blk.cell 8 _ rfl,h.blk.cell 9 _ rfl⟩
end
theorem a7W(L:List Cl)(m:Me)(i:In)(e:i.o≠19)(g:i.o≠20):D7 L m i=(x8 i.o).length:=by
 obtain⟨D,a,cls,B⟩:=i;dsimp only at e g⊢;unfold D7 E5 x8;by_cases hop:D<32
 ·rcases a9N hop with rfl|rfl|rfl|rfl|rfl|rfl|rfl|rfl|rfl|rfl|rfl|rfl|rfl|rfl|rfl|rfl|rfl|rfl|rfl|rfl|rfl|rfl|rfl|rfl|rfl|rfl|rfl|rfl|rfl|rfl|rfl|rfl
  all_goals first|rfl|exact absurd rfl e|exact absurd rfl g
 ·dsimp only;repeat rw[if_neg Oo]
  rfl
theorem b0x(L:List Cl)(i:In)(e:i.o≠19):I5 L i=(a0K i.o).length:=by
 unfold I5 C7 a0K;rw[if_neg e];repeat' split
 all_goals first|rfl|(exfalso;omega)
theorem a6H(w:lb)(jb lim wb:Nat)(L:List Cl)(p:la)(cap:Nat)(q:Nat->Qs)(C:ByteArray)(m:Me)(r:Qj)(h:Hid (Jb w jb lim wb L p cap q C m r))(i:In):
 lp prog 184 #[U (O (A jb 0 N)),inV i] w λe w'=>e= Y (.tuple #[J I (D7 L m i), J I (I5 L i)])/\w.grownBy w' N:=by
 have HK:=h;obtain⟨j0,-,-,j4,-⟩:=h.o.cs;have D:Hid (w.grownBy (w.alloc (H #[J I i.o, J I i.a, Z i.c, Z i.m] 120)) N):=A2 _ _ _;by_cases h1:i.o=19
 ·have HT:Hid (D7 L m i=1+(X4 L i.c i.m).p.length):=by
   unfold Hid D7 E5;rw[h1,a4x];simp;omega
  have HP:Hid (I5 L i=if(X4 L i.c i.m).r.k=0 then 0 else 1):=by
   unfold Hid I5 C7;rw[h1,a4x];simp[Z2];split<;>rfl
  have HS:=A1 (λW hW=>a7e W lim wb L p cap q (h.o.keep hW).rw_ i.c i.m);obtain⟨M,hM⟩:=Oe (X4 L i.c i.m)
  obtain⟨t,ht⟩:=Oe (D7 L m i)
  obtain⟨u,hu⟩:=Oe (I5 L i)
  rw[<-hM]at HS HT HP;rw[<-ht]at HT⊢;rw[<-hu]at HP⊢;clear ht hu;obtain⟨op,a,cls,aa⟩:=i;dsimp only at h1 D HS;have d1:((op:Int)==19)=true:=by subst h1;rfl
  unfold inV;dsimp only;have hb:=A4.new w #[J I op, J I a, Z cls, Z aa] 120;have aj:M.p.length<=65536:=by rw[hM];exact h.o.rw_.calledN _ _
  clear h hM h1 HK j4;go_enter func184,ntmps184;go_upto_region 2 with fail
  generalize w.alloc (H #[J I op, J I a, Z cls, Z aa] 120)=W1 at D hb⊢;replace j0:=D.o.cell j0 Os
  have b2:=hb.c2;have b3:=hb.c3;clear hb;refine a5B (λa' W=>∃pa pk g,(∃F:Nat->ld,a'={tmps:= #[U (O (A jb 0 N)),F 1,F 2,F 3, J I 0, J I 0, V pa M.p.length pk, U (O (A g 0 N)),F 8,F 9,F 10,F 11,F 12,F 13,F 14,F 15,F 16,F 17,F 18,F 19,F 20,F 21,F 22,F 23,F 24,undef,undef,undef,undef,undef,undef,undef,undef,undef,undef,undef,undef,undef,undef,undef,undef,undef,undef,undef,undef,undef,undef,undef,undef,undef,undef,undef],defers:=[]})/\A4 W g #[J I M.r.k, Z M.r.n] 98/\w.grownBy W N) ?_ ?_
  ·have K:Hid (∀w',W1.grownBy w' N->w'.cell? (A jb 0 N)=O (U (O (A wb 0 N)))/\w'.cell? (A w.heap.size 2 N)=O (Z cls)/\w'.cell? (A w.heap.size 3 N)=O (Z aa)):=λw' hw=>⟨hw.cell j0 Os,hw.cell b2 Os,hw.cell b3 Os⟩
   refine T6 K (C9 _ _) (λB=> ?_);clear j0 b2 b3;refine A3 0 ?_;refine A3 1 ?_;refine A3 2 ?_;refine A3 3 ?_;refine A3 4 ?_;refine A3 5 ?_;refine A3 6 ?_;refine A3 7 ?_;refine wpAnyH_ready (rs:=[8,13]) Ok0 Os ?_;refine AllReadyH.cons rfl (λK' E=> ?_) (AllReadyH.cons rfl (λK' E=> ?_) AllReadyH.nil)
   ·go_simp
    go_wp2_with (go_at_call 188;refine(HS.o _ (A0 D.o (A7 _ N))).mono ?_;rintro e w5 ⟨pa,pk,rfl,-,ad⟩;dsimp only[M7])
    have ag:=A0 (A7 W1 N) ad;refine E.o _ _ (K.o _ ag) (λB=> ?_);clear E;refine A3 9 ?_;refine A3 10 ?_;refine A3 11 ?_;refine A3 12 ?_;refine F3 13 λK' E=> ?_
    go_simp
    have T:=A4.new w5 #[J I 0, Z ⟨#[]⟩] 98;have ab:=A0 ag (A2 w5 (H #[J I 0, Z ⟨#[]⟩] 98) N);have ae:=ag.size;refine E.o _ _ (K.o _ ab) (λB=> ?_);clear E;try simp only[lg,lz]
    generalize w5.alloc (H #[J I 0, Z ⟨#[]⟩] 98)=W7 at T ab B⊢;generalize w5.heap.size=g at T ae⊢;obtain⟨r0,r1,z0,z1⟩:=O7 T;refine A3 14 ?_;refine F3 15 λK' E=> ?_
    go_simp
    have ac:=C6 ab (A0 (A6 W7 (A g 0 N) (J I M.r.k)) (A6 _ (A g 1 N) (Z M.r.n))) (λk e=>by cases e;exact .inl ae);have af:=(T.set 0 (J I M.r.k)).set 1 (Z M.r.n);refine E.o _ _ (K.o _ ac) (λB=> ?_);clear E;refine A3 16 ?_;refine nd Ok0 ?_ _;exact⟨pa,pk,g,a0M rfl,af,A0 D.o ac⟩
   ·go_simp
    refine E.o _ _ (K.o _ (A0 (A2 W1 (H #[J I 0, Z ⟨#[]⟩] 98) N) (A7 _ N))) (λB=> ?_);clear E;try simp only[lg,lz]
    refine F3 8 λK' E=> ?_
    go_simp
    go_wp2_with (go_at_call 188;refine(HS.o _ (A0 D.o (A0 (A2 W1 (H #[J I 0, Z ⟨#[]⟩] 98) N) (A7 _ N)))).mono ?_;rintro e W7 ⟨pa,pk,rfl,-,ad⟩;dsimp only[M7])
    have T:A4 W7 W1.heap.size #[J I 0, Z ⟨#[]⟩] 98:=A4.keep (A4.new W1.drew #[J I 0, Z ⟨#[]⟩] 98) ad Os;have ab:=A0 (A0 (A2 W1 (H #[J I 0, Z ⟨#[]⟩] 98) N) (A7 _ N)) ad;have ae:=lv W1.heap.size;refine E.o _ _ (K.o _ ab) (λB=> ?_);clear E;obtain⟨r0,r1,z0,z1⟩:=O7 T;refine A3 9 ?_;refine A3 10 ?_;refine A3 11 ?_;refine A3 12 ?_;refine A3 14 ?_;refine F3 15 λK' E=> ?_
    go_simp
    have ac:=C6 ab (A0 (A6 W7 (A W1.heap.size 0 N) (J I M.r.k)) (A6 _ (A W1.heap.size 1 N) (Z M.r.n))) (λk e=>by cases e;exact .inl ae);have af:=(T.set 0 (J I M.r.k)).set 1 (Z M.r.n);refine E.o _ _ (K.o _ ac) (λB=> ?_);clear E;refine A3 16 ?_;refine nd Ok0 ?_ _;exact⟨pa,pk,W1.heap.size,a0M rfl,af,A0 D.o ac⟩
  rintro a' W ⟨pa,pk,g,⟨t',rfl⟩,hb,hg⟩;obtain⟨k0,-,-,-⟩:=O7 hb;have hw:IntKind.i64.wrap (1+(M.p.length:Int))=((1+M.p.length:Nat):Int):=by rw[IntWalk.i64_in _ Oo];omega
  have ah:=A1 hg;obtain⟨n,hn⟩:=Oe M.p.length
  rw[<-hn]at hw aj⊢;have HN:=A1 hn;clear hb hg D hn;by_cases h0:M.r.k=0
  ·rw[h0]at k0;go_wp2_with fail
   all_goals exact ll (v:= .tuple #[J I ((1+n:Nat):Int), J I 0]) (by simp[lm,results184,go_sem]) rfl ⟨by rw[HT.o,HP.o,if_pos h0,<-HN.o];rfl,ah.o⟩
  ·have ak:((M.r.k:Int)==0)=false:=beq_eq_false_iff_ne.2 Oo;go_wp2_with fail
   all_goals exact ll (v:= .tuple #[J I ((1+n:Nat):Int), J I 1]) (by simp[lm,results184,go_sem]) rfl ⟨by rw[HT.o,HP.o,if_neg h0,<-HN.o];rfl,ah.o⟩
 ·by_cases h2:i.o=20
  ·have HT:Hid (D7 L m i=if m.r.k=0 then 0 else 1):=by
    unfold Hid D7 E5 Z2;rw[h2];simp;split<;>rfl
   have HP:Hid (I5 L i=0):=by unfold Hid I5 C7;rw[h2];rfl
   obtain⟨op,a,cls,aa⟩:=i;dsimp only at h1 h2 D;have d1:((op:Int)==19)=false:=beq_eq_false_iff_ne.2 Oo;have d2:((op:Int)==20)=true:=by subst h2;rfl
   rw[HT.o,HP.o];unfold inV;dsimp only;obtain⟨k,ai⟩:=Oe m.r.k
   rw[<-ai]at j4⊢;replace j4:=D.o.cell j4 Os
   clear HT HP h HK ai h1 h2;by_cases h3:k=0
   ·subst h3;rw[if_pos rfl];go_enter func184,ntmps184;go_wp2_with fail
    all_goals exact ll (v:= .tuple #[J I 0, J I 0]) (by simp[lm,results184,go_sem]) rfl ⟨rfl,D.o⟩
   ·rw[if_neg h3];have al:((k:Int)==0)=false:=beq_eq_false_iff_ne.2 Oo;go_enter func184,ntmps184;go_wp2_with fail
    all_goals exact ll (v:= .tuple #[J I 1, J I 0]) (by simp[lm,results184,go_sem]) rfl ⟨rfl,D.o⟩
  ·have HT:=A1 ((a7W L m i h1 h2).symm);have HP:=A1 ((b0x L i h1).symm);obtain⟨t,ht⟩:=Oe (D7 L m i)
   obtain⟨u,hu⟩:=Oe (I5 L i)
   rw[<-ht,<-hu];rw[<-ht]at HT;rw[<-hu]at HP;obtain⟨op,a,cls,aa⟩:=i;unfold inV;dsimp only at h1 h2 HT HP D⊢;have d1:((op:Int)==19)=false:=beq_eq_false_iff_ne.2 Oo;have d2:((op:Int)==20)=false:=beq_eq_false_iff_ne.2 Oo;have hb:=A4.new w #[J I op, J I a, Z cls, Z aa] 120;clear ht hu h HK h1 h2 j0 j4;go_enter func184,ntmps184;go_upto_region 10 with fail
   generalize w.alloc (H #[J I op, J I a, Z cls, Z aa] 120)=W1 at D hb⊢;have b0:=hb.c0;clear hb;refine ng (S:=λw'=>w'.cell? (A w.heap.size 0 N)=O (J I op)) Ok0 b0 (λB=> ?_);clear b0;refine A3 0 ?_;refine A3 1 ?_;refine A3 4 ?_;refine A3 5 ?_;refine F3 2 λK' E=> ?_
   go_simp
   go_wp2_with (go_at_call 189;refine(b1g _ _).mono ?_;rintro e w' ⟨rfl,rfl⟩)
   refine E.o _ _ B (λB=> ?_);clear E;refine A3 3 ?_;refine F3 6 λK' E=> ?_
   go_simp
   go_wp2_with (go_at_call 263;refine(b1N _ _).mono ?_;rintro e w' ⟨rfl,rfl⟩)
   refine E.o _ _ B (λB=> ?_);clear E;refine A3 7 ?_;refine A3 8 ?_;refine A3 9 ?_;refine nd Ok0 ?_ _;go_wp2_with fail
   exact ll (v:= .tuple #[J I t, J I u]) (by simp[lm,results184,go_sem,HT.o,HP.o]) rfl ⟨rfl,A0 D.o (A7 _ N)⟩
theorem a1P{w w':lb}{base e sz n:Nat}{v:ld}{xs:List ld}(h:w.ownsRow base e sz v n xs)(B:w.grownBy w' N):w'.ownsRow base e sz v n xs:=h.kept B (by
 cases v.ownBlock with
 |none=>exact .inl rfl
 |some g=>exact .inr Os)
def jl(L:List Cl)(s t:Ty)(k:Nat):List Ty:=s::t::A8::(L.take k).map λc=>C5 c.n
theorem c1Y(L:List Cl)(s t:Ty):jl L s t 0=[s,t,A8]:=by simp[jl]
variable {L:List Cl}{s t:Ty}{k:Nat}
theorem c1Z(hk:k<L.length):jl L s t (k+1)=jl L s t k++ [C5 (cl L k).n]:=by
 unfold jl;rw[uh hk,List.map_append];simp[cl,hk]
theorem c3a(L:List Cl)(s t:Ty):jl L s t L.length=a0b L s t:=by simp[jl,a0b]
theorem c2Z(L:List Cl)(s t:Ty)(hk:k<=L.length):(jl L s t k).length=3+k:=by simp[jl,hk];omega
theorem b3c(h:C1 L)(g:s.k<=5)(B:t.k<=5):∀x∈a0b L s t,x.k<=5:=by
 intro x e;simp only[a0b,nh,lr]at e;rcases e with rfl|rfl|rfl|⟨c,-,rfl⟩
 ·exact g
 ·exact B
 ·simp[A8]
 ·simp[C5]
def a0z(L:List Cl)(s t:Ty)(k:Nat):Ty:=((a0b L s t).take k).foldl (a1d L s t) A8
theorem b2r(hk:k<(a0b L s t).length):a0z L s t (k+1)=a1d L s t (a0z L s t k) (a0b L s t)[k]:=by
 unfold a0z;rw[uh hk,List.foldl_append];rfl
theorem c1j(L:List Cl)(s t:Ty):a0z L s t (a0b L s t).length=a5D L s t:=by unfold a0z a5D;rw[uv (lv _)]
theorem best_zero(L:List Cl)(s t:Ty):a0z L s t 0=A8:=rfl
theorem b3Q(h:C1 L)(e:s.k<=5)(g:t.k<=5):∀k,k<=(a0b L s t).length->(a0z L s t k).k<=5
 |0,_=>by simp[best_zero,A8]
 |k+1,hk=>by
  rw[b2r Oo];unfold a1d;split
  ·exact b3c h e g _ (ui _)
  ·exact b3Q h e g k Oo
theorem b1O(w:lb)(lim wb:Nat)(L:List Cl)(p:la)(cap:Nat)(q:Nat->Qs)(h:Hid (Rw w lim wb L p cap q))(s t:Ty)(hs:s.k<=5)(ht:t.k<=5):
 lp prog 201 #[U (O (A wb 0 N)),M7 s,M7 t] w λe w'=>e= Y (M7 (a5D L s t))/\w.grownBy w' N:=by
 have hL:=h.o.few.1;have b2:=h.o.wo.wb_lt;have bw:=h.o.le;obtain⟨B,n1⟩:=s;obtain⟨D,n2⟩:=t;dsimp only at hs ht;unfold M7;dsimp only;obtain⟨nl,an⟩:=Oe L.length
 rw[<-an]at hL;have aw:=A1 an;have bm:w.cell? (A wb 0 N)=O (V (O p) nl cap):=by rw[an];exact h.o.wo.c0
 clear an;have ar:Hid (A4 (((w.alloc (H #[J I B, Z n1] 98)).alloc (H #[J I D, Z n2] 98)).alloc (H #[J I 0, Z ⟨#[]⟩] 98)) w.heap.size #[J I B, Z n1] 98):=((A4.new w #[J I B, Z n1] 98).keep (row:=N) (A2 _ _ _) Os).keep (row:=N) (A2 _ _ _) Os
 have au:Hid (A4 (((w.alloc (H #[J I B, Z n1] 98)).alloc (H #[J I D, Z n2] 98)).alloc (H #[J I 0, Z ⟨#[]⟩] 98)) (w.heap.size+1) #[J I D, Z n2] 98):=by
  have:=(A4.new (w.alloc (H #[J I B, Z n1] 98)) #[J I D, Z n2] 98).keep (row:=N) (A2 _ (H #[J I 0, Z ⟨#[]⟩] 98) _) Os;exact a2f
 have av:Hid (A4 (((w.alloc (H #[J I B, Z n1] 98)).alloc (H #[J I D, Z n2] 98)).alloc (H #[J I 0, Z ⟨#[]⟩] 98)) (w.heap.size+1+1) #[J I 0, Z ⟨#[]⟩] 98):=by
  have:=A4.new ((w.alloc (H #[J I B, Z n1] 98)).alloc (H #[J I D, Z n2] 98)) #[J I 0, Z ⟨#[]⟩] 98;rw[ly,ly]at this;exact this
 have ah:Hid (w.grownBy (((w.alloc (H #[J I B, Z n1] 98)).alloc (H #[J I D, Z n2] 98)).alloc (H #[J I 0, Z ⟨#[]⟩] 98)) N):=A0 (A0 (A2 _ _ _) (A2 _ _ _)) (A2 _ _ _);go_enter func201,ntmps201;go_upto_region 1 with fail
 generalize ((w.alloc (H #[J I B, Z n1] 98)).alloc (H #[J I D, Z n2] 98)).alloc (H #[J I 0, Z ⟨#[]⟩] 98)=w3 at ar au av ah⊢;obtain⟨a0,a1,-,-⟩:=O7 ar.o;obtain⟨b0,b1,-,-⟩:=O7 au.o
 have HO:Hid ((w3.alloc (H #[J I B, Z n1, J I D, Z n2, J I 0, Z ⟨#[]⟩] 98)).ownsRow w3.heap.size 98 2 (V (O (A w3.heap.size 0 N)) 3 3) 3 ((jl L ⟨B,n1⟩ ⟨D,n2⟩ 0).flatMap B8)):=by
  rw[c1Y];exact a1g w3 98 2 3 w3.heap.size _ rfl (lv _) Om
 have bu:=av.o.lt;go_upto_region 2 with fail
 have ay:=A2 w3 (H #[J I B, Z n1, J I D, Z n2, J I 0, Z ⟨#[]⟩] 98) N;generalize w3.alloc (H #[J I B, Z n1, J I D, Z n2, J I 0, Z ⟨#[]⟩] 98)=w4 at HO ay⊢;have ap:=A1 ay;clear a0 a1 b0 b1 ay;go_wp2_with fail
 go_loopw [7,8] (λo f wr=>∃k:Nat,k<=nl/\f= J I k/\Hid (wr.ownsRow w3.heap.size 98 2 o (jl L ⟨B,n1⟩ ⟨D,n2⟩ k).length ((jl L ⟨B,n1⟩ ⟨D,n2⟩ k).flatMap B8))/\Hid (w3.grownBy wr N)) (λ_ f _=>nl-(intOf f).toNat)
 case atStart=>exact⟨0,by omega,rfl,HO,ap⟩
 case round=>
  obtain⟨k,hk,rfl,M,hg⟩:=hrel;obtain⟨oa,ok,rfl⟩:=F7 M.o;have c0:=hg.o.cell (ah.o.cell bm Os) Os;have ag:=c2Z L ⟨B,n1⟩ ⟨D,n2⟩ (k:=k) (by rw[<-aw.o];exact hk);by_cases hlt:k<nl
  ·have bf:k<L.length:=by rw[<-aw.o];exact hlt
   have f0:=hg.o.cell (ah.o.cell (h.o.wo.row k bf 0 (Z (cl L k).n) rfl) Os) Os;rw[Nat.add_zero]at f0;have HJ:Hid (jl L ⟨B,n1⟩ ⟨D,n2⟩ (k+1)=jl L ⟨B,n1⟩ ⟨D,n2⟩ k++ [C5 (cl L k).n]):=c1Z bf;obtain⟨X,hX⟩:=Oe ((cl L k).n)
   rw[<-hX]at f0 HJ;obtain⟨bt,bo,bq,br,bs⟩:=ni a2n;have bz:=hg.o.size;obtain⟨ln,a4⟩:=Oe ((jl L ⟨B,n1⟩ ⟨D,n2⟩ k).length)
   have bi:=A1 a4;rw[<-a4]at M ag⊢;have bv:ln<=67:=by omega
   clear hX a4 ag
   go_wp2_with (first
    |(go_at_call 131;refine(a2N _ _).mono ?_;rintro e w5 ⟨rfl,az⟩;have bx:=az.size)
    |(at_builtin;go_loud (refine wpList_append_own _ rfl _ _ 96 rfl w3.heap.size 98 bt _ 2 24 underlying96 bo bq br bs rfl Od _ ln ((jl L ⟨B,n1⟩ ⟨D,n2⟩ k).flatMap B8) rfl (uq.alloc (a1P M.o az) _) (A w5.heap.size 0 N) 1 1 [J I 2, Z X] rfl rfl (O8 w5 _ _) (by simp[Value.oneCell']) (a0S rfl Oo) Oo Oi ?_
                          intro v' w6 aq a2 _;have bg:=A1 aq;have bn:=A0 (A2 w5 (H [J I 2, Z X].toArray 98) _) a2;clear aq)))
   go_roundw
   case rel=>exact⟨k+1,by omega,by go_num,by
    unfold Hid;rw[HJ.o,no,<-bi.o,ug];exact bg.o,C6 (A0 hg.o az) bn (λg e=> .inl (K7 M.o e).1)⟩
   case measure=>simp[intOf];omega
  ·obtain rfl:nl=k:=by omega
   have ad:Hid (jl L ⟨B,n1⟩ ⟨D,n2⟩ nl=a0b L ⟨B,n1⟩ ⟨D,n2⟩):=by unfold Hid;rw[aw.o,c3a]
   have bb:Hid (C0 wr wr.heap.size 2 B8 oa (a0b L ⟨B,n1⟩ ⟨D,n2⟩)):=by
    have:=M.o;rw[ad.o]at this;exact V7 (λ_=>rfl) this
   have HN:Hid ((a0b L ⟨B,n1⟩ ⟨D,n2⟩).length=3+nl):=by
    unfold Hid;rw[<-ad.o,ag]
   rw[ag];have ac:Hid (w3.grownBy wr N):=hg;have al:=A2 wr (H #[J I 0, Z ⟨#[]⟩] 98) N;have ax:=A4.new wr #[J I 0, Z ⟨#[]⟩] 98;have bp:=hg.size;clear M hg ad ag HO ap;go_wp2_with fail
   generalize wr.alloc (H #[J I 0, Z ⟨#[]⟩] 98)=w5 at al ax⊢;have ae:=A1 al;have a':Hid (A4 w5 wr.heap.size #[J I (a0z L ⟨B,n1⟩ ⟨D,n2⟩ 0).k, Z (a0z L ⟨B,n1⟩ ⟨D,n2⟩ 0).n] 98):=ax;have ba:=A1 (A0 (A0 ah.o ac.o) al)
   have af:Hid (∀W,w5.grownBy W (O wr.heap.size)->Wo W lim wb L p cap q/\A4 W w.heap.size #[J I B, Z n1] 98/\A4 W (w.heap.size+1) #[J I D, Z n2] 98/\C0 W wr.heap.size 2 B8 oa (a0b L ⟨B,n1⟩ ⟨D,n2⟩)):=λW T=>
    ⟨h.o.wo.keep (C6 ba.o T (λk e=>by cases e;exact .inl (by have:=ac.o.size;omega))),
     (ar.o.keep (A0 ac.o ae.o) Os).keep T (by intro e;have:=nb.inj e;omega),
     (au.o.keep (A0 ac.o ae.o) Os).keep T (by intro e;have:=nb.inj e;omega),
     C0.far (bb.o.keep ae.o) T (lv _)⟩
   have a6:=A1 (λW (T:w5.grownBy W (O wr.heap.size))=>(av.o.keep (A0 ac.o ae.o) Os).keep T (by intro e;have:=nb.inj e;omega));clear al ax c0;generalize wr=wa at bb ac bp ae a' af a6⊢;go_loopw [10] (λi W=>∃j:Nat,j<=3+nl/\i= J I j/\Hid (A4 W wa.heap.size #[J I (a0z L ⟨B,n1⟩ ⟨D,n2⟩ j).k, Z (a0z L ⟨B,n1⟩ ⟨D,n2⟩ j).n] 98)/\Hid (w5.grownBy W (O wa.heap.size))) (λi _=>3+nl-(intOf i).toNat)
   case atStart=>exact⟨0,by omega,rfl,a',C9 _ _⟩
   case round=>
    obtain⟨j,hj,rfl,aa,am⟩:=hrel;obtain⟨a5,hA,hB,hR⟩:=af.o wr am.o;by_cases hlt2:j<3+nl
    ·have a3:j<(a0b L ⟨B,n1⟩ ⟨D,n2⟩).length:=by rw[HN.o];exact hlt2
     obtain⟨pp,rfl,-,he⟩:=hR j a3;have ab:=A1 (b2r a3);have ao:=b3c h.o.wld hs ht _ (ui a3);have bd:(a0z L ⟨B,n1⟩ ⟨D,n2⟩ j).k<=5:=b3Q h.o.wld hs ht j Oo;obtain⟨x,hx⟩:=Oe ((a0b L ⟨B,n1⟩ ⟨D,n2⟩)[j])
     obtain⟨y,hy⟩:=Oe (a0z L ⟨B,n1⟩ ⟨D,n2⟩ j)
     rw[<-hx]at he ao ab;rw[<-hy]at aa bd ab;have F:wr.cell? (pp.add (j*2))=O (J I x.k):=he 0 _ rfl;have K:wr.cell? (A ((pp.add (j*2)).block) ((pp.add (j*2)).off+1) N)=O (Z x.n):=by rw[C2 pp (j*2) 0];exact he 1 _ rfl
     have HC:Hid (∀W,wr.grownBy W N->Wo W lim wb L p cap q/\W.cell? (A w.heap.size 0 N)=O (J I B)/\W.cell? (A w.heap.size 1 N)=O (Z n1)/\W.cell? (A (w.heap.size+1) 0 N)=O (J I D)/\W.cell? (A (w.heap.size+1) 1 N)=O (Z n2)/\W.cell? (pp.add (j*2))=O (J I x.k)/\W.cell? (A ((pp.add (j*2)).block) ((pp.add (j*2)).off+1) N)=O (Z x.n)/\W.cell? (A wa.heap.size 0 N)=O (J I y.k)/\W.cell? (A wa.heap.size 1 N)=O (Z y.n)):=λW T=>
      ⟨a5.keep T,T.cell (hA.cell 0 _ rfl) Os,T.cell (hA.cell 1 _ rfl) Os,T.cell (hB.cell 0 _ rfl) Os,T.cell (hB.cell 1 _ rfl) Os,T.cell F Os,T.cell K Os,T.cell (aa.o.cell 0 _ rfl) Os,T.cell (aa.o.cell 1 _ rfl) Os⟩
     have HU:Hid (∀W,wr.grownBy W N->∀s t:Ty,s.k<=5->t.k<=5->lp prog 187 #[U (O (A wb 0 N)), .agg #[J I s.k, Z s.n], .agg #[J I t.k, Z t.n]] W λe w'=>e= Y (G (C4 L s t))/\W.grownBy w' N):=λW T s t h1 h2=>a6M W lim wb L p cap q (HC.o W T).1 s t h1 h2
     clear hx hy he hA hB hR a5 F K;go_wp2_with fail
     obtain⟨-,a0,a1,b0,b1,F,K,y0,y1⟩:=HC.o wr (C9 wr N);refine ng (S:=λW'=>W'.cell? (A w.heap.size 0 N)=O (J I B)/\W'.cell? (A w.heap.size 1 N)=O (Z n1)/\W'.cell? (pp.add (j*2))=O (J I x.k)/\W'.cell? (A ((pp.add (j*2)).block) ((pp.add (j*2)).off+1) N)=O (Z x.n)) Ok0 ⟨a0,a1,F,K⟩ (λE=> ?_);clear a0 a1 b0 b1 F K y0 y1;refine A3 0 ?_;refine A3 1 ?_;refine A3 2 ?_;refine A3 3 ?_;refine A3 4 ?_;refine A3 5 ?_;refine F3 6 λK' hK=> ?_
     go_simp
     go_wp2_with (go_at_call 187;refine(HU.o _ (A0 (C9 wr N) (A7 wr N)) ⟨B,n1⟩ x hs ao).mono ?_;rintro e w6 ⟨rfl,hg⟩)
     have ai:=A1 (A0 (A0 (C9 wr N) (A7 wr N)) hg);obtain⟨-,a0,a1,b0,b1,F,K,y0,y1⟩:=HC.o w6 ai.o;refine hK.o _ _ ⟨a0,a1,F,K⟩ (λE=> ?_);clear hK hg a0 a1 b0 b1 F K y0 y1;refine A3 7 ?_;refine nd Ok0 ?_ _;clear E;go_wp2_with fail
     obtain⟨-,a0,a1,b0,b1,F,K,y0,y1⟩:=HC.o w6 ai.o;refine ng (S:=λW'=>W'.cell? (A (w.heap.size+1) 0 N)=O (J I D)/\W'.cell? (A (w.heap.size+1) 1 N)=O (Z n2)/\W'.cell? (pp.add (j*2))=O (J I x.k)/\W'.cell? (A ((pp.add (j*2)).block) ((pp.add (j*2)).off+1) N)=O (Z x.n)) Ok0 ⟨b0,b1,F,K⟩ (λE=> ?_);clear a0 a1 b0 b1 F K y0 y1;refine A3 0 ?_;refine A3 1 ?_;refine A3 2 ?_;refine A3 3 ?_;refine A3 4 ?_;refine A3 5 ?_;refine F3 6 λK' hK=> ?_
     go_simp
     go_wp2_with (go_at_call 187;refine(HU.o _ (A0 ai.o (A7 w6 N)) ⟨D,n2⟩ x ht ao).mono ?_;rintro e w7 ⟨rfl,hg⟩)
     have aj:=A1 (A0 (A0 ai.o (A7 w6 N)) hg);obtain⟨-,a0,a1,b0,b1,F,K,y0,y1⟩:=HC.o w7 aj.o;refine hK.o _ _ ⟨b0,b1,F,K⟩ (λE=> ?_);clear hK hg a0 a1 b0 b1 F K y0 y1;refine A3 7 ?_;refine nd Ok0 ?_ _;clear E;go_wp2_with fail
     obtain⟨-,a0,a1,b0,b1,F,K,y0,y1⟩:=HC.o w7 aj.o;refine ng (S:=λW'=>W'.cell? (pp.add (j*2))=O (J I x.k)/\W'.cell? (A ((pp.add (j*2)).block) ((pp.add (j*2)).off+1) N)=O (Z x.n)/\W'.cell? (A wa.heap.size 0 N)=O (J I y.k)/\W'.cell? (A wa.heap.size 1 N)=O (Z y.n)) Ok0 ⟨F,K,y0,y1⟩ (λE=> ?_);clear a0 a1 b0 b1 F K y0 y1;refine A3 0 ?_;refine A3 1 ?_;refine A3 2 ?_;refine A3 3 ?_;refine A3 4 ?_;refine A3 5 ?_;refine F3 6 λK' hK=> ?_
     go_simp
     go_wp2_with (go_at_call 187;refine(HU.o _ (A0 aj.o (A7 w7 N)) x y ao bd).mono ?_;rintro e w8 ⟨rfl,hg⟩)
     have ak:=A1 (A0 (A0 aj.o (A7 w7 N)) hg);obtain⟨-,a0,a1,b0,b1,F,K,y0,y1⟩:=HC.o w8 ak.o;refine hK.o _ _ ⟨F,K,y0,y1⟩ (λE=> ?_);clear hK hg a0 a1 b0 b1 F K y0 y1;refine A3 7 ?_;refine nd Ok0 ?_ _;clear E;obtain⟨-,-,-,-,-,F,K,-,-⟩:=HC.o w8 ak.o;have HB8:=A1 (aa.o.keep ak.o Os);have HGW:=A1 (C6 am.o ak.o (λk e=>by cases e));by_cases h1:C4 L ⟨B,n1⟩ x=true
     ·by_cases h2:C4 L ⟨D,n2⟩ x=true
      ·by_cases h3:C4 L x y=true
       ·have HE:Hid (a0z L ⟨B,n1⟩ ⟨D,n2⟩ (j+1)=x):=by
         unfold Hid;rw[ab.o];unfold a1d;rw[h1,h2,h3];rfl
        obtain⟨y0,y1,z0,z1⟩:=O7 HB8.o;go_wp2_with fail
        go_roundw
        case rel=>exact⟨j+1,by omega,by go_num,by unfold Hid;rw[HE.o];exact(HB8.o.set 0 (J I x.k)).set 1 (Z x.n),A0 HGW.o (A0 (A6 w8 (A wa.heap.size 0 N) (J I x.k)) (A6 _ (A wa.heap.size 1 N) (Z x.n)))⟩
        case measure=>simp[intOf];omega
       ·have bl:C4 L x y=false:=by simpa using h3
        have HE:Hid (a0z L ⟨B,n1⟩ ⟨D,n2⟩ (j+1)=y):=by
         unfold Hid;rw[ab.o];unfold a1d;rw[bl,uw];rfl
        clear h3;exact a6y
      ·have bk:C4 L ⟨D,n2⟩ x=false:=by simpa using h2
       have HE:Hid (a0z L ⟨B,n1⟩ ⟨D,n2⟩ (j+1)=y):=by
        unfold Hid;rw[ab.o];unfold a1d;rw[bk,uw,uj];rfl
       clear h2;exact a6y
     ·have bj:C4 L ⟨B,n1⟩ x=false:=by simpa using h1
      have HE:Hid (a0z L ⟨B,n1⟩ ⟨D,n2⟩ (j+1)=y):=by
       unfold Hid;rw[ab.o];unfold a1d;rw[bj,uj,uj];rfl
      clear h1;exact a6y
    ·obtain rfl:j=3+nl:=by omega
     have HE:Hid (a0z L ⟨B,n1⟩ ⟨D,n2⟩ (3+nl)=a5D L ⟨B,n1⟩ ⟨D,n2⟩):=by unfold Hid;rw[<-HN.o,c1j]
     rw[HE.o]at aa;obtain⟨y,hy⟩:=Oe (a5D L ⟨B,n1⟩ ⟨D,n2⟩)
     rw[<-hy]at aa;have HY:=A1 hy;have a7:=A1 (a6.o _ am.o);have bh:=A1 (C6 ba.o am.o (λk e=>by cases e;exact .inl Oo));obtain⟨y0,y1,-,-⟩:=O7 aa.o;obtain⟨r0,r1,z0,z1⟩:=O7 a7.o;clear hy a5 hA hB hR;go_wp2_with fail
     all_goals
      obtain⟨be,bc⟩:=a6n bh.o Oo a7.o (y.k:Int) y.n;clear r0 r1 z0 z1 y0 y1;generalize (wr.setCell (A (w.heap.size+1+1) 0 N) (J I (y.k:Int))).setCell (A (w.heap.size+1+1) 1 N) (Z y.n)=W6 at bc be⊢;obtain⟨q0,q1,-,-⟩:=O7 bc;exact ll (v:= .agg #[J I y.k, Z y.n]) (by simp[lm,results201,go_sem,q0,q1]) rfl ⟨by rw[HY.o],be⟩
end Kx
namespace Cf
variable {l:List Cl}{a s t:List Ty}
theorem a6E{b c d:List Ty}(e:K5 l a b)(D:K5 l c d):K5 l (a++c) (b++d):=by
 refine⟨by simp[e.1,D.1],λj E=> ?_⟩;by_cases h:j<a.length
 ·have g:(a++c).getD j A8=a.getD j A8:=by rw[li,li,ux h]
  have B:(b++d).getD j A8=b.getD j A8:=by rw[li,li,ux (by rw[<-e.1];exact h)]
  rw[g,B];exact e.2 j h
 ·have g:(a++c).getD j A8=c.getD (j-a.length) A8:=by rw[li,li,uy Oo]
  have B:(b++d).getD j A8=d.getD (j-a.length) A8:=by rw[li,li,uy (by rw[<-e.1];omega),e.1]
  rw[g,B];exact D.2 _ (by simp at E;omega)
theorem a6O{b:List Ty}(h:K5 l a b)(n:Nat):K5 l (a.take n) (b.take n):=by
 refine⟨by simp[h.1],λj B=> ?_⟩;simp only[nk]at B;have e:(a.take n).getD j A8=a.getD j A8:=by rw[li,li,uz,if_pos Oo]
 have g:(b.take n).getD j A8=b.getD j A8:=by rw[li,li,uz,if_pos Oo]
 rw[e,g];exact h.2 j Oo
theorem a8F(a:List Ty)(n j:Nat):(a.drop n).getD j A8=a.getD (n+j) A8:=by
 rw[li,li,List.getElem?_drop]
theorem b7y{b:List Ty}(h:K5 l a b)(n:Nat):K5 l (a.drop n) (b.drop n):=by
 refine⟨by simp[h.1],λj e=> ?_⟩;simp only[uf]at e;rw[a8F,a8F];exact h.2 _ Oo
variable {x y:Ty}
theorem a6a(h:C4 l x y=true):K5 l [x] [y]:=by
 refine⟨rfl,λj e=> ?_⟩;obtain rfl:j=0:=by simpa using e
 exact h
theorem b2g{u v:Ty}(h:C4 l x u=true)(e:C4 l y v=true):K5 l [x,y] [u,v]:=a6E (a6a h) (a6a e)
theorem a3M{b:List Ty}(h:K5 l a b)(j:Nat):C4 l (a.getD j A8) (b.getD j A8)=true:=by
 by_cases hj:j<a.length
 ·exact h.2 j hj
 ·have:b.getD j A8=A8:=by simp[Nat.le_of_not_lt (by rw[<-h.1];exact hj:¬j<b.length)]
  rw[this];exact a1M _ _
theorem a8W(a:List Ty)(n j:Nat)(x:Ty):(a.set n x).getD j A8=if n=j/\j<a.length then x else a.getD j A8:=by
 rw[li,li,lx];by_cases h:n=j
 ·subst h;by_cases h2:n<a.length
  ·simp[h2]
  ·simp[h2]
 ·simp[h]
theorem b8M{b:List Ty}(h:K5 l a b)(n:Nat)(e:C4 l x y=true):K5 l (a.set n x) (b.set n y):=by
 refine⟨by simp[h.1],λj g=> ?_⟩;rw[a8W,a8W,<-h.1];split
 ·exact e
 ·exact a3M h j
theorem a7Z{b:List Ty}(g:G4 l a)(B:G4 l b):G4 l (a++b):=λt e=>by
 rcases nf.1 e with e|e
 ·exact g t e
 ·exact B t e
theorem b8A(h:G4 l a)(n:Nat)(g:D9 l x):G4 l (a.set n x):=λt e=>by
 rcases List.mem_or_eq_of_mem_set e with e|e
 ·exact h t e
 ·rw[e];exact g
theorem b2K(l:List Cl)(i:In)(s:List Ty)(low:Nat):(U8 l i s low).length=I5 l i:=by
 unfold U8 I5;split
 ·rename_i e;simp[C7,e]
 split
 ·rename_i e;simp[C7,e]
 split
 ·rename_i e;simp[C7,e]
 split
 ·rename_i e;simp[C7,e]
 ·rfl
variable {i:In}
theorem b8u{low:Nat}(e:G4 l s)(g:G4 l t)(h:K5 l s t):K5 l (U8 l i s low) (U8 l i t low):=by
 unfold U8;split
 ·exact a6a (a3M h _)
 split
 ·exact b2g (a3M h _) (a3M h _)
 split
 ·exact b2g (a3M h _) (a3M h _)
 split
 ·exact a6a (b1t (b6 e _) (b6 g _) (a3M h _))
 ·exact a4u _ _
variable {m:Me}
theorem C1.putR_ok(h:C1 l)(D:Z1 l)(B:K8 l m i=true){low:Nat}(g:G4 l s):G4 l (U8 l i s low):=by
 unfold U8;split
 ·intro t e;rw[nv.1 e];exact b6 g _
 split
 ·intro t e;simp only[nh,ub,or_false,or_self]at e;rw[e];exact b6 g _
 split
 ·intro t e;simp only[nh,ub,or_false]at e;rcases e with e|e<;>rw[e]<;>exact b6 g _
 split
 ·intro t e;rw[nv.1 e];exact b3k (b6 g _)
 ·exact(h.puts_ok D B).1
theorem c0N(e:G4 l s)(g:G4 l t)(h:K5 l s t):K5 l (X9 l m i s) (X9 l m i t):=by
 unfold X9;rw[<-h.1];refine a6E ?_ (a6E (b7y (a6O h _) _) (b8u e g h));split
 ·exact b8M (a6O h _) _ (a3M h _)
 ·exact a6O h _
variable {d:Hd}
theorem c0K(h:K5 l s t):K5 l (hdF m d s) (hdF m d t):=
 a6E (a6O h _) (a6a (a1v _ _))
variable {at_ h:Nat}{q:Nat×(List Ty->List Ty)}
theorem c0b(e:q∈R4 l m at_)(g:G4 l s)(B:G4 l t)(h:K5 l s t):K5 l (q.2 s) (q.2 t):=by
 unfold R4 at e;rcases nf.1 e with e|e
 ·obtain⟨d,_,rfl⟩:=lr.1 e;exact c0K h
 ·obtain⟨x,_,rfl⟩:=lr.1 e;exact c0N g B h
theorem a6j(e:s.length=m.l+h):(hdF m d s).length=m.l+1:=by
 unfold hdF;simp;omega
theorem a6k(B:s.length=m.l+h)(e:N5 l m at_ h=true):(X9 l m (A5 m at_) s).length=m.l+a0m l m at_ h:=by
 unfold N5 at e;simp only[Bool.and_eq_true,decide_eq_true_eq]at e;unfold X9 a0m
 have g:(if(A5 m at_).o=3 then(s.take m.l).set (A5 m at_).a.toNat (s.getD (s.length-D7 l m (A5 m at_)) A8)else s.take m.l).length=m.l:=by
  split<;>simp<;>omega
 simp only[no,g,b2K,uf,nk];omega
theorem b2a(hh:l4 l m)(D:G2 l m at_ h)(g:s.length=m.l+h)(e:q∈R4 l m at_):
 ∃k,G2 l m q.1 k/\(q.2 s).length=m.l+k:=by
 have B:=a8y hh D;unfold R4 at e;rcases nf.1 e with e|e
 ·obtain⟨d,hd,rfl⟩:=lr.1 e;obtain⟨E,F⟩:=va.1 hd;exact⟨1,B.1 d E F,a6j g⟩
 ·obtain⟨x,K,rfl⟩:=lr.1 e;exact⟨_,B.2 x K,a6k g (hh.room _ _ D)⟩
theorem C1.out_ok(h:C1 l)(M:Z1 l)(E:N2 l m)(ha:at_<m.c.length)(B:G4 l s)(g:q∈R4 l m at_):G4 l (q.2 s):=by
 have K:=E.need at_ ha;unfold R4 at g;rcases nf.1 g with g|g
 ·obtain⟨d,hd,rfl⟩:=lr.1 g;have D:=(E.hds d (va.1 hd).1).2.2.2
  have F:D9 l (C5 d.c):=by
   have:∃i,C8 l d.c=O i:=by
    cases hf:C8 l d.c with
    |none=>rw[h.below_none hf]at D;cases D
    |some i=>exact⟨i,rfl⟩
   exact⟨by simp[C5],by simpa[C5]using this⟩
  exact a7Z (λt e=>B t (nw e)) (λt e=>by rw[nv.1 e];exact F)
 ·obtain⟨x,T,rfl⟩:=lr.1 g;unfold X9;refine a7Z ?_ (a7Z (λt e=>B t (nw (List.mem_of_mem_drop e))) (h.putR_ok M K B));split
  ·exact b8A (λt e=>B t (nw e)) _ (b6 B _)
  ·exact λt e=>B t (nw e)
theorem C1.entry_ok(h:C1 l){c:ByteArray}(g:E9 l c=true)(B:∀p∈m.p,D9 l p):G4 l (T5 c m):=by
 intro t e;unfold T5 at e;rcases nh.1 e with rfl|e
 ·exact⟨by simp[C5],by simpa[C5]using Option.isSome_iff_exists.1 g⟩
 ·rcases nf.1 e with e|e
  ·exact B t e
  ·rw[(List.mem_replicate.1 e).2];exact a3K
theorem a5d{c:ByteArray}(e:N2 l m):(T5 c m).length=m.l:=by
 have:=e.l;unfold T5;simp;omega
end Cf
namespace Cf
def rk(l:List Cl)(t:Ty):Nat:=if t.k=5 then l.length+1 else P9 l t
variable {l:List Cl}
theorem C1.rk_le(h:C1 l)(t:Ty):rk l t<=l.length+1:=by
 unfold rk;split
 ·omega
 ·have:=h.rank_le t;omega
theorem C1.rk_lt(h:C1 l){a b:Ty}(ha:D9 l a)(hb:D9 l b)(M:C4 l a b=true)(g:a≠b):rk l b<rk l a:=by
 have h9:9<=l.length:=by obtain⟨fs,rfl⟩:=h.base;simp[show B6.length=9 from rfl]
 rw[y8 ha hb]at M;rcases M with e|rfl|⟨B,D⟩|⟨B,D,T⟩|⟨B,rfl⟩
 ·exact absurd e g
 ·have h0:rk l A8=0:=by simp[rk,P9,A8]
  have E:a.k≠0:=λe=>g (a1N ha e Oo Oo)
  rw[h0];unfold rk;split
  ·omega
  ·unfold P9;rw[if_neg E];split
   ·rename_i D;have:=ha.2;rw[if_pos (.inl D)]at this;obtain⟨i,hi⟩:=this;rw[h.up_some hi];simp
   ·split<;>omega
 ·have F:rk l a=l.length+1:=by unfold rk;rw[if_pos B]
  have K:rk l b=P9 l b:=by unfold rk;rw[if_neg Oo]
  have:=h.rank_le b;omega
 ·have F:rk l a=(up l a.n).length:=by unfold rk P9;rw[if_neg Oo,if_neg Oo,if_pos B]
  have K:rk l b=(up l b.n).length:=by unfold rk P9;rw[if_neg Oo,if_neg Oo,if_pos D]
  rcases h.below_len T with e|e
  ·exact absurd (by cases a;cases b;simp_all) g
  ·omega
 ·have F:rk l a=2:=by unfold rk P9;rw[if_neg Oo,if_neg Oo,if_neg Oo,if_pos B]
  have K:rk l (C5 D5)=1:=by simp[rk,P9,C5,h.up_object]
  omega
def a2t(l:List Cl)(s:List Ty):Nat:=(s.map (rk l)).sum
theorem C1.rkSum_le(h:C1 l)(s:List Ty):a2t l s<=s.length*(l.length+1):=by
 unfold a2t;induction s with
 |nil=>simp
 |cons t s ih=>
  have:=h.rk_le t;simp only[nx,ny,np,un];omega
theorem C1.rkSum_lt(h:C1 l):∀{a b:List Ty},G4 l a->G4 l b->K5 l a b->a2t l b<=a2t l a/\(a≠b->a2t l b<a2t l a)
 | [],[],_,_,_=>⟨lv _,λe=>absurd rfl e⟩
 | [],_::_,_,_,h1=>by have:=h1.1;simp at this
 |_::_,[],_,_,h1=>by have:=h1.1;simp at this
 |x::a,y::b,ha,hb,h1=>by
  have K:=ha x Os;have M:=hb y Os;have F:C4 l x y=true:=h1.2 0 Os;obtain⟨i1,i2⟩:=h.rkSum_lt (a:=a) (b:=b) (λt D=>ha t (by simp[D])) (λt D=>hb t (by simp[D])) ⟨by have:=h1.1;simpa using this,λj T=>by have:=h1.2 (j+1) (by simpa using T);simpa using this⟩
  have E:rk l y<=rk l x/\(x≠y->rk l y<rk l x):=by
   by_cases e:x=y
   ·rw[e];exact⟨lv _,λg=>absurd rfl g⟩
   ·exact⟨ud (h.rk_lt K M F e),λ_=>h.rk_lt K M F e⟩
  unfold a2t at*
  simp only[nx,ny];refine⟨by omega,λB=> ?_⟩;by_cases e:x=y
  ·have:a≠b:=λg=>B (by rw[e,g])
   have:=i2 this;omega
  ·have:=E.2 e;omega
def I7(l:List Cl)(old new:List Ty):List Ty:=List.zipWith (X7 l) old new
variable {a:List Ty}
theorem a3J(l:List Cl){b:List Ty}(h:a.length=b.length):(I7 l a b).length=a.length:=by unfold I7;simp;omega
variable {j:Nat}
theorem a5S(l:List Cl){b:List Ty}(h:a.length=b.length)(g:j<a.length):(I7 l a b).getD j A8=X7 l (a.getD j A8) (b.getD j A8):=by
 unfold I7;have e:j<b.length:=by omega
 have B:a.getD j A8=a[j]:=by simp[g]
 have D:b.getD j A8=b[j]:=by simp[e]
 rw[B,D,li,List.getElem?_zipWith,nm g,nm e];rfl
theorem b3e(e:j<a.length):a.getD j A8∈a:=by
 have:a.getD j A8=a[j]:=by simp[e]
 rw[this];exact ui e
theorem b2T{t:Ty}(h:t∈a):∃j,j<a.length/\a.getD j A8=t:=by
 obtain⟨j,e,rfl⟩:=List.getElem_of_mem h;exact⟨j,e,by simp[e]⟩
theorem C1.merge_ok(h:C1 l){b:List Ty}(ha:G4 l a)(K:G4 l b)(g:a.length=b.length):
 G4 l (I7 l a b)/\K5 l a (I7 l a b)/\K5 l b (I7 l a b)/\∀S,G4 l S->K5 l a S->K5 l b S->K5 l (I7 l a b) S:=by
 have M:=a3J l g;have e:=λj=>h.joinP_lub (b6 ha j) (b6 K j)
 refine⟨λt T=> ?_,⟨M.symm,λj B=> ?_⟩,⟨by omega,λj B=> ?_⟩,λS F D E=>⟨by have:=D.1;omega,λj B=> ?_⟩⟩
 ·obtain⟨j,B,rfl⟩:=b2T T;rw[a5S l g Oo];exact(e j).ok
 ·rw[a5S l g B];exact(e j).left
 ·rw[a5S l g Oo];exact(e j).right
 ·rw[a5S l g Oo];exact(e j).least _ (b6 F j) (D.2 j Oo) (E.2 j Oo)
abbrev V2:=List (Option (List Ty))
structure a0q(l:List Cl)(c:ByteArray)(m:Me)(out:V2):Prop where
 len:out.length=m.c.length
 snd:∀(a:Nat) (s:List Ty),out[a]? =some (some s)->(∃h,G2 l m a h/\s.length=m.l+h)/\G4 l s/\∀S,Sol l c m S->K5 l s (S a)
 entry:∃s,out[0]? =some (some s)/\K5 l (T5 c m) s
def sat(l:List Cl)(out:V2)(q:Nat×(List Ty->List Ty))(s:List Ty):Prop:=∃t,out[q.1]? =O (O t)/\K5 l (q.2 s) t
def a4G(l:List Cl)(o o':V2):Prop:=∀(a:Nat) (s:List Ty),o[a]? =O (O s)->∃t,o'[a]? =O (O t)/\K5 l s t
def a0C(l:List Cl)(o:Option (List Ty))(v:List Ty):List Ty:=match o with|none=>v|some s=>I7 l s v
def a1W(l:List Cl)(o:Option (List Ty))(v:List Ty):Bool:=match o with|none=>true|some s=> !Z4 (I7 l s v) s
structure a9T(l:List Cl)(c:ByteArray)(m:Me)(p:Nat)(v:List Ty):Prop where
 lt:p<m.c.length
 shape:∃h,G2 l m p h/\v.length=m.l+h
 ok:G4 l v
 least:∀S,Sol l c m S->K5 l v (S p)
variable {m:Me}{out:V2}
theorem C1.into_ok(h:C1 l){c:ByteArray}(hh:l4 l m)(E:G4 l (T5 c m))(B:a0q l c m out){p:Nat}{v:List Ty}(hv:a9T l c m p v){o:Option (List Ty)}(K:out[p]? =O o):
 a0q l c m (out.set p (O (a0C l o v)))/\a4G l out (out.set p (O (a0C l o v)))/\K5 l v (a0C l o v)/\(a1W l o v=false->out.set p (O (a0C l o v))=out):=by
 have hp:p<out.length:=by rw[B.len];exact hv.lt
 have g:∀a,(out.set p (O (a0C l o v)))[a]? =if p=a then O (O (a0C l o v))else out[a]? :=λa=>by
  rw[lx];by_cases e:p=a
  ·rw[if_pos e,if_pos e,if_pos hp]
  ·rw[if_neg e,if_neg e]
 have ad:G4 l (a0C l o v)/\K5 l v (a0C l o v)/\(∃k,G2 l m p k/\(a0C l o v).length=m.l+k)/\(∀S,Sol l c m S->K5 l (a0C l o v) (S p))/\(∀s,o=O s->K5 l s (a0C l o v)):=by
  cases o with
  |none=>exact⟨hv.ok,a4u _ _,hv.shape,hv.least,λs e=>by cases e⟩
  |some s=>
   obtain⟨⟨k,hk,ab⟩,ac,aa⟩:=B.snd p s K;obtain⟨k2,T,ae⟩:=hv.shape;obtain rfl:=hh.one p k k2 hk T;have he:s.length=v.length:=by omega
   obtain⟨m1,m2,m3,m4⟩:=h.merge_ok ac hv.ok he;exact⟨m1,m3,⟨k,hk,by show(I7 l s v).length=_;rw[a3J l he];exact ab⟩,λS M=>m4 _ (M.ok p k hk) (aa S M) (hv.least S M),λs' e=>by cases e;exact m2⟩
 obtain⟨k1,k2,k3,k4,k5⟩:=ad;refine⟨⟨by simpa using B.len,λa s ha=> ?_,?_⟩,λa s ha=> ?_,k2,λhn=> ?_⟩
 ·rw[g]at ha;split at ha
  ·rename_i e;subst e;injection ha with ha;injection ha with ha;subst ha
   exact⟨k3,k1,k4⟩
  ·exact B.snd a s ha
 ·obtain⟨s,D,F⟩:=B.entry;by_cases e:p=0
  ·subst e;rw[K]at D;injection D with D
   refine⟨_,by rw[g,if_pos rfl],h.leAll_trans E (B.snd 0 s (by rw[K,D])).2.1 k1 F (k5 s D)⟩
  ·exact⟨s,by rw[g,if_neg e];exact D,F⟩
 ·by_cases e:p=a
  ·subst e;rw[K]at ha;injection ha with ha
   exact⟨_,by rw[g,if_pos rfl],k5 s ha⟩
  ·exact⟨s,by rw[g,if_neg e];exact ha,a4u _ _⟩
 ·cases o with
  |none=>cases hn
  |some s=>
   simp only[a1W,Bool.not_eq_false']at hn;have:a0C l (O s) v=s:=(a4v _ _).1 hn;rw[this];refine List.ext_getElem? λa=> ?_
   rw[lx];by_cases e:p=a
   ·subst e;rw[if_pos rfl,if_pos hp];exact K.symm
   ·rw[if_neg e]
theorem b1M(h:C1 l){c:ByteArray}{o B:V2}(F:a0q l c m o)(K:a0q l c m B)(T:a4G l o B){q:Nat×(List Ty->List Ty)}{s:List Ty}(M:G4 l (q.2 s))(hs:sat l o q s):sat l B q s:=by
 obtain⟨t,D,g⟩:=hs;obtain⟨u,E,e⟩:=T _ _ D;exact⟨u,E,h.leAll_trans M (F.snd _ _ D).2.1 (K.snd _ _ E).2.1 g e⟩
def a7C(l:List Cl)(m:Me)(out:V2)(fresh:List Bool)(a:Nat):Prop:=∀s,out[a]? =O (O s)->fresh[a]? =O false->∀q∈R4 l m a,sat l out q s
theorem C1.typing_of(h:C1 l){c:ByteArray}(hc:N2 l m)(hi:∀i∈m.c,R7 i)(hh:l4 l m){fresh:List Bool}(hr:a0q l c m out)(hf:∀a,a<m.c.length->a7C l m out fresh a/\fresh[a]? =O false):
 a2O l c m (λa=>((out[a]?).getD N).getD [])/\∀a,a<m.c.length->(out[a]? =O N↔∀h,¬G2 l m a h):=by
 have E:∀a D,G2 l m a D->∃s,out[a]? =O (O s)/\s.length=m.l+D:=by
  intro a D g;refine a4T (S:=λa D=>G2 l m a D/\∃s,out[a]? =O (O s)/\s.length=m.l+D) ⟨⟨(a1c l m).1,?_⟩,?_⟩ g|>.2
  ·obtain⟨s,B,F⟩:=hr.entry;exact⟨s,B,by have:=F.1;rw[a5d hc]at this;omega⟩
  ·rintro a D ⟨g,s,B,M⟩ p K;have aa:=(a1c l m).2 a D g p K;refine⟨aa,?_⟩;obtain⟨f1,f2⟩:=hf a (l5 hc hi g).1
   have hq:∃q∈R4 l m a,q.1=p.1:=by
    unfold X6 at K;rcases nf.1 K with K|K
    ·split at K
     ·cases K
     ·obtain⟨d,hd,rfl⟩:=lr.1 K;exact⟨(d.t,hdF m d),List.mem_append_left _ (lr.2 ⟨d,hd,rfl⟩),rfl⟩
    ·split at K
     ·obtain⟨x,hx,rfl⟩:=lr.1 K;exact⟨(x,X9 l m (A5 m a)),List.mem_append_right _ (lr.2 ⟨x,hx,rfl⟩),rfl⟩
     ·cases K
   obtain⟨q,hq,e⟩:=hq;obtain⟨t,T,F⟩:=f1 s B f2 q hq;rw[e]at T;obtain⟨⟨k,hk,ac⟩,_,_⟩:=hr.snd _ _ T;exact⟨t,T,by rw[hh.one _ _ _ aa hk];exact ac⟩
 refine⟨⟨⟨λa D g=> ?_,λa D g=> ?_,?_,λa D g q hq=> ?_⟩,λS hS a D g=> ?_⟩,λa ha=>⟨λe D g=> ?_,λab=> ?_⟩⟩
 ·obtain⟨s,B,M⟩:=E a D g;simp only[B,nn];exact M
 ·obtain⟨s,B,M⟩:=E a D g;simp only[B,nn];exact(hr.snd a s B).2.1
 ·obtain⟨s,B,F⟩:=hr.entry;simp only[B,nn];exact F
 ·obtain⟨s,B,M⟩:=E a D g;obtain⟨f1,f2⟩:=hf a (l5 hc hi g).1;obtain⟨t,T,F⟩:=f1 s B f2 q hq;simp only[B,T,nn];exact F
 ·obtain⟨s,B,M⟩:=E a D g;simp only[B,nn];exact(hr.snd a s B).2.2 S hS
 ·obtain⟨s,B,_⟩:=E a D g;rw[e]at B;injection B with B;cases B
 ·cases ho:out[a]? with
  |none=>have:=List.getElem?_eq_none_iff.1 ho;rw[hr.len]at this;omega
  |some o=>
   cases o with
   |none=>rfl
   |some s=>
    obtain⟨⟨k,hk,_⟩,_⟩:=hr.snd a s ho;exact absurd hk (ab k)
end Cf
namespace Cf
variable {l:List Cl}{m:Me}{o out:V2}{a k:Nat}{s:List Ty}{q:Nat×(List Ty->List Ty)}
theorem C1.comes(h:C1 l)(E:Z1 l){c:ByteArray}(D:N2 l m)(hi:∀i∈m.c,R7 i)(hh:l4 l m)(hr:a0q l c m out)(hs:out[a]? =O (O s))(B:q∈R4 l m a):a9T l c m q.1 (q.2 s):=by
 obtain⟨⟨k,hk,T⟩,hok,M⟩:=hr.snd a s hs;have ha:=(l5 D hi hk).1;have g:=b2a hh hk T B;refine⟨(l5 D hi g.choose_spec.1).1,g,h.out_ok E D ha hok B,λS e=> ?_⟩;have F:=h.out_ok E D ha hok B;have K:=h.out_ok E D ha (e.ok a k hk) B;exact h.leAll_trans F K (e.ok _ _ g.choose_spec.1) (c0b B hok (e.ok a k hk) (M S e)) (e.flow a k hk q B)
def a9Z(l:List Cl)(m:Me):Nat:=(m.l+m.s)*(l.length+1)+1
def a7L(l:List Cl)(m:Me)(o:Option (List Ty)):Nat:=match o with|none=>a9Z l m|some s=>a2t l s
def a5F(l:List Cl)(m:Me)(out:V2):Nat:=(out.map (a7L l m)).sum
theorem b2C{α:Type}(f:α->Nat):∀(xs:List α) (p:Nat) (x y:α),xs[p]? =O x->((xs.set p y).map f).sum+f x=(xs.map f).sum+f y
 | [],p,x,y,h=>by simp at h
 |z::xs,0,x,y,h=>by
  have:z=x:=by simpa using h
  subst this;simp only[lh,nx,ny];omega
 |z::xs,p+1,x,y,h=>by
  have:=b2C f xs p x y (by simpa using h);simp only[lf,nx,ny];omega
theorem C1.into_pot(h:C1 l){c:ByteArray}(F:N2 l m)(hi:∀i∈m.c,R7 i)(hh:l4 l m)(K:a0q l c m out){p:Nat}{v:List Ty}(hv:a9T l c m p v){o:Option (List Ty)}(D:out[p]? =O o):
 a5F l m (out.set p (O (a0C l o v)))+(a1W l o v).toNat<=a5F l m out:=by
 have h0:=b2C (a7L l m) out p o (O (a0C l o v)) D;suffices a7L l m (O (a0C l o v))+(a1W l o v).toNat<=a7L l m o by unfold a5F;omega
 obtain⟨k,hk,hl⟩:=hv.shape;cases o with
 |none=>
  show a2t l v+1<=a9Z l m;have h1:=h.rkSum_le v;have h2:=(l5 F hi hk).2;have h3:v.length*(l.length+1)<=(m.l+m.s)*(l.length+1):=Nat.mul_le_mul_right _ Oo;unfold a9Z;omega
 |some s=>
  show a2t l (I7 l s v)+(!Z4 (I7 l s v) s).toNat<=a2t l s;obtain⟨⟨T,B,M⟩,g,-⟩:=K.snd p s D;obtain rfl:=hh.one p k T hk B;obtain⟨m1,m2,-,-⟩:=h.merge_ok g hv.ok Oo;obtain⟨r1,r2⟩:=h.rkSum_lt g m1 m2;cases e:Z4 (I7 l s v) s with
  |true=>simpa using r1
  |false=>
   have:=r2 (λE=>by rw[<-E,(a4v _ _).2 rfl]at e;cases e);simp only[Bool.not_false,vb];omega
def a2a(f:List Bool):Nat:=f.countP (λx=>x)
theorem b3o:∀(f:List Bool) (p:Nat) (b:Bool),a2a (f.set p (f.getD p false||b))<=a2a f+b.toNat
 | [],p,b=>by simp[a2a]
 |x::f,0,b=>by cases x<;>cases b<;>simp[a2a,nz]
 |x::f,p+1,b=>by
  have:=b3o f p b;unfold a2a at*
  simp only[lf,nz,List.getD_cons_succ];omega
theorem b3p:∀(f:List Bool) (p:Nat),f[p]? =O true->a2a (f.set p false)+1=a2a f
 | [],p,h=>by simp at h
 |x::f,0,h=>by
  have:x=true:=by simpa using h
  subst this;simp[a2a,nz]
 |x::f,p+1,h=>by
  have:=b3p f p (by simpa using h);unfold a2a at*
  simp only[lf,nz];omega
structure FlO(l:List Cl)(c:ByteArray)(m:Me)(o0:V2)(f0:List Bool)(s0:List Ty)(qs:List (Nat×(List Ty->List Ty)))(o:V2)(f:List Bool):Prop where
 snd:a0q l c m o
 up:a4G l o0 o
 fr:∀a:Nat,f[a]? =some false->f0[a]? =some false/\o[a]? =o0[a]?
 len:f.length=f0.length
 mu:2*a5F l m o+a2a f<=2*a5F l m o0+a2a f0
 dn:∀q∈qs,sat l o q s0
 re:(∀a:Nat,f0[a]? =some true->∃s,o0[a]? =some (some s))->∀a:Nat,f[a]? =some true->∃s,o[a]? =some (some s)
theorem b7d(l:List Cl)(o:V2):a4G l o o:=λ_ s h=>⟨s,h,a4u _ _⟩
theorem C1.rises_trans(h:C1 l){c:ByteArray}{x y z:V2}(M:a0q l c m x)(T:a0q l c m y)(hz:a0q l c m z)(F:a4G l x y)(K:a4G l y z):a4G l x z:=λa s e=>by
 obtain⟨t,g,D⟩:=F a s e;obtain⟨u,B,E⟩:=K a t g;exact⟨u,B,h.leAll_trans (M.snd _ _ e).2.1 (T.snd _ _ g).2.1 (hz.snd _ _ B).2.1 D E⟩
theorem FlO.start{c:ByteArray}(h:a0q l c m o)(f:List Bool)(s:List Ty):FlO l c m o f s [] o f:=⟨h,b7d l o,λ_ h=>⟨h,rfl⟩,rfl,lv _,λq e=>(by cases e),id⟩
theorem b4v{c:ByteArray}(e:N2 l m)(hi:∀i∈m.c,R7 i)(g:a0q l c m out)(B:out[a]? =O (O s)):a<m.c.length:=by
 obtain⟨⟨k,hk,-⟩,-⟩:=g.snd a s B;exact(l5 e hi hk).1
theorem FlO.into(h:C1 l)(hw:Z1 l){c:ByteArray}(hc:N2 l m)(hi:∀i∈m.c,R7 i)(hh:l4 l m)(ab:G4 l (T5 c m)){o0:V2}{f0 f:List Bool}{F:List Ty}(K:a0q l c m o0)(hs:o0[a]? =O (O F)){qs:List (Nat×(List Ty->List Ty))}(B:FlO l c m o0 f0 F qs o f)(ad:∀q∈qs,q∈R4 l m a)(hq:q∈R4 l m a){x:Option (List Ty)}(hx:o[q.1]? =O x):
 FlO l c m o0 f0 F (qs++ [q]) (o.set q.1 (O (a0C l x (q.2 F)))) (f.set q.1 (f.getD q.1 false||a1W l x (q.2 F))):=by
 have hv:=h.comes hw hc hi hh K hs hq;obtain⟨r1,r2,r3,r4⟩:=h.into_ok hh ab B.snd hv hx;have hp:=h.into_pot hc hi hh B.snd hv hx;have aa:=b3o f q.1 (a1W l x (q.2 F));have E:q.1<o.length:=by rw[B.snd.len];exact hv.lt
 have hk:=b4v hc hi K hs;have hok:∀M∈R4 l m a,G4 l (M.2 F):=λM g=>h.out_ok hw hc hk (K.snd a F hs).2.1 g
 refine⟨r1,h.rises_trans K B.snd r1 B.up r2,λb D=> ?_,by simp[B.len],?_,λM g=> ?_,λK b D=> ?_⟩
 ·rw[lx]at D⊢;by_cases e:q.1=b
  ·subst e;rw[if_pos rfl]at D;split at D
   ·rename_i hfl;injection D with D
    obtain⟨T,ac⟩:=Bool.or_eq_false_iff.1 D;have:=r4 ac
    have e3:f[q.1]? =O false:=by
     rw[nm hfl];rw[li,nm hfl]at T;exact congrArg O T
    refine⟨(B.fr _ e3).1,?_⟩;rw[<-(B.fr _ e3).2,if_pos rfl,if_pos E,hx];have e4:=congrArg (λz=>z[q.1]?) this;simp only[lx,↓reduceIte,if_pos E,hx]at e4;exact e4
   ·cases D
  ·rw[if_neg e]at D;rw[if_neg e];exact B.fr b D
 ·have:=B.mu;generalize a1W l x (q.2 F)=b at hp aa⊢;cases b<;>simp only[vb,Bool.toNat_false]at hp aa<;>omega
 ·rcases nf.1 g with g|g
  ·exact b1M h B.snd r1 r2 (hok M (ad M g)) (B.dn M g)
  ·rw[nv.1 g];exact⟨_,by rw[lx,if_pos rfl,if_pos E],r3⟩
 ·rw[lx]at D⊢;by_cases e:q.1=b
  ·subst e;exact⟨_,by rw[if_pos rfl,if_pos E]⟩
  ·rw[if_neg e]at D⊢;exact B.re K b D
theorem b6W(h:C1 l){c:ByteArray}(B:N2 l m)(g:G4 l (T5 c m)):a0q l c m ((ul m.c.length N).set 0 (O (T5 c m))):=by
 have D:=B.some_;refine⟨by simp,λa s ha=> ?_,T5 c m,by simp[D],a4u _ _⟩;rw[lx]at ha;split at ha
 ·rename_i e;subst e;split at ha
  ·injection ha with ha;injection ha with ha;subst ha
   exact⟨⟨0,(a1c l m).1,a5d B⟩,g,λS E=>E.entry⟩
  ·cases ha
 ·rw[List.getElem?_replicate]at ha;split at ha<;>cases ha
def a1Z(c:ByteArray)(m:Me)(k:Nat):List Ty:=C5 c::(m.p.take k++ul (m.l-1-k) A8)
theorem c0Z{c:ByteArray}(h:1+m.p.length<=m.l)(hk:k<=m.p.length):(a1Z c m k).length=m.l:=by
 unfold a1Z;simp only[np,no,nk,List.length_replicate];omega
theorem b9g{c:ByteArray}(h:1+m.p.length<=m.l):(ul m.l A8).set 0 (C5 c)=a1Z c m 0:=by
 unfold a1Z;rw[show m.l=m.l-1-0+1 by omega,vc];simp
theorem b9h{c:ByteArray}(h:1+m.p.length<=m.l)(hk:k<m.p.length):(a1Z c m k).set (k+1) m.p[k]=a1Z c m (k+1):=by
 unfold a1Z;have e:(m.p.take k).length=k:=by rw[nk];omega
 rw[lf,List.set_append_right _ _ Oo,e,Nat.sub_self,show m.l-1-k=m.l-1-(k+1)+1 by omega,vc,lh,uh hk,List.append_assoc];rfl
theorem c1a{c:ByteArray}:a1Z c m m.p.length=T5 c m:=by
 unfold a1Z T5;rw[uv (lv _)]
end Cf
theorem tkO{P:Program}{ops:Array Oper}{Q:Exit->Act->lb->Prop}{md:Region.Mode}{S:lb->Prop}(i:Nat){oi:Oper}{fuel:Nat}{listed:Array Bool}{a:Act}{w:lb}{G:Prop}(g:G)(K:S w:=by assumption)
 (e:ops[i]? =O oi:=by rfl) (B:Region.noSelect ops=true:=by kernel_rfl) (D:Region.free md ops listed i=true:=by kernel_rfl) (E:(Region.ready md ops listed).contains i=true:=by kernel_rfl)
 (F:∀(c:List nq) (a:Act) (w:lb),Q (Exit.panic c) (a.put oi.dst nc) w->Q (Exit.panic c) a w:=by exact λ_ _ _ h=>h)
 (hv:nr P ops S oi nc a:=by exact Or.inr ⟨by rfl,rfl⟩)
 (k:G->lq P md ops Q S fuel (listed.setIfInBounds i true) (a.put oi.dst nc) w:=by(intro k;(try simp only[lg,lz]);exact k)):lq P md ops Q S (fuel+1) listed a w:=
 ns e B D E F hv K (k g)
namespace Kx
theorem c2d:(prog.info? 136).map (λi=>(i.zero,i.size,i.bytes))=O (O (.agg #[Z ⟨#[]⟩, Z ⟨#[]⟩, J I 0, G false, V N 0 0, V N 0 0, V N 0 0, V N 0 0]),8,144):=by kernel_rfl
abbrev Rr:=Nat->Option la×Nat
def rS(R:Rr)(X:Nat->List Ty)(j:Nat):ld:= V (R j).1 (X j).length (R j).2
def fV(re:Nat->Bool)(R:Rr)(X:Nat->List Ty)(a i:Nat):ld:=
 if i<2 then Z ⟨#[]⟩else if i=2 then J I a else if i=3 then G (re a)else if i=4 then rS R X (2*a)else if i=5 then rS R X (2*a+1)else V N 0 0
variable {α:Type}
def G1(f:Nat->α)(j:Nat)(v:α):Nat->α:=λi=>if i=j then v else f i
theorem a1x(f:Nat->α)(j:Nat)(v:α):G1 f j v j=v:=if_pos rfl
variable {j k n sz:Nat}
theorem a1C(f:Nat->α){i:Nat}(v:α)(h:i≠j):G1 f j v i=f i:=if_neg h
theorem b3u(f:Nat->α)(j:Nat)(u v:α):G1 (G1 f j u) j v=G1 f j v:=funext λi=>by unfold G1;split<;>rfl
theorem a9A(f:Nat->α)(j:Nat):G1 f j (f j)=f:=funext λi=>by unfold G1;split<;>simp_all
def rB(R:Rr)(j:Nat):Option Nat:=(R j).1.map (·.block)
theorem a3X(R:Rr)(X:Nat->List Ty)(j:Nat):(rS R X j).ownBlock=rB R j:=by unfold rS rB;cases (R j).1<;>rfl
def E8(ob n:Nat)(R:Rr)(k:Nat):Prop:=k=ob\/∃j,j<2*n/\rB R j=O k
theorem E8.put{ob lo:Nat}{R:Rr}{v:Option la×Nat}(hv:∀g,v.1.map (·.block)=O g->lo<=g)(h:E8 ob n (G1 R j v) k):E8 ob n R k\/lo<=k:=by
 rcases h with e|⟨i,hi,e⟩
 ·exact .inl (.inl e)
 ·unfold rB G1 at e;split at e
  ·exact .inr (hv k e)
  ·exact .inl (.inr ⟨i,hi,e⟩)
variable {u v w w':World}
theorem b4e{base e:Nat}{p:Option la}{xs:List ld}(h:w.ownsRow base e sz (V p n k) n xs):∀g,p.map (·.block)=O g->base<=g:=λg e=>(h.lt g (by cases p<;>exact e)).1
structure Fm(W:World)(base ob n:Nat)(re:Nat->Bool)(R:Rr)(X:Nat->List Ty):Prop where
 blk:∃cs:Array Value,A4 W ob cs 136/\∀a i,a<n->i<8->cs[a*8+i]? =some (fV re R X a i)
 rows:∀j,j<2*n->W.ownsRow base 98 2 (rS R X j) (X j).length ((X j).flatMap B8)
 apart:∀i j,i<2*n->j<2*n->i≠j->rB R i=none\/rB R i≠rB R j
 low:base<=ob
structure Ch(S:Nat->Prop)(w w':World):Prop where
 os:w'.os=w.os
 tape:w'.tape=w.tape
 output:w'.output=w.output
 size:w.heap.size<=w'.heap.size
 blk:∀k,k<w.heap.size->¬S k->w'.heap[k]? =w.heap[k]?
theorem Ch.gb(h:Ch (λ_=>False) w w'):w.grownBy w' N:=⟨h.os,h.tape,h.output,h.size,λk hk _=>h.blk k hk (λe=>e)⟩
variable {S:Nat->Prop}
theorem Ch.of{r:Option Nat}(h:w.grownBy w' r)(B:∀k,r=O k->S k):Ch S w w':=⟨h.os,h.tape,h.output,h.size,λk hk g=>h.block k hk (λe=>g (B k e.symm))⟩
theorem Ch.refl(S:Nat->Prop)(w:lb):Ch S w w:=⟨rfl,rfl,rfl,lv _,λ_ _ _=>rfl⟩
theorem Ch.trans{T:Nat->Prop}(g:Ch S u v)(B:Ch T v w)(h:∀k,T k->S k\/u.heap.size<=k):Ch S u w:=
 ⟨B.os.trans g.os,B.tape.trans g.tape,B.output.trans g.output,lu g.size B.size,λk hk D=>by
  rw[B.blk k (ls hk g.size) (λe=>by rcases h k e with e|e;exact D e;omega)];exact g.blk k hk D⟩
theorem Ch.tn(h:Ch S u v)(g:v.grownBy w N):Ch S u w:=h.trans (Ch.of (S:=S) g (λk e=>by cases e)) (λk e=> .inl e)
variable {a:Addr}
theorem Ch.ts(h:Ch S u v)(ha:S a.block\/u.heap.size<=a.block)(x:ld):Ch S u (v.setCell a x):=h.trans (Ch.of (S:=λk=>k=a.block) (A6 v a x) (λk e=>by cases e;rfl)) (λk e=>by subst e;exact ha)
theorem Ch.cell(h:Ch S u v){x:ld}(e:u.cell? a=O x)(g:¬S a.block):v.cell? a=O x:=by
 rw[<-e];unfold vd;rw[h.blk _ (ve u _ e) g]
theorem Ch.low(g:u.grownBy v N)(B:Ch S v w)(h:∀k,S k->u.heap.size<=k):u.grownBy w N:=
 Ch.gb (Ch.trans (Ch.of (S:=λ_=>False) g (λk e=>by cases e)) B (λk e=> .inr (h k e)))
theorem Ch.b{g:Nat}{cs:Array ld}{t:nj}(h:Ch S w w')(B:A4 w g cs t)(D:¬S g):A4 w' g cs t:=by
 have e:=h.blk g B.lt D;unfold A4 at*
 rw[e];exact B
theorem Ch.rd{lim:Nat}{enc:α->List ld}{a:Option la}{xs:List α}(h:Ch S w w')(hl:lim<=w.heap.size)(T:C0 w lim sz enc a xs)(M:∀p,a=O p->¬S p.block):C0 w' lim sz enc a xs:=λj K=>by
 obtain⟨p,g,D,E⟩:=T j K;refine⟨p,g,D,λr u hu=> ?_⟩;have B:=E r u hu;have F:(p.add (j*sz+r)).block=p.block:=by unfold Addr.add;split<;>rfl
 have e:=ve w _ B;rw[<-B];unfold vd;rw[h.blk _ e (by rw[F];exact M p g)]
section
variable{W W':World}{base ob n:Nat}{re:Nat->Bool}{R:Rr}{X:Nat->List Ty}
theorem Fm.keep(h:Fm W base ob n re R X)(e:W.grownBy W' N):Fm W' base ob n re R X:=by
 obtain⟨cs,g,B⟩:=h.blk;exact⟨⟨cs,g.keep e Os,B⟩,λj D=>a1P (h.rows j D) e,h.apart,h.low⟩
variable {a i k:Nat}
theorem Fm.c(h:Fm W base ob n re R X)(ha:a<n)(hi:i<8):W.cell? (A ob (a*8+i) N)=O (fV re R X a i):=by
 obtain⟨cs,e,g⟩:=h.blk;exact e.cell _ _ (g a i ha hi)
theorem Fm.cs(h:Fm W base ob n re R X)(ha:a<n):W.cell? (A ob (a*8+3) N)=O (G (re a))/\W.cell? (A ob (a*8+4) N)=O (rS R X (2*a))/\W.cell? (A ob (a*8+5) N)=O (rS R X (2*a+1)):=⟨h.c ha Oo,h.c ha Oo,h.c ha Oo⟩
theorem Fm.z(h:Fm W base ob n re R X)(o:Nat):W.frozen? (A ob o N)=false:=by obtain⟨cs,e,-⟩:=h.blk;exact e.frozen o
theorem Fm.lt(h:Fm W base ob n re R X):ob<W.heap.size:=by obtain⟨cs,e,-⟩:=h.blk;exact e.lt
theorem Fm.ne(h:Fm W base ob n re R X){j:Nat}(g:j<2*n):rB R j≠O ob:=by
 obtain⟨cs,e,-⟩:=h.blk;rw[<-a3X R X];exact N4 (h.rows j g) e Od
theorem Fm.sLow(h:Fm W base ob n re R X)(hk:E8 ob n R k):base<=k/\k<W.heap.size:=by
 rcases hk with rfl|⟨j,g,e⟩
 ·exact⟨h.low,h.lt⟩
 ·exact(h.rows j g).lt k ((a3X R X j).trans e)
theorem a9M{cs:Array ld}{f:Nat->Nat->ld}{n:Nat}(h:∀b k,b<n->k<8->cs[b*8+k]? =O (f b k))(ha:a<n)(hi:i<8)(v:ld):∀b k,b<n->k<8->(cs.setIfInBounds (a*8+i) v)[b*8+k]? =O (if b=a/\k=i then v else f b k):=λb k B hk=>by
 rw[Array.getElem?_setIfInBounds];have g:=(Array.getElem?_eq_some_iff.1 (h a i ha hi)).1;by_cases e:b=a/\k=i
 ·obtain⟨rfl,rfl⟩:=e;rw[if_pos rfl,if_pos g,if_pos ⟨rfl,rfl⟩]
 ·rw[if_neg Oo,if_neg e];exact h b k B hk
theorem Fm.mark(h:Fm W base ob n re R X)(ha:a<n):Fm (W.setCell (A ob (a*8+3) N) (G true)) base ob n (G1 re a true) R X:=by
 obtain⟨cs,D,E⟩:=h.blk;refine⟨⟨_,D.set _ _,λb k F hk=> ?_⟩,λj g=>(h.rows j g).kept (A6 W (A ob (a*8+3) N) _) (.inr (by rw[a3X];exact h.ne g)),h.apart,h.low⟩;rw[a9M E ha Oo _ b k F hk];congr 1
 by_cases e:b=a/\k=3
 ·rw[if_pos e,e.1,e.2];simp[fV,G1]
 ·rw[if_neg e];unfold fV G1;by_cases e3:k=3
  ·rw[e3];simp[show b≠a from λB=>e ⟨B,e3⟩]
  ·simp[e3]
theorem Fm.put(h:Fm W base ob n re R X){x:Nat}(ha:a<n)(hx:x<2){K:lb}(hg:W.grownBy K N)(hb:base<=W.heap.size){p:Option la}{D:List Ty}(ho:K.ownsRow W.heap.size 98 2 (V p D.length k) D.length (D.flatMap B8)):
 Fm (K.setCell (A ob (a*8+(4+x)) N) (V p D.length k)) base ob n re (G1 R (2*a+x) (p,k)) (G1 X (2*a+x) D):=by
 have T:=h.keep hg;obtain⟨cs,h1,h2⟩:=T.blk;have hs:=A6 K (A ob (a*8+(4+x)) N) (V p D.length k);have M:∀j,rS (G1 R (2*a+x) (p,k)) (G1 X (2*a+x) D) j=if j=2*a+x then V p D.length k else rS R X j:=λj=>by unfold rS G1;split<;>rfl
 have B:=λg (e:p.map (·.block)=O g)=>(ho.lt g (by cases p<;>exact e)).1
 have eB:∀j,rB (G1 R (2*a+x) (p,k)) j=if j=2*a+x then p.map (·.block)else rB R j:=λj=>by unfold rB G1;split<;>rfl
 refine⟨⟨_,h1.set _ _,λb i aa hi=> ?_⟩,λj E=> ?_,λi j hi E F=> ?_,h.low⟩
 ·rw[a9M h2 ha Oo _ b i aa hi];congr 1
  unfold fV;rw[M,M];by_cases e:b=a/\i=4+x
  ·rw[if_pos e,e.1,e.2];obtain rfl|rfl:x=0\/x=1:=by omega
   ·simp
   ·simp
  ·rw[if_neg e];by_cases e4:i=4
   ·subst e4;simp only[vf,↓reduceIte,vg];rw[if_neg Oo]
   ·by_cases e5:i=5
    ·subst e5;simp only[vf,↓reduceIte,vg];rw[if_neg Oo]
    ·simp[e4,e5]
 ·rw[M];unfold G1;split
  ·exact U6 (ho.kept hs (.inr λe=>by have h1:W.heap.size<=ob:=(ho.lt _ e).1;have:=h.lt;omega)) hb
  ·exact(T.rows j E).kept hs (.inr (by rw[a3X];exact T.ne E))
 ·rw[eB,eB];by_cases ei:i=2*a+x
  ·rw[if_pos ei,if_neg (λe=>F (ei.trans e.symm))];cases hp:p.map (·.block)with
   |none=>exact .inl rfl
   |some g=>exact .inr λe=>by have:=((h.rows j E).lt g ((a3X R X j).trans e.symm)).2;have:=B g hp;omega
  ·by_cases ej:j=2*a+x
   ·rw[if_neg ei,if_pos ej];cases hp:rB R i with
    |none=>exact .inl rfl
    |some g=>exact .inr λe=>by have:=((h.rows i hi).lt g ((a3X R X i).trans hp)).2;have:=B g e.symm;omega
   ·rw[if_neg ei,if_neg ej];exact h.apart i j hi E F
end
theorem a7u(xs:List Ty)(j:Nat)(t:Ty):((xs.flatMap B8).set (j*2) (J I t.k)).set (j*2+1) (Z t.n)=(xs.set j t).flatMap B8:=by
 induction xs generalizing j with
 |nil=>simp
 |cons y xs ih=>
  cases j with
  |zero=>simp[B8]
  |succ j=>
   have:=ih j;simp only[uc,lf,B8,List.cons_append,List.nil_append];rw[show(j+1)*2=(j*2)+1+1 by omega];simp only[lf];rw[this]
theorem a3S{w:lb}{base e sz n c g:Nat}{xs:List ld}(h:w.ownsRow base e sz (V (O (A g 0 N)) n c) n xs)(i:Nat)(v:ld):(w.setCell (A g i N) v).ownsRow base e sz (V (O (A g 0 N)) n c) n (xs.set i v):=by
 refine⟨by rw[vh];exact h.1,?_⟩;rcases h.2 with⟨F,-⟩|⟨g',cap,D,hv,hb,hg,K,M,T,h5⟩
 ·cases F
 ·injection hv with B _ E
  injection B with B
  injection B with B _ _
  subst B;exact .inr ⟨g,cap,D.setIfInBounds i v,by rw[E],hb,heap_setCell_same w g i _ _ _ hg,K,M,by rw[Array.size_setIfInBounds];exact T,by rw[Array.toList_setIfInBounds,List.take_set,h5]⟩
theorem a7w{W:lb}{base n k i:Nat}{pa:Option la}{xs:List Ty}(T:W.ownsRow base 98 2 (V pa n k) n (xs.flatMap B8))(hn:n=xs.length)(hi:i<n):∃g,pa=O (A g 0 N)/\base<=g/\g<W.heap.size/\W.cell? (A g (i*2) N)=O (J I (xs.getD i A8).k)/\W.cell? (A g (i*2+1) N)=O (Z (xs.getD i A8).n)/\∀o,W.frozen? (A g o N)=false:=by
 subst hn;have F:=V7 (enc:=B8) (λ_=>rfl) T;obtain⟨p,rfl,-,M⟩:=F i hi;have e:xs.getD i A8=xs[i]:=by rw[li,nm hi];rfl
 rcases T.2 with⟨B,-⟩|⟨g,cap,E,B,hb,hg,-⟩
 ·cases B
 ·injection B with B e2 e3
  injection B with B
  subst B e3;have D:A4 W g E 98:=hg;have K:∀o,((A g 0 N):la).add o=(A g o N):=λo=>by unfold Addr.add;split<;>simp_all
  exact⟨g,rfl,hb,D.lt,by rw[e,<-K];exact M 0 _ rfl,by rw[e,<-K];exact M 1 _ rfl,λo=>D.frozen o⟩
section
variable{W W':World}{base ob n:Nat}{re:Nat->Bool}{R:Rr}{X:Nat->List Ty}
theorem Fm.set(h:Fm W base ob n re R X){j g c:Nat}(M:j<2*n)(F:R j=(O (A g 0 N),c))(i:Nat)(t:Ty):
 Fm ((W.setCell (A g (i*2) N) (J I t.k)).setCell (A g (i*2+1) N) (Z t.n)) base ob n re R (G1 X j ((X j).set i t)):=by
 have T:((X j).set i t).length=(X j).length:=vh ..;have B:∀b,rS R (G1 X j ((X j).set i t)) b=rS R X b:=λb=>by unfold rS G1;split;subst_vars;rw[T];rfl
 have hw:rB R j=O g:=by unfold rB;rw[F];rfl
 have K:W.grownBy ((W.setCell (A g (i*2) N) (J I t.k)).setCell (A g (i*2+1) N) (Z t.n)) (O g):=A0 (A6 W (A g (i*2) N) _) (A6 _ (A g (i*2+1) N) _);obtain⟨cs,h1,h2⟩:=h.blk;refine⟨⟨cs,h1.keep K (λe=>h.ne M (hw.trans e.symm)),λa i ha hi=> ?_⟩,λb E=> ?_,h.apart,h.low⟩
 ·rw[h2 a i ha hi];unfold fV;rw[B,B]
 ·rw[B];by_cases e:b=j
  ·subst e;rw[a1x,T,<-a7u];have:=h.rows b E;unfold rS at this⊢;rw[F]at this⊢;exact a3S (a3S this _ _) _ _
  ·rw[a1C _ _ e];refine(h.rows b E).kept K ?_;rw[a3X];rcases h.apart b j E M e with D|D
   ·exact .inl D
   ·exact .inr (by rw[<-hw];exact D)
theorem Fm.row(h:Fm W base ob n re R X){j i:Nat}(D:j<2*n)(hi:i<(X j).length):∃g c,R j=(O (A g 0 N),c)/\base<=g/\g<W.heap.size/\W.cell? (A g (i*2) N)=O (J I ((X j).getD i A8).k)/\W.cell? (A g (i*2+1) N)=O (Z ((X j).getD i A8).n)/\∀o,W.frozen? (A g o N)=false:=by
 have e:=h.rows j D;rcases hr:R j with⟨pa,k⟩
 unfold rS at e;rw[hr]at e;obtain⟨g,rfl,B⟩:=a7w e rfl hi;exact⟨g,_,rfl,B⟩
end
end Kx
end
end Go.Proofs.YtdhophglnhcjbaaGreatDoor
