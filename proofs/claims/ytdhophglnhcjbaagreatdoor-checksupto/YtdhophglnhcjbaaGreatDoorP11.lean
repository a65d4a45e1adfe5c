/- P11: a part of the proof that the last text tells. -/
import Derived.Test.YtdhophglnhcjbaaGreatDoorP10
set_option linter.all false
set_option maxRecDepth 100000
set_option maxHeartbeats 40000000
open Go.Proofs.Tryz
open Go renaming Addr->la,World->lb
open Nat renaming le_trans->ld,lt_of_lt_of_le->lh,le_refl->li,le_of_not_lt->lp,mul_le_mul->lq
open Option renaming some->le
open List renaming mem_map->lf,flatMap_cons->lg,flatMap_append->lj,mem_append->lk,length_cons->ll,mem_append_right->lm,mem_cons_self->ln,mem_flatMap->ls,getElem?_eq_getElem->lu,mem_append_left->lv,mem_singleton->lw,length_append->lx,length_nil->ly,mem_cons_of_mem->na,replicate->nb,mem_range->nd,setIfInBounds_toArray->nf,getElem?_append_right->ng,take_length->ni,mem_filter->nj,mem_of_mem_take->nk
open Option renaming none→N,some→O
open Go.IntKind renaming i64→I
open Go.Value renaming int→J,string→Z,slice→V,pointer→U,agg→Q
open Go.Ending renaming returned→Y
open Go.RowKit renaming Hid→X
open Go.Obj renaming cells→H
open Go.Addr renaming mk→A
namespace Go.Proofs.YtdhophglnhcjbaaGreatDoor
section
theorem a0g{P:Prop}(h:P:=by
 go_upto_region 5 with fail
 refine wp_region_held_drew (S:=(λw'=>w'.cell? ⟨t,2,none⟩=some (.slice (some ⟨tg,0,none⟩) n n)/\w'.cell? ⟨tg,a,none⟩=some (.slice (some ⟨g a,0,none⟩) lr lr)/\w'.cell? ⟨w.heap.size,0,none⟩=some (.int .i64 U.k)/\w'.cell? ⟨w.heap.size,1,none⟩=some (.string U.n))) Ok0 HS5.o (λhHeld=> ?_);refine A3 0 ?_;refine A3 1 ?_;refine A3 2 ?_;refine A3 3 ?_;refine A3 4 ?_;refine A3 5 ?_;refine A3 6 ?_;refine A3 7 ?_;refine A3 8 ?_;refine A3 9 ?_;refine F3 10 λK hK=> ?_;obtain⟨-,-,g3,g4,g5,g6⟩:=HRC.o W4.drew (A0 HG4.o (A7 _ _));obtain⟨-,-,g3',g4',g5',g6'⟩:=HRC.o W4 HG4.o;go_simp
 refine hK.o _ _ ?_ (λhHeld=> ?_)
 case refine_1=>
  have hgs:W4.grownBy ((W4.setCell ⟨g a,j*2,none⟩ (.int .i64 U.k)).setCell ⟨g a,j*2+1,none⟩ (.string U.n)) (some (g a)):=A0 (A6 _ ⟨g a,j*2,none⟩ _) (A6 _ ⟨g a,j*2+1,none⟩ _);exact⟨hgs.cell HS5.o.1 (λe=>HNE.o.1 (Option.some.inj e)),hgs.cell HS5.o.2.1 (λe=>HNE.o.2.1 (Option.some.inj e)),hgs.cell HS5.o.2.2.1 (λe=>HNE.o.2.2 (Option.some.inj e)),hgs.cell HS5.o.2.2.2 (λe=>HNE.o.2.2 (Option.some.inj e))⟩
 try clear hK K
 try simp only[Act.put,lz]
 refine wpAnyH_done Ok0 ?_ _;have hM5:=HT4.o.set hq ha (Nat.le_trans hb (HG4.o.size)) U;obtain⟨hM5,hF5⟩:=hM5;generalize (W4.setCell ⟨g a,j*2,none⟩ (.int .i64 U.k)).setCell ⟨g a,j*2+1,none⟩ (.string U.n)=W6 at hM5 hF5⊢;obtain⟨W5,hW5⟩:=Oe W6.drew
 have HM5:Hid (K2 W5 base t bw b tg g n {s with ts:=Z8 s.ts a j U} ra rk):=by rw[hW5];exact hM5.keep (A7 _ none)
 have HF5:Hid (TFx t g n ra ra w W5):=by rw[hW5];exact((Fx.grown HG4.o).trans hF5).trans (Fx.grown (A7 _ none))
 rw[<-hW5];clear hW5;have hs5:=Nat.le_trans hb HF5.o.size;clear hM5 hF5;obtain⟨rl,hrl0⟩:=Oe s.ris.length
 have HRL:=A1 hrl0;have hrlb:rl<=8000000000000:=by omega
 have d3:W5.cell? ⟨t,3,none⟩=some (.slice ra rl rk):=by rw[hrl0];exact HM5.o.blk.cell 3 _ rfl
 clear hrl0
 have HOW:Hid ((W5.alloc (.cells #[.int .i64 a, .int .i64 j] 366)).ownsRow base 366 2 (.slice ra rl rk) rl (s.ris.flatMap U4)):=by
  have h5:W5.ownsRow base 366 2 (.slice ra rl rk) rl (s.ris.flatMap U4):=by rw[HRL.o];exact HM5.o.ris
  exact h5.kept (A2 _ _ none) (by cases hv:(Value.slice ra rl rk).ownBlock<;>simp)
 have hfb:=(HM5.o.blk).frozen 3;obtain⟨inf,ii0,iz0,iz1,iz2⟩:=info_parts a9s;go_wp2_with (at_builtin;go_loud (refine a5N rfl _ _ 309 rfl base 366 inf _ 2 16 underlying309 ii0 iz0 iz1 iz2 rfl Od ra rl rk (s.ris.flatMap U4) rfl HOW.o (some ⟨W5.heap.size,0,none⟩) 1 1 [.int .i64 a, .int .i64 j] rfl rfl (λjj u hu=>⟨_,rfl,O8 W5 _ _ jj u hu⟩) (by simp[Value.oneCell']) Om Oo (Nat.le_trans hs5 (A2 W5 _ none).size) ?_;intro a7 k7 w7 hown7 hg7 hat7;have hf7:=(HM5.o.blk.keep (C6 (A2 W5 (.cells #[.int .i64 a, .int .i64 j] 366) _) hg7 (λk e=> .inr e.symm)) (N4 (by rw[HRL.o];exact HM5.o.ris) HM5.o.blk Od).symm).frozen 3;have hc7:=(C6 (A2 W5 (.cells #[.int .i64 a, .int .i64 j] 366) _) hg7 (λk e=> .inr e.symm)).cell d3 (N4 (by rw[HRL.o];exact HM5.o.ris) HM5.o.blk Od).symm))
 have hP:=HM5.o.push (p:=(a,j)) hs5 (by rw[<-HRL.o];exact hown7) (by rw[<-HRL.o];exact C6 (A2 W5 (.cells #[.int .i64 a, .int .i64 j] 366) _) hg7 (λk e=> .inr e.symm)) (λp e=>by
  rcases hat7 p e with h1|h1
  ·exact .inl h1
  ·exact .inr (Nat.le_trans (A2 W5 (.cells #[.int .i64 a, .int .i64 j] 366) none).size h1))
 rw[<-HRL.o]at hP;go_end0;exact⟨rfl,a7,k7,by rw[HPS.o];exact hP.1,HF5.o.trans hP.2⟩):P:=h
theorem c6w{P:Prop}(h:P:=by
 unfold X5;rw[if_pos h,if_pos h,List.take_succ_eq_append_getElem hk,List.filter_append,List.map_append];simp[hc]):P:=h
theorem c7r{P:Prop}(h:P:=by
 exact List.mem_append_left _ (List.mem_map.2 ⟨d,List.mem_filter.2 ⟨hd,hc⟩,rfl⟩)):P:=h
end
section
namespace Cf
structure Ps where
 ts:X8
 ris:List (Nat×Nat)
def a4d(o:Option Ty)(t:Ty):Bool:=match o with|none=>false|some x=>I4 x t
theorem a5Y(o:Option Ty)(t:Ty):a4d o t=true↔o=O t:=by
 cases o with
 |none=>simp[a4d]
 |some x=>simp[a4d,a2M]
def O6(l:List Cl)(s:Ps)(p:Nat×Nat×Ty):Ps:=
 match tq s.ts p.1 p.2.1 with
 |none=>s
 |some o=>if a4d o (m9 l o p.2.2)=true then s else{ts:=Z8 s.ts p.1 p.2.1 (m9 l o p.2.2),ris:=s.ris++ [(p.1,p.2.1)]}
def U9(l:List Cl)(s:Ps):Nat:=2*a4J l s.ts+s.ris.length
def a0J(l:List Cl)(m:Me)(s:Ps)(cur:Option (Nat×Nat×Ty)):Prop:=
 ∀a ht,G2 l m a ht->∀j t,tq s.ts a j=O (O t)->(a,j)∈s.ris\/cur=O (a,j,t)\/∀p∈N6 l m a (F0 l m a ht) j t,Z9 l s.ts p
def c4E(s:Ps):Prop:=∀p∈s.ris,∃t,tq s.ts p.1 p.2=O (O t)
structure P5(l:List Cl)(c:ByteArray)(m:Me)(s:Ps):Prop where
 snd:a2y l c m s.ts
 told:c4E s
structure a2b(l:List Cl)(s s':Ps):Prop where
 up:a2p l s.ts s'.ts
 mu:U9 l s'<=U9 l s
 same:∀a j,tq s'.ts a j=tq s.ts a j\/(a,j)∈s'.ris
 ris:∀p∈s.ris,p∈s'.ris
 len:∀a,(s'.ts.getD a []).length=(s.ts.getD a []).length
theorem b0L(l:List Cl)(ts:X8):a2p l ts ts:=λ_ _ t h=>⟨t,h,a1v _ _⟩
theorem a2b.refl(l:List Cl)(s:Ps):a2b l s s:=⟨b0L l _,li _,λ_ _=> .inl rfl,λ_ h=>h,λ_=>rfl⟩
variable {l:List Cl}{c:ByteArray}{m:Me}
theorem C1.risesS_trans(h:C1 l){x y z:X8}(D:a2y l c m x)(E:a2y l c m y)(F:a2y l c m z)(B:a2p l x y)(C:a2p l y z):a2p l x z:=λa j t ht=>by
 obtain⟨u,d,i⟩:=B a j t ht;obtain⟨v,e,q⟩:=C a j u d;exact⟨v,e,h.under_trans (D.snd _ _ _ ht).1 (E.snd _ _ _ d).1 (F.snd _ _ _ e).1 i q⟩
theorem C1.psUp_trans(h:C1 l){x y z:Ps}(B:P5 l c m x)(C:P5 l c m y)(D:P5 l c m z)(i:a2b l x y)(d:a2b l y z):a2b l x z:=
 ⟨h.risesS_trans B.snd C.snd D.snd i.up d.up,ld d.mu i.mu,λa j=>by
  rcases d.same a j with e|e
  ·rcases i.same a j with q|q
   ·exact .inl (e.trans q)
   ·exact .inr (d.ris _ q)
  ·exact .inr e,λp v=>d.ris p (i.ris p v),λa=>(d.len a).trans (i.len a)⟩
variable {p:Nat×Nat×Ty}
theorem b1z{ts:X8}(d:a2y l c m ts)(hv:a1j l c m p):∃o,tq ts p.1 p.2.1=O o:=by
 obtain⟨h,e,i⟩:=hv.shape;have:=d.shape _ h e;unfold tq;exact⟨_,lu Oo⟩
variable {s:Ps}
theorem C1.psRaise_ok(h:C1 l)(y:P5 l c m s)(hv:a1j l c m p):
 P5 l c m (O6 l s p)/\a2b l s (O6 l s p)/\Z9 l (O6 l s p).ts p:=by
 obtain⟨o,d⟩:=b1z y.snd hv;obtain⟨E,C,B,F⟩:=h.raise_ok y.snd hv d;unfold O6;rw[d];dsimp only;by_cases e:o=O (m9 l o p.2.2)
 ·rw[if_pos ((a5Y _ _).2 e)];rw[F e]at B;exact⟨y,a2b.refl l s,B⟩
 ·rw[if_neg (λv=>e ((a5Y _ _).1 v))];refine⟨⟨E,λq i=> ?_⟩,⟨C,?_,λa j=> ?_,λq i=>lv _ i,λa=> ?_⟩,B⟩
  ·rcases lk.1 i with i|i
   ·obtain⟨t,ht⟩:=y.told q i;obtain⟨u,D,-⟩:=C _ _ _ ht;exact⟨u,D⟩
   ·rw[lw.1 i];exact⟨_,by rw[a6h d,if_pos ⟨rfl,rfl⟩]⟩
  ·unfold U9;have K:=b9Y l d (m9 l o p.2.2);have M:=h.raise_rk (o:=o) (t:=p.2.2) (λx e=>by subst e;exact(y.snd.snd _ _ _ d).1) hv.ok e;simp only[lx,ll,ly];omega
  ·rw[a6h d];by_cases v:p.1=a/\p.2.1=j
   ·exact .inr (lm _ (by rw[<-v.1,<-v.2];simp))
   ·rw[if_neg v];exact .inl rfl
  ·rw[a4Z _ _ _ _ _ (a2U d).1];split
   ·rename_i e3;subst e3;simp
   ·rfl
theorem C1.psGone_up(h:C1 l)(S:Z1 l)(K:N2 l m)(hi:∀i∈m.c,R7 i)(hh:l4 l m){E:Ps}(y:P5 l c m s)(C:P5 l c m E)(D:a2b l s E){q:Option (Nat×Nat×Ty)}(M:a0J l m s q):a0J l m E q:=by
 intro a ht B j t d;rcases D.same a j with e|e
 ·rw[e]at d;rcases M a ht B j t d with v|v|v
  ·exact .inl (D.ris _ v)
  ·exact .inr (.inl v)
  ·refine .inr (.inr λp F=>h.satS_rises y.snd C.snd D.up ?_ (v p F))
   have P:j<m.l+ht:=by
    have:=(a2U d).2;rw[y.snd.shape a ht B]at this;exact this
   exact(h.flow_comes S K hi hh B P (y.snd.snd _ _ _ d).1 (y.snd.snd _ _ _ d).2 p F).ok
 ·exact .inl e
theorem C1.psRaises_ok(h:C1 l):∀(d:List (Nat×Nat×Ty)) {s:Ps},P5 l c m s->(∀p∈d,a1j l c m p)->
 P5 l c m (d.foldl (O6 l) s)/\a2b l s (d.foldl (O6 l) s)/\∀p∈d,Z9 l (d.foldl (O6 l) s).ts p
 | [],s,hs,_=>⟨hs,a2b.refl l s,λ_ E=>by cases E⟩
 |p::d,s,hs,hv=>by
  obtain⟨i,C,D⟩:=h.psRaise_ok hs (hv p ln);obtain⟨y,B,F⟩:=h.psRaises_ok d i (λq v=>hv q (na _ v));refine⟨y,h.psUp_trans hs i y C B,λq v=> ?_⟩;rcases List.mem_cons.1 v with e|e
  ·rw[e];exact h.satS_rises i.snd y.snd B.up (hv p ln).ok D
  ·exact F q e
def a0A(s:Ps):Ps:={s with ris:=s.ris.dropLast}
theorem b2M(d:P5 l c m s):P5 l c m (a0A s):=⟨d.snd,λp e=>d.told p (List.dropLast_subset _ e)⟩
theorem a8O(l:List Cl)(h:s.ris≠ []):U9 l (a0A s)<U9 l s:=by
 unfold U9 a0A;have:=List.length_pos_iff.2 h;simp only[List.length_dropLast];omega
variable {a:Nat}
theorem C1.psFlow(h:C1 l)(hw:Z1 l)(hc:N2 l m)(hi:∀i∈m.c,R7 i)(hh:l4 l m)(B:P5 l c m s)(hg:a0J l m s N){xs:List (Nat×Nat)}{j:Nat}(y:s.ris=xs++ [(a,j)]){ht:Nat}(W:G2 l m a ht){t:Ty}(v:tq s.ts a j=O (O t)):
 P5 l c m ((N6 l m a (F0 l m a ht) j t).foldl (O6 l) (a0A s))/\a2b l (a0A s) ((N6 l m a (F0 l m a ht) j t).foldl (O6 l) (a0A s))/\a0J l m ((N6 l m a (F0 l m a ht) j t).foldl (O6 l) (a0A s)) N/\U9 l ((N6 l m a (F0 l m a ht) j t).foldl (O6 l) (a0A s))<U9 l s:=by
 have hj:j<m.l+ht:=by
  have:=(a2U v).2;rw[B.snd.shape a ht W]at this;exact this
 have hp:=b2M B;have K:=h.flow_comes hw hc hi hh W hj (B.snd.snd _ _ _ v).1 (B.snd.snd _ _ _ v).2;obtain⟨k1,k2,k3⟩:=h.psRaises_ok (N6 l m a (F0 l m a ht) j t) hp K
 have M:a0J l m (a0A s) (O (a,j,t)):=by
  intro b F q k u C;rcases hg b F q k u C with e|e|e
  ·rw[y]at e;rcases lk.1 e with e|e
   ·refine .inl ?_;unfold a0A;rw[y];simpa using e
   ·have e:=lw.1 e;injection e with D E
    subst D E;have d:tq s.ts b k=O (O u):=C;rw[v]at d;injection d with d;injection d with d
    exact .inr (.inl (by rw[d]))
  ·cases e
  ·exact .inr (.inr e)
 have P:=h.psGone_up hw hc hi hh hp k1 k2 M;refine⟨k1,k2,λb F q k u C=> ?_,Nat.lt_of_le_of_lt k2.mu (a8O l (by rw[y];simp))⟩;rcases P b F q k u C with e|e|e
 ·exact .inl e
 ·injection e with e;injection e with D e;injection e with E e3
  subst D E e3;refine .inr (.inr λp T=>k3 p ?_);have S:=hh.one _ _ _ q W;subst S;exact T
 ·exact .inr (.inr e)
def N8(m:Me)(ht:Nat->Option Nat):Ps:={ts:=(List.range m.c.length).map λa=>match ht a with|none=> []|some h=>nb (m.l+h) N,ris:=[]}
theorem a4B(m:Me)(ht:Nat->Option Nat)(ha:a<m.c.length):(N8 m ht).ts.getD a []=match ht a with|none=> []|some h=>nb (m.l+h) N:=by
 unfold N8;simp[ha]
theorem b4b(m:Me)(ht:Nat->Option Nat)(a j:Nat)(t:Ty):tq (N8 m ht).ts a j≠O (O t):=by
 intro e;unfold tq at e;by_cases ha:a<m.c.length
 ·rw[a4B m ht ha]at e;cases hh:ht a with
  |none=>rw[hh]at e;simp at e
  |some h=>
   rw[hh]at e;simp[List.getElem?_replicate]at e
 ·have:(N8 m ht).ts.getD a []=[]:=by unfold N8;simp[lp ha]
  rw[this]at e;simp at e
variable {ht:Nat->Option Nat}
theorem c2Q(y:N2 l m)(hi:∀i∈m.c,R7 i)(d:∀a h,a<m.c.length->(ht a=O h↔G2 l m a h)):P5 l c m (N8 m ht):=by
 refine⟨⟨by simp[N8],λa h v=> ?_,λa B=> ?_,λa j t e=>absurd e (b4b m ht a j t)⟩,λp C=>by cases C⟩
 ·have q:=l5 y hi v;rw[a4B m ht q.1,(d a h q.1).2 v];simp
 ·by_cases ha:a<m.c.length
  ·rw[a4B m ht ha];cases e:ht a with
   |none=>rfl
   |some h=>exact absurd ((d a h ha).1 e) (B h)
  ·unfold N8;simp[lp ha]
theorem b9W(l:List Cl)(m:Me)(ht:Nat->Option Nat):a0J l m (N8 m ht) N:=λa _ _ j t e=>absurd e (b4b m ht a j t)
theorem c2R(l:List Cl)(m:Me)(B:∀a h,ht a=O h->h<=m.s):U9 l (N8 m ht)<=2*(m.c.length*((m.l+m.s)*(l.length+2))):=by
 have q:∀d:X8,(∀r∈d,(r.map (rkO l)).sum<=(m.l+m.s)*(l.length+2))->a4J l d<=d.length*((m.l+m.s)*(l.length+2)):=by
  intro d;induction d with
  |nil=>intro _;simp[a4J]
  |cons r d ih=>
   intro h;have D:=h r ln;have i:=ih λx C=>h x (na _ C)
   unfold a4J at i⊢;rw[List.map_cons,List.sum_cons,ll,Nat.succ_mul];omega
 have i:=q (N8 m ht).ts (λr v=>by
  unfold N8 at v;obtain⟨a,ha,rfl⟩:=lf.1 v;cases e:ht a with
  |none=>simp
  |some h=>
   dsimp only;rw[List.map_replicate,List.sum_replicate_nat];exact lq (by have:=B a h e;omega) (li _))
 have y:(N8 m ht).ts.length=m.c.length:=by simp[N8]
 rw[y]at i;unfold U9;have:(N8 m ht).ris.length=0:=rfl;omega
theorem C1.psGone_all(h:C1 l)(y:Z1 l)(q:N2 l m)(hi:∀i∈m.c,R7 i)(hh:l4 l m)(e:P5 l c m s)(v:a0J l m s N)(d:List (Nat×Nat×Ty))(hv:∀p∈d,a1j l c m p):a0J l m (d.foldl (O6 l) s) N:=by
 obtain⟨B,C,-⟩:=h.psRaises_ok d e hv;exact h.psGone_up y q hi hh e B C v
def U5(c:ByteArray)(m:Me):List (Nat×Nat×Ty):=(List.range m.l).map λj=>(0,j,(T5 c m).getD j A8)
theorem C1.ent_comes(h:C1 l)(v:N2 l m)(e:E9 l c=true)(y:∀p∈m.p,D9 l p):∀p∈U5 c m,a1j l c m p:=by
 intro p i;obtain⟨j,d,rfl⟩:=lf.1 i;have d:=nd.1 d;refine⟨⟨0,(a1c l m).1,by simpa using d⟩,b6 (h.entry_ok e y) j,λS q=> ?_⟩;exact q.entry.2 j (by rw[a5d v];exact d)
theorem C1.ps_end(h:C1 l)(M:Z1 l)(B:N2 l m)(hi:∀i∈m.c,R7 i)(hh:l4 l m)(K:P5 l c m s)(C:a0J l m s N)(v:s.ris=[])
 (d:∀p∈U5 c m,Z9 l s.ts p) (q:∀a ht,G2 l m a ht->∀p∈T1 l m a (F0 l m a ht),Z9 l s.ts p):
 a2O l c m (R9 s.ts)/\∀a ht,G2 l m a ht->∀j,j<m.l+ht->∃t,tq s.ts a j=O (O t):=by
 refine h.typing_ofS M B hi hh K.snd (λj D=>d _ (lf.2 ⟨j,nd.2 D,rfl⟩)) q λa ht F j t y p E=> ?_
 rcases C a ht F j t y with e|e|e
 ·rw[v]at e;cases e
 ·cases e
 ·exact e p E
def N3(l:List Cl)(c:ByteArray)(m:Me)(e at_:Nat):Prop:=
 match e8 l m with
 |some a=>e=13/\at_=a
 |none=>∃f,a1R l m f/\match f with
  |some a=>e=14/\at_=a
  |none=>∃T,a2O l c m T/\((∃h,e=15/\at_<m.c.length/\G2 l m at_ h/\Z5 l m (A5 m at_) ((T at_).drop m.l) ((T at_).take m.l)=false/\∀b k,b<at_->G2 l m b k->Z5 l m (A5 m b) ((T b).drop m.l) ((T b).take m.l)=true)\/
   (e=0/\at_=0/\∀b k,G2 l m b k->Z5 l m (A5 m b) ((T b).drop m.l) ((T b).take m.l)=true))
theorem C1.isChk_unique(h:C1 l){e W B:Nat}(i:N3 l c m e a)(d:N3 l c m W B):e=W/\a=B:=by
 unfold N3 at i d;cases hc:e8 l m with
 |some x=>
  rw[hc]at i d;exact⟨i.1.trans d.1.symm,i.2.trans d.2.symm⟩
 |none=>
  rw[hc]at i d;obtain⟨f,hf,i⟩:=i;obtain⟨g,hg,d⟩:=d;obtain rfl:=b5k hf hg;cases f with
  |some x=>exact⟨i.1.trans d.1.symm,i.2.trans d.2.symm⟩
  |none=>
   obtain⟨T,hT,i⟩:=i;obtain⟨S,hS,d⟩:=d;have v:=λb k (hr:G2 l m b k)=>h.typing_unique hT hS hr
   rcases i with⟨F,M,r2,C,r4,r5⟩|⟨M,r2,C⟩
   ·rcases d with⟨D,E,K,y,P,s5⟩|⟨E,K,y⟩
    ·refine⟨M.trans E.symm,?_⟩;rcases Nat.lt_trichotomy a B with q|q|q
     ·have:=s5 a F q C;rw[<-v a F C,r4]at this;cases this
     ·exact q
     ·have:=r5 B D q y;rw[v B D y,P]at this;cases this
    ·have:=y a F C;rw[<-v a F C,r4]at this;cases this
   ·rcases d with⟨D,E,K,y,P,s5⟩|⟨E,K,y⟩
    ·have:=C B D y;rw[v B D y,P]at this;cases this
    ·exact⟨M.trans E.symm,r2.trans K.symm⟩
end Cf
open Go.RowKit Go.Shelf Cf
namespace Kx
def a2v(o:Option Ty):List Value:=match o with|none=> [J I (-1), Z ⟨#[]⟩]|some t=>B8 t
def slK(o:Option Ty):Int:=match o with|none=> -1|some t=>t.k
def slN(o:Option Ty):ByteArray:=match o with|none=>⟨#[]⟩|some t=>t.n
theorem a6g(o:Option Ty):a2v o=[J I (slK o), Z (slN o)]:=by cases o<;>rfl
def a1I(g:Nat->Nat)(ts:X8)(a:Nat):Value:=if(ts.getD a []).length=0 then V N 0 0 else V (O (A (g a) 0 N)) (ts.getD a []).length (ts.getD a []).length
structure K2(w:World)(base t bw b tg:Nat)(g:Nat->Nat)(n:Nat)(s:Ps)(ra:Option Addr)(rk:Nat):Prop where
 blk:A4 w t #[.pointer (some ⟨bw,0,none⟩), .pointer (some ⟨b,0,none⟩), .slice (some ⟨tg,0,none⟩) n n, .slice ra s.ris.length rk] 311
 types:A4 w tg ((List.range n).map (a1I g s.ts)).toArray 96
 rows:∀a,a<n->(s.ts.getD a []).length≠0->A4 w (g a) ((s.ts.getD a []).flatMap a2v).toArray 98
 ris:w.ownsRow base 366 2 (.slice ra s.ris.length rk) s.ris.length (s.ris.flatMap U4)
 d2:∀a c,a<n->c<n->(s.ts.getD a []).length≠0->(s.ts.getD c []).length≠0->g a=g c->a=c
 low:base<=t/\base<=tg/\∀a,a<n->base<=g a/\g a<w.heap.size
abbrev TFx(t:Nat)(g:Nat->Nat)(n:Nat)(ra ra':Option la)(w w':lb):Prop:=Fx t t t g n ra ra' w w'
theorem b9J(l:List (Option Ty))(j:Nat)(o:Option Ty)(d:j<l.length):(((l.flatMap a2v).toArray.setIfInBounds (j*2) (J I (slK o))).setIfInBounds (j*2+1) (Z (slN o)))=((l.set j o).flatMap a2v).toArray:=by
 induction l generalizing j with
 |nil=>simp at d
 |cons x l ih=>
  obtain⟨v,w,e⟩:∃v w,a2v x=[v,w]:=⟨_,_,a6g x⟩
  cases j with
  |zero=>simp[lg,e,a6g o]
  |succ j=>
   have:=ih j (by simpa using d);have i:(j+1)*2=j*2+2:=by omega
   have q:(j+1)*2+1=j*2+1+2:=by omega
   rw[i];simp only[lg,e,nf,List.set_cons_succ,List.cons_append,List.nil_append]at this⊢;have:=congrArg Array.toList this;simp only[nf]at this;rw[<-this]
theorem b3g(l:List (Option Ty))(j:Nat)(o:Option Ty)(h:l[j]? =O o):(l.flatMap a2v)[j*2]? =O (J I (slK o))/\(l.flatMap a2v)[j*2+1]? =O (Z (slN o)):=by
 induction l generalizing j with
 |nil=>simp at h
 |cons x l ih=>
  cases j with
  |zero=>
   simp at h;subst h;simp[lg,a6g x]
  |succ j=>
   obtain⟨e,i⟩:=ih j (by simpa using h);have d:(j+1)*2=j*2+2:=by omega
   rw[d];refine⟨?_,?_⟩
   ·rw[lg,a6g x];simpa using e
   ·rw[lg,a6g x];simpa using i
structure Lc(k t:Nat)(g:Nat->Nat)(n:Nat)(ra:Option Addr):Prop where
 a:k≠t
 b:∀a,a<n->k≠g a
 c:∀p,ra=some p->k≠p.block
theorem Lc.fx{k t:Nat}{g:Nat->Nat}{n:Nat}{ra d:Option la}{w w':lb}(h:Lc k t g n ra)(y:TFx t g n ra d w w')(hk:k<w.heap.size):Lc k t g n d:=
 ⟨h.a,h.b,λp e=>by
  rcases y.own p e with⟨q,v,i⟩|i
  ·rw[<-i];exact h.c q v
  ·omega⟩
section
variable{w:World}{base t bw b tg:Nat}{g:Nat->Nat}{n:Nat}{s:Ps}{ra:Option Addr}{rk:Nat}
theorem K2.keep{w':lb}(h:K2 w base t bw b tg g n s ra rk)(d:w.grownBy w' N):K2 w' base t bw b tg g n s ra rk:=
 ⟨A4.grow h.blk d,A4.grow h.types d,λa ha e=>A4.grow (h.rows a ha e) d,h.ris.kept d (by cases hv:(Value.slice ra s.ris.length rk).ownBlock<;>simp),h.d2,⟨h.low.1,h.low.2.1,λa ha=>⟨(h.low.2.2 a ha).1,lh (h.low.2.2 a ha).2 d.size⟩⟩⟩
theorem K2.rblock(h:K2 w base t bw b tg g n s ra rk){p:la}(d:ra=O p):base<=p.block/\p.block<w.heap.size:=by
 rcases h.ris.2 with⟨i,_⟩|⟨q,v,y,i,C,B,-⟩
 ·injection i with e _ _;rw[e]at d;cases d
 ·injection i with e _ _
  rw[e]at d;cases d;exact⟨C,a6W B⟩
theorem K2.lc(h:K2 w base t bw b tg g n s ra rk){k:Nat}(hk:w.heap.size<=k):Lc k t g n ra:=
 ⟨by have:=h.blk.lt;omega,λa ha=>by have:=(h.low.2.2 a ha).2;omega,λp e=>by have:=(h.rblock e).2;omega⟩
theorem K2.lcLow(h:K2 w base t bw b tg g n s ra rk){k:Nat}(hk:k<base):Lc k t g n ra:=
 ⟨by have:=h.low.1;omega,λa ha=>by have:=(h.low.2.2 a ha).1;omega,λp e=>by have:=(h.rblock e).1;omega⟩
theorem K2.below(h:K2 w base t bw b tg g n s ra rk){w':lb}{i:Option la}(d:TFx t g n ra i w w')(q:base<=w.heap.size):Below base w w':=
 ⟨d.os,d.tape,d.output,d.size,λk hk=>by
  have e:=h.lcLow hk;exact d.block k (lh hk q) e.a e.a e.a e.b e.c⟩
theorem a7d(ts:X8)(a j:Nat)(t:Ty)(c:Nat):((Z8 ts a j t).getD c []).length=(ts.getD c []).length:=by
 by_cases ha:a<ts.length
 ·rw[a4Z _ _ _ _ _ ha];by_cases e:a=c
  ·subst e;rw[if_pos rfl];simp
  ·rw[if_neg e]
 ·unfold Z8;rw[List.set_eq_of_length_le (lp ha)]
theorem b9O(g:Nat->Nat)(ts:X8)(a j:Nat)(t:Ty):a1I g (Z8 ts a j t)=a1I g ts:=by
 funext c
 unfold a1I;rw[a7d]
theorem K2.set(h:K2 w base t bw b tg g n s ra rk){a j:Nat}{o:Option Ty}(E:tq s.ts a j=O o)(ha:a<n)(K:base<=w.heap.size)(u:Ty):
 K2 ((w.setCell (A (g a) (j*2) N) (J I u.k)).setCell (A (g a) (j*2+1) N) (Z u.n)) base t bw b tg g n {s with ts:=Z8 s.ts a j u} ra rk/\TFx t g n ra ra w ((w.setCell (A (g a) (j*2) N) (J I u.k)).setCell (A (g a) (j*2+1) N) (Z u.n)):=by
 obtain⟨F,q2⟩:=a2U E;have y:(s.ts.getD a []).length≠0:=by omega
 have B:=h.rows a ha y;have v:w.grownBy ((w.setCell (A (g a) (j*2) N) (J I u.k)).setCell (A (g a) (j*2+1) N) (Z u.n)) (O (g a)):=A0 (A6 _ (A (g a) (j*2) N) _) (A6 _ (A (g a) (j*2+1) N) _);have C:=(B.set (j*2) (J I u.k)).set (j*2+1) (Z u.n);have e:=b9J (s.ts.getD a []) j (O u) q2;simp only[slK,slN]at e;rw[e]at C;refine⟨⟨h.blk.keep v (λe=>G8 h.blk B Od (le.inj e)),?_,λc q i=> ?_,h.ris.kept v (.inr (N4 h.ris B Od)),λc d q hd=> ?_,⟨h.low.1,h.low.2.1,λc q=>⟨(h.low.2.2 c q).1,lh (h.low.2.2 c q).2 v.size⟩⟩⟩,Fx.at v (.inr (.inr (.inr ⟨a,ha,rfl⟩)))⟩
 ·dsimp only;rw[b9O];exact h.types.keep v (λe=>G8 h.types B Od (le.inj e))
 ·dsimp only at i⊢;rw[a7d]at i;rw[a4Z _ _ _ _ _ F];by_cases e:a=c
  ·subst e;rw[if_pos rfl];exact C
  ·rw[if_neg e];exact(h.rows c q i).keep v (λD=>e (h.d2 c a q ha i y (le.inj D)).symm)
 ·dsimp only;rw[a7d,a7d];exact h.d2 c d q hd
theorem K2.push{B:lb}{v:Option la}{C:Nat}(h:K2 w base t bw b tg g n s ra rk){p:Nat×Nat}(S:base<=w.heap.size)
 (hown:B.ownsRow base 366 2 (V v (s.ris.length+1) C) (s.ris.length+1) (s.ris.flatMap U4++U4 p)) (d:w.grownBy B (Value.slice ra s.ris.length rk).ownBlock) (E:∀p,v=O p->(∃q,ra=O q/\q.block=p.block)\/w.heap.size<=p.block):
 K2 (B.setCell (A t 3 N) (V v (s.ris.length+1) C)) base t bw b tg g n {s with ris:=s.ris++ [p]} v C/\TFx t g n ra v w (B.setCell (A t 3 N) (V v (s.ris.length+1) C)):=by
 have hb7:A4 B t _ _:=h.blk.keep d (λe=>N4 h.ris h.blk Od e.symm);have F:=h.types.keep d (λe=>N4 h.ris h.types Od e.symm);have K:=λc (y:c<n) (i:(s.ts.getD c []).length≠0)=>(h.rows c y i).keep d (λe=>N4 h.ris (h.rows c y i) Od e.symm)
 have hs:=A6 B (A t 3 N) (V v (s.ris.length+1) C)
 have D:TFx t g n ra v w B:=⟨d.os,d.tape,d.output,d.size,λk hk _ _ _ _ M=>d.block k hk (by
  intro e;cases ra with
  |none=>simp[Value.ownBlock]at e
  |some q=>simp only[Value.ownBlock,le.injEq]at e;exact M q rfl e),E⟩
 refine⟨⟨?_,F.keep hs (λe=>G8 F hb7 Od (le.inj e)),λc y i=>(K c y i).keep hs (λe=>G8 (K c y i) hb7 Od (le.inj e)),?_,h.d2,⟨h.low.1,h.low.2.1,λc y=>⟨(h.low.2.2 c y).1,lh (h.low.2.2 c y).2 (ld d.size hs.size)⟩⟩⟩,D.trans (Fx.at hs (.inl rfl))⟩
 ·have:=hb7.set 3 (V v (s.ris.length+1) C);exact c7s
 ·exact c5m
theorem b9H(xs:List (Nat×Nat))(p:Nat×Nat):((xs++ [p]).flatMap U4).take (xs.length*2)=xs.flatMap U4:=by
 have d:(xs.flatMap U4).length=xs.length*2:=by
  induction xs with
  |nil=>rfl
  |cons x l ih=>exact c5k
 rw[lj,<-d,List.take_left'];rfl
theorem K2.pop{xs:List (Nat×Nat)}{p:Nat×Nat}(h:K2 w base t bw b tg g n s ra rk)(C:s.ris=xs++ [p])(D:base<=w.heap.size):
 K2 (w.setCell (A t 3 N) (V ra xs.length rk)) base t bw b tg g n (a0A s) ra rk/\TFx t g n ra ra w (w.setCell (A t 3 N) (V ra xs.length rk)):=by
 have q:=A6 w (A t 3 N) (V ra xs.length rk);have v:(a0A s).ris=xs:=by unfold a0A;dsimp only;rw[C];simp
 refine⟨⟨?_,h.types.keep q (λe=>G8 h.types h.blk Od (le.inj e)),λc d i=>(h.rows c d i).keep q (λe=>G8 (h.rows c d i) h.blk Od (le.inj e)),?_,h.d2,⟨h.low.1,h.low.2.1,λc d=>⟨(h.low.2.2 c d).1,lh (h.low.2.2 c d).2 q.size⟩⟩⟩,Fx.at q (.inl rfl)⟩
 ·have:=h.blk.set 3 (V ra xs.length rk);rw[v];exact this
 ·have y:=h.ris;rw[C]at y;simp only[lx,ll,ly,Nat.zero_add]at y;have B:=b1Z y;rw[b9H]at B;rw[v];exact B.kept q (.inr (N4 B h.blk Od))
end
theorem a9s:(prog.info? 366).map (λi=>(i.zero,i.size,i.bytes))=O (O (Q #[J I 0, J I 0]),2,16):=by kernel_rfl
variable {w w':World}{a b bw j lim n t tg:Nat}{L:List Cl}
theorem Lk.tySize{p:la}{cap v y B:Nat}{q:Nat->Qs}(h:Lk w lim b L p cap v y B q){t:Ty}(ht:D9 L t):t.n.size<=maxLen:=by
 have d:=ht.2;split at d
 ·obtain⟨i,hi⟩:=d;have:=M8 hi;have e:=(h.kls.names i this.1).1;rw[this.2.1]at e;exact e
 ·rw[d];exact Nat.zero_le _
variable {s:Ps}{o:Option Ty}{u:Ty}
theorem b5I(d:tq s.ts a j=O o)(h:a4d o (m9 L o u)=true):O6 L s (a,j,u)=s:=by
 unfold O6;rw[d];dsimp only;rw[if_pos h]
theorem a8b(d:tq s.ts a j=O o)(h:a4d o (m9 L o u)=false):O6 L s (a,j,u)={ts:=Z8 s.ts a j (m9 L o u),ris:=s.ris++ [(a,j)]}:=by
 unfold O6;rw[d];dsimp only;rw[if_neg (by simp[h])]
theorem b8r(w:lb)(lim b:Nat)(L:List Cl)(p:la)(cap m1 m2 m3:Nat)(q:Nat->Qs)(h:X (Lk w lim b L p cap m1 m2 m3 q))(ai:C1 L)(base t bw tg:Nat)(g:Nat->Nat)(n:Nat)(s:Ps)(ra:Option la)(rk:Nat)(y:X (K2 w base t bw b tg g n s ra rk))(hb:base<=w.heap.size)(af:lim<=base)
 (a j:Nat) (u:Ty) (o:Option Ty) (hq:tq s.ts a j=O o) (ho:∀x,o=O x->D9 L x) (hu:D9 L u) (ha:a<n) (hn:n<=65535) (am:s.ris.length<=8000000000000) (al:(s.ts.getD a []).length<=70000):
 Calls prog 266 #[.pointer (O (A t 0 N)), J I a, J I j, Q #[J I u.k, Z u.n]] w λe w'=>e= Y (.tuple #[])/\∃ah ak,K2 w' base t bw b tg g n (O6 L s (a,j,u)) ah ak/\TFx t g n ra ah w w':=by
 obtain⟨q1,q2⟩:=a2U hq;have ab:(s.ts.getD a []).length≠0:=by omega
 have au:(a:Int)<(n:Int):=by omega
 obtain⟨lr,ag⟩:=Oe ((s.ts.getD a []).length)
 have av:(j:Int)<(lr:Int):=by omega
 have c1:=y.o.blk.c1;have c2:=y.o.blk.c2;have ca:w.cell? (A tg a N)=O (V (O (A (g a) 0 N)) lr lr):=b7 y.o.types a _ (by rw[List.getElem?_map,List.getElem?_range ha,Option.map_some];unfold a1I;rw[if_neg ab,<-ag]);have i:=y.o.rows a ha ab;obtain⟨f1,f2⟩:=b3g _ _ _ (show(s.ts.getD a [])[j]? =O o from hq);have r0:=b7 i _ _ f1;have r1:=b7 i _ _ f2;have HRC:X (∀W,w.grownBy W N->W.cell? (A t 2 N)=O (V (O (A tg 0 N)) n n)/\W.cell? (A tg a N)=O (V (O (A (g a) 0 N)) lr lr)/\W.frozen? (A (g a) (j*2) N)=false/\W.frozen? (A (g a) (j*2+1) N)=false/\W.cell? (A (g a) (j*2) N)=O (J I (slK o))/\W.cell? (A (g a) (j*2+1) N)=O (Z (slN o))):=λW F=>⟨F.cell c2 Os,F.cell ca Os,(A4.grow i F).frozen _,(A4.grow i F).frozen _,F.cell r0 Os,F.cell r1 Os⟩
 have HNE:X (t≠g a/\tg≠g a/\w.heap.size≠g a):=⟨G8 y.o.blk i Od,G8 y.o.types i Od,λe=>by have:=i.lt;omega⟩
 have ax:=y.o.blk.lt;have ay:=y.o.types.lt;have az:=i.lt;have an:X (t<w.heap.size/\tg<w.heap.size/\g a<w.heap.size):=⟨y.o.blk.lt,y.o.types.lt,i.lt⟩
 have B:X (A4 ((w.alloc (H #[J I u.k, Z u.n] 98)).alloc (H #[J I (slK o), Z (slN o)] 98)) w.heap.size #[J I u.k, Z u.n] 98):=(A4.new w _ _).keep (A2 _ _ N) B9;have v:X (w.grownBy ((w.alloc (H #[J I u.k, Z u.n] 98)).alloc (H #[J I (slK o), Z (slN o)] 98)) N):=A0 (A2 _ _ _) (A2 _ _ _);clear q1 q2 ab ag i f1 f2;cases o with
 |none=>
  obtain⟨U,rfl⟩:=Oe u
  have HPS:X (O6 L s (a,j,U)={ts:=Z8 s.ts a j U,ris:=s.ris++ [(a,j)]}):=a8b hq rfl;have aj:¬(U.k:Int)= -1:=by omega
  have E:X (A4 ((w.alloc (H #[J I U.k, Z U.n] 98)).alloc (H #[J I (-1), Z ⟨#[]⟩] 98)) (w.heap.size+1) #[J I (-1), Z ⟨#[]⟩] 98):=by
   have:=A4.new (w.alloc (H #[J I U.k, Z U.n] 98)) #[J I (-1), Z ⟨#[]⟩] 98;exact a2f
  dsimp only[slK,slN]at B v r0 r1;go_enter func266,ntmps266;go_upto_region 4 with fail
  generalize ((w.alloc (H #[J I U.k, Z U.n] 98)).alloc (H #[J I (-1), Z ⟨#[]⟩] 98))=W4 at B E v⊢;have HT4:=A1 (y.o.keep v.o);have HG4:=A1 v.o;obtain⟨y0,y1⟩:=B.o.q2;obtain⟨x0,x1⟩:=E.o.q2;clear r0 r1 c1 c2 ca;have HS5:X (W4.cell? (A t 2 N)=O (V (O (A tg 0 N)) n n)/\W4.cell? (A tg a N)=O (V (O (A (g a) 0 N)) lr lr)/\W4.cell? (A w.heap.size 0 N)=O (J I U.k)/\W4.cell? (A w.heap.size 1 N)=O (Z U.n)):=⟨(HRC.o _ HG4.o).1,(HRC.o _ HG4.o).2.1,y0,y1⟩
  exact a0g
 |some x=>
  have hx:=ho x rfl;have HJ:=A1 (λW F=>c0A W lim b L p cap m1 m2 m3 q (h.o.keep F (ld af hb)) (ld (ld af hb) F.size) ai x u hx hu (h.o.tySize hx) (h.o.tySize hu));obtain⟨U,hU⟩:=Oe (X7 L x u)
  have C:X (m9 L (O x) u=U):=hU.symm;rw[<-hU]at HJ;have aj:¬(x.k:Int)= -1:=by omega
  dsimp only[slK,slN]at B v r0 r1
  have E:X (A4 ((w.alloc (H #[J I u.k, Z u.n] 98)).alloc (H #[J I x.k, Z x.n] 98)) (w.heap.size+1) #[J I x.k, Z x.n] 98):=by
   have:=A4.new (w.alloc (H #[J I u.k, Z u.n] 98)) #[J I x.k, Z x.n] 98;exact a2f
  clear hU h hx;go_enter func266,ntmps266;go_upto_region 3 with fail
  have aw:t≠w.heap.size:=by omega
  refine a5B (λa' W=>(∃d:Nat->Value,a'={tmps:= #[.pointer (O (A t 0 N)), J I a, J I j,d 3,d 4,d 5,d 6, .pointer (O (A w.heap.size 0 N)), .pointer (O (A (w.heap.size+1) 0 N)),d 9,d 10,d 11,d 12,d 13,d 14,d 15,d 16,d 17,d 18,d 19,d 20,d 21,d 22,d 23,d 24,d 25,d 26,d 27,d 28,d 29,d 30,d 31,d 32,d 33,d 34,d 35,d 36,d 37,d 38,d 39,d 40,d 41,d 42,d 43,d 44,d 45,d 46,d 47,d 48,d 49,d 50,d 51,d 52,d 53],defers:=[]})/\w.grownBy W N/\A4 W w.heap.size #[J I U.k, Z U.n] 98/\A4 W (w.heap.size+1) #[J I x.k, Z x.n] 98) ?_ ?_
  ·go_region_with (go_at_call 319;refine(HJ.o _ (A0 v.o (A7 _ _))).mono ?_;rintro e w1 ⟨rfl,T⟩;have aa:=B.o.keep (A0 (A7 _ N) T) B9;have ad:=E.o.keep (A0 (A7 _ N) T) B9;have ao:=(A0 (A0 v.o (A7 _ N)) T).cell c1 Os;obtain⟨y0,y1⟩:=aa.q2;obtain⟨x0,x1⟩:=ad.q2;obtain⟨z0,z1⟩:=aa.z2)
   all_goals
    have ae:w1.grownBy ((w1.setCell (A w.heap.size 0 N) (J I U.k)).setCell (A w.heap.size 1 N) (Z U.n)) (O w.heap.size):=A0 (A6 _ (A w.heap.size 0 N) _) (A6 _ (A w.heap.size 1 N) _);have D:=(aa.set 0 (J I U.k)).set 1 (Z U.n);have M:=ad.keep ae Os;have HG4:=C6 (A0 (A0 v.o (A7 _ _)) T) ae (λk e=>by cases e;exact .inl (li _));exact⟨a0M (Fr:=λd=>{tmps:= #[.pointer (O (A t 0 N)), J I a, J I j,d 3,d 4,d 5,d 6, .pointer (O (A w.heap.size 0 N)), .pointer (O (A (w.heap.size+1) 0 N)),d 9,d 10,d 11,d 12,d 13,d 14,d 15,d 16,d 17,d 18,d 19,d 20,d 21,d 22,d 23,d 24,d 25,d 26,d 27,d 28,d 29,d 30,d 31,d 32,d 33,d 34,d 35,d 36,d 37,d 38,d 39,d 40,d 41,d 42,d 43,d 44,d 45,d 46,d 47,d 48,d 49,d 50,d 51,d 52,d 53],defers:=[]}) rfl,HG4,D,M⟩
  rintro a' W4 ⟨⟨d,rfl⟩,ac,D,M⟩;have HG4:=A1 ac;clear ac;have HT4:=A1 (y.o.keep HG4.o);clear c1 c2 ca r0 r1;have y0:=D.c0;have y1:=D.c1;obtain⟨x0,x1⟩:=M.q2;clear D M;by_cases hK:x.k=U.k
  ·by_cases hN:x.n=U.n
   ·have HPS:=A1 (b5I hq (by rw[C.o,a5Y];cases x;cases U;simp only at hK hN;rw[hK,hN]));rw[<-hK]at y0;rw[<-hN]at y1;clear hK hN;go_wp2_with fail
    go_end0;exact⟨rfl,ra,rk,by rw[HPS.o];exact HT4.o,Fx.grown HG4.o⟩
   ·have HPS:X (O6 L s (a,j,u)={ts:=Z8 s.ts a j U,ris:=s.ris++ [(a,j)]}):=by
     have:=a8b (L:=L) (u:=u) hq (by rw[C.o];cases hs:a4d (O x) U with|false=>rfl|true=>exact absurd (congrArg Ty.n (le.inj ((a5Y _ _).1 hs))) hN);rw[C.o]at this;exact this
    have ar:=l6 (λe:U.n=x.n=>hN e.symm);have aq:¬U.n=x.n:=λe=>hN e.symm
    have HS5:X (W4.cell? (A t 2 N)=O (V (O (A tg 0 N)) n n)/\W4.cell? (A tg a N)=O (V (O (A (g a) 0 N)) lr lr)/\W4.cell? (A w.heap.size 0 N)=O (J I U.k)/\W4.cell? (A w.heap.size 1 N)=O (Z U.n)):=⟨(HRC.o _ HG4.o).1,(HRC.o _ HG4.o).2.1,y0,y1⟩
    rw[hK]at x0;clear hK;exact a0g
  ·have HPS:X (O6 L s (a,j,u)={ts:=Z8 s.ts a j U,ris:=s.ris++ [(a,j)]}):=by
    have:=a8b (L:=L) (u:=u) hq (by rw[C.o];cases hs:a4d (O x) U with|false=>rfl|true=>exact absurd (congrArg Ty.k (le.inj ((a5Y _ _).1 hs))) hK);rw[C.o]at this;exact this
   have ap:¬(U.k:Int)=(x.k:Int):=by omega
   have HS5:X (W4.cell? (A t 2 N)=O (V (O (A tg 0 N)) n n)/\W4.cell? (A tg a N)=O (V (O (A (g a) 0 N)) lr lr)/\W4.cell? (A w.heap.size 0 N)=O (J I U.k)/\W4.cell? (A w.heap.size 1 N)=O (Z U.n)):=⟨(HRC.o _ HG4.o).1,(HRC.o _ HG4.o).2.1,y0,y1⟩
   clear hK;exact a0g
structure PE(L:List Cl)(c:ByteArray)(m:Me)(ht:Nat->Option Nat):Prop where
 wld:C1 L
 tyw:Z1 L
 cok:N2 L m
 fine:∀i∈m.c,a2R L i
 hok:l4 L m
 hts:∀a h,a<m.c.length->(ht a=some h↔Cf.G2 L m a h)
 hst:∀a h,ht a=some h->h<=m.s
 has:E9 L c=true
 pars:∀p∈m.p,D9 L p
 nc:m.c.length<=65535
 st:m.s<=255
 lo:m.l<=255
 nh:m.h.length<=65535
 nl:L.length<=65536
variable {c:ByteArray}{m:Me}{ht:Nat->Option Nat}
theorem PE.ok(h:PE L c m ht):∀i∈m.c,R7 i:=λi hi=>(h.fine i hi).okin
theorem PE.room(h:PE L c m ht){k:Nat}(i:Cf.G2 L m a k):D7 L m (A5 m a)<=k/\a<m.c.length/\k<=m.s:=by
 have d:=h.hok.room a k i;unfold N5 at d;simp only[Bool.and_eq_true,decide_eq_true_eq]at d;have e:=l5 h.cok h.ok i;exact⟨d.1,e.1,e.2⟩
theorem PE.mu0(h:PE L c m ht):U9 L (N8 m ht)<=8000000000000:=by
 refine ld (c2R L m h.hst) ?_;have d:(m.l+m.s)*(L.length+2)<=510*65538:=lq (by have:=h.lo;have:=h.st;omega) (by have:=h.nl;omega);have e:=lq h.nc d;omega
theorem b3Z(L:List Cl)(s:Ps):s.ris.length<=U9 L s:=by unfold U9;omega
def htI(ht:Nat->Option Nat)(a:Nat):Int:=match ht a with|none=> -1|some h=>h
def meV(m:Me)(pa:Option la)(pk:Nat)(ca:Option la)(ck:Nat)(ha:Option la)(hk:Nat):List Value:=[Z m.n, V pa m.p.length pk, J I m.r.k, Z m.r.n, J I m.s, J I m.l, V ca m.c.length ck, V ha m.h.length hk]
structure TyE(w:World)(lim:Nat)(L:List Cl)(m:Me)(pa:Option Addr)(pk:Nat)(ca:Option Addr)(ck:Nat)(ha:Option Addr)(hk:Nat)(bw eg hg:Nat)(ht:Nat->Option Nat):Prop where
 meth:∀k v,(meV m pa pk ca ck ha hk)[k]? =some v->w.cell? ⟨bw,k,none⟩=some v
 c8:w.cell? ⟨bw,8,none⟩=some (.slice (some ⟨eg,0,none⟩) m.c.length m.c.length)
 c9:w.cell? ⟨bw,9,none⟩=some (.slice (some ⟨hg,0,none⟩) m.c.length m.c.length)
 hts:∀a,a<m.c.length->w.cell? ⟨hg,a,none⟩=some (.int .i64 (htI ht a))
 eff:∀a,a<m.c.length->∃ta tk ua uk,w.cell? ⟨eg,a*3,none⟩=some (.slice ta (E5 L m (A5 m a)).length tk)/\w.cell? ⟨eg,a*3+1,none⟩=some (.slice ua (C7 L (A5 m a)).length uk)/\C0 w w.heap.size 2 B8 ua (C7 L (A5 m a))
 c:C0 w lim 4 M0 ca m.c
 hand:C0 w lim 4 O3 ha m.h
 par:C0 w lim 2 B8 pa m.p
theorem TyE.keep{pa:Option la}{pk:Nat}{ca:Option la}{ck:Nat}{ha:Option la}{hk q y:Nat}(h:TyE w lim L m pa pk ca ck ha hk bw q y ht)(d:w.grownBy w' N):TyE w' lim L m pa pk ca ck ha hk bw q y ht:=
 ⟨λk v e=>d.cell (h.meth k v e) Os,d.cell h.c8 Os,d.cell h.c9 Os,λa i=>d.cell (h.hts a i) Os,λa i=>by
  obtain⟨E,F,K,M,B,C,D⟩:=h.eff a i;exact⟨E,F,K,M,d.cell B Os,d.cell C Os,(D.keep d).upto d.size⟩,h.c.keep d,h.hand.keep d,h.par.keep d⟩
variable {g:Nat->Nat}{ra:Option Addr}
theorem b4k{v:lb}{q:Option la}{rk:Nat}(d:v.grownBy w N)(y:K2 w v.heap.size t bw b tg g n s ra rk)(B:TFx t g n ra q w w'):v.grownBy w' N:=by
 have e:=y.below B d.size;exact⟨e.os.trans d.os,e.tape.trans d.tape,e.output.trans d.output,ld d.size e.size,λk hk i=>(e.block k hk).trans (d.block k hk i)⟩
theorem b7i(C:PE L c m ht)(B:lb)(lim b:Nat)(p:la)(cap m1 m2 m3:Nat)(q:Nat->Qs)(h:Lk B lim b L p cap m1 m2 m3 q)(hl:lim<=B.heap.size)(t bw tg:Nat)(g:Nat->Nat)(E:Ps)(P:P5 L c m E)(M:U9 L E<=8000000000000)(all:List (Nat×Nat×Ty))(i:∀x∈all,a1j L c m x):
 ∀(W:lb) (A9:List (Nat×Nat×Ty)) (ra:Option la) (rk:Nat),(∀x∈A9,x∈all)->K2 W B.heap.size t bw b tg g m.c.length (A9.foldl (O6 L) E) ra rk->B.grownBy W N->∀x∈all,
  Calls prog 266 #[U (O (A t 0 N)), J I x.1, J I x.2.1, Q #[J I x.2.2.k, Z x.2.2.n]] W λe w'=>e= Y (.tuple #[])/\∃d v,K2 w' B.heap.size t bw b tg g m.c.length ((A9++ [x]).foldl (O6 L) E) d v/\TFx t g m.c.length ra d W w'/\B.grownBy w' N:=by
 intro W A9 ra rk D hT F x hx;obtain⟨k1,k2,-⟩:=C.wld.psRaises_ok A9 P (λy hy=>i y (D y hy));have T:=i x hx;obtain⟨o,ho⟩:=b1z k1.snd T;obtain⟨hh,hr,hj⟩:=T.shape;have K:=C.room hr;have S:=k1.snd.shape _ _ hr;refine(b8r W lim b L p cap m1 m2 m3 q (h.keep F hl) C.wld B.heap.size t bw tg g m.c.length _ ra rk hT F.size hl x.1 x.2.1 x.2.2 o ho (λy e=>by subst e;exact(k1.snd.snd _ _ _ ho).1) T.ok K.2.1 C.nc (ld (b3Z L _) (ld k2.mu M)) (by rw[S];have:=C.lo;have:=C.st;omega)).mono ?_;rintro e w' ⟨rfl,d,v,h1,h2⟩;refine⟨rfl,d,v,?_,h2,b4k F hT h2⟩;rw[List.foldl_append];exact h1
theorem b1m(w:lb)(lim:Nat)(L:List Cl)(c:ByteArray)(m:Me)(pa:Option la)(pk:Nat)(ca:Option la)(ck:Nat)(ha:Option la)(hk bw D E:Nat)(ht:Nat->Option Nat)(v:X (PE L c m ht))(q:X (TyE w lim L m pa pk ca ck ha hk bw D E ht))(t:Nat)(c0:w.cell? (A t 0 N)=O (U (O (A bw 0 N))))(a k:Nat)(i:a<m.c.length)(hh:ht a=O k):
 Calls prog 269 #[U (O (A t 0 N)), J I a] w λe w'=>e= Y (J I (F0 L m a k:Nat))/\w.grownBy w' N:=by
 have B:=v.o.room ((v.o.hts a k i).1 hh);obtain⟨ta,tk,ua,uk,C,-,-⟩:=q.o.eff a i;have c5:=q.o.meth 5 _ rfl;have c8:=q.o.c8;have c9:=q.o.c9;have ch:w.cell? (A E a N)=O (J I k):=by have:=q.o.hts a i;unfold htI at this;rw[hh]at this;exact this
 have M:(a:Int)<(m.c.length:Int):=by omega
 obtain⟨tn,d⟩:=Oe (D7 L m (A5 m a))
 have y:X (F0 L m a k=m.l+k-tn):=by unfold X F0;rw[d]
 have W:tn<=k:=by rw[d];exact B.1
 have P:=ld B.2.2 v.o.st;have S:=v.o.lo;have T:=v.o.nc;have K:w.cell? (A D (a*3) N)=O (V ta tn tk):=by rw[d];exact C
 have F:X ((((m.l:Int)+k-tn):Int)=((m.l+k-tn:Nat):Int)):=by unfold X;omega
 rw[y.o,<-F.o];clear B C d q v hh;go_enter func269,ntmps269;go_wp2_with fail
 go_quiet (fail)
 go_wp2_with fail
 go_ret;exact⟨rfl,F4 _ _ _⟩
theorem b1P{base:Nat}{rk:Nat}(h:K2 w base t bw b tg g n s ra rk){xs:List (Nat×Nat)}{p:Nat×Nat}(v:s.ris=xs++ [p]):
 ∃q,ra=O (A q 0 N)/\q<w.heap.size/\xs.length+1<=rk/\rk<=maxLen/\w.cell? (A q (xs.length*2) N)=O (J I p.1)/\w.cell? (A q (xs.length*2+1) N)=O (J I p.2)/\w.cell? (A t 3 N)=O (V (O (A q 0 N)) (xs.length+1) rk):=by
 have d:s.ris.length=xs.length+1:=by rw[v];simp
 have hwork:=h.ris;rw[d]at hwork;obtain⟨q,D,B,-,i⟩:=hwork.form (Nat.succ_pos _);injection B with e _ C
 subst e;refine⟨q,rfl,i,b3B hwork,?_,?_,?_,?_⟩
 ·exact c7h
 ·have:=hwork.cells (g:=q) rfl (xs.length*2) (J I p.1) (by
   rw[v,lj,ng (by rw[a3Y];exact li _),a3Y,Nat.sub_self];rfl)
  rcases Nat.eq_zero_or_pos (xs.length*2)with y|y<;>simpa[Addr.add_lit]using this
 ·have:=hwork.cells (g:=q) rfl (xs.length*2+1) (J I p.2) (by
   rw[v,lj,ng (by rw[a3Y];omega),a3Y,Nat.add_sub_cancel_left];rfl)
  exact c8i
 ·have:=h.blk.cell 3 _ rfl;rw[d]at this;exact this
theorem b5j(w:lb)(base t bw b tg:Nat)(g:Nat->Nat)(n:Nat)(s:Ps)(ra:Option la)(rk:Nat)(h:X (K2 w base t bw b tg g n s ra rk))(T:base<=w.heap.size)(xs:List (Nat×Nat))(a j:Nat)(E:s.ris=xs++ [(a,j)])(hl:xs.length<=8000000000000):
 Calls prog 270 #[U (O (A t 0 N))] w λe w'=>e= Y (Q #[J I a, J I j])/\K2 w' base t bw b tg g n (a0A s) ra rk/\TFx t g n ra ra w w':=by
 obtain⟨q,hq,aa,D,W,F,K,c3⟩:=b1P h.o E;subst hq;have f3:=h.o.blk.frozen 3;have ab:=h.o.blk.lt;obtain⟨C,d⟩:=Oe xs.length
 have i:X (C=xs.length/\s.ris=xs++ [(a,j)]):=⟨d,E⟩
 rw[<-d]at D F K c3 hl;clear d E;go_enter func270,ntmps270;go_wp2_with fail
 have M:=h.o.pop i.o.2 T;rw[<-i.o.1]at M;obtain⟨S,P⟩:=M;have B:(w.setCell (A t 3 N) (V (O (A q 0 N)) C rk)).grownBy (((w.setCell (A t 3 N) (V (O (A q 0 N)) C rk)).alloc (H #[J I a, J I j] 366)).alloc (H #[J I a, J I j] 366)) N:=A0 (A2 _ _ _) (A2 _ _ _);have y:=(A4.new (w.setCell (A t 3 N) (V (O (A q 0 N)) C rk)) #[J I a, J I j] 366).keep (A2 _ (H #[J I a, J I j] 366) N) B9;rw[show(w.setCell (A t 3 N) (V (O (A q 0 N)) C rk)).heap.size=w.heap.size by simp[World.setCell]]at y;obtain⟨q0,q1⟩:=y.q2;exact bodyPost_ret (v:= Q #[J I a, J I j]) (by simp[results,results270,go_sem,q0,q1]) rfl ⟨rfl,S.keep B,P.trans (Fx.grown B)⟩
end Kx
namespace Cf
def X5(m:Me)(a j:Nat)(t:Ty)(k:Nat):List (Nat×Nat×Ty):=if j<m.l then((m.h.take k).filter λd=>G0 d a).map λd=>(d.t,j,t)else []
def T2(i:In)(low j:Nat)(t:Ty)(x:Nat):List (Nat×Nat×Ty):=
 if i.o=3/\j=i.a.toNat then []
 else if i.o=2/\j=i.a.toNat then [(x,j,t),(x,low,t)]
 else if j<low then [(x,j,t)]
 else if i.o=3 then [(x,i.a.toNat,t)]
 else if i.o=5 then [(x,low,t),(x,low+1,t)]
 else if i.o=6 then [(x,2*low+1-j,t)]
 else if i.o=26/\j=low then [(x,low,N7 t)]
 else []
def b8(m:Me)(a low j:Nat)(t:Ty)(k:Nat):List (Nat×Nat×Ty):=X5 m a j t m.h.length++((E6 (A5 m a) a).take k).flatMap (T2 (A5 m a) low j t)
theorem a6e(l:List Cl)(m:Me)(a low j:Nat)(t:Ty):N6 l m a low j t=b8 m a low j t (E6 (A5 m a) a).length:=by
 unfold N6 b8 X5;rw[ni,ni];rfl
theorem b6u(m:Me)(a j:Nat)(t:Ty):X5 m a j t 0=[]:=by unfold X5;split<;>rfl
variable {m:Me}{a j k low:Nat}{t:Ty}
theorem b6v(k:Nat)(h:¬j<m.l):X5 m a j t k=[]:=by unfold X5;rw[if_neg h]
theorem b7C(h:j<m.l)(hk:k<m.h.length)(hc:G0 m.h[k] a=true):X5 m a j t (k+1)=X5 m a j t k++ [(m.h[k].t,j,t)]:=by
 exact c6w
theorem b8S(h:j<m.l)(hk:k<m.h.length)(hc:G0 m.h[k] a=false):X5 m a j t (k+1)=X5 m a j t k:=by
 exact c6w
variable {l:List Cl}
theorem b2j(k:Nat):∀x∈X5 m a j t k,x∈N6 l m a low j t:=λx e=>by
 unfold X5 at e;unfold N6;split at e
 ·rename_i h;rw[if_pos h];refine lv _ ?_;obtain⟨d,hd,rfl⟩:=lf.1 e;obtain⟨i,q⟩:=nj.1 hd;exact lf.2 ⟨d,nj.2 ⟨nk i,q⟩,rfl⟩
 ·cases e
theorem c3O{d:Hd}(h:j<m.l)(hd:d∈m.h)(hc:G0 d a=true):(d.t,j,t)∈N6 l m a low j t:=by
 unfold N6;rw[if_pos h];exact c7r
theorem b6i(m:Me)(a low j:Nat)(t:Ty):b8 m a low j t 0=X5 m a j t m.h.length:=by unfold b8;simp
theorem b6j(hk:k<(E6 (A5 m a) a).length):b8 m a low j t (k+1)=b8 m a low j t k++T2 (A5 m a) low j t ((E6 (A5 m a) a).getD k 0):=by
 unfold b8;rw[List.take_succ_eq_append_getElem hk,lj,List.append_assoc];simp[hk]
theorem c3I(hk:k<(E6 (A5 m a) a).length):∀y∈T2 (A5 m a) low j t ((E6 (A5 m a) a).getD k 0),y∈N6 l m a low j t:=λy d=>by
 unfold N6;refine lm _ (ls.2 ⟨(E6 (A5 m a) a).getD k 0,?_,d⟩);rw[List.getD_eq_getElem?_getD,lu hk];exact List.getElem_mem hk
theorem a2L(k:Nat):∀y∈b8 m a low j t k,y∈N6 l m a low j t:=λy d=>by
 unfold b8 at d;rcases lk.1 d with d|d
 ·exact b2j _ y d
 ·obtain⟨x,e,d⟩:=ls.1 d;unfold N6;exact lm _ (ls.2 ⟨x,nk e,d⟩)
theorem a3G(h:∀x,T2 (A5 m a) low j t x=[])(k:Nat):b8 m a low j t k=X5 m a j t m.h.length:=by
 unfold b8;rw[List.flatMap_eq_nil_iff.2 (λx _=>h x),List.append_nil]
end Cf
end
end Go.Proofs.YtdhophglnhcjbaaGreatDoor
