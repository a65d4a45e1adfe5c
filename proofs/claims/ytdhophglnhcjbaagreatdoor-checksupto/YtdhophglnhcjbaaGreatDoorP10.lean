/- P10: a part of the proof that the last text tells. -/
import Derived.Test.YtdhophglnhcjbaaGreatDoorP09
set_option linter.all false
set_option maxRecDepth 100000
set_option maxHeartbeats 40000000
open Go.Proofs.Tryz
open Nat renaming le_refl->la,zero_le->le,lt_of_lt_of_le->lh,le_trans->lm,not_lt_zero->lp,add_sub_cancel_left->nd,zero_add->nu,sub_self->nw,mul_one->ue,add_zero->uf,le_of_lt->uo
open List renaming getD_eq_getElem?_getD->lb,mem_map->ld,getElem?_eq_getElem->lk,replicate->ll,mem_append_right->lq,getElem?_set->lr,mem_append_left->lu,getElem_mem->lv,length_map->lw,getElem?_eq_none->lx,length_append->na,ext_getElem?->nf,mem_append->nh,getElem?_map->ni,getElem?_replicate->nj,length_take->nk,take_of_length_le->nl,mem_flatMap->nv,mem_singleton->nx,getElem?_toArray->ny,map_cons->nz,sum_cons->ua,length_cons->ub,take_succ_eq_append_getElem->uc,countP_cons->ud,getElem_of_mem->ug,countP_pos_iff->uh,mem_filter->ui,nil_append->uj,map_replicate->uk,countP_le_length->ul,getElem_map->um,map_append->un,getElem?_append_right->uq,take_left->ur,size_toArray->ut,length_nil->uu,mem_range->uv,mem_cons->uw,not_mem_nil->ux
open Go.RowKit renaming intOf->lf
open Go renaming World->lg,Calls->lj,Value->lo,madeCells->ly,info_parts->nb,wpList_make_full->nc,wpAnyH_done->ng,bodyPost_ret->no,results->nq
open Option renaming some->ln
open Go.World renaming block_lt_of_cell?->ls,ownsRow_nil->nt
open Bool renaming toNat_true->nm,and_eq_true->nr,toNat_false->us
open Option renaming none→N,some→O
open Go.IntKind renaming i64→I
open Go.Value renaming int→J,string→Z,slice→V,pointer→U,bool→G,agg→Q
open Go.Ending renaming returned→Y
open Go.Obj renaming cells→H
open Go.Addr renaming mk→A
namespace Go.Proofs.YtdhophglnhcjbaaGreatDoor
section
theorem c8c{P:Prop}(h:P:=by
 clear hcv';go_wp2_with (go_at_call 185;refine(HCV.o _).mono ?_;rintro e w7 ⟨rfl,hg7⟩;obtain⟨hcc,hcf⟩:=S0 hg7;have hzz:=hg7.size)
 go_roundw
 case rel=>exact c6s
 case measure=>exact a0s):P:=h
theorem b0d{P:Prop}(h:P:=by
 go_wp2_with fail
 all_goals exact bodyPost_ret (v:= .int .i64 (k:Nat)) (by simp[results,results124,go_sem]) rfl ⟨some k,rfl,HBD.o,hg.o⟩):P:=h
theorem c6s{P:Prop}(h:P:=by
 exact⟨z+1,by first|rfl|go_num,by omega,HD2.o,A0 hg.o hg7⟩):P:=h
theorem c7b{P:Prop}(h:P:=by
 exact List.mem_append_left _ (List.mem_map.2 ⟨d,List.mem_filter.2 ⟨List.mem_of_mem_take h1,h2⟩,rfl⟩)):P:=h
end
section
open Go.RowKit Go.Shelf Cf
namespace Kx
theorem b8Q:(prog.info? 264).map (λi=>(i.zero,i.size,i.bytes))=O (O (V N 0 0),1,24):=by kernel_rfl
theorem b2h:(prog.info? 4).map (λi=>(i.zero,i.size,i.bytes))=O (O (G false),1,1):=by kernel_rfl
structure Mat(w:World)(sg:Nat)(g:Nat->Nat)(n st:Nat)(s:List (List Bool)):Prop where
 outer:A4 w sg ((List.range n).map λa=>Value.slice (some ⟨g a,0,none⟩) (st+1) (st+1)).toArray 264
 rows:∀a,a<n->A4 w (g a) ((s.getD a []).map Value.bool).toArray 4
 apart:∀a c,a<n->c<n->g a=g c->a=c
section
variable{w w':World}{sg gg n st:Nat}{g:Nat->Nat}{s:List (List Bool)}{gone:List Nat}
theorem Mat.keep(h:Mat w sg g n st s)(d:w.grownBy w' N):Mat w' sg g n st s:=⟨h.outer.keep d Os,λa ha=>(h.rows a ha).keep d Os,h.apart⟩
variable {a k:Nat}
theorem Mat.o(h:Mat w sg g n st s)(ha:a<n):w.cell? (A sg a N)=O (V (O (A (g a) 0 N)) (st+1) (st+1)):=h.outer.cell a _ (by simp[ha])
theorem Mat.c(h:Mat w sg g n st s)(ha:a<n)(hk:k<(s.getD a []).length):w.cell? (A (g a) k N)=O (G (sq s a k)):=(h.rows a ha).cell k _ (by unfold sq;rw[ny,ni,lk hk,lb (l:=s.getD a []),lk hk];rfl)
theorem Mat.mark(h:Mat w sg g n st s)(d:a<n)(y:s.length=n):Mat (w.setCell (A (g a) k N) (G true)) sg g n st (P2 s a k):=by
 have hr:=h.rows a d;have B:=A6 w (A (g a) k N) (G true);refine⟨h.outer.keep B (λe=>G8 h.outer hr Od (ln.inj e)),λc v=> ?_,h.apart⟩;unfold P2;rw[a2j];by_cases e:a=c
 ·exact c7m
 ·rw[if_neg (by simp[e])];exact(h.rows c v).keep B (λD=>e (h.apart c a v d (ln.inj D)).symm)
end
structure MkB(w W:World)(sg:Nat)(g:Nat->Nat)(n st k:Nat):Prop where
 gb:w.grownBy W none
 outer:∃ds:List Value,A4 W sg ds.toArray 264/\ds.length=n/\∀a,a<k->ds[a]? =some (.slice (some ⟨g a,0,none⟩) (st+1) (st+1))
 rows:∀a,a<k->A4 W (g a) (List.replicate (st+1) (Value.bool false)).toArray 4
 apart:∀a c,a<k->c<k->g a=g c->a=c
 low:w.heap.size<=sg/\∀a,a<k->w.heap.size<=g a
variable {W w:World}{a h n sg st:Nat}{g:Nat->Nat}
theorem MkB.next{d:lg}{k gn:Nat}(h:MkB w W sg g n st k)(hk:k<n)(E:W.grownBy d N)(hn:A4 d gn (ll (st+1) (Value.bool false)).toArray 4)(aa:W.heap.size<=gn):
 MkB w (d.setCell (A sg k N) (V (O (A gn 0 N)) (st+1) (st+1))) sg (λa=>if a=k then gn else g a) n st (k+1):=by
 obtain⟨ds,s1,s2,s3⟩:=h.outer;have B:=A4.grow s1 E;have M:=B.set k (V (O (A gn 0 N)) (st+1) (st+1));have v:d.grownBy (d.setCell (A sg k N) (V (O (A gn 0 N)) (st+1) (st+1))) (O sg):=A6 _ (A sg k N) _;have y:=λa ha=>(h.rows a ha).lt
 generalize d.setCell (A sg k N) (V (O (A gn 0 N)) (st+1) (st+1))=W' at M v⊢;have T:∀{j:Nat} {c:Array lo} {t:TypeId},A4 d j c t->t≠264->A4 W' j c t:=λS F=>A4.keep S v (λe=>G8 S B F (ln.inj e))
 refine⟨C6 (A0 h.gb E) v (λj e=> .inl (by cases e;exact h.low.1)),⟨ds.set k (V (O (A gn 0 N)) (st+1) (st+1)),by simpa using M,by simp[s2],λa ha=> ?_⟩,λa ha=> ?_,λa c ha hc D=> ?_,h.low.1,λa ha=> ?_⟩
 ·by_cases e:a=k
  ·subst e;simp[s2,hk]
  ·exact c8a
 ·by_cases e:a=k
  ·rw[if_pos e];exact T hn Od
  ·rw[if_neg e];exact T (A4.grow (h.rows a Oo) E) Od
 ·by_cases e:a=k
  ·by_cases e':c=k
   ·rw[e,e']
   ·rw[if_pos e,if_neg e']at D;have:=y c Oo;omega
  ·by_cases e':c=k
   ·rw[if_neg e,if_pos e']at D;have:=y a Oo;omega
   ·rw[if_neg e,if_neg e']at D;exact h.apart a c Oo Oo D
 ·have:=h.gb.size;by_cases e:a=k
  ·rw[if_pos e];omega
  ·rw[if_neg e];exact h.low.2 a Oo
def a0B(n st:Nat):List (List Bool):=ll n (ll (st+1) false)
theorem a4U(ha:a<n):(a0B n st).getD a []=ll (st+1) false:=by simp[a0B,lb,ha]
theorem MkB.done(h:MkB w W sg g n st n):Mat W sg g n st (a0B n st):=by
 obtain⟨ds,d,v,e⟩:=h.outer
 have hds:ds=(List.range n).map λa=>Value.slice (O (A (g a) 0 N)) (st+1) (st+1):=by
  apply nf;intro a;by_cases ha':a<n
  ·rw[e a ha'];simp[ha']
  ·rw[lx Oo,lx Oi]
 refine⟨by rw[<-hds];exact d,λa ha=> ?_,h.apart⟩;rw[a4U ha,uk];exact h.rows a ha
theorem b2S(n st a h:Nat):sq (a0B n st) a h=false:=by
 cases e:sq (a0B n st) a h with
 |false=>rfl
 |true=>
  obtain⟨y,d⟩:=a7G e;have v:a<n:=by simpa[a0B]using y
  unfold sq at e;rw[a4U v,lb]at e;rw[a4U v]at d;rw[lk d]at e;simp at e
theorem b8B(L:List Cl)(m:Me):a2X L m (a0B m.c.length m.s):=⟨by simp[a0B],λa ha=>by rw[a4U ha];simp,λa h e=>by rw[b2S]at e;cases e⟩
variable {s:List (List Bool)}
theorem c1f(d:Z0 s a=0):sq s a h=false:=by
 cases e:sq s a h with
 |false=>rfl
 |true=>
  exfalso;obtain⟨-,v⟩:=a7G e;unfold Z0 at d;rw[List.countP_eq_zero]at d;refine d _ (lv v) ?_;unfold sq at e;rw[lb,lk v]at e;exact e
theorem b8i(L:List Cl)(m:Me)(s:List (List Bool))(n a k:Nat):Y2 L m s (ll n 0) a k:=by
 have e:(ll n 0).getD a 0=0:=by
  rw[lb,nj];split<;>rfl
 unfold Y2;rw[e];exact⟨le _,λv h _ d=>by rw[c1f v]at d;cases d⟩
theorem b7V(v:s.length=n)(d:∀a,a<n->(s.getD a []).length=st+1):a0W s<=n*(st+1):=by
 subst v;unfold a0W;induction s with
 |nil=>simp
 |cons r s ih=>
  have e:=d 0 Os;have y:=ih (λa ha=>by have:=d (a+1) Oi;simpa using this);simp only[List.getD_cons_zero]at e;have B:r.countP (λx=> !x)<=r.length:=ul;simp only[nz,ua,ub];rw[Nat.add_one_mul];omega
def a0d(s:List (List Bool))(a h:Nat):Nat:=((s.getD a []).take h).countP (λx=>x)
theorem b3P(s:List (List Bool))(a h:Nat):a0d s a h<=h:=lm ul (by rw[nk];omega)
theorem b2p(hh:h<(s.getD a []).length):a0d s a (h+1)=a0d s a h+(if sq s a h then 1 else 0):=by
 unfold a0d sq;rw[uc hh,List.countP_append];generalize hr:s.getD a []=r at hh⊢;rw[lb,lk hh];simp[ud]
theorem b3n(hh:(s.getD a []).length<=h):a0d s a h=Z0 s a:=by unfold a0d Z0;rw[nl hh]
structure i8(w W:World)(L:List Cl)(m:Me)(sg gg:Nat)(g:Nat->Nat)(s:List (List Bool))(gone:List Nat):Prop where
 mat:Mat W sg g m.c.length m.s s
 gnb:A4 W gg (gone.map λx=>Value.int .i64 (x:Nat)).toArray 3
 low:w.heap.size<=sg/\w.heap.size<=gg/\∀a,a<m.c.length->w.heap.size<=g a
 gb:w.grownBy W none
 rh:a2X L m s
 gl:gone.length=m.c.length
 z:sq s 0 0=true
section
variable{w W W':World}{L:List Cl}{m:Me}{sg gg:Nat}{g:Nat->Nat}{s:List (List Bool)}{gone:List Nat}
theorem i8.keep(h:i8 w W L m sg gg g s gone)(d:W.grownBy W' N):i8 w W' L m sg gg g s gone:=
 ⟨h.mat.keep d,A4.grow h.gnb d,h.low,A0 h.gb d,h.rh,h.gl,h.z⟩
variable {a k:Nat}
theorem i8.mark(h:i8 w W L m sg gg g s gone)(ha:a<m.c.length)(hk:k<=m.s)(d:Cf.G2 L m a k):i8 w (W.setCell (A (g a) k N) (G true)) L m sg gg g (P2 s a k) gone:=
 ⟨h.mat.mark ha h.rh.len,h.gnb.keep (A6 W (A (g a) k N) (G true)) (λe=>G8 h.gnb (h.mat.rows a ha) Od (ln.inj e)),h.low,
  C6 h.gb (A6 W (A (g a) k N) (G true)) (λj e=> .inl (by cases e;exact h.low.2.2 a ha)),b1R h.rh ha hk d,h.gl,
  a4A (by rw[h.rh.len];exact ha) (by rw[h.rh.row a ha];omega) h.z⟩
theorem i8.go(h:i8 w W L m sg gg g s gone)(ha:a<m.c.length)(k:Nat):i8 w (W.setCell (A gg a N) (J I (k:Nat))) L m sg gg g s (gone.set a k):=by
 have d:=A6 W (A gg a N) (J I (k:Nat));refine⟨⟨h.mat.outer.keep d (λe=>G8 h.mat.outer h.gnb Od (ln.inj e)),λc v=>(h.mat.rows c v).keep d (λe=>G8 (h.mat.rows c v) h.gnb Od (ln.inj e)),h.mat.apart⟩,?_,h.low,C6 h.gb d (λj e=> .inl (by cases e;exact h.low.2.1)),h.rh,by simp[h.gl],h.z⟩;have:=h.gnb.set a (J I (k:Nat));rw[a3V (λx:Nat=>Value.int I (x:Nat))]at this;exact this
theorem i8.gc(h:i8 w W L m sg gg g s gone)(ha:a<m.c.length):W.cell? (A gg a N)=O (J I (gone.getD a 0:Nat)):=h.gnb.cell a _ (by
 have:a<gone.length:=by rw[h.gl];exact ha
 rw[ny,ni,lk this,lb,lk this];rfl)
theorem i8.oc(h:i8 w W L m sg gg g s gone)(ha:a<m.c.length):W.cell? (A sg a N)=O (V (O (A (g a) 0 N)) (m.s+1) (m.s+1)):=h.mat.o ha
theorem i8.sc(h:i8 w W L m sg gg g s gone)(ha:a<m.c.length)(hk:k<=m.s):W.cell? (A (g a) k N)=O (G (sq s a k)):=h.mat.c ha (by rw[h.rh.row a ha];omega)
end
theorem b8I(n:Nat):(ly (Value.int I 0).cells (n*1)).toList=(ll n 0).map λx:Nat=>Value.int I (x:Nat):=by
 exact c5x
def HtA(w:lg)(L:List Cl)(m:Me)(n st:Nat)(e:Ending)(w':lg):Prop:=∃sg g s,e= Y (V (O (A sg 0 N)) n n)/\Mat w' sg g n st s/\a2X L m s/\(∀a h,sq s a h=true↔Cf.G2 L m a h)/\w.grownBy w' N
section
variable{w:World}{jb lim wb:Nat}{L:List Cl}{p:Addr}{cap:Nat}{q:Nat->Qs}{C:ByteArray}{m:Me}{r:Qj}
theorem b5E(h:Hid (Jb w jb lim wb L p cap q C m r))(hc:Hid (N2 L m)):
 lj prog 125 #[U (O (A jb 0 N))] w λe w'=>HtA w L m m.c.length m.s e w':=by
 have HJ:=A1 (λW (T:w.grownBy W N)=>h.o.keep T);have d6:=h.o.codeN;have es:=h.o.hdN;have h0:=hc.o.some_;have hst:=h.o.s;obtain⟨j0,-,-,-,-,j6,-,j8,-⟩:=h.o.cs;have bl:=h.o.blk.lt;have dj:Hid (∀a h,Cf.G2 L m a h->a<m.c.length/\h<=m.s):=λa k hr=>l5 hc.o h.o.ins hr
 obtain⟨n,hn⟩:=Oe m.c.length
 have HN:=A1 hn;obtain⟨st,hs⟩:=Oe m.s
 have y:=A1 hs;rw[<-hn]at h0 d6 j8⊢;rw[<-hs]at hst j6⊢;obtain⟨eg,ee,ei,ej,ek⟩:=nb b8Q;obtain⟨ef,ec,dt,du,dv⟩:=nb b2h;obtain⟨eh,ed,dx,dy,dz⟩:=nb b2i;have e1:IntKind.i64.wrap ((st:Int)+1)=((st+1:Nat):Int):=by rw[IntWalk.i64_in _ Oo];omega
 clear hn hs h;go_enter func125,ntmps125;go_upto_region 3 with(at_make;go_loud (refine nc _ rfl _ _ 250 rfl w.heap.size 264 eg _ 1 underlying250 ee ei ej I I (n:Int) (n:Int) n rfl rfl rfl rfl (by rw[ek];omega) Om (la _) ?_;intro w1 c' ct;dsimp only))
 have bt:Hid (MkB w w1 w.heap.size (λ_=>0) n st 0):=⟨ct,⟨_,(a1S c').1,by simp[ly,Value.cells],λa ha=>absurd ha (lp a)⟩,λa ha=>absurd ha (lp a),λa c ha=>absurd ha (lp a),la _,λa ha=>absurd ha (lp a)⟩
 obtain⟨sg,df⟩:=Oe w.heap.size
 rw[<-df]at bt⊢;clear c' ct df j0 j6 j8;go_wp2_with fail
 go_loopw [5] (λc W=>∃(k:Nat) (g:Nat->Nat),c= J I k/\k<=n/\Hid (MkB w W sg g n st k)) (λc _=>n-(lf c).toNat)
 case atStart=>exact⟨0,_,rfl,le _,bt.o⟩
 case round=>
  obtain⟨k,g,rfl,hk,hM⟩:=hrel;obtain⟨j0,-,-,-,-,j6,-,-,-⟩:=(HJ.o _ hM.o.gb).cs;rw[<-y.o]at j6;by_cases hlt:k<n
  ·have av:(k:Int)<(n:Int):=by omega
   have al:=lh bl hM.o.gb.size;obtain⟨ds,d1,d2,-⟩:=hM.o.outer;have be:∃v,wr.cell? (A sg k N)=O v:=⟨_,d1.cell k ds[k] (by simp[d2,hlt])⟩
   obtain⟨v0,d'⟩:=be;have ep:=d1.lt;have et:(0:Int)<=(st+1:Nat):=by omega
   have dh:=A1 d1;clear d1 d2;go_wp2_with (at_make;go_loud (refine nc _ rfl _ _ 264 rfl wr.heap.size 4 ef _ 1 underlying264 ec dt du I I ((st+1:Nat):Int) ((st+1:Nat):Int) (st+1) rfl rfl rfl rfl (by rw[dv];omega) Om (la _) ?_;intro w2 da bg;dsimp only;have dl:=A1 (hM.o.next hlt bg (by have:=(a1S da).1;rw[a6V]at this;exact this) (la _));have ev:=bg.cell d' Os;have ex:=(A4.grow dh.o bg).frozen k;clear da))
   go_roundw
   case rel=>exact⟨k+1,_,by first|rfl|go_num,by omega,dl.o⟩
   case measure=>exact a0s
  ·have b5:Hid (k=n):=by unfold Hid;omega
   have av:¬(k:Int)<(n:Int):=by omega
   have ae:Hid (Mat wr sg g n st (a0B n st)):=by have:=hM.o;rw[b5.o]at this;exact this.done
   have a7:Hid (w.heap.size<=sg/\∀a,a<n->w.heap.size<=g a):=by have:=hM.o.low;rw[b5.o]at this;exact this
   have bx:=A1 hM.o.gb;have a0:0<((a0B n st).getD 0 []).length:=by rw[a4U h0];simp
   have y0:=ae.o.o h0;have M:=ae.o.c h0 a0;have z1:=(ae.o.rows 0 h0).frozen 0;have d0:(0:Int)<(n:Int):=by omega
   have d3:(0:Int)<((st+1:Nat):Int):=by omega
   rw[b2S]at M;have ag:Hid (Mat (wr.setCell (A (g 0) 0 N) (G true)) sg g n st (P2 (a0B n st) 0 0)/\wr.grownBy (wr.setCell (A (g 0) 0 N) (G true)) (O (g 0))):=⟨ae.o.mark h0 (by simp[a0B]),A6 _ (A (g 0) 0 N) _⟩
   clear a0 hM hlt hk;generalize hg0:g 0=g0 at y0 M z1 ag;have bw:=A1 hg0;have bi:=ls wr _ M;clear hg0;go_upto_region 8 with fail
   generalize wr.setCell (A g0 0 N) (G true)=W5 at ag⊢;have a5:=A1 (C6 bx.o ag.o.2 (λj e=> .inl (by cases e;rw[<-bw.o];exact a7.o.2 0 h0)));have cd:=A1 ag.o.1;clear y0 M z1 bi ag ae bx bw j0 j6 d0 d3 av;go_upto_region 9 with(at_make;go_loud (refine nc _ rfl _ _ 53 rfl W5.heap.size 3 eh _ 1 underlying53 ed dx dy I I (n:Int) (n:Int) n rfl rfl rfl rfl (by rw[dz];omega) Om (la _) ?_;intro w6 db bh;dsimp only))
   have aa:Hid (i8 w w6 L m sg W5.heap.size g (P2 (a0B n st) 0 0) (ll n 0)):=by
    have ai:=(a1S db).1;rw[b8I]at ai;have hs:=a5.o.size;have hl:=a7.o;have hM:=cd.o.keep bh;have hz:0<((a0B n st).getD 0 []).length:=by rw[a4U h0];simp
    rw[HN.o,y.o]at hM;rw[HN.o]at hl;refine⟨by rw[HN.o,y.o];exact hM,ai,⟨hl.1,hs,hl.2⟩,A0 a5.o bh,?_,by simp[HN.o],?_⟩
    ·rw[HN.o,y.o];exact b1R (b8B L m) (by rw[<-HN.o];exact h0) (le _) (a1c L m).1
    ·rw[a3U (by simp[a0B];exact h0) hz,if_pos ⟨rfl,rfl⟩]
   obtain⟨gg,cv⟩:=Oe W5.heap.size
   rw[<-cv]at aa⊢;have a':Hid (∀a,Y2 L m (P2 (a0B n st) 0 0) (ll n 0) a (st+1)):=λa=>b8i L m _ n a _
   clear db bh cv cd a5 a7;generalize P2 (a0B n st) 0 0=s0 at aa a';generalize ll n 0=gone0 at aa a';have HU:Hid (2*a0W s0+1<=2*(n*(st+1))+1):=by have:=b7V (by rw[aa.o.rh.len,HN.o]) (n:=n) (st:=st) (λa ha=>by rw[aa.o.rh.row a (by rw[<-HN.o];exact ha),y.o]);unfold Hid;omega
   go_wp2_with fail
   go_loopg [7] (2*(n*(st+1))+1) (λK c W=>∃(b:Bool) (s:List (List Bool)) (gone:List Nat),c= G b/\Hid (i8 w W L m sg gg g s gone)/\Hid (∀a,Y2 L m s gone a (st+1))/\Hid (b=false->∀a,a<n->Z0 s a=gone.getD a 0)/\Hid (2*a0W s+b.toNat<=K))
   case atStart=>exact⟨true,s0,gone0,rfl,aa.o,a'.o,λe=>(by cases e),HU.o⟩
   case round=>
    obtain⟨b,s,gone,rfl,d,hQ,hD,F⟩:=hrel;cases b with
    |false=>
     have bv:Hid (Mat wr sg g n st s/\a2X L m s/\(∀a h,sq s a h=true↔Cf.G2 L m a h)/\w.grownBy wr N):=by
      have h1:=d.o;refine⟨by rw[HN.o,y.o];exact h1.mat,h1.rh,c2M h1.rh (λa ha=>by rw[<-y.o];exact hQ.o a) (λa ha=>hD.o rfl a (by rw[HN.o];exact ha)) h1.z,h1.gb⟩
     go_wp2_with fail
     all_goals exact no (v:= V (O (A sg 0 N)) n n) (by simp[nq,results125,go_sem]) rfl ⟨sg,g,s,rfl,bv.o⟩
    |true=>
     go_wp2_with fail
     have b3:Hid (2*a0W s+1<=gk):=F.o;clear F hD;go_loopw [7,8] (λc7 c8 W=>∃(b:Bool) (k:Nat) (s:List (List Bool)) (gone:List Nat),c7= G b/\c8= J I k/\k<=n/\Hid (i8 w W L m sg gg g s gone)/\Hid (∀a,Y2 L m s gone a (st+1))/\Hid (b=false->∀a,a<k->Z0 s a=gone.getD a 0)/\Hid (2*a0W s+b.toNat<gk)) (λ_ c _=>n-(lf c).toNat)
     case atStart=>exact⟨false,0,s,gone,rfl,rfl,le _,d.o,hQ.o,λ_ a ha=>absurd ha (lp a),by have:=b3.o;unfold Hid;simp;omega⟩
     case round=>
      clear d hQ b3 s gone;obtain⟨b,k,s,gone,rfl,rfl,hk,d,hQ,hD,F⟩:=hrel;by_cases hlt:k<n
      ·have av:(k:Int)<(n:Int):=by omega
       have cy:k<m.c.length:=by rw[<-HN.o];exact hlt
       have D:=A1 cy;clear cy;go_wp2_with fail
       go_loopw [9,10] (λc9 c10 W=>∃h:Nat,c9= J I (a0d s k h:Nat)/\c10= J I h/\h<=st+1/\Hid (i8 w W L m sg gg g s gone)) (λ_ c _=>st+1-(lf c).toNat)
       case atStart=>exact⟨0,rfl,rfl,le _,d.o⟩
       case round=>
        clear d;obtain⟨h,rfl,rfl,hh,d⟩:=hrel;obtain⟨j0,-,-,-,-,j6,-,-,-⟩:=(HJ.o _ d.o.gb).cs;rw[<-y.o]at j6;have al:=lh bl d.o.gb.size;have d5:=b3P s k h;obtain⟨ck,ah⟩:=Oe (a0d s k h)
        have a3:=A1 ah;rw[<-ah]at d5⊢;clear ah;by_cases hle:h<=st
        ·have cw:(h:Int)<=(st:Int):=by omega
         have el:(h:Int)<((st+1:Nat):Int):=by omega
         have y0:=d.o.oc D.o;have M:=d.o.sc D.o (k:=h) (by rw[<-y.o];exact hle);rw[<-y.o]at y0;have au:Hid (a0d s k (h+1)=ck+(if sq s k h then 1 else 0)):=by unfold Hid;rw[a3.o];exact b2p (by rw[d.o.rh.row k D.o,<-y.o];omega)
         generalize g k=gk0 at y0 M;cases hsq:sq s k h with
         |false=>
          rw[hsq]at M;have af:Hid (a0d s k (h+1)=ck):=by unfold Hid;rw[au.o,hsq];rfl
          clear hsq au;go_wp2_with fail
          go_roundw
          case rel=>exact⟨h+1,by rw[af.o],by first|rfl|go_num,by omega,d.o⟩
          case measure=>exact a0s
         |true=>
          rw[hsq]at M;have af:Hid (a0d s k (h+1)=ck+1):=by unfold Hid;rw[au.o,hsq];rfl
          clear hsq au;go_wp2_with fail
          go_roundw
          case rel=>exact⟨h+1,by rw[af.o];first|rfl|go_num,by first|rfl|go_num,by omega,d.o⟩
          case measure=>exact a0s
        ·have cw:¬(h:Int)<=(st:Int):=by omega
         have ac:Hid (ck=Z0 s k):=by unfold Hid;rw[a3.o];exact b3n (by rw[d.o.rh.row k D.o,<-y.o];omega)
         have y0:=d.o.gc D.o;have eb:=d.o.gnb.frozen k;obtain⟨gv,bk⟩:=Oe (gone.getD k 0)
         have b1:=A1 bk;rw[<-bk]at y0;clear bk hle;by_cases heq:ck=gv
         ·have d1:((ck:Int)==(gv:Int))=true:=by rw[heq];simp
          have di:=A1 heq;clear heq;go_wp2_with fail
          go_roundw
          case rel=>exact⟨b,k+1,s,gone,rfl,by first|rfl|go_num,by omega,d.o,hQ.o,λe a ha=>by
           by_cases e2:a=k
           ·rw[e2,<-ac.o,di.o];exact b1.o
           ·exact hD.o e a Oo,F.o⟩
          case measure=>exact a0s
         ·have d1:((ck:Int)==(gv:Int))=false:=beq_eq_false_iff_ne.2 Oo;clear heq;have ap:=A1 (d.o.go D.o ck)
          have ba:Hid ((∀a,a≠k->Y2 L m s (gone.set k ck) a (st+1))/\Y2 L m s (gone.set k ck) k 0):=by
           have bm:k<gone.length:=by rw[d.o.gl];exact D.o
           refine⟨λa ha=> ?_,?_⟩
           ·rw[ac.o];exact b3Y bm (hQ.o a) (λe=>absurd e.symm ha)
           ·rw[ac.o];exact b3Y bm (b9M (hQ.o k)) (λ_=>rfl)
          have a4:Hid (b=false->∀a,a<k+1->Z0 s a=(gone.set k ck).getD a 0):=λe a ha=>by
           have bm:k<gone.length:=by rw[d.o.gl];exact D.o
           rw[a2j];by_cases e2:k=a
           ·rw[if_pos ⟨e2,by omega⟩,ac.o,e2]
           ·rw[if_neg (by simp[e2])];exact hD.o e a Oo
          have bi:=ls wr _ y0;go_upto_region 23 with fail
          generalize wr.setCell (A gg k N) (J I (ck:Nat))=W7 at ap⊢;generalize gone.set k ck=gone1 at ap ba a4;clear y0 eb bi d hQ hD j0 j6 cw b1 ac a3;have co:=F.o;go_wp2_with fail
          clear hlt hk F;have b4:=A1 co;clear co;go_loopw [7,11] (λc7 c11 W=>∃(b:Bool) (x:Nat) (s:List (List Bool)),c7= G b/\c11= J I x/\x<=st+1/\Hid (i8 w W L m sg gg g s gone1)/\Hid ((∀a,a≠k->Y2 L m s gone1 a (st+1))/\Y2 L m s gone1 k x)/\Hid (b=false->∀a,a<k+1->Z0 s a=gone1.getD a 0)/\Hid (2*a0W s+b.toNat<gk)) (λ_ c _=>st+1-(lf c).toNat)
          case atStart=>exact⟨b,0,s,rfl,rfl,le _,ap.o,ba.o,a4.o,b4.o⟩
          case round=>
           clear ap ba a4 b4;obtain⟨b,x,s,rfl,rfl,hx,d,hQ,hD,F⟩:=hrel;obtain⟨j0,-,-,-,-,j6,-,-,-⟩:=(HJ.o _ d.o.gb).cs;rw[<-y.o]at j6;have al:=lh bl d.o.gb.size;by_cases hle:x<=st
           ·have ea:(x:Int)<=(st:Int):=by omega
            have er:(x:Int)<((st+1:Nat):Int):=by omega
            have y0:=d.o.oc D.o;have M:=d.o.sc D.o (k:=x) (by rw[<-y.o];exact hle);rw[<-y.o]at y0;generalize g k=gk0 at y0 M;cases hsq:sq s k x with
            |false=>
             rw[hsq]at M;have dm:=A1 (b2E hQ.o.2 (λe=>by rw[hsq]at e;cases e));clear hsq;go_wp2_with fail
             go_roundw
             case rel=>exact⟨b,x+1,s,rfl,by first|rfl|go_num,by omega,d.o,⟨hQ.o.1,dm.o⟩,hD.o,F.o⟩
             case measure=>exact a0s
            |true=>
             rw[hsq]at M;have cf:=A1 (λW T=>b5B (HJ.o W T) k x D.o Oo)
             have cj:Hid (∀p∈X6 L m k x,p.1<n/\p.2<=st/\Cf.G2 L m p.1 p.2):=λp hp=>by
              have h1:=(a1c L m).2 k x (d.o.rh.snd k x hsq) p hp;have h2:=dj.o _ _ h1;exact⟨by rw[HN.o];exact h2.1,by rw[y.o];exact h2.2,h1⟩
             have bu:Hid (∀s',(∀p∈X6 L m k x,sq s' p.1 p.2=true)->a9B L m s' k x):=λs' h1=>h1
             obtain⟨S,hS⟩:=Oe (X6 L m k x)
             have cp:S.length<=300:=by
              rw[hS,<-lw (f:=λx:Nat×Nat=>x.1),(b2D L m k x).1];have h1:=a7B m k m.h.length;have h2:=a8V (A5 m k) k;unfold o8;rw[na,lw,nk];split<;>omega
             rw[<-hS]at cf cj bu;clear hS hsq;go_wp2_with (go_at_call 186;refine(cf.o _ d.o.gb).mono ?_;rintro e w8 de;unfold RcA at de;obtain⟨a1,k1,a2,k2,rfl,bo,bp,cu,cq,cr⟩:=de)
             have b2:=A1 (d.o.keep cu);have bb:Hid (C0 w8 w8.heap.size 1 P7 a1 (S.map (·.1))/\C0 w8 w8.heap.size 1 P7 a2 (S.map (·.2))):=⟨bo,bp⟩
             have bs:Hid (∀c,c<n->(∀p,a1=O p->g c<p.block)/\∀p,a2=O p->g c<p.block):=λc d4=>by
              have:=(d.o.mat.rows c (by rw[<-HN.o];exact d4)).lt;exact⟨λp e=>lh this (cq p e),λp e=>lh this (cr p e)⟩
             obtain⟨ns,ab⟩:=Oe S.length
             have ce:=A1 ab
             have a6:Hid ((∀p,a1=O p->0<ns->p.block<w8.heap.size)/\∀p,a2=O p->0<ns->p.block<w8.heap.size):=by
              refine⟨λp e bd=> ?_,λp e bd=> ?_⟩
              ·obtain⟨p2,e2,hb,-⟩:=bo 0 (by rw[lw,<-ab];exact bd);exact c7p
              ·obtain⟨p2,e2,hb,-⟩:=bp 0 (by rw[lw,<-ab];exact bd);exact c7p
             have em:ns<=300:=by rw[ab];exact cp
             clear cp;rw[<-ab];clear ab bo bp cu cq cr y0 M j0 j6 al;go_wp2_with fail
             obtain⟨l8,bn⟩:=Oe w8.heap.size
             have cb:=A1 bn;rw[<-bn]at bb a6;clear bn;go_loopw [7,14] (λc7 dw W=>∃(b:Bool) (j:Nat) (s:List (List Bool)),c7= G b/\dw= J I j/\j<=ns/\Hid (i8 w W L m sg gg g s gone1)/\Hid ((∀a,a≠k->Y2 L m s gone1 a (st+1))/\Y2 L m s gone1 k x)/\Hid (b=false->∀a,a<k+1->Z0 s a=gone1.getD a 0)/\Hid (2*a0W s+b.toNat<gk)/\Hid (C0 W l8 1 P7 a1 (S.map (·.1))/\C0 W l8 1 P7 a2 (S.map (·.2)))/\Hid (∀i (hi:i<S.length),i<j->sq s S[i].1 S[i].2=true)/\Hid (l8<=W.heap.size)) (λ_ c _=>ns-(lf c).toNat)
             case atStart=>exact⟨b,0,s,rfl,rfl,le _,b2.o,hQ.o,hD.o,F.o,bb.o,λi _ hi=>absurd hi (lp i),by unfold Hid;rw[cb.o];exact la _⟩
             case round=>
              clear b2 hQ hD F bb d cb;obtain⟨b,j,s,rfl,rfl,hj,d,hQ,hD,F,hR,bf,hl⟩:=hrel;by_cases hlt:j<ns
              ·have d9:(j:Int)<(ns:Int):=by omega
               have cx:j<S.length:=by rw[<-ce.o];exact hlt
               obtain⟨u,v,an⟩:∃u v,S[j]=(u,v):=⟨S[j].1,S[j].2,rfl⟩
               obtain⟨ax,dg,bq⟩:=cj.o S[j] (lv _);rw[an]at ax dg bq;have cg:Hid (Cf.G2 L m u v):=bq;obtain⟨p1,rfl,-,dc⟩:=hR.o.1 j (by rw[lw];exact cx);obtain⟨p2,rfl,-,dd⟩:=hR.o.2 j (by rw[lw];exact cx);have M:wr.cell? (p1.add j)=O (J I u):=by have:=dc 0 _ rfl;rw[ue,uf,um,an]at this;exact this
               have y2:wr.cell? (p2.add j)=O (J I v):=by have:=dd 0 _ rfl;rw[ue,uf,um,an]at this;exact this
               have am:u<m.c.length:=by rw[<-HN.o];exact ax
               have br:v<=m.s:=by rw[<-y.o];exact dg
               have y3:=d.o.oc am;have y4:=d.o.sc am br;rw[<-y.o]at y3;have az:=(d.o.mat.rows u am).frozen v;have E:Hid (u<m.c.length/\v<=m.s):=⟨am,br⟩
               have cm:=A1 an;have eu:(u:Int)<(n:Int):=by omega
               have ew:(v:Int)<((st+1:Nat):Int):=by omega
               have eq:(v:Int)<(st:Int)+1:=by omega
               have en:=a6.o.1 p1 rfl Oo;have eo:=a6.o.2 p2 rfl Oo;have aj:=(bs.o u ax).1 p1 rfl;have ak:=(bs.o u ax).2 p2 rfl;clear dc dd bq am br an;cases hsq:sq s u v with
               |true=>
                rw[hsq]at y4
                have ad:Hid (∀i (hi:i<S.length),i<j+1->sq s S[i].1 S[i].2=true):=λi hi d8=>by
                 by_cases e:i=j
                 ·subst e;rw[cm.o];exact hsq
                 ·exact bf.o i hi Oo
                clear hsq az aj ak;have HY:Hid (∀W,wr.grownBy W N->W.cell? (p1.add j)=O (J I u)/\W.cell? (p2.add j)=O (J I v)/\W.cell? (A sg u N)=O (V (O (A (g u) 0 N)) (st+1) (st+1))/\W.cell? (A (g u) v N)=O (G true)):=λW T=>⟨T.cell M Os,T.cell y2 Os,T.cell y3 Os,T.cell y4 Os⟩
                generalize g u=gu at HY;clear M y2 y3 y4;go_upto_region 31 with fail
                refine T6 HY (C9 _ _) (λB=> ?_);refine A3 0 ?_;refine A3 1 ?_;refine A3 2 ?_;refine A3 3 ?_;refine A3 4 ?_;refine A3 5 ?_;refine A3 6 ?_;refine A3 7 ?_;refine A3 8 ?_;refine A3 9 ?_;refine A3 10 ?_;refine A3 11 ?_;refine A3 12 ?_;refine A3 13 ?_;refine ng Ok0 ?_ _;clear B;have aq:=A1 (d.o.keep (A7 _ N));have ar:Hid (C0 wr.drew l8 1 P7 (O p1) (S.map (·.1))/\C0 wr.drew l8 1 P7 (O p2) (S.map (·.2))):=⟨hR.o.1.keep (A7 _ N),hR.o.2.keep (A7 _ N)⟩
                go_wp2_with fail
                go_roundw
                case rel=>exact⟨b,j+1,s,rfl,by first|rfl|go_num,by omega,aq.o,hQ.o,hD.o,F.o,ar.o,ad.o,hl.o⟩
                case measure=>exact a0s
               |false=>
                rw[hsq]at y4;have bc:=A1 hsq;have b0:=rfl (a:=g u);obtain⟨gu,bj⟩:=Oe (g u)
                have bz:=A1 bj;rw[<-bj]at y3 y4 az aj ak;have cz:O sg≠O gu:=λe=>G8 d.o.mat.outer (d.o.mat.rows u E.o.1) Od (by rw[<-bz.o];exact ln.inj e)
                have HY:Hid (∀W,wr.grownBy W N->W.cell? (p1.add j)=O (J I u)/\W.cell? (p2.add j)=O (J I v)/\W.cell? (A sg u N)=O (V (O (A gu 0 N)) (st+1) (st+1))/\W.cell? (A gu v N)=O (G false)):=λW T=>⟨T.cell M Os,T.cell y2 Os,T.cell y3 Os,T.cell y4 Os⟩
                have cn:Hid (∀W,wr.grownBy W (O gu)->W.cell? (p1.add j)=O (J I u)/\W.cell? (p2.add j)=O (J I v)/\W.cell? (A sg u N)=O (V (O (A gu 0 N)) (st+1) (st+1))):=λW T=>⟨T.cell M (λe=>by
                 rw[show(p1.add j).block=p1.block from by unfold Addr.add;split<;>rfl]at e;have:=ln.inj e;omega),T.cell y2 (λe=>by
                 rw[show(p2.add j).block=p2.block from by unfold Addr.add;split<;>rfl]at e;have:=ln.inj e;omega),T.cell y3 cz⟩
                have d7:=ls wr _ y4;clear hsq M y2 y3 b0 cz bj;go_upto_region 31 with fail
                refine T6 HY (C9 _ _) (λB=> ?_);refine A3 0 ?_;refine A3 1 ?_;refine A3 2 ?_;refine A3 3 ?_;refine A3 4 ?_;refine A3 5 ?_;refine A3 6 ?_;refine A3 7 ?_;refine A3 8 ?_;refine A3 9 ?_;refine A3 10 ?_;refine A3 11 ?_;refine A3 12 ?_;refine A3 13 ?_;refine ng Ok0 ?_ _;clear B;have y5:wr.drew.drew.cell? (A gu v N)=O (G false):=y4;have z5:wr.drew.drew.frozen? (A gu v N)=false:=az;clear y4 az;go_wp2_with fail
                refine T6 cn (A7 _ _) (λB=> ?_);refine A3 0 ?_;refine A3 1 ?_;refine A3 2 ?_;refine A3 3 ?_;refine A3 4 ?_;refine A3 5 ?_;refine A3 6 ?_;refine A3 7 ?_;refine A3 8 ?_;refine A3 9 ?_;refine A3 10 ?_;refine A3 11 ?_;refine F3 12 λK' F=> ?_
                go_simp
                have ao:Hid (wr.grownBy ((wr.setCell (A gu v N) (G true)).drew.drew) (O gu)):=A0 (A6 wr (A gu v N) (G true)) (A0 (A7 _ _) (A7 _ _));refine F.o _ _ (cn.o _ ao.o) (λB=> ?_);clear F;refine ng Ok0 ?_ _;clear B y5 z5;have aq:Hid (i8 w ((wr.setCell (A gu v N) (G true)).drew.drew) L m sg gg g (P2 s u v) gone1):=by rw[bz.o];exact(d.o.mark E.o.1 E.o.2 cg.o).keep (A0 (A7 _ N) (A7 _ N))
                have ar:Hid (C0 ((wr.setCell (A gu v N) (G true)).drew.drew) l8 1 P7 (O p1) (S.map (·.1))/\C0 ((wr.setCell (A gu v N) (G true)).drew.drew) l8 1 P7 (O p2) (S.map (·.2))):=⟨a7f hR.o.1 ao.o (λp e=>by cases e;intro e;have:=ln.inj e;omega),a7f hR.o.2 ao.o (λp e=>by cases e;intro e;have:=ln.inj e;omega)⟩
                have aw:u<s.length:=by rw[d.o.rh.len];exact E.o.1
                have ay:v<(s.getD u []).length:=by have:=E.o.2;rw[d.o.rh.row u E.o.1];omega
                have dp:Hid ((∀a,a≠k->Y2 L m (P2 s u v) gone1 a (st+1))/\Y2 L m (P2 s u v) gone1 k x):=⟨λa ha=>b3x d.o.rh E.o.1 E.o.2 bc.o (hQ.o.1 a ha),b3x d.o.rh E.o.1 E.o.2 bc.o hQ.o.2⟩
                have dk:Hid (2*a0W (P2 s u v)+true.toNat<gk):=by
                 have h1:=b0G aw ay bc.o;have h2:=F.o;unfold Hid;simp only[nm];omega
                have ad:Hid (∀i (hi:i<S.length),i<j+1->sq (P2 s u v) S[i].1 S[i].2=true):=λi hi d8=>by
                 by_cases e:i=j
                 ·subst e;rw[cm.o,a3U aw ay,if_pos ⟨rfl,rfl⟩]
                 ·exact a4A aw ay (bf.o i hi Oo)
                have cc:=A1 (lm hl.o ao.o.size);generalize (wr.setCell (A gu v N) (G true)).drew.drew=W9 at aq ar cc⊢;clear aw ay aj ak d7;go_wp2_with fail
                go_roundw
                case rel=>exact⟨true,j+1,_,rfl,by first|rfl|go_num,by omega,aq.o,dp.o,λe=>(by cases e),dk.o,ar.o,ad.o,cc.o⟩
                case measure=>exact a0s
              ·have d9:¬(j:Int)<(ns:Int):=by omega
               have dq:Hid (Y2 L m s gone1 k (x+1)):=b2E hQ.o.2 (λ_=>bu.o s (λp hp=>by
                obtain⟨i,hi,rfl⟩:=ug hp;exact bf.o i hi (by rw[<-ce.o]at hi;omega)))
               go_wp2_with fail
               go_roundw
               case rel=>exact⟨b,x+1,s,rfl,by first|rfl|go_num,by omega,d.o,⟨hQ.o.1,dq.o⟩,hD.o,F.o⟩
               case measure=>exact a0s
           ·have ea:¬(x:Int)<=(st:Int):=by omega
            have dr:Hid (x=st+1):=by unfold Hid;omega
            go_wp2_with fail
            go_roundw
            case rel=>exact⟨b,k+1,s,gone1,rfl,by first|rfl|go_num,by omega,d.o,λa=>(by
             by_cases e:a=k
             ·rw[e,<-dr.o];exact hQ.o.2
             ·exact hQ.o.1 a e),hD.o,F.o⟩
            case measure=>exact a0s
      ·have av:¬(k:Int)<(n:Int):=by omega
       have b':Hid (k=n):=by unfold Hid;omega
       go_wp2_with fail
       go_roundg (2*a0W s+b.toNat)
       case measure=>exact F.o
       case rel=>exact⟨b,s,gone,rfl,d.o,hQ.o,λe a ha=>hD.o e a (by rw[b'.o];exact ha),la _⟩
end
section
variable{w:World}{jb lim wb:Nat}{L:List Cl}{p:Addr}{cap:Nat}{q:Nat->Qs}{C:ByteArray}{m:Me}{r:Qj}
variable {k:Nat}
theorem Jb.ci(h:Jb w jb lim wb L p cap q C m r)(hk:k<m.c.length):∃d,r.ca=O d/\w.cell? (d.add (k*4))=O (J I (A5 m k).o)/\w.cell? (A ((d.add (k*4)).block) ((d.add (k*4)).off+1) N)=O (J I (A5 m k).a)/\w.cell? (A ((d.add (k*4)).block) ((d.add (k*4)).off+2) N)=O (Z (A5 m k).c)/\w.cell? (A ((d.add (k*4)).block) ((d.add (k*4)).off+3) N)=O (Z (A5 m k).m):=by
 obtain⟨d,y,-,v⟩:=h.c k hk;have e:A5 m k=m.c[k]:=by unfold A5;simp[hk]
 rw[e];exact⟨d,y,v 0 _ rfl,by rw[C2 d (k*4) 0];exact v 1 _ rfl,by rw[C2 d (k*4) 1];exact v 2 _ rfl,by rw[C2 d (k*4) 2];exact v 3 _ rfl⟩
theorem Jb.ch(h:Jb w jb lim wb L p cap q C m r)(hk:k<m.h.length):∃d,r.ha=O d/\w.cell? (d.add (k*4))=O (J I m.h[k].f)/\w.cell? (A ((d.add (k*4)).block) ((d.add (k*4)).off+1) N)=O (J I m.h[k].to)/\w.cell? (A ((d.add (k*4)).block) ((d.add (k*4)).off+2) N)=O (J I m.h[k].t)/\w.cell? (A ((d.add (k*4)).block) ((d.add (k*4)).off+3) N)=O (Z m.h[k].c):=by
 obtain⟨d,v,-,e⟩:=h.hds k hk;exact⟨d,v,e 0 _ rfl,by rw[C2 d (k*4) 0];exact e 1 _ rfl,by rw[C2 d (k*4) 1];exact e 2 _ rfl,by rw[C2 d (k*4) 2];exact e 3 _ rfl⟩
theorem Jb.oki(h:Jb w jb lim wb L p cap q C m r)(hk:k<m.c.length):R7 (A5 m k):=by
 have e:A5 m k=m.c[k]:=by unfold A5;simp[hk]
 rw[e];exact h.ins _ (lv _)
end
def stI(f:Option Nat):Int:=match f with|none=> -1|some a=>a
theorem b1x{r:List Bool}(h:0<r.countP (λx=>x)):∃k,r.getD k false=true:=by
 obtain⟨x,d,e⟩:=uh.1 h;obtain⟨k,hk,rfl⟩:=ug d;exact⟨k,by simp[lb,lk hk,e]⟩
theorem b1w:∀{r:List Bool},1<r.countP (λx=>x)->∃j k,j≠k/\r.getD j false=true/\r.getD k false=true
 | [],h=>by simp at h
 |x::r,h=>by
  rw[ud]at h;by_cases hx:x=true
  ·rw[if_pos hx]at h;obtain⟨k,hk⟩:=b1x (r:=r) Oo;exact⟨0,k+1,by omega,by simpa using hx,by simpa using hk⟩
  ·rw[if_neg hx]at h;obtain⟨j,k,v,d,e⟩:=b1w (r:=r) Oo;exact⟨j+1,k+1,by omega,by simpa using d,by simpa using e⟩
theorem b1y:∀{r:List Bool} {j k:Nat},r.countP (λx=>x)<=1->r.getD j false=true->r.getD k false=true->j=k
 | [],j,k,_,h1,_=>by simp at h1
 |x::r,j,k,h,h1,h2=>by
  have e:∀i,r.getD i false=true->0<r.countP (λx=>x):=λi hi=>uh.2 ⟨true,by
   have:i<r.length:=Decidable.byContradiction λv=>by rw[lb,lx Oo]at hi;cases hi
   rw[lb,lk this]at hi;exact hi▸lv this,rfl⟩
  rw[ud]at h;cases j with
  |zero=>
   cases k with
   |zero=>rfl
   |succ k=>
    have d:x=true:=by simpa using h1
    rw[if_pos d]at h;have:=e k (by simpa using h2);omega
  |succ j=>
   cases k with
   |zero=>
    have d:x=true:=by simpa using h2
    rw[if_pos d]at h;have:=e j (by simpa using h1);omega
   |succ k=>rw[b1y (r:=r) (j:=j) (k:=k) Oo (by simpa using h1) (by simpa using h2)]
theorem c1I{L:List Cl}{m:Me}{s:List (List Bool)}(v:∀a h,sq s a h=true↔Cf.G2 L m a h){a:Nat}(B:∀h,h<=m.s->sq s a h=true->N5 L m a h=true)(D:∀d∈m.h,G0 d a=true->0<Z0 s a->m.s≠0)(E:Z0 s a<=1)(F:∀h,Cf.G2 L m a h->h<=m.s):¬a0F L m a:=by
 rintro(⟨h,hh,e⟩|⟨⟨d,hd,e⟩,⟨h,hh⟩,h0⟩|⟨h,k,hne,e1,e2⟩)
 ·rw[B h (F h hh) ((v a h).2 hh)]at e;cases e
 ·have:=(v a h).2 hh;refine D d hd e ?_ h0;unfold Z0;refine uh.2 ⟨true,?_,rfl⟩;have y:=(a7G this).2;unfold sq at this;rw[lb,lk y]at this;exact(show(s.getD a [])[h]=true from this)▸lv y
 ·exact hne (b1y E ((v a h).2 e1) ((v a k).2 e2))
section
variable{w:World}{jb lim wb:Nat}{L:List Cl}{p:Addr}{cap:Nat}{q:Nat->Qs}{C:ByteArray}{m:Me}{r:Qj}
theorem b6V(h:Hid (Jb w jb lim wb L p cap q C m r))(hc:Hid (N2 L m))(sg:Nat)(g:Nat->Nat)(s:List (List Bool))(hM:Hid (Mat w sg g m.c.length m.s s))(hR:Hid (a2X L m s/\∀a h,sq s a h=true↔Cf.G2 L m a h)):
 lj prog 124 #[U (O (A jb 0 N)), V (O (A sg 0 N)) m.c.length m.c.length] w λe w'=>∃f,e= Y (J I (stI f))/\a1R L m f/\w.grownBy w' N:=by
 have HJ:=A1 (λW (hW:w.grownBy W N)=>h.o.keep hW);have HM:=A1 (λW (hW:w.grownBy W N)=>hM.o.keep hW);have hcn:=h.o.codeN;have hst:=h.o.s;have hhn:=h.o.hdN;have hjw:=h.o.blk.lt;have HIN:Hid (∀a h,Cf.G2 L m a h->a<m.c.length/\h<=m.s):=λa k hr=>l5 hc.o h.o.ins hr
 clear h hM;go_enter func124,ntmps124;go_wp2_with fail
 go_loopw [5] (λc W=>∃k:Nat,c= J I k/\k<=m.c.length/\Hid (∀j,j<k->¬a0F L m j)/\Hid (w.grownBy W N)) (λc _=>m.c.length-(lf c).toNat)
 case atStart=>exact⟨0,rfl,le _,λj hj=>absurd hj (lp j),C9 _ _⟩
 case round=>
  obtain⟨k,rfl,hk,hN,hg⟩:=hrel;by_cases hlt:k<m.c.length
  ·have hkI:(k:Int)<(m.c.length:Int):=by omega
   obtain⟨j0,-,-,-,-,j6,-,j8,j9⟩:=(HJ.o _ hg.o).cs;obtain⟨pd,hpd,y0,y1,y2,y3⟩:=(HJ.o _ hg.o).ci hlt;have hok:=(HJ.o _ hg.o).oki hlt;have htb:=(HJ.o _ hg.o).rw_.counts_le m (A5 m k) hok.1;have HRM:Hid (∀x,N5 L m k x=(decide (D7 L m (A5 m k)<=x)&&decide (x-D7 L m (A5 m k)+I5 L (A5 m k)<=m.s))):=λx=>rfl
   rw[hpd]at j8;have HCT:Hid (∀W,w.grownBy W N->lj prog 184 #[U (O (A jb 0 N)), Q #[J I (A5 m k).o, J I (A5 m k).a, Z (A5 m k).c, Z (A5 m k).m]] W λe w'=>e= Y (.tuple #[J I (D7 L m (A5 m k)), J I (I5 L (A5 m k))])/\W.grownBy w' N):=λW hW=>a6H W jb lim wb L p cap q C m r (HJ.o W hW) _
   have hjw2:=lh hjw hg.o.size;generalize D7 L m (A5 m k)=t at HCT HRM htb;generalize I5 L (A5 m k)=u at HCT HRM htb;generalize A5 m k=i at HCT y0 y1 y2 y3;clear hpd hok;go_wp2_with (go_at_call 184;refine(HCT.o _ hg.o).mono ?_;rintro e w6 ⟨rfl,hg6⟩)
   have HG6:=A1 (A0 hg.o hg6);clear HCT y0 y1 y2 y3 j0 j6 j8 j9 hg6 hg;go_loopw [6,9] (λc6 c9 W=>∃x:Nat,c6= J I (a0d s k x:Nat)/\c9= J I x/\x<=m.s+1/\Hid (∀y,y<x->sq s k y=true->N5 L m k y=true)/\Hid (w.grownBy W N)) (λ_ c _=>m.s+1-(lf c).toNat)
   case atStart=>exact⟨0,rfl,rfl,le _,λj hj=>absurd hj (lp j),HG6.o⟩
   case round=>
    clear HG6;obtain⟨x,rfl,rfl,hx,hy,hg⟩:=hrel;obtain⟨j0,-,-,-,-,j6,-,j8,j9⟩:=(HJ.o _ hg.o).cs;have hjw2:=lh hjw hg.o.size;have hck:=b3P s k x;by_cases hle:x<=m.s
    ·have hxI:(x:Int)<=(m.s:Int):=by omega
     have hxI2:(x:Int)<((m.s+1:Nat):Int):=by omega
     have y0:=(HM.o _ hg.o).o hlt;have hrow:=hR.o.1.row k hlt;have y1:=(HM.o _ hg.o).c hlt (k:=x) (by rw[hrow];omega);have HSU:Hid (a0d s k (x+1)=a0d s k x+(if sq s k x then 1 else 0)):=b2p (by rw[hrow];omega);generalize a0d s k x=ck at hck HSU⊢;generalize g k=gk0 at y0 y1;cases hsq:sq s k x with
     |false=>
      rw[hsq]at y1;have HSU2:Hid (a0d s k (x+1)=ck):=by unfold Hid;rw[HSU.o,hsq];rfl
      have HY2:Hid (∀y,y<x+1->sq s k y=true->N5 L m k y=true):=λy hy2 e=>by
       by_cases e2:y=x
       ·rw[e2,hsq]at e;cases e
       ·exact hy.o y Oo e
      clear hsq HSU hrow;go_wp2_with fail
      go_roundw
      case rel=>exact⟨x+1,by rw[HSU2.o],by first|rfl|go_num,by omega,HY2.o,hg.o⟩
      case measure=>exact a0s
     |true=>
      rw[hsq]at y1;have HSU2:Hid (a0d s k (x+1)=ck+1):=by unfold Hid;rw[HSU.o,hsq];rfl
      have HRX:=A1 ((hR.o.2 k x).1 hsq);clear hsq HSU hrow;have e4:IntKind.i64.wrap ((x:Int)-(t:Int))=(x:Int)-(t:Int):=IntWalk.i64_in _ Oo;have e5:IntKind.i64.wrap ((x:Int)-(t:Int)+(u:Int))=(x:Int)-(t:Int)+(u:Int):=IntWalk.i64_in _ Oo;by_cases hr:t<=x/\x-t+u<=m.s
      ·have r1I:¬(x:Int)<(t:Int):=by omega
       have r2I:¬(x:Int)-(t:Int)+(u:Int)>(m.s:Int):=by omega
       have HY2:Hid (∀y,y<x+1->sq s k y=true->N5 L m k y=true):=λy hy2 e=>by
        by_cases e2:y=x
        ·rw[e2,HRM.o,decide_eq_true hr.1,decide_eq_true hr.2];rfl
        ·exact hy.o y Oo e
       clear hr;go_wp2_with fail
       go_roundw
       case rel=>exact⟨x+1,by rw[HSU2.o];first|rfl|go_num,by first|rfl|go_num,by omega,HY2.o,hg.o⟩
       case measure=>exact a0s
      ·have HBD:Hid (a1R L m (O k)):=⟨hlt, .inl ⟨x,HRX.o,by
        rw[HRM.o];by_cases h1:t<=x
        ·rw[decide_eq_true h1,decide_eq_false (λh2=>hr ⟨h1,h2⟩)];rfl
        ·rw[decide_eq_false h1];rfl⟩,hN.o⟩
       by_cases h1:x<t
       ·have r1I:(x:Int)<(t:Int):=by omega
        clear hr;exact b0d
       ·have r1I:¬(x:Int)<(t:Int):=by omega
        have r2I:(x:Int)-(t:Int)+(u:Int)>(m.s:Int):=by omega
        clear hr;exact b0d
    ·have hxI:¬(x:Int)<=(m.s:Int):=by omega
     have hxe:x=m.s+1:=by omega
     have HCE:Hid (a0d s k x=Z0 s k):=b3n (by rw[hR.o.1.row k hlt];omega);have HY2:=A1 (λy (hy2:y<=m.s) (e:sq s k y=true)=>hy.o y Oo e);generalize a0d s k x=ck at hck HCE⊢;clear hxe hle hx hy;go_wp2_with fail
     clear j0 j6 j8 j9 hxI;go_loopw [10] (λc W=>∃z:Nat,c= J I z/\z<=m.h.length/\Hid (∀y (hy:y<m.h.length),y<z->G0 m.h[y] k=true->0<ck->m.s≠0)/\Hid (w.grownBy W N)) (λc _=>m.h.length-(lf c).toNat)
     case atStart=>exact⟨0,rfl,le _,λy _ hy=>absurd hy (lp y),hg.o⟩
     case round=>
      clear hg;obtain⟨z,rfl,hz,hD,hg⟩:=hrel;obtain⟨j0,-,-,-,-,j6,-,j8,j9⟩:=(HJ.o _ hg.o).cs;have hjw2:=lh hjw hg.o.size;by_cases hzl:z<m.h.length
      ·have hzI:(z:Int)<(m.h.length:Int):=by omega
       obtain⟨pd,hpd,y0,y1,y2,y3⟩:=(HJ.o _ hg.o).ch hzl;rw[hpd]at j9;have HDM:=A1 (lv hzl)
       have HD1:Hid ((G0 m.h[z] k=true->0<ck->m.s≠0)->∀y (hy:y<m.h.length),y<z+1->G0 m.h[y] k=true->0<ck->m.s≠0):=λhh y hy hy2=>by
        by_cases e2:y=z
        ·subst e2;exact hh
        ·exact hD.o y hy Oo
       generalize m.h[z]=d at y0 y1 y2 y3 HD1 HDM;have HCV:=A1 (λW=>a6G W d k);clear hpd;by_cases hcv:G0 d k=true/\0<ck/\m.s=0
       ·have HBD:Hid (a1R L m (O k)):=⟨hlt, .inr (.inl ⟨⟨d,HDM.o,hcv.1⟩,(by
         obtain⟨h0,hh0⟩:=b1x (show 0<(s.getD k []).countP (λx=>x)from(show 0<Z0 s k from by rw[<-HCE.o];exact hcv.2.1));exact⟨h0,(hR.o.2 k h0).1 hh0⟩),hcv.2.2⟩),hN.o⟩
        have d1:(0:Int)<(ck:Int):=by omega
        have d2:((m.s:Int)==0)=true:=by rw[hcv.2.2];rfl
        rw[hcv.1]at HCV;clear hcv HD1;go_wp2_with (go_at_call 185;refine(HCV.o _).mono ?_;rintro e w7 ⟨rfl,hg7⟩;obtain⟨hcc,hcf⟩:=S0 hg7;have hzz:=hg7.size)
        all_goals exact no (v:= J I (k:Nat)) (by simp[nq,results124,go_sem]) rfl ⟨O k,rfl,HBD.o,A0 hg.o hg7⟩
       ·have HD2:=A1 (HD1.o (λh1 h2 h3=>hcv ⟨h1,h2,h3⟩));have hcv':G0 d k=true->0<ck->¬m.s=0:=λh1 h2 h3=>hcv ⟨h1,h2,h3⟩
        clear hcv HD1 hD HDM;generalize G0 d k=cv at HCV hcv';cases cv with
        |false=>
         exact c8c
        |true=>
         by_cases hc0:0<ck
         ·have d1:(0:Int)<(ck:Int):=by omega
          have hs0:=hcv' rfl hc0;have d2:((m.s:Int)==0)=false:=beq_eq_false_iff_ne.2 Oo;exact c8c
         ·have d1:¬(0:Int)<(ck:Int):=by omega
          exact c8c
      ·have hzI:¬(z:Int)<(m.h.length:Int):=by omega
       by_cases h1:1<ck
       ·have d1:(1:Int)<(ck:Int):=by omega
        have HBD:Hid (a1R L m (O k)):=⟨hlt, .inr (.inr (by
         obtain⟨x,y,hne,e1,e2⟩:=b1w (show 1<(s.getD k []).countP (λx=>x)from(show 1<Z0 s k from by rw[<-HCE.o];exact h1));exact⟨x,y,hne,(hR.o.2 k x).1 e1,(hR.o.2 k y).1 e2⟩)),hN.o⟩
        exact b0d
       ·have d1:¬(1:Int)<(ck:Int):=by omega
        have HN2:Hid (∀j,j<k+1->¬a0F L m j):=λj hj=>by
         by_cases e:j=k
         ·subst e;refine c1I hR.o.2 HY2.o (λd hd e2 e3=> ?_) (by rw[<-HCE.o];omega) (λh hh=>(HIN.o _ _ hh).2);obtain⟨y,hy,rfl⟩:=ug hd;exact hD.o y hy Oo e2 (by rw[HCE.o];exact e3)
         ·exact hN.o j Oo
        go_wp2_with fail
        go_roundw
        case rel=>exact⟨k+1,by first|rfl|go_num,by omega,HN2.o,hg.o⟩
        case measure=>exact a0s
  ·have hkI:¬(k:Int)<(m.c.length:Int):=by omega
   have HE:Hid (a1R L m N):=λj hj=>hN.o j Oo
   go_wp2_with fail
   all_goals exact no (v:= J I (-1)) (by simp[nq,results124,go_sem]) rfl ⟨N,rfl,HE.o,hg.o⟩
end
def hQ(m:Me)(a k:Nat):List (Nat×(List Ty->List Ty)):=((m.h.take k).filter λd=>G0 d a).map λd=>(d.t,hdF m d)
def gQ(L:List Cl)(m:Me)(a j:Nat):List (Nat×(List Ty->List Ty)):=hQ m a m.h.length++((E6 (A5 m a) a).take j).map λx=>(x,X9 L m (A5 m a))
variable {m:Me}{a cap fb jb k l lc lim n ob wb:Nat}
theorem c3m(hk:k<m.h.length)(d:G0 m.h[k] a=true):hQ m a (k+1)=hQ m a k++ [(m.h[k].t,hdF m m.h[k])]:=by
 unfold hQ;rw[uc hk,List.filter_append,List.filter_cons,if_pos d,un];rfl
theorem c3P(hk:k<m.h.length)(hc:G0 m.h[k] a=false):hQ m a (k+1)=hQ m a k:=by
 unfold hQ;exact c7e
theorem c2g(L:List Cl)(m:Me)(a:Nat):gQ L m a 0=hQ m a m.h.length:=by simp[gQ]
variable {L:List Cl}
theorem c2h{j:Nat}(d:j<(E6 (A5 m a) a).length):gQ L m a (j+1)=gQ L m a j++ [((E6 (A5 m a) a)[j],X9 L m (A5 m a))]:=by
 unfold gQ;rw[uc d,un,<-List.append_assoc];rfl
theorem c3n(L:List Cl)(m:Me)(a:Nat):gQ L m a (E6 (A5 m a) a).length=R4 L m a:=by
 unfold gQ hQ R4;rw[nl (la _),nl (la _)]
theorem b4w(k:Nat):∀q∈hQ m a k,q∈R4 L m a:=λq e=>by
 obtain⟨d,hd,rfl⟩:=ld.1 e;obtain⟨h1,h2⟩:=ui.1 hd;exact c7b
theorem c3S(j:Nat):∀q∈gQ L m a j,q∈R4 L m a:=λq d=>by
 rcases nh.1 d with d|d
 ·exact b4w _ q d
 ·obtain⟨x,e,rfl⟩:=ld.1 d;exact lq _ (ld.2 ⟨x,List.mem_of_mem_take e,rfl⟩)
structure FlP(L:List Cl)(c:ByteArray)(m:Me)(o0:V2)(a:Nat)(s0:List Ty):Prop where
 tw:Z1 L
 hh:l4 L m
 ent:G4 L (T5 c m)
 snd:a0q L c m o0
 t:o0[a]? =some (some s0)
variable {W w w0 w1:World}
theorem Fm.setB{base:Nat}{re:Nat->Bool}{R:Rr}{X:Nat->List Ty}(h:Fm W base ob n re R X){g:Nat}{cs:Array lo}{t:TypeId}(v:A4 W g cs t)(ht:t≠136/\t≠98){o:Nat}(x:lo):Fm (W.setCell (A g o N) x) base ob n re R X:=by
 obtain⟨c2,d,D⟩:=h.blk;have B:=A6 W (A g o N) x;exact⟨⟨c2,d.keep B (λe=>G8 d v (λe=>ht.1 e.symm) (ln.inj e)),D⟩,λj y=>(h.rows j y).kept B (.inr (N4 (h.rows j y) v ht.2)),h.apart,h.low⟩
variable {p:Addr}{q:Nat->Qs}{C:ByteArray}{r:Qj}{o0:V2}{f0:List Bool}{s0:List Ty}
theorem o9.step(h:Jb w0 jb lim wb L p cap q C m r)(hc:N2 L m)(d:FlP L C m o0 a s0)
 {base ob fb n lc:Nat} {R0:Rr} {w1 W E y:lg} {qs:List (Nat×(List Ty->List Ty))} {re:Nat->Bool} {R:Rr} {X:Nat->List Ty} {f:List Bool} {g:Nat×(List Ty->List Ty)} {e:Ending}
 (h1:Fm W base ob n re R X) (F:A4 W fb (f.map Value.bool).toArray 4) (h3:Ch (λk=>E8 ob n R0 k\/k=fb) w1 W) (h4:∀k,E8 ob n R k->E8 ob n R0 k\/w1.heap.size<=k) (h5:FlO L C m o0 f0 s0 qs (P4 re X n) f)
 (ac:∀g∈qs,g∈R4 L m a) (hg:g∈R4 L m a) (hn:n=m.c.length) (S:f0.length=n) (M:W.grownBy E N) (aa:InO L E base ob n lc re R X g.1 (g.2 s0) e y):
 ∃b,e= Y (G b)/\A4 y fb (f.map Value.bool).toArray 4/\y.cell? (A fb g.1 N)=O (G (f.getD g.1 false))/\Ch (λk=>E8 ob n R0 k\/k=fb) w1 y/\Ch (E8 ob n R) E y/\o9 base ob fb n lc L C m o0 f0 s0 R0 w1 (y.setCell (A fb g.1 N) (G (f.getD g.1 false||b))) (qs++ [g]):=by
 obtain⟨ad,R',X',rfl,k1,k2,k3,k4,k5⟩:=aa;have D:g.1<n:=by rw[hn];exact(h.rw_.wld.comes d.tw hc h.ins d.hh d.snd d.t hg).lt
 have hx:=a3n re X D
 have ab:¬E8 ob n R fb:=λhf=>by
  rcases hf with e|⟨j,hj,e⟩
  ·obtain⟨cs,hb,-⟩:=h1.blk;exact G8 hb F Od e.symm
  ·exact N4 (h1.rows j hj) F Od ((a3X R X j).trans e)
 have v:A4 y fb (f.map Value.bool).toArray 4:=k2.b (A4.grow F M) ab;have af:=M.size;have ae:=h3.size
 have B:Ch (λk=>E8 ob n R0 k\/k=fb) w1 y:=(h3.tn M).trans k2 λk hk=>by
  rcases h4 k hk with e|e
  ·exact .inl (.inl e)
  ·exact .inr e
 have T:g.1<f.length:=by rw[h5.len,S];exact D
 refine⟨_,rfl,v,v.cell g.1 _ (by rw[ny,ni,lb,lk T];rfl),B,k2,ad,R',X',f.set g.1 (f.getD g.1 false||a1W L (oO re X g.1) (g.2 s0)),k1.setB v Od _,?_,B.ts (.inl (.inr rfl)) _,λk hk=> ?_,?_,k5⟩
 ·have:=v.set g.1 (G (f.getD g.1 false||a1W L (oO re X g.1) (g.2 s0)));rw[a3V]at this;exact this
 ·rcases k3 k hk with e|e
  ·exact h4 k e
  ·exact .inr Oo
 ·rw[k4];exact FlO.into h.rw_.wld d.tw hc h.ins d.hh d.ent d.snd d.t h5 ac hg hx
variable {R0:Rr}{qs:List (Nat×(List Ty->List Ty))}
theorem o9.base{base:Nat}{c:ByteArray}(h:o9 base ob fb n lc L c m o0 f0 s0 R0 w1 W qs)(d:w.grownBy w1 N):o9 base ob fb n lc L c m o0 f0 s0 R0 w W qs:=by
 obtain⟨re,R,X,f,v,y,B,D,E,F⟩:=h;exact⟨re,R,X,f,v,y,(Ch.of (S:=λk=>E8 ob n R0 k\/k=fb) d (λk e=>by cases e)).trans B (λk e=> .inl e),λk hk=>(D k hk).imp id (λe=>lm d.size e),E,F⟩
theorem o9.keep{base:Nat}{c:ByteArray}{W':lg}(h:o9 base ob fb n lc L c m o0 f0 s0 R0 w1 W qs)(d:W.grownBy W' N):o9 base ob fb n lc L c m o0 f0 s0 R0 w1 W' qs:=by
 obtain⟨re,R,X,f,e,v,y,B,D,E⟩:=h;exact⟨re,R,X,f,e.keep d,A4.grow v d,y.tn d,B,D,E⟩
theorem o9.chain{base:Nat}{c:ByteArray}{d:Rr}{B:lg}(h:o9 base ob fb n lc L c m o0 f0 s0 d B W qs)(v:Ch (λk=>E8 ob n R0 k\/k=fb) w1 B)(y:∀k,E8 ob n d k->E8 ob n R0 k\/w1.heap.size<=k):o9 base ob fb n lc L c m o0 f0 s0 R0 w1 W qs:=by
 obtain⟨re,R,X,f,D,E,F,M,P,S⟩:=h;refine⟨re,R,X,f,D,E,v.trans F λk hk=> ?_,λk hk=> ?_,P,S⟩
 ·rcases hk with hk|hk
  ·exact(y k hk).imp .inl id
  ·exact .inl (.inr hk)
 ·rcases M k hk with e|e
  ·exact y k e
  ·exact .inr (lm v.size e)
def StO(base ob fb n lc:Nat)(L:List Cl)(c:ByteArray)(m:Me)(o0:V2)(f0:List Bool)(s0:List Ty)(R0 R:Rr)(w1 W2:lg)(qs:List (Nat×(List Ty->List Ty)))(p:Nat)(e:Ending)(W3:lg):Prop:=
 ∃b fv,e= Y (G b)/\W3.cell? (A fb p N)=O (G fv)/\W3.frozen? (A fb p N)=false/\Ch (E8 ob n R) W2 W3/\o9 base ob fb n lc L c m o0 f0 s0 R0 w1 (W3.setCell (A fb p N) (G (fv||b))) qs
theorem b2k(h:Hid (Jb w0 jb lim wb L p cap q C m r))(hc:N2 L m)(B:FlP L C m o0 a s0)
 {base ob fb n:Nat} {R0:Rr} {w1 W y:lg} {qs:List (Nat×(List Ty->List Ty))} {re:Nat->Bool} {R:Rr} {X:Nat->List Ty} {f:List Bool} {g:Nat×(List Ty->List Ty)}
 (h1:Fm W base ob n re R X) (h2:A4 W fb (f.map Value.bool).toArray 4) (h3:Ch (λk=>E8 ob n R0 k\/k=fb) w1 W) (h4:∀k,E8 ob n R k->E8 ob n R0 k\/w1.heap.size<=k) (h5:FlO L C m o0 f0 s0 qs (P4 re X n) f) (h6:∀b,b<n->re b=true->(X (2*b+1)).length=m.l)
 (ah:∀g∈qs,g∈R4 L m a) (hg:g∈R4 L m a) (hn:n=m.c.length) (aa:f0.length=n) (F:W.grownBy y N) (ab:w0.grownBy W N) (ag:w0.heap.size<=base) (hb:base<=W.heap.size)
 {S V:List Ty} (hq:g.2 s0=V++S) (hV:V.length=m.l) {T va:Option Addr} {sk vk M:Nat} (af:M<=y.heap.size) (hs:C0 y M 2 B8 T S) (hv:C0 y M 2 B8 va V) (ai:(∀p,T=O p->¬E8 ob n R p.block)/\∀p,va=O p->¬E8 ob n R p.block):
 lj prog 132 #[U (O (A jb 0 N)), U (O (A ob (g.1*8) N)), .slice T S.length sk, .slice va V.length vk] y (StO base ob fb n m.l L C m o0 f0 s0 R0 R w1 y (qs++ [g]) g.1):=by
 have d:=h.o.rw_.wld.comes B.tw hc h.o.ins B.hh B.snd B.t hg;rw[hq]at d;have v:g.1<n:=by rw[hn];exact d.lt
 obtain⟨k,hk,ad⟩:=d.shape;rw[na,hV]at ad;have aj:=(l5 hc h.o.ins hk).2;have hst:=h.o.s;have ak:=h.o.l;have hok:G4 L S/\G4 L V:=⟨λt ht=>d.ok t (lq _ ht),λt ht=>d.ok t (lu _ ht)⟩
 refine(b1Q h (A0 ab F) ag (lm hb F.size) (h1.keep F) g.1 v S V T va sk vk M af hs hv ai Oo Oo hV h6 (λE=> ?_) hok).mono λe W3 D=> ?_
 ·have hx:=a3n re X v;unfold oO at hx;rw[if_pos E]at hx;obtain⟨⟨k2,ac,ae⟩,ho,-⟩:=h5.snd.snd _ _ hx;rw[na,h6 _ v E]at ae;have:=B.hh.one _ _ _ hk ac;exact⟨by omega,λt ht=>ho t (lq _ ht),λt ht=>ho t (lu _ ht)⟩
 ·rw[<-hq]at D;obtain⟨b,rfl,k1,k2,-,k4,k5⟩:=o9.step h.o hc B h1 h2 h3 h4 h5 ah hg hn aa F D;exact⟨b,_,rfl,k2,k1.frozen _,k4,k5⟩
theorem a9k{S:Nat->Prop}{base:Nat}{a:Option Addr}{xs:List Ty}(y:Ch S w W)(d:w.ownsRow base 98 2 (V a l k) l (xs.flatMap B8))(B:xs.length=l)(v:∀k,S k->k<base):C0 W w.heap.size 2 B8 a xs:=by
 have h:=V7 (enc:=B8) (λ_=>rfl) (by rw[<-B]at d;exact d)
 exact y.rd (la _) h λp e D=>by
  have:=(d.lt p.block (by rw[e];rfl)).1;have:=v _ D;omega
theorem a5v{base:Nat}{a:Option Addr}{xs:List lo}(d:w.ownsRow base 98 2 (V a l k) l xs):∀p,a=O p->base<=p.block/\p.block<w.heap.size:=λp e=>d.lt p.block (by rw[e];rfl)
section
variable{w0 w:World}{jb lim wb:Nat}{L:List Cl}{p:Addr}{cap:Nat}{q:Nat->Qs}{C:ByteArray}{m:Me}{r:Qj}{base ob fb n:Nat}{re:Nat->Bool}{R:Rr}{X:Nat->List Ty}{f:List Bool}
theorem b7e(h:Hid (Jb w0 jb lim wb L p cap q C m r))(hc:Hid (N2 L m))(cw:Hid (w0.grownBy w N))(cy:w0.heap.size<=base)(hF:Hid (Fm w base ob n re R X))(hB:Hid (A4 w fb (f.map Value.bool).toArray 4))(e5:base<=fb)(hn:n=m.c.length)(d':f.length=n)(hX:Hid (∀b,b<n->re b=true->(X (2*b+1)).length=m.l))(a:Nat)(ha:a<n)(eg:re a=true)(hP:Hid (FlP L C m (P4 re X n) a (X (2*a+1)++X (2*a)))):
 lj prog 133 #[U (O (A jb 0 N)), V (O (A ob 0 N)) n n, V (O (A fb 0 N)) n n, J I a] w λe w'=>e= Y (.tuple #[])/\o9 base ob fb n m.l L C m (P4 re X n) f (X (2*a+1)++X (2*a)) R w w' (R4 L m a):=by
 have HJ:Hid (∀W,w.grownBy W N->Jb W jb lim wb L p cap q C m r):=λW F=>h.o.keep (A0 cw.o F)
 have ez:=h.o.codeN;have fc:=h.o.l;have hst:=h.o.s;have f5:=h.o.hdN;have aw:=(hF.o.rows (2*a) Oo)
 have av:=(hF.o.rows (2*a+1) Oo)
 have ei:=hX.o a ha eg;obtain⟨st,ax⟩:=Oe (X (2*a))
 obtain⟨D,ak⟩:=Oe (X (2*a+1))
 have v:Hid (D.length=m.l):=by unfold Hid;rw[ak];exact ei
 obtain⟨ta,tk,ct⟩:∃ta tk,R (2*a)=(ta,tk):=⟨_,_,rfl⟩
 obtain⟨va,vk,cu⟩:∃va vk,R (2*a+1)=(va,vk):=⟨_,_,rfl⟩
 obtain⟨hT,cc,bi⟩:=(hP.o.snd.snd a _ hP.o.t).1;have bv:=(hP.o.snd.snd a _ hP.o.t).2.1;rw[<-ak,<-ax]at hP bi bv⊢;have ar:=hP.o.hh.room a hT cc;have ex:=(l5 hc.o h.o.ins cc).2;rw[na,v.o]at bi;obtain⟨lt,b1⟩:=Oe st.length
 have ai:Hid (lt=st.length):=b1;have ec:lt=hT:=by omega
 have eh:D7 L m (A5 m a)<=lt:=by unfold N5 at ar;simp only[nr,decide_eq_true_eq]at ar;omega
 unfold rS at aw av;rw[ct,<-ax,<-b1]at aw;rw[cu,<-ak,v.o]at av;have dx:Hid (w.ownsRow base 98 2 (V ta lt tk) lt (st.flatMap B8)):=aw;have dy:Hid (w.ownsRow base 98 2 (V va m.l vk) m.l (D.flatMap B8)):=av
 have d5:Hid (∀W,w.grownBy W N->W.cell? (A ob (a*8+4) N)=O (V ta lt tk)/\W.cell? (A ob (a*8+5) N)=O (V va m.l vk)):=λW F=>by
  obtain⟨-,h4,h5⟩:=(hF.o.keep F).cs ha;unfold rS at h4 h5;rw[ct,<-ax,<-b1]at h4;rw[cu,<-ak,v.o]at h5;exact⟨h4,h5⟩
 have fy:Hid (G4 L st/\G4 L D):=⟨λt ht=>bv t (lq _ ht),λt ht=>bv t (lu _ ht)⟩
 have bw:a<m.c.length:=by omega
 obtain⟨pd,bj,y0,y1,y2,y3⟩:=(HJ.o w (C9 _ _)).ci bw;obtain⟨j0,-,-,-,-,j6,-,j8,j9⟩:=(HJ.o w (C9 _ _)).cs;rw[bj]at j8;have d8:(a:Int)<(m.c.length:Int):=by omega
 have fs:(a:Int)<(n:Int):=by omega
 have ad:=(HJ.o w (C9 _ _)).oki bw;have S:=hc.o.need a bw;have a5:Hid (∀W,w.grownBy W N->lj prog 184 #[U (O (A jb 0 N)),inV (A5 m a)] W λe w'=>e= Y (.tuple #[J I (D7 L m (A5 m a)), J I (I5 L (A5 m a))])/\W.grownBy w' N):=λW F=>a6H W jb lim wb L p cap q C m r (HJ.o W F) _
 obtain⟨i,hi⟩:=Oe (A5 m a)
 have HI:Hid (i=A5 m a):=hi;rw[<-hi]at a5 y0 y1 y2 y3 ad S eh;obtain⟨t,ht⟩:=Oe (D7 L m i)
 have cq:Hid (t=D7 L m i):=ht;rw[<-ht]at a5 eh;obtain⟨nn,fd⟩:=Oe (lt-t)
 have e4:IntKind.i64.wrap ((lt:Int)-(t:Int))=(nn:Int):=by rw[IntWalk.i64_in _ Oo];omega
 have fe:nn+t=lt:=by omega
 have ft:lt<=65535:=by omega
 have gd:n<=65535:=by omega
 have HN:Hid (n=m.c.length):=hn;obtain⟨PR,bu⟩:=Oe (U8 L i (D++st) (D.length+nn))
 have er:Hid (PR=U8 L i (D++st) (D.length+nn)):=bu;have d4:(st.drop nn).length=t:=by rw[List.length_drop,<-ai.o];omega
 have dq:i.o=2->0<=i.a/\i.a.toNat<D.length:=λe=>by
  unfold K8 at S;rw[if_pos (.inl e)]at S;have h1:=of_decide_eq_true S;have h2:=ad.2 Oo;rw[v.o];omega
 have bo:Hid (∀(W:lg) (T:Option Addr) (K li:Nat),w.grownBy W N->C0 W li 2 B8 T (st.drop nn)->lj prog 202 #[U (O (A jb 0 N)),inV i, V T t K, V va m.l vk] W λe w'=>∃b l,e= Y (V b PR.length l)/\C0 w' w'.heap.size 2 B8 b PR/\W.grownBy w' N):=λW T K li F hD=>by
  have hv:=(V7 (enc:=B8) (λ_=>rfl) (by have:=dy.o;rw[<-v.o]at this;exact this)).keep F;have:=b9N (HJ.o W F) i ad.1 D st nn T va K vk (li+w.heap.size) (a6o hD (Nat.le_add_right _ _)) (a6o hv (Nat.le_add_left _ _)) dq (by rw[<-cq.o,<-ai.o];exact fe.symm) Oo (by rw[v.o];exact fc);rw[d4,v.o,<-v.o,<-bu]at this;rw[<-v.o];exact this
 have fg:PR.length<=70000:=by rw[bu,b2K];exact((HJ.o w (C9 _ _)).rw_.counts_le m i ad.1).2
 have dp:Hid (i.o=3->0<=i.a/\i.a.toNat<m.l/\0<t):=λe=>by
  unfold K8 at S;rw[if_pos (.inr e)]at S;have h1:=of_decide_eq_true S;have h2:=ad.2 Oo;refine⟨h2,by omega,?_⟩;rw[cq.o];unfold D7 E5;rw[if_pos (.inl e)];exact Nat.one_pos
 obtain⟨op,ia,cls,B⟩:=i;dsimp only at y0 y1 y2 y3 ad;have eq:Hid (R7 ⟨op,ia,cls,B⟩):=ad;unfold inV at a5 bo;dsimp only at a5 bo dp;have f6:jb<w.heap.size:=ls w _ j0;have cf:Hid (w.grownBy (w.alloc (H #[J I op, J I ia, Z cls, Z B] 120)) N):=A2 _ _ _;have az:=A4.new w #[J I op, J I ia, Z cls, Z B] 120;have e7:w.heap.size<(w.alloc (H #[J I op, J I ia, Z cls, Z B] 120)).heap.size:=by simp
 have cr:Hid (Jb w0 jb lim wb L p cap q C m r):=h;have bn:Hid (∀wc W,w.grownBy wc N->Ch (λk=>E8 ob n R k\/k=fb) wc W->w0.grownBy W N/\base<=W.heap.size):=λwc W ek F=>⟨Ch.low (A0 cw.o ek) F (λk hk=>lm cy (hk.elim (λe=>(hF.o.sLow e).1) (λe=>by rw[e];exact e5))),lm (lm (lm hF.o.low (uo hF.o.lt)) ek.size) F.size⟩
 generalize hpl':PR.length=pl at bo fg;have dw:Hid (PR.length=pl):=hpl';clear hpl' d4 dq bu fd ec ex hn ez ar bi bv aw av ax ak ct cu b1 hi ht ei eg h cw;go_enter func133,ntmps133;go_upto_region 1 with fail
 generalize w.alloc (H #[J I op, J I ia, Z cls, Z B] 120)=W1 at cf az e7⊢;have cd:Hid (∀W,W1.grownBy W N->W.cell? (A w.heap.size 0 N)=O (J I op)/\W.cell? (A w.heap.size 1 N)=O (J I ia)/\W.cell? (A w.heap.size 2 N)=O (Z cls)/\W.cell? (A w.heap.size 3 N)=O (Z B)):=λW F=>⟨(az.keep F Os).cell 0 _ rfl,(az.keep F Os).cell 1 _ rfl,(az.keep F Os).cell 2 _ rfl,(az.keep F Os).cell 3 _ rfl⟩
 obtain⟨c0,c1,c2,c3⟩:=cd.o _ (C9 _ _);clear y0 y1 y2 y3 j0 j6 j8 j9 az bj;go_upto_region 2 with(go_at_call 184;refine(a5.o _ cf.o).mono ?_;rintro e w2 ⟨rfl,am⟩)
 have aa:Hid (w.grownBy w2 N):=A0 cf.o am;obtain⟨y4,y5⟩:=d5.o _ aa.o;clear c0 c1 c2 c3;go_upto_region 4 with fail
 have bs:Hid (C0 w2 w2.heap.size 2 B8 ta st):=V7 (λ_=>rfl) (by have:=a1P dx.o aa.o;rw[ai.o]at this;exact this)
 have cv:lt<=tk:=by
  rcases dx.o.2 with⟨e1,e2⟩|⟨g,c,fz,e1,-,-,h5,-⟩
  ·omega
  ·injection e1 with _ _ e3;omega
 have fj:=λW=>c2L W ta lt tk nn Oo
 have hst:=λW=>b3X W ta lt tk nn Oo cv
 rw[show lt-nn=t by omega]at hst;have d9:C0 w2 w2.heap.size 2 B8 (tlA ta nn tk) (st.drop nn):=b4s bs.o (by rw[<-ai.o];exact cv);have ce:Hid (C0 w2 w2.heap.size 2 B8 (tlA ta nn tk) (st.drop nn)):=d9;clear d9;generalize tlA ta nn tk=tl at hst ce;have ej:w.heap.size<=w2.heap.size:=aa.o.size;go_cut [12]from 22 (λs W=>∃a2 k2,s= V a2 nn k2/\W.ownsRow w2.heap.size 98 2 (V a2 nn k2) nn ((st.take nn).flatMap B8)/\w2.grownBy W N)
 case first=>
  have ev:=c1v bs.o nn;have eu:Hid (nn=(st.take nn).length):=by unfold Hid;rw[nk,<-ai.o];omega
  go_wp2_with (at_builtin;go_loud (refine a5z rfl _ _ rfl w2.heap.size N 0 0 [] rfl (nt _ _ _ _) ta nn _ w2.heap.size (st.take nn) rfl eu.o ev Oo (la _) ?_;intro a2 k2 w3 a1 af f7;simp only[nu,uj]at a1))
  go_meet
  exact⟨a2,k2,rfl,a1,af⟩
 obtain⟨a2,k2,rfl,a1,af⟩:=hcut;have du:Hid (wc.ownsRow w2.heap.size 98 2 (V a2 nn k2) nn ((st.take nn).flatMap B8)):=a1;have dh:Hid (w.grownBy wc N):=A0 aa.o af
 have bb:Hid (∀W,w2.grownBy W N->W.cell? (A w.heap.size 0 N)=O (J I op)/\W.cell? (A w.heap.size 1 N)=O (J I ia)/\W.cell? (A w.heap.size 2 N)=O (Z cls)/\W.cell? (A w.heap.size 3 N)=O (Z B)/\W.cell? (A ob (a*8+4) N)=O (V ta lt tk)/\W.cell? (A ob (a*8+5) N)=O (V va m.l vk)):=λW F=>by
  obtain⟨h0,h1,h2,h3⟩:=cd.o W (A0 am F);exact⟨h0,h1,h2,h3,d5.o W (A0 aa.o F)⟩
 have fn:w2.heap.size<=wc.heap.size:=af.size;have el:∀g,(Value.slice a2 nn k2).ownBlock=O g->w2.heap.size<=g:=λg e=>(a1.lt g e).1
 clear a1 y4 y5 fj;go_upto_region 5 with fail
 go_cut [12]from 22 (λs W=>∃a4 k4,s= V a4 (nn+pl) k4/\W.ownsRow w2.heap.size 98 2 (V a4 (nn+pl) k4) (nn+pl) ((st.take nn++PR).flatMap B8)/\w2.grownBy W N)
 case first=>
  refine T6 bb af (λM=> ?_);refine A3 0 ?_;refine A3 1 ?_;refine A3 2 ?_;refine A3 3 ?_;refine A3 4 ?_;refine A3 5 ?_;refine A3 6 ?_;refine A3 7 ?_;refine A3 8 ?_;refine A3 9 ?_;refine A3 10 ?_;refine A3 11 ?_;refine A3 12 ?_;refine A3 13 ?_;refine A3 14 ?_;refine F3 15 λK' hK=> ?_
  go_simp
  go_wp2_with (go_at_call 202;refine(bo.o _ _ _ w2.heap.size (A0 dh.o (A7 _ _)) (ce.o.keep (A0 af (A7 _ _)))).mono ?_;rintro e w5 ⟨pb,pk,rfl,b3,E⟩)
  refine hK.o _ _ (bb.o _ (A0 af (A0 (A7 _ _) E))) (λM=> ?_);clear hK;refine F3 16 λK' hK=> ?_
  refine c2y rfl _ _ rfl w2.heap.size a2 nn k2 (st.take nn) rfl (a1P du.o (A0 (A7 _ _) E)) pb pl pk w5.heap.size PR rfl dw.o.symm b3 Oo (by have:=E.size;simp at this;omega) λa4 k4 w6 aq ag=> ?_
  have ac:w2.grownBy w6 N:=C6 (A0 af (A0 (A7 _ _) E)) ag (λg e=> .inl (el g e));refine hK.o _ _ (bb.o _ ac) (λM=> ?_);clear hK;refine A3 17 ?_;refine ng Ok0 ?_ _;go_wp2_with fail
  go_meet
  exact⟨a4,k4,rfl,aq,ac⟩
 obtain⟨a4,k4,rfl,ef,E⟩:=hcut;have cn:Hid (wc.ownsRow w2.heap.size 98 2 (V a4 (nn+pl) k4) (nn+pl) ((st.take nn++PR).flatMap B8)):=ef;have cg:Hid (w2.grownBy wc N):=E;obtain⟨c0,c1,c2,c3,y4,y5⟩:=bb.o _ E;have d6:=(V7 (enc:=B8) (λ_=>rfl) (by have:=dy.o;rw[<-v.o]at this;exact this)).keep (A0 aa.o E);clear ef af fn el du dh;go_upto_region 7 with(at_builtin;go_loud (refine a5z rfl _ _ rfl wc.heap.size N 0 0 [] rfl (nt _ _ _ _) va m.l vk w.heap.size D rfl v.o.symm d6 Oo (la _) ?_;intro a6 k6 w6 aq ag f8;simp only[nu,uj]at aq))
 have aj:w2.grownBy w6 N:=A0 E ag;have dz:=V7 (enc:=B8) (λ_=>rfl) (by rw[<-v.o]at aq;exact aq);have co:Hid (w6.ownsRow wc.heap.size 98 2 (V a6 m.l k6) m.l (D.flatMap B8)):=aq;go_upto_region 8 with(at_builtin;go_loud (refine a5z rfl _ _ rfl w6.heap.size N 0 0 [] rfl (nt _ _ _ _) a6 m.l k6 w6.heap.size D rfl v.o.symm dz Oo (la _) ?_;intro a7 k7 w7 da ac f9;simp only[nu,uj]at da))
 have cp:Hid (w7.ownsRow w6.heap.size 98 2 (V a7 m.l k7) m.l (D.flatMap B8)):=da;have di:Hid (w6.grownBy w7 N):=ac;have be:w2.grownBy w7 N:=A0 aj ac;clear c0 c1 c2 c3 y4 y5 d6 dz aq da;obtain⟨c0,c1,c2,c3,y4,y5⟩:=bb.o _ be;obtain⟨VV,d7⟩:=Oe (if op=3 then D.set ia.toNat (st.getD nn A8)else D)
 have br:Hid (VV=if op=3 then D.set ia.toNat (st.getD nn A8)else D):=d7;clear d7;go_upto_if 80 with fail
 go_cut []from 22 (λW=>W.ownsRow w6.heap.size 98 2 (V a7 m.l k7) m.l (VV.flatMap B8)/\w6.grownBy W N)
 case first=>
  by_cases h3:op=3
  ·have d3:((op:Int)==3)=true:=by rw[h3];rfl
   obtain⟨q1,q2,q3⟩:=dp.o h3;obtain⟨an,rfl⟩:∃an:Nat,ia=an:=⟨ia.toNat,by omega⟩
   rw[Int.toNat_natCast]at q2;have bc:Hid (VV=D.set an (st.getD nn A8)):=by unfold Hid;rw[br.o,if_pos h3];rfl
   have ee:nn<st.length:=by rw[<-ai.o];omega
   obtain⟨sp,rfl,gf,db⟩:=(bs.o.keep be) nn ee;have n0:w7.cell? (sp.add (nn*2))=O (J I st[nn].k):=db 0 _ rfl;have n1:w7.cell? (A ((sp.add (nn*2)).block) ((sp.add (nn*2)).off+1) N)=O (Z st[nn].n):=by rw[C2 sp (nn*2) 0];exact db 1 _ rfl
   have e9:st.getD nn A8=st[nn]:=by rw[lb,lk ee];rfl
   rw[e9]at bc;obtain⟨vb,rfl,fm,fw,o0,o1,oz⟩:=a7w cp.o v.o.symm q2;have z0:=oz (an*2);have z1:=oz (an*2+1);have ey:(an:Int)<(m.l:Int):=by omega
   have fu:(nn:Int)<(lt:Int):=by omega
   have dv:Hid (((w7.setCell (A vb (an*2) N) (J I st[nn].k)).setCell (A vb (an*2+1) N) (Z st[nn].n)).ownsRow w6.heap.size 98 2 (V (O (A vb 0 N)) m.l k7) m.l ((D.set an st[nn]).flatMap B8)):=by
    rw[<-a7u];exact a3S (a3S cp.o _ _) _ _
   have dm:Hid (w6.grownBy ((w7.setCell (A vb (an*2) N) (J I st[nn].k)).setCell (A vb (an*2+1) N) (Z st[nn].n)) N):=a0l di.o fm;generalize st[nn]=x at n0 n1 bc dv dm;clear db e9 h3 oz;go_wp2_with fail
   go_region
   go_wp2_with fail
   go_meet
   exact⟨by rw[bc.o];exact a1P dv.o (A7 _ _),A0 dm.o (A7 _ _)⟩
  ·have d3:((op:Int)==3)=false:=beq_eq_false_iff_ne.2 Oo;have bc:Hid (VV=D):=by unfold Hid;rw[br.o,if_neg h3]
   go_wp2_with fail
   go_meet
   exact⟨by rw[bc.o];exact cp.o,di.o⟩
 obtain⟨b2,a0⟩:=hcut;have bg:w2.grownBy wc N:=A0 aj a0;have ah:Hid (w.grownBy wc N):=A0 aa.o bg;have bd:Hid (VV.length=m.l):=by unfold Hid;rw[br.o];split<;>simp[v.o]
 have d0:Hid ((st.take nn++PR).length=nn+pl):=by unfold Hid;rw[na,nk,dw.o,<-ai.o];omega
 have em:Hid (X9 L m ⟨op,ia,cls,B⟩ (D++st)=VV++(st.take nn++PR)):=by
  have e1:(D++st).length-D7 L m ⟨op,ia,cls,B⟩=D.length+nn:=by rw[<-cq.o,na,<-ai.o];omega
  have e2:(D++st).getD (D.length+nn) A8=st.getD nn A8:=by rw[lb,uq Oo,nd,lb]
  unfold Hid X9;rw[e1,e2,<-er.o,<-v.o,ur,br.o,List.take_append,nl (show D.length<=D.length+nn by omega),nd,List.drop_left]
 have eo:Hid (∀d,hdF m d (D++st)=D++ [C5 d.c]):=λd=>by unfold hdF;rw[<-v.o,ur]
 have bq:Hid (∀W,Ch (λk=>E8 ob n R k\/k=fb) wc W->C0 W wc.heap.size 2 B8 a4 (st.take nn++PR)/\C0 W wc.heap.size 2 B8 a6 D/\C0 W wc.heap.size 2 B8 a7 VV/\W.cell? (A w.heap.size 0 N)=O (J I op)/\W.cell? (A w.heap.size 1 N)=O (J I ia)/\W.cell? (A w.heap.size 2 N)=O (Z cls)/\W.cell? (A w.heap.size 3 N)=O (Z B)/\Jb W jb lim wb L p cap q C m r):=λW F=>by
  have hS:=λk (hk:E8 ob n R k\/k=fb)=>show k<w.heap.size from hk.elim (λe=>(hF.o.sLow e).2) (λe=>by rw[e];exact hB.o.lt)
  have dd:w.heap.size<=w6.heap.size:=(A0 aa.o aj).size;have dc:=(A0 aa.o E).size;have au:¬(E8 ob n R w.heap.size\/w.heap.size=fb):=λe=>Nat.lt_irrefl _ (hS _ e)
  obtain⟨q0,q1,q2,q3⟩:=cd.o _ (A0 am bg);exact⟨a9k F (a1P cn.o (A0 ag a0)) d0.o (λk hk=>lh (hS k hk) ej),a9k F (a1P co.o a0) v.o (λk hk=>lh (hS k hk) dc),a9k F b2 bd.o (λk hk=>lh (hS k hk) dd),F.cell q0 au,F.cell q1 au,F.cell q2 au,F.cell q3 au,cr.o.keep (bn.o _ W ah.o F).1⟩
 have dt:Hid (∀R',(∀k,E8 ob n R' k->E8 ob n R k\/wc.heap.size<=k)->(∀p,a4=O p->¬E8 ob n R' p.block)/\(∀p,a6=O p->¬E8 ob n R' p.block)/\∀p,a7=O p->¬E8 ob n R' p.block):=λR' ew=>by
  have df:∀b,w.heap.size<=b->b<wc.heap.size->¬E8 ob n R' b:=λb h1 h2 hf=>by
   rcases ew b hf with e|e
   ·have:=(hF.o.sLow e).2;omega
   ·omega
  have dd:w.heap.size<=w6.heap.size:=(A0 aa.o aj).size;have dc:=(A0 aa.o E).size;exact⟨λp e=>df _ (lm ej (a5v cn.o p e).1) (lh (a5v cn.o p e).2 (A0 ag a0).size),λp e=>df _ (lm dc (a5v co.o p e).1) (lh (a5v co.o p e).2 a0.size),λp e=>df _ (lm dd (a5v b2 p e).1) (a5v b2 p e).2⟩
 have ay:Hid (o9 base ob fb n m.l L C m (P4 re X n) f (D++st) R wc wc (hQ m a 0)):=⟨re,R,X,f,hF.o.keep ah.o,A4.grow hB.o ah.o,Ch.refl _ _,λ_ h=> .inl h,FlO.start hP.o.snd _ _,hX.o⟩
 have ep:Hid (Jb wc jb lim wb L p cap q C m r):=HJ.o _ ah.o;clear c0 c1 c2 c3 y4 y5 b2 a0 bg be aj E am ag ac bs ce cv;go_wp2_with fail
 go_loopw [15] (λc W=>∃k:Nat,c= J I k/\k<=m.h.length/\Hid (o9 base ob fb n m.l L C m (P4 re X n) f (D++st) R wc W (hQ m a k))) (λc _=>m.h.length-(lf c).toNat)
 case atStart=>exact⟨0,rfl,le _,ay.o⟩
 case round=>
  clear ay;obtain⟨k,rfl,hk,hM⟩:=hrel;obtain⟨b5,R',X',f',h1,h2,h3,h4,h5,h6⟩:=hM.o;have ab:Hid (Fm wr base ob n b5 R' X'/\A4 wr fb (f'.map Value.bool).toArray 4/\Ch (λk=>E8 ob n R k\/k=fb) wc wr/\(∀k,E8 ob n R' k->E8 ob n R k\/wc.heap.size<=k)/\FlO L C m (P4 re X n) f (D++st) (hQ m a k) (P4 b5 X' n) f'/\∀b,b<n->b5 b=true->(X' (2*b+1)).length=m.l):=⟨h1,h2,h3,h4,h5,h6⟩
  clear h1 h2 h3 h4 h5 h6;obtain⟨-,-,-,-,-,-,-,bt⟩:=bq.o _ ab.o.2.2.1;obtain⟨j0,-,-,-,-,-,-,j8,j9⟩:=bt.cs;have b':jb<wr.heap.size:=ls wr _ j0;by_cases hkl:k<m.h.length
  ·have e':(k:Int)<(m.h.length:Int):=by omega
   obtain⟨pd,bj,y0,y1,y2,y3⟩:=bt.ch hkl;rw[bj]at j9;have dg:Hid (m.h[k]∈m.h):=lv hkl;have bp:Hid (G0 m.h[k] a=true->hQ m a (k+1)=hQ m a k++ [(m.h[k].t,hdF m m.h[k])]):=c3m hkl;have al:Hid (G0 m.h[k] a=false->hQ m a (k+1)=hQ m a k):=c3P hkl;have ba:Hid (∀q∈hQ m a (k+1),q∈R4 L m a):=b4w _;generalize m.h[k]=d at y0 y1 y2 y3 dg bp al;have bl:Hid (∀W,lj prog 185 #[Q #[J I d.f, J I d.to, J I d.t, Z d.c], J I a] W λe w'=>e= Y (G (G0 d a))/\W.grownBy w' N):=λW=>a6G W d a
   have f4:d.t<n:=by rw[HN.o];exact(hc.o.hds d dg.o).2.2.1
   clear bt bj;have bz:=A4.new wr #[J I d.f, J I d.to, J I d.t, Z d.c] 202;have ap:=A2 wr (H #[J I d.f, J I d.to, J I d.t, Z d.c] 202) N;cases hcv:G0 d a with
   |false=>
    have ae:Hid (hQ m a (k+1)=hQ m a k):=al.o hcv;rw[hcv]at bl;clear hcv al bp;go_wp2_with (go_at_call 185;refine(bl.o _).mono ?_;rintro e w4 ⟨rfl,ao⟩;have E:=A0 ap ao;obtain⟨f1,f3⟩:=S0 E;have gj:=E.size)
    go_roundw
    case rel=>exact⟨k+1,by first|rfl|go_num,by omega,by unfold Hid;rw[ae.o];exact hM.o.keep E⟩
    case measure=>exact a0s
   |true=>
    have ae:Hid (hQ m a (k+1)=hQ m a k++ [(d.t,hdF m d)]):=bp.o hcv;rw[hcv]at bl;clear hcv al bp;go_upto_region 16 with(go_at_call 185;refine(bl.o _).mono ?_;rintro e w4 ⟨rfl,ao⟩;have E:=A0 ap ao)
    have gh:wr.heap.size<w4.heap.size:=lh bz.lt ao.size;have bk:Hid (∀W,w4.grownBy W N->W.cell? (A wr.heap.size 2 N)=O (J I d.t)/\W.cell? (A wr.heap.size 3 N)=O (Z d.c)):=λW F=>⟨(bz.keep (A0 ao F) Os).cell 2 _ rfl,(bz.keep (A0 ao F) Os).cell 3 _ rfl⟩
    have cg:Hid (wr.grownBy w4 N):=E
    have a':Hid (∀(W2:lg) (sa:Option Addr) (sk:Nat),wr.grownBy W2 N->C0 W2 W2.heap.size 2 B8 sa [C5 d.c]->(∀p,sa=O p->wr.heap.size<=p.block)->lj prog 132 #[U (O (A jb 0 N)), U (O (A ob (d.t*8) N)), V sa 1 sk, V a6 m.l k6] W2 (StO base ob fb n m.l L C m (P4 re X n) f (D++st) R R' wc W2 (hQ m a (k+1)) d.t)):=λW2 sa sk F hs fi=>by
     obtain⟨h1,h2,h3,h4,h5,h6⟩:=ab.o;have hv:=(bq.o _ h3).2.1
     have:=b2k cr.o hc.o hP.o h1 h2 h3 h4 h5 h6 (λq hq=>ba.o q (by rw[ae.o];exact lu _ hq)) (g:=(d.t,hdF m d)) (ba.o _ (by rw[ae.o];simp)) HN.o d' F (bn.o _ _ ah.o h3).1 cy (bn.o _ _ ah.o h3).2 (eo.o d) v.o (sk:=sk) (vk:=k6) (la _) hs (a6o (hv.keep F) (lm h3.size F.size)) ⟨λp e hf=>by
      exact absurd (h1.sLow hf).2 (Nat.not_lt.2 (fi p e)),(dt.o R' h4).2.1⟩
     rw[v.o,<-ae.o]at this;exact this
    have ed:¬E8 ob n R' wr.heap.size:=λhf=>by have:=(ab.o.1.sLow hf).2;omega
    have d8:(d.t:Int)<(n:Int):=by omega
    clear bz ap ao E y0 y1 y2 y3 j0 j8 j9 b';refine T6 bk (C9 _ _) (λM=> ?_);refine A3 0 ?_;refine A3 1 ?_;refine A3 2 ?_;refine A3 3 ?_;refine A3 4 ?_;refine A3 5 ?_;refine A3 6 ?_;refine A3 9 ?_;refine F3 7 λK' hK=> ?_
    go_simp
    go_wp2_with (go_at_call 131;refine(a2N _ _).mono ?_;rintro e w5 ⟨rfl,ag⟩)
    have ac:=A0 (A7 w4 N) ag;refine hK.o _ _ (bk.o _ ac) (λM=> ?_);clear hK;refine F3 8 λK' hK=> ?_
    go_simp
    have bx:=A4.new w5 #[J I 2, Z d.c] 98;have bf:=A0 ac (A2 w5 (H #[J I 2, Z d.c] 98) N);refine hK.o _ _ (bk.o _ bf) (λM=> ?_);clear hK;have de:wr.heap.size<=w5.heap.size:=(A0 cg.o ac).size;generalize w5.alloc (H #[J I 2, Z d.c] 98)=w8 at bx bf M⊢;generalize w5.heap.size=g8 at bx de⊢;refine F3 10 λK' hK=> ?_
    go_simp
    go_wp2_with (go_at_call 132;refine(a'.o _ _ _ (A0 cg.o bf) (b4a (t:=C5 d.c) bx) (λp e=>by cases e;exact de)).mono ?_;rintro e w9 ⟨b,fv,rfl,k1,k2,k3,k4⟩)
    obtain⟨x2,x3⟩:=bk.o _ bf;have fp:=k3.cell x2 ed;have fq:=k3.cell x3 ed;refine hK.o _ _ ⟨fp,fq⟩ (λM=> ?_);clear hK;refine A3 11 ?_;refine ng Ok0 ?_ _;have e0:fb<w9.heap.size:=ls w9 _ k1;have ay:Hid (o9 base ob fb n m.l L C m (P4 re X n) f (D++st) R wc (w9.setCell (A fb d.t N) (G (fv||b))) (hQ m a (k+1))):=k4;clear x2 x3 M k3 k4 bx bf ag ac de;cases fv<;>cases b
    all_goals(
     go_wp2_with fail
     go_region
     have cm:=ay.o.keep (A7 _ N);go_wp2_with fail
     refine⟨⟨k+1,by first|rfl|go_num,by omega,cm⟩,?_⟩;first|omega|(go_num;omega)|(simp[lf];omega))
  ·have e':¬(k:Int)<(m.h.length:Int):=by omega
   have eb:k=m.h.length:=by omega
   obtain⟨-,-,-,c0,c1,c2,c3,-⟩:=bq.o _ ab.o.2.2.1;have bm:Hid (∀W,lj prog 203 #[Q #[J I op, J I ia, Z cls, Z B], J I a] W λe w'=>∃ga gk,e= Y (V ga (E6 ⟨op,ia,cls,B⟩ a).length gk)/\C0 w' w'.heap.size 1 P7 ga (E6 ⟨op,ia,cls,B⟩ a)/\W.grownBy w' N/\∀p,ga=O p->W.heap.size<=p.block):=λW=>b1S W ⟨op,ia,cls,B⟩ eq.o a Oo
   have al:Hid (hQ m a k=gQ L m a 0):=by unfold Hid;rw[c2g,eb]
   have am:=a8V ⟨op,ia,cls,B⟩ a;have dj:Hid (∀x∈E6 ⟨op,ia,cls,B⟩ a,x<n):=λx hx=>by rw[HN.o];exact a9u hc.o ep.o.ins bw x (by rw[<-HI.o];exact hx)
   obtain⟨gs,b0⟩:=Oe (E6 ⟨op,ia,cls,B⟩ a)
   have et:Hid (∀x (hx:x<gs.length),gQ L m a (x+1)=gQ L m a x++ [(gs[x],X9 L m ⟨op,ia,cls,B⟩)]):=by
    rw[b0,HI.o];exact λx hx=>c2h hx
   have es:Hid (gQ L m a gs.length=R4 L m a):=by rw[b0,HI.o];exact c3n L m a
   have ba:Hid (∀x,∀q∈gQ L m a x,q∈R4 L m a):=λx=>c3S x
   rw[<-b0]at bm am dj;obtain⟨gn,cx⟩:=Oe gs.length
   have dk:Hid (gn=gs.length):=cx;rw[<-cx]at bm am;clear b0 cx eb bt;go_wp2_with (go_at_call 203;refine(bm.o _).mono ?_;rintro e wg ⟨ga,gk,rfl,ea,bh,ap⟩)
   have dl:Hid (C0 wg wg.heap.size 1 P7 ga gs):=ea;have en:Hid (wr.grownBy wg N):=bh;have cj:Hid (∀p,ga=O p->¬E8 ob n R' p.block/\p.block≠fb):=λp e=>⟨λhf=>absurd (ab.o.1.sLow hf).2 (Nat.not_lt.2 (ap p e)),λe2=>by have:=ab.o.2.1.lt;have:=ap p e;omega⟩
   have dr:Hid (o9 base ob fb n m.l L C m (P4 re X n) f (D++st) R' wg wg (gQ L m a 0)):=by
    obtain⟨h1,h2,h3,h4,h5,h6⟩:=ab.o;exact⟨b5,R',X',f',h1.keep bh,A4.grow h2 bh,Ch.refl _ _,λ_ h=> .inl h,by rw[<-al.o];exact h5,h6⟩
   have a3:Hid (∀W,Ch (λk=>E8 ob n R' k\/k=fb) wg W->Ch (λk=>E8 ob n R k\/k=fb) wc W):=λW F=>by
    obtain⟨h1,h2,h3,h4,h5,h6⟩:=ab.o;refine(h3.tn bh).trans F λk hk=> ?_
    rcases hk with hk|hk
    ·exact(h4 k hk).imp .inl id
    ·exact .inl (.inr hk)
   clear c0 c1 c2 c3 ea bh ap hM al j0 j8 j9 b' bm;go_wp2_with fail
   go_loopw [20] (λc W=>∃x:Nat,c= J I x/\x<=gn/\Hid (o9 base ob fb n m.l L C m (P4 re X n) f (D++st) R' wg W (gQ L m a x))) (λc _=>gn-(lf c).toNat)
   case atStart=>exact⟨0,rfl,le _,dr.o⟩
   case round=>
    clear dr;obtain⟨x,rfl,hx,hM⟩:=hrel;by_cases hxl:x<gn
    ·have fo:(x:Int)<(gn:Int):=by omega
     have b4:x<gs.length:=by rw[<-dk.o];exact hxl
     obtain⟨gp,R2,X2,f2,h1,h2,h3,h4,h5,h6⟩:=hM.o;obtain⟨r1,-,r3,-,-,-,-,-⟩:=bq.o _ (a3.o _ h3);have cz:=bn.o _ _ ah.o (a3.o _ h3)
     have c':=dt.o R2 (λk hk=>by
      rcases h4 k hk with e|e
      ·exact ab.o.2.2.2.1 k e
      ·exact .inr (by have:=ab.o.2.2.1.size;have:=en.o.size;omega))
     obtain⟨pg,rfl,ge,ff⟩:=dl.o x b4;have b3:=h3.rd (la _) dl.o (λp e=>by rintro(hf|hf);exact(cj.o p e).1 hf;exact(cj.o p e).2 hf);obtain⟨gm,e2,-,cb⟩:=b3 x b4;injection e2 with e2
     subst e2;have v0:wr.cell? (pg.add x)=O (J I gs[x]):=by have:=cb 0 _ rfl;rwa[ue,uf]at this
     have fh:¬E8 ob n R2 (pg.add x).block:=by
      rw[show(pg.add x).block=pg.block from by unfold Addr.add;split<;>rfl];intro hf;rcases h4 _ hf with e|e
      ·exact(cj.o pg rfl).1 e
      ·omega
     have e6:=dj.o gs[x] (lv b4);have ae:Hid (gQ L m a (x+1)=gQ L m a x++ [(gs[x],X9 L m ⟨op,ia,cls,B⟩)]):=et.o x b4
     have a':Hid (lj prog 132 #[U (O (A jb 0 N)), U (O ⟨ob,gs[x]*8,N⟩), V a4 (nn+pl) k4, V a7 m.l k7] wr (StO base ob fb n m.l L C m (P4 re X n) f (D++st) R' R2 wg wr (gQ L m a (x+1)) gs[x])):=by
      have:=b2k cr.o hc.o hP.o h1 h2 h3 h4 h5 h6 (ba.o x) (g:=(gs[x],X9 L m ⟨op,ia,cls,B⟩)) (ba.o (x+1) _ (by rw[ae.o];simp)) HN.o d' (C9 _ _) cz.1 cy cz.2 em.o bd.o (sk:=k4) (vk:=k7) (la _) (a6o r1 (a3.o _ h3).size) (a6o r3 (a3.o _ h3).size) ⟨c'.1,c'.2.2⟩;rw[bd.o,d0.o,<-ae.o]at this;exact this
     clear h1 h2 h3 h4 h5 h6 r1 r3 cz c' b3 ff cb hM;generalize gs[x]=y at v0 e6 a' ae;have gi:(y:Int)<(n:Int):=by omega
     go_upto_region 23 with(go_at_call 132;refine a'.o.mono ?_;rintro e w9 ⟨b,fv,rfl,k1,k2,k3,k4⟩)
     have v1:=k3.cell v0 fh;have e0:fb<w9.heap.size:=ls w9 _ k1;have ay:Hid (o9 base ob fb n m.l L C m (P4 re X n) f (D++st) R' wg (w9.setCell (A fb y N) (G (fv||b))) (gQ L m a (x+1))):=k4;clear k3 k4 v0 a';cases fv<;>cases b
     all_goals(
      go_region
      have cm:=ay.o.keep (A7 _ N);go_wp2_with fail
      refine⟨⟨x+1,by first|rfl|go_num,by omega,cm⟩,?_⟩;first|omega|(go_num;omega)|(simp[lf];omega))
    ·have fo:¬(x:Int)<(gn:Int):=by omega
     have HE:Hid (o9 base ob fb n m.l L C m (P4 re X n) f (D++st) R w wr (R4 L m a)):=by
      have h1:=hM.o;rw[show x=gs.length by rw[<-dk.o];omega,es.o]at h1;exact(h1.chain (a3.o _ (Ch.refl _ _)) ab.o.2.2.2.1).base ah.o
     go_wp2_with fail
     go_end0;exact⟨rfl,HE.o⟩
end
variable {L:List Cl}{m:Me}
theorem b7F(h:C1 L)(T:Z1 L){c:ByteArray}(P:N2 L m)(hi:∀i∈m.c,R7 i){o0 o:V2}{f0 f:List Bool}{s0:List Ty}{k:Nat}(y:a0q L c m o0)(S:o0[k]? =O (O s0))(v:FlO L c m o0 (f0.set k false) s0 (R4 L m k) o f)(D:∀a,a7C L m o0 f0 a)(a:Nat):a7C L m o f a:=λs d B q E=>by
 obtain⟨F,M⟩:=v.fr a B;by_cases e:k=a
 ·subst e;rw[M,S]at d;injection d with d;injection d with d
  subst d;exact v.dn q E
 ·rw[lr,if_neg e]at F;rw[M]at d;exact b1M h y v.snd v.up (h.out_ok T P (b4v P hi y d) (y.snd a s d).2.1 E) (D a s d F q E)
def TyS(w W:lg)(ob fb n:Nat)(L:List Cl)(c:ByteArray)(m:Me)(k:Nat)(b:Bool)(K:Nat):Prop:=
 ∃re R X f,Fm W w.heap.size ob n re R X/\A4 W fb (f.map Value.bool).toArray 4/\w.grownBy W N/\(∀a,a<n->re a=true->(X (2*a+1)).length=m.l)/\a0q L c m (P4 re X n)/\f.length=n/\(∀a,a7C L m (P4 re X n) f a)/\(∀a:Nat,f[a]? =O true->∃s,(P4 re X n)[a]? =O (O s))/\(b=false->∀a,a<k->f[a]? =O false)/\2*a5F L m (P4 re X n)+a2a f+b.toNat<=K
def TpA(w:lg)(L:List Cl)(c:ByteArray)(m:Me)(n:Nat)(e:Ending)(w':lg):Prop:=
 ∃ob re R X,e= Y (V (O (A ob 0 N)) n n)/\Fm w' w.heap.size ob n re R X/\w.grownBy w' N/\(∀a,a<n->re a=true->(X (2*a+1)).length=m.l)/\a2O L c m (λa=>(((P4 re X n)[a]?).getD N).getD [])/\∀a,a<n->(re a=false↔∀h,¬Cf.G2 L m a h)
variable {W w:World}{K fb n ob:Nat}
theorem TyS.begin{c:ByteArray}(h:TyS w W ob fb n L c m n true K):TyS w W ob fb n L c m 0 false (K-1)/\0<K:=by
 obtain⟨re,R,X,f,e,v,y,B,D,E,F,M,-,d⟩:=h;simp only[nm]at d;exact⟨⟨re,R,X,f,e,v,y,B,D,E,F,M,λ_ a ha=>absurd ha (lp a),by simp only[us];omega⟩,by omega⟩
theorem TyS.ans{jb lim wb:Nat}{p:Addr}{cap:Nat}{q:Nat->Qs}{C:ByteArray}{r:Qj}(d:Jb w jb lim wb L p cap q C m r)(M:N2 L m)(hh:l4 L m)(e:n=m.c.length)(h:TyS w W ob fb n L C m n false K):TpA w L C m n (Y (V (O (A ob 0 N)) n n)) W:=by
 obtain⟨re,R,X,f,v,T,y,B,D,h6,E,h8,F,-⟩:=h;obtain⟨P,S⟩:=d.rw_.wld.typing_of M d.ins hh D (λa ha=>⟨E a,F rfl a (by rw[e];exact ha)⟩);refine⟨ob,re,R,X,rfl,v,y,B,P,λa ha=> ?_⟩;rw[<-S a (by rw[<-e];exact ha),a3n _ _ ha];unfold oO;cases re a<;>simp
theorem b1T(t:Ty):∀(n i:Nat),i<n*2->((ll n t).flatMap B8)[i]? =(B8 t)[i % 2]?
 |0,i,h=>by omega
 |n+1,i,h=>by
  rw[List.replicate_succ,List.flatMap_cons];by_cases h2:i<2
  ·rw[List.getElem?_append_left (by simpa[B8]using h2),Nat.mod_eq_of_lt h2]
  ·rw[uq (by simp[B8];omega),show(B8 t).length=2 from rfl,b1T t n (i-2) Oo];congr 1;omega
theorem b3K(z:Array lo)(n i:Nat)(h:i<n):(ly z n)[i]? =O (z[i % z.size]!):=by simp[ly,h]
theorem c1U(n:Nat):(ly (Value.agg #[J I 0, Z ByteArray.empty]).cells (n*2)).toList=(ll n A8).flatMap B8:=by
 apply nf;intro i;by_cases h:i<n*2
 ·rw[b1T _ _ _ h,Array.getElem?_toList,b3K _ _ _ h];obtain e|e:i % 2=0\/i % 2=1:=by omega
  all_goals
   simp only[Value.cells,ut,ub,uu,e];rfl
 ·rw[lx (by rw[Array.length_toList,size_madeCells];omega),lx (by simp[B8,List.map_const',List.sum_replicate_nat];omega)]
def frZ(i:Nat):lo:=if i<2 then Z ⟨#[]⟩else if i=2 then J I 0 else if i=3 then G false else V N 0 0
theorem c1V(n:Nat):∀a i,a<n->i<8->(ly (Value.agg #[Z ⟨#[]⟩, Z ⟨#[]⟩, J I 0, G false, V N 0 0, V N 0 0, V N 0 0, V N 0 0]).cells (n*8))[a*8+i]? =O (frZ i):=λa i ha hi=>by
 rw[b3K _ _ _ Oo];simp only[Value.cells,ut,ub,uu,show(a*8+i) % (0+1+1+1+1+1+1+1+1)=i by omega];obtain rfl|rfl|rfl|rfl|rfl|rfl|rfl|rfl:i=0\/i=1\/i=2\/i=3\/i=4\/i=5\/i=6\/i=7:=by omega
 all_goals rfl
section
variable{w:World}{jb lim wb:Nat}{L:List Cl}{p:Addr}{cap:Nat}{q:Nat->Qs}{C:ByteArray}{m:Me}{r:Qj}
theorem b6d(h:Hid (Jb w jb lim wb L p cap q C m r))(hc:Hid (N2 L m))(hh:Hid (l4 L m))(bz:Hid (Z1 L))(aa:Hid (G4 L (T5 C m))):
 lj prog 74 #[U (O (A jb 0 N))] w (TpA w L C m m.c.length):=by
 have HJ:=A1 (λW (hW:w.grownBy W N)=>h.o.keep hW);have bo:=h.o.codeN;have bt:=h.o.l;have ab:=hc.o.l;have h0:=hc.o.some_;have ce:=h.o.prmN;obtain⟨j0,j1,j3,-,-,j6,j7,j8,j9⟩:=h.o.cs;have c':jb<w.heap.size:=ls w _ j0;obtain⟨n,hn⟩:=Oe m.c.length
 have HN:=A1 hn;rw[<-hn]at h0 bo j8⊢;obtain⟨lc,hl⟩:=Oe m.l
 have D:=A1 hl;rw[<-hl]at bt ab j7;obtain⟨np,a2⟩:=Oe m.p.length
 have F:=A1 a2;rw[<-a2]at ab j3 ce;obtain⟨cm,cg,co,cp,cq⟩:=nb c2d;obtain⟨int,cn,ct,cu,cv⟩:=nb a2n;obtain⟨cj,cf,b4,b5,b'⟩:=nb b2h;clear hn hl a2 h;go_enter func74,ntmps74;go_upto_region 2 with(at_make;go_loud (refine nc _ rfl _ _ 59 rfl w.heap.size 136 cm _ 8 underlying59 cg co cp I I (n:Int) (n:Int) n rfl rfl rfl rfl (by rw[cq];omega) Om (la _) ?_;intro w1 bu ah;dsimp only))
 have ac:Hid (∃cs:Array lo,A4 w1 w.heap.size cs 136/\∀a i,a<n->i<8->cs[a*8+i]? =O (if i=2 then J I ((if a<0 then a else 0:Nat):Int)else frZ i)):=⟨_,(a1S bu).1,λa i ha hi=>by
  rw[Array.toArray_toList,c1V n a i ha hi];congr 1
  split
  ·rename_i e;subst e;rfl
  ·rfl⟩
 obtain⟨ob,a4⟩:=Oe w.heap.size
 have bj:=A1 a4;rw[<-a4]at ac⊢;have cx:ob<w1.heap.size:=by obtain⟨cs,hb,-⟩:=ac.o;exact hb.lt
 have ae:=A1 ah;clear j0 j1 j3 j6 j7 j8 j9 bu a4;obtain⟨j0,j1,j3,-,-,j6,j7,j8,j9⟩:=(HJ.o _ ah).cs;rw[<-D.o]at j7;rw[<-F.o]at j3;go_upto_region 3 with(at_make;go_loud (refine nc _ rfl _ _ 96 rfl w1.heap.size 98 int _ 2 underlying96 cn ct cu I I (lc:Int) (lc:Int) lc rfl rfl rfl rfl (by rw[cv];omega) Om (la _) ?_;intro w2 a3 az;dsimp only))
 rw[c1U]at a3;have ao:=A1 a3;obtain⟨d,a6⟩:=Oe w1.heap.size
 have av:=A1 a6;rw[<-a6]at ao⊢;have bc:=A1 az;clear j0 j1 j3 j6 j7 j8 j9 a3;obtain⟨j0,j1,j3,-,-,j6,j7,j8,j9⟩:=(HJ.o _ (A0 ah az)).cs;clear a6;go_upto_region 4 with(go_at_call 131;refine(a2N _ _).mono ?_;rintro e w3 ⟨rfl,a0⟩;have ap:=a1P ao.o a0;obtain⟨gv,eg,ak,al,o0,o1,oz⟩:=a7w (i:=0) ap Os Oo;injection eg with eg;injection eg with eg;subst eg;simp only[Nat.zero_mul,nu]at o0 o1;have z0:=oz 0;have z1:=oz 1;have aj:=A0 bc.o a0)
 have aq:Hid (((w3.setCell (A d 0 N) (J I 2)).setCell (A d 1 N) (Z C)).ownsRow d 98 2 (V (O (A d 0 N)) lc lc) lc ((a1Z C m 0).flatMap B8)):=by
  rw[<-b9g (by rw[<-D.o,<-F.o];exact ab),<-D.o,<-a7u];exact a3S (a3S ap _ _) _ _
 have an:Hid (w1.grownBy ((w3.setCell (A d 0 N) (J I 2)).setCell (A d 1 N) (Z C)) N):=a0l aj (by rw[av.o];exact la _);generalize (w3.setCell (A d 0 N) (J I 2)).setCell (A d 1 N) (Z C)=w4 at aq an⊢;clear j0 j1 j3 j6 j7 j8 j9 ap ak al o0 o1 oz z0 z1 a0 aj az ah ao bc;go_wp2_with fail
 go_loopw [5] (λc W=>∃k:Nat,c= J I k/\k<=np/\Hid (W.ownsRow d 98 2 (V (O (A d 0 N)) lc lc) lc ((a1Z C m k).flatMap B8))/\Hid (w1.grownBy W N)) (λc _=>np-(lf c).toNat)
 case atStart=>exact⟨0,rfl,le _,aq.o,an.o⟩
 case round=>
  clear aq an;obtain⟨k,rfl,hk,hO,hg⟩:=hrel;obtain⟨j0,j1,j3,-,-,j6,j7,j8,j9⟩:=(HJ.o _ (A0 ae.o hg.o)).cs;rw[<-F.o]at j3;have br:jb<wr.heap.size:=ls wr _ j0;by_cases hkl:k<np
  ·have T:(k:Int)<(np:Int):=by omega
   have a1:k<m.p.length:=by rw[<-F.o];exact hkl
   obtain⟨pp,bw,dd,a5⟩:=(HJ.o _ (A0 ae.o hg.o)).prm k a1;rw[bw]at j3;have n0:wr.cell? (pp.add (k*2))=O (J I m.p[k].k):=a5 0 _ rfl;have n1:wr.cell? (A ((pp.add (k*2)).block) ((pp.add (k*2)).off+1) N)=O (Z m.p[k].n):=by rw[C2 pp (k*2) 0];exact a5 1 _ rfl
   obtain⟨gv,eg,ak,al,o0,o1,oz⟩:=a7w (i:=k+1) hO.o (by rw[c0Z (by rw[<-D.o,<-F.o];exact ab) (uo a1),D.o]) Oo;injection eg with eg
   injection eg with eg
   subst eg;have z0:=oz ((k+1)*2);have z1:=oz ((k+1)*2+1);have e4:IntKind.i64.wrap ((k:Int)+1)=((k+1:Nat):Int):=by rw[IntWalk.i64_in _ Oo];omega
   have cw:((k+1:Nat):Int)<(lc:Int):=by omega
   have bh:Hid (((wr.setCell (A d ((k+1)*2) N) (J I m.p[k].k)).setCell (A d ((k+1)*2+1) N) (Z m.p[k].n)).ownsRow d 98 2 (V (O (A d 0 N)) lc lc) lc ((a1Z C m (k+1)).flatMap B8)):=by
    rw[<-b9h (by rw[<-D.o,<-F.o];exact ab) a1,<-a7u];exact a3S (a3S hO.o _ _) _ _
   have bd:Hid (w1.grownBy ((wr.setCell (A d ((k+1)*2) N) (J I m.p[k].k)).setCell (A d ((k+1)*2+1) N) (Z m.p[k].n)) N):=a0l hg.o (by rw[av.o];exact la _);generalize m.p[k]=x at n0 n1 bh bd;clear bw a5 oz;go_wp2_with fail
   refine⟨⟨k+1,by first|rfl|go_num,by omega,bh.o,bd.o⟩,?_⟩;first|omega|(go_num;omega)|(simp[lf];omega)
  ·have T:¬(k:Int)<(np:Int):=by omega
   have bi:Hid (wr.ownsRow d 98 2 (V (O (A d 0 N)) lc lc) lc ((T5 C m).flatMap B8)):=by have:=hO.o;rw[show k=m.p.length by rw[<-F.o];omega,c1a]at this;exact this
   have a7:Hid (∃cs:Array lo,A4 wr ob cs 136/\∀a i,a<n->i<8->cs[a*8+i]? =O (if i=2 then J I ((if a<0 then a else 0:Nat):Int)else frZ i)):=by
    obtain⟨cs,y,B⟩:=ac.o;exact⟨cs,A4.grow y hg.o,B⟩
   have be:=A1 (A0 ae.o hg.o);clear hO hg hk hkl ac ae;go_wp2_with fail
   clear j0 j1 j3 j6 j7 j8 j9 T br;go_loopw [6] (λc W=>∃k:Nat,c= J I k/\k<=n/\Hid (∃cs:Array lo,A4 W ob cs 136/\∀a i,a<n->i<8->cs[a*8+i]? =O (if i=2 then J I ((if a<k then a else 0:Nat):Int)else frZ i))/\Hid (W.ownsRow d 98 2 (V (O (A d 0 N)) lc lc) lc ((T5 C m).flatMap B8))/\Hid (w.grownBy W N)) (λc _=>n-(lf c).toNat)
   case atStart=>exact⟨0,rfl,le _,a7.o,bi.o,be.o⟩
   case round=>
    clear a7 bi be;obtain⟨k,rfl,hk,hB,hO,hg⟩:=hrel;by_cases hkl:k<n
    ·have T:(k:Int)<(n:Int):=by omega
     obtain⟨cs,y,B⟩:=hB.o;have c2:=y.cell _ _ (B k 2 hkl Oo);have z2:=y.frozen (k*8+2);have cd:=y.lt
     have b0:Hid (∃cs:Array lo,A4 (wr.setCell (A ob (k*8+2) N) (J I k)) ob cs 136/\∀a i,a<n->i<8->cs[a*8+i]? =O (if i=2 then J I ((if a<k+1 then a else 0:Nat):Int)else frZ i)):=by
      refine⟨_,y.set _ _,λa i ha hi=> ?_⟩;rw[a9M B hkl Oo _ a i ha hi];congr 1
      by_cases e:a=k/\i=2
      ·rw[if_pos e,if_pos e.2,if_pos Oo,e.1]
      ·rw[if_neg e];by_cases e2:i=2
       ·rw[if_pos e2,if_pos e2];have:a≠k:=λe3=>e ⟨e3,e2⟩
        by_cases e4:a<k
        ·rw[if_pos e4,if_pos Oo]
        ·rw[if_neg e4,if_neg Oo]
       ·rw[if_neg e2,if_neg e2]
     have b3:Hid ((wr.setCell (A ob (k*8+2) N) (J I k)).ownsRow d 98 2 (V (O (A d 0 N)) lc lc) lc ((T5 C m).flatMap B8)):=hO.o.kept (A6 wr (A ob (k*8+2) N) _) (.inr (N4 hO.o y Od));have b2:Hid (w.grownBy (wr.setCell (A ob (k*8+2) N) (J I k)) N):=Y4 hg.o (by rw[bj.o];exact la _) _ _;clear y B;go_wp2_with fail
     refine⟨⟨k+1,by first|rfl|go_num,by omega,b0.o,b3.o,b2.o⟩,?_⟩;exact a0s
    ·have T:¬(k:Int)<(n:Int):=by omega
     have am:Hid (Fm wr w.heap.size ob n (λ_=>false) (λ_=>(N,0)) (λ_=> [])):=by
      obtain⟨cs,y,B⟩:=hB.o;refine⟨⟨cs,y,λa i ha hi=> ?_⟩,λj hj=>nt _ _ _ _,λi j hi hj db=> .inl rfl,by rw[bj.o];exact la _⟩;rw[B a i ha hi];congr 1
      unfold fV frZ;rw[if_pos (show a<k by omega)];by_cases e0:i<2
      ·rw[if_pos e0,if_pos e0,if_neg Oo]
      ·rw[if_neg e0,if_neg e0];by_cases e2:i=2
       ·rw[if_pos e2,if_pos e2]
       ·rw[if_neg e2,if_neg e2,if_neg e2];by_cases e3:i=3
        ·rw[if_pos e3,if_pos e3]
        ·rw[if_neg e3,if_neg e3];split
         ·rfl
         ·split<;>rfl
     have ad:Hid ((T5 C m).length=lc):=by unfold Hid;rw[a5d hc.o,D.o]
     have bg:Hid (lj prog 132 #[U (O (A jb 0 N)), U (O (A ob 0 N)), V N 0 0, V (O (A d 0 N)) lc lc] wr (InO L wr w.heap.size ob n lc (λ_=>false) (λ_=>(N,0)) (λ_=> []) 0 (T5 C m++ []))):=by
      have cc:=hg.o.size;have hv:=V7 (enc:=B8) (λ_=>rfl) (by have:=hO.o;rw[<-ad.o]at this;exact this)
      have:=b1Q (R:=λ_=>(N,0)) (HJ.o w (C9 _ _)) hg.o (la _) cc am.o 0 h0 [] (T5 C m) N (O (A d 0 N)) 0 lc wr.heap.size (la _) (a7z rfl) hv ⟨λp e=>(by cases e),λp e hf=>by
       cases e;rcases hf with e|⟨j,-,e⟩
       ·have e1:d=ob:=e;have:=av.o;omega
       ·cases e⟩ (le _) (by rw[ad.o];exact bt) ad.o (λb _ e=>by cases e) (λe=>by cases e) ⟨λt ht=>(by cases ht),aa.o⟩
      rw[ad.o]at this;exact this
     have bf:=A1 hg.o;have dc:(0:Int)<(n:Int):=by omega
     clear hB hk hkl hO hg;go_upto_region 13 with(go_at_call 132;refine bg.o.mono ?_;rintro e w5 ⟨re,R,X,rfl,k1,k2,k3,k4,k5⟩)
     have af:=A1 (Ch.low bf.o k2 (λk hk=>(am.o.sLow hk).1))
     have a':Hid (Fm w5 w.heap.size ob n re R X/\(∀b,b<n->re b=true->(X (2*b+1)).length=m.l)/\P4 re X n=(ll m.c.length N).set 0 (O (T5 C m))):=by
      refine⟨k1,by rw[<-D.o];exact k5,?_⟩;rw[k4,List.append_nil,<-HN.o];congr 1
      apply nf;intro b;by_cases hb:b<n
      ·rw[a3n _ _ hb,nj,if_pos hb];rfl
      ·rw[lx (by simp[P4];omega),lx Oi]
     clear k1 k2 k3 k4 k5 bg am bf;go_upto_region 14 with(at_make;go_loud (refine nc _ rfl _ _ 264 rfl w5.heap.size 4 cj _ 1 underlying264 cf b4 b5 I I (n:Int) (n:Int) n rfl rfl rfl rfl (by rw[b'];omega) Om (la _) ?_;intro w6 bv ai;dsimp only))
     have E:=(a1S bv).1;rw[a6V]at E;obtain⟨fb,ay⟩:=Oe w5.heap.size
     have ba:=A1 ay;rw[<-ay]at E⊢;have c0:w6.cell? (A fb 0 N)=O (G false):=E.cell 0 _ (by simp[h0]);have z0:=E.frozen 0;have bp:=E.lt
     have au:Hid (∃K,TyS w (w6.setCell (A fb 0 N) (G true)) ob fb n L C m n true K):=by
      obtain⟨y,B,h3⟩:=a'.o;have bn:=E.set 0 (G true);rw[<-uk,a3V]at bn;refine⟨_,re,R,X,_,(y.keep ai).setB E Od _,bn,Y4 (A0 af.o ai) (by rw[ba.o];exact af.o.size) _ _,B,by rw[h3];exact b6W (HJ.o w (C9 _ _)).rw_.wld hc.o aa.o,by simp,λa s hs hf=> ?_,λa hf=> ?_,λe=>(by cases e),la _⟩
      ·rw[h3,lr]at hs;rw[lr]at hf;by_cases e:0=a
       ·rw[if_pos e,if_pos (by simp[h0])]at hf;cases hf
       ·rw[if_neg e,nj]at hs;split at hs<;>cases hs
      ·rw[lr]at hf;by_cases e:0=a
       ·subst e;exact⟨_,by rw[h3,lr,if_pos rfl,if_pos (by simpa[HN.o]using h0)]⟩
       ·rw[if_neg e,nj]at hf;split at hf<;>cases hf
     clear bv ay;have bq:=ai;clear bq;go_upto_region 15 with fail
     generalize w6.setCell (A fb 0 N) (G true)=w7 at au⊢;obtain⟨K0,bm⟩:=au.o;have bb:Hid (w.heap.size<=fb):=by unfold Hid;rw[ba.o];exact af.o.size
     clear au c0 z0 bp E ai a' af;go_wp2_with fail
     go_loopg [8] K0 (λK c W=>∃b:Bool,c= G b/\Hid (TyS w W ob fb n L C m n b K))
     case atStart=>exact⟨true,rfl,bm⟩
     case round=>
      clear bm;obtain⟨b,rfl,hT⟩:=hrel;cases b with
      |false=>
       have HE:=A1 (TyS.ans (HJ.o w (C9 _ _)) hc.o hh.o HN.o hT.o);go_wp2_with fail
       all_goals exact no (v:= V (O (A ob 0 N)) n n) (by simp[nq,results74,go_sem]) rfl HE.o
      |true=>
       obtain⟨bl,cy⟩:=hT.o.begin;have bk:=A1 bl;clear bl hT;go_wp2_with fail
       go_loopw [8,9] (λc8 c9 W=>∃(b:Bool) (k:Nat),c8= G b/\c9= J I k/\k<=n/\Hid (TyS w W ob fb n L C m k b (gk-1))) (λ_ c _=>n-(lf c).toNat)
       case atStart=>exact⟨false,0,rfl,rfl,le _,bk.o⟩
       case round=>
        clear bk;obtain⟨b,k,rfl,rfl,hk,hT⟩:=hrel;by_cases hkl:k<n
        ·have T:(k:Int)<(n:Int):=by omega
         obtain⟨re,R,X,f,y,B,h3,h4,h5,h6,h7,h8,h9,ag⟩:=hT.o;have bs:k<f.length:=by rw[h6];exact hkl
         have c0:wr.cell? (A fb k N)=O (G f[k]):=B.cell k _ (by simp[bs]);have z0:=B.frozen k;have cz:=B.lt;have M:=lk bs;cases hv:f[k]with
         |false=>
          rw[hv]at c0 M
          have ar:Hid (TyS w wr ob fb n L C m (k+1) b (gk-1)):=⟨re,R,X,f,y,B,h3,h4,h5,h6,h7,h8,λe a ha=>(by
           by_cases e2:a=k
           ·subst e2;exact M
           ·exact h9 e a Oo),ag⟩
          clear y B h3 h4 h5 h6 h7 h8 h9 ag hv M hT;go_wp2_with fail
          refine⟨⟨b,k+1,rfl,by first|rfl|go_num,by omega,ar.o⟩,?_⟩;exact a0s
         |true=>
          rw[hv]at c0 M;obtain⟨s,hs⟩:=h8 k M
          have bx:re k=true:=by
           rw[a3n _ _ hkl]at hs;unfold oO at hs;by_cases e:re k=true
           ·exact e
           ·rw[if_neg e]at hs;cases hs
          have aw:(P4 re X n)[k]? =O (O (X (2*k+1)++X (2*k))):=by rw[a3n _ _ hkl];unfold oO;rw[if_pos bx]
          have ax:=B.set k (G false);rw[a3V]at ax
          have b1:Hid (lj prog 133 #[U (O (A jb 0 N)), V (O (A ob 0 N)) n n, V (O (A fb 0 N)) n n, J I k] (wr.setCell (A fb k N) (G false)) λe w'=>e= Y (.tuple #[])/\TyS w w' ob fb n L C m (k+1) true (gk-1)):=by
           have S:=bb.o;refine(b7e (HJ.o w (C9 _ _)) hc.o (Y4 h3 S _ _) (la _) (y.setB B Od _) ax S HN.o (by simp[h6]) h4 k hkl bx ⟨bz.o,hh.o,aa.o,h5,aw⟩).mono λe w' hr=> ?_
           obtain⟨rfl,cr,R',X',f',g1,g2,g3,g4,g5,g6⟩:=hr;have bo:=b3p f k M;have da:=g5.mu
           refine⟨rfl,cr,R',X',f',g1,g2,Ch.low (Y4 h3 S _ _) g3 (λj hj=>hj.elim (λe=>(y.sLow e).1) (λe=>by rw[e];exact S)),g6,g5.snd,by rw[g5.len];simp[h6],b7F (HJ.o w (C9 _ _)).rw_.wld bz.o hc.o (HJ.o w (C9 _ _)).ins h5 aw g5 h7,λa ha=>g5.re (λa ha=>h8 a (by
            rw[lr]at ha;split at ha
            ·first|cases ha|(split at ha<;>cases ha)
            ·exact ha)) a ha,λe=>(by cases e),?_⟩
           simp only[nm];cases b<;>simp only[nm,us]at ag<;>omega
          clear y B h3 h4 h5 h6 h7 h8 h9 ag hv M hT ax hs aw;go_wp2_with (go_at_call 133;refine b1.o.mono ?_;rintro e w8 ⟨rfl,cb⟩)
          refine⟨⟨true,k+1,rfl,by first|rfl|go_num,by omega,cb⟩,?_⟩;exact a0s
        ·have T:¬(k:Int)<(n:Int):=by omega
         have ar:Hid (TyS w wr ob fb n L C m n b (gk-1)):=by have:=hT.o;rw[show k=n by omega]at this;exact this
         go_wp2_with fail
         go_roundg (gk-1)
         case measure=>omega
         case rel=>exact⟨b,rfl,ar.o⟩
end
end Kx
namespace Cf
theorem a8X(a b:List Ty)(j:Nat):(a++b).getD j A8=if j<a.length then a.getD j A8 else b.getD (j-a.length) A8:=by
 rw[lb,List.getElem?_append];split<;>rw[lb]
theorem a6Y(a:List Ty)(n j:Nat):(a.take n).getD j A8=if j<n then a.getD j A8 else A8:=by
 rw[lb,List.getElem?_take];split
 ·rw[lb]
 ·rfl
def F0(l:List Cl)(m:Me)(a h:Nat):Nat:=m.l+h-D7 l m (A5 m a)
variable {m:Me}{s:List Ty}{a h ht:Nat}
theorem a9t{d:Hd}(v:s.length=m.l+h)(j:Nat)(e:j<=m.l):(hdF m d s).getD j A8=if j<m.l then s.getD j A8 else C5 d.c:=by
 unfold hdF;rw[a8X,a6Y];have:(s.take m.l).length=m.l:=by simp;omega
 rw[this];by_cases h1:j<m.l
 ·simp[h1]
 ·obtain rfl:j=m.l:=by omega
  simp
variable {l:List Cl}
theorem a9v(B:s.length=m.l+h)(ht:D7 l m (A5 m a)<=h)(j:Nat):
 (X9 l m (A5 m a) s).getD j A8=if j<m.l then(if(A5 m a).o=3/\(A5 m a).a.toNat=j then s.getD (F0 l m a h) A8 else s.getD j A8)else if j<F0 l m a h then s.getD j A8 else(U8 l (A5 m a) s (F0 l m a h)).getD (j-F0 l m a h) A8:=by
 unfold X9 F0;rw[B];generalize hlow:m.l+h-D7 l m (A5 m a)=low;have y:m.l<=low:=by omega
 have d:(if(A5 m a).o=3 then(s.take m.l).set (A5 m a).a.toNat (s.getD low A8)else s.take m.l).length=m.l:=by
  split<;>simp<;>omega
 have v:((s.take low).drop m.l).length=low-m.l:=by simp;omega
 rw[a8X,d];by_cases g1:j<m.l
 ·rw[if_pos g1,if_pos g1];by_cases e3:(A5 m a).o=3
  ·rw[if_pos e3,a8W,a6Y,if_pos g1];have:(s.take m.l).length=m.l:=by simp;omega
   rw[this];by_cases e:(A5 m a).a.toNat=j
   ·simp[e,g1,e3]
   ·simp[e]
  ·rw[if_neg e3,if_neg (by simp[e3]),a6Y,if_pos g1]
 ·rw[if_neg g1,if_neg g1,a8X,v];by_cases g2:j<low
  ·rw[if_pos g2,if_pos Oo,a8F,a6Y,if_pos Oo];congr 1;omega
  ·rw[if_neg g2,if_neg Oo];congr 1;omega
def N6(l:List Cl)(m:Me)(a low j:Nat)(t:Ty):List (Nat×Nat×Ty):=
 (if j<m.l then(m.h.filter λd=>G0 d a).map λd=>(d.t,j,t)else [])++
 (E6 (A5 m a) a).flatMap λx=>
   if(A5 m a).o=3/\j=(A5 m a).a.toNat then []
   else if(A5 m a).o=2/\j=(A5 m a).a.toNat then [(x,j,t),(x,low,t)]
   else if j<low then [(x,j,t)]
   else if(A5 m a).o=3 then [(x,(A5 m a).a.toNat,t)]
   else if(A5 m a).o=5 then [(x,low,t),(x,low+1,t)]
   else if(A5 m a).o=6 then [(x,2*low+1-j,t)]
   else if(A5 m a).o=26/\j=low then [(x,low,N7 t)]
   else []
def T1(l:List Cl)(m:Me)(a low:Nat):List (Nat×Nat×Ty):=
 ((m.h.filter λd=>G0 d a).map λd=>(d.t,m.l,C5 d.c))++
 (List.range (C7 l (A5 m a)).length).flatMap λk=>if((C7 l (A5 m a)).getD k A8).k=0 then []else(E6 (A5 m a) a).map λx=>(x,low+k,(C7 l (A5 m a)).getD k A8)
abbrev X8:=List (List (Option Ty))
def tq(ts:X8)(a j:Nat):Option (Option Ty):=(ts.getD a [])[j]?
structure a2y(l:List Cl)(c:ByteArray)(m:Me)(ts:X8):Prop where
 len:ts.length=m.c.length
 shape:∀a h,G2 l m a h->(ts.getD a []).length=m.l+h
 unre:∀a,(∀h,¬G2 l m a h)->ts.getD a []=[]
 snd:∀a j t,tq ts a j=some (some t)->D9 l t/\∀S,Sol l c m S->C4 l t ((S a).getD j A8)=true
def Z9(l:List Cl)(ts:X8)(p:Nat×Nat×Ty):Prop:=∃u,tq ts p.1 p.2.1=O (O u)/\C4 l p.2.2 u=true
structure a1j(l:List Cl)(c:ByteArray)(m:Me)(p:Nat×Nat×Ty):Prop where
 shape:∃h,G2 l m p.1 h/\p.2.1<m.l+h
 ok:D9 l p.2.2
 least:∀S,Sol l c m S->C4 l p.2.2 ((S p.1).getD p.2.1 A8)=true
variable {i:In}
theorem a5R(d:K8 l m i=true)(e:R7 i)(h:i.o=2\/i.o=3):i.a.toNat<m.l:=by
 unfold K8 at d;rw[if_pos h]at d;have:=of_decide_eq_true d;have:=e.2 Oo;omega
theorem b1D(h:a<m.c.length):A5 m a∈m.c:=by unfold A5;simp[h]
theorem b2J(s:List Ty)(low:Nat)(h:i.o=2):U8 l i s low=[s.getD i.a.toNat A8]:=by unfold U8;rw[if_pos h]
theorem a8N(s:List Ty)(low:Nat)(h:i.o=5):U8 l i s low=[s.getD low A8,s.getD low A8]:=by unfold U8;rw[if_neg Oo,if_pos h]
theorem a8x(s:List Ty)(low:Nat)(h:i.o=6):U8 l i s low=[s.getD (low+1) A8,s.getD low A8]:=by unfold U8;rw[if_neg Oo,if_neg Oo,if_pos h]
theorem b1W(s:List Ty)(low:Nat)(h:i.o=26):U8 l i s low=[N7 (s.getD low A8)]:=by unfold U8;rw[if_neg Oo,if_neg Oo,if_neg Oo,if_pos h]
theorem b2L(s:List Ty)(low:Nat)(h:¬(i.o=2\/i.o=5\/i.o=6\/i.o=26)):U8 l i s low=C7 l i:=by unfold U8;rw[if_neg Oo,if_neg Oo,if_neg Oo,if_neg Oo]
theorem C1.fixed_comes(h:C1 l)(hw:Z1 l){c:ByteArray}(T:N2 l m)(hi:∀i∈m.c,R7 i)(hh:l4 l m)(B:G2 l m a ht):∀p∈T1 l m a (F0 l m a ht),a1j l c m p:=by
 intro p y;have ho:=a8y hh B;have v:=hh.room a ht B;unfold N5 at v;simp only[nr,decide_eq_true_eq]at v;have aa:=l5 T hi B;unfold T1 at y;rcases nh.1 y with y|y
 ·obtain⟨d,hd,rfl⟩:=ld.1 y;obtain⟨h1,h2⟩:=ui.1 hd;have hb:=(T.hds d h1).2.2.2
  have hk:∃i,C8 l d.c=O i:=by
   cases E:C8 l d.c with
   |none=>rw[h.below_none E]at hb;cases hb
   |some i=>exact⟨i,rfl⟩
  refine⟨⟨1,ho.1 d h1 h2,by simp only;omega⟩,⟨by simp[C5],by simpa[C5]using hk⟩,λS D=> ?_⟩;have E:=D.flow a ht B (d.t,hdF m d) (lu _ (ld.2 ⟨d,hd,rfl⟩));have:=E.2 m.l (by rw[a6j (D.shape a ht B)];omega);rw[a9t (D.shape a ht B) _ (la _),if_neg Oo]at this;exact this
 ·obtain⟨k,hk,y⟩:=nv.1 y;have hk:=uv.1 hk;split at y
  ·cases y
  ·rename_i h0;obtain⟨x,hx,rfl⟩:=ld.1 y;have ab:(C7 l (A5 m a)).length=I5 l (A5 m a):=rfl;have hm:=b3e hk;refine⟨⟨_,ho.2 x hx,by simp only[F0,a0m];omega⟩,(h.puts_ok hw (T.need a aa.1)).1 _ hm,λS D=> ?_⟩;have E:=D.flow a ht B (x,X9 l m (A5 m a)) (lq _ (ld.2 ⟨x,hx,rfl⟩));have F:=a6k (D.shape a ht B) (hh.room a ht B);have:=E.2 (F0 l m a ht+k) (by rw[F];simp only[F0,a0m];omega);rw[a9v (D.shape a ht B) v.1,if_neg (by simp only[F0];omega),if_neg Oo,nd]at this
   have M:¬((A5 m a).o=2\/(A5 m a).o=5\/(A5 m a).o=6\/(A5 m a).o=26):=λe=>by
    apply h0
    have:∀t∈C7 l (A5 m a),t=A8:=by
     rcases e with e|e|e|e<;>simp[C7,e]
    rw[this _ hm];rfl
   rw[b2L _ _ M]at this;exact this
theorem C1.flow_comes(h:C1 l)(hw:Z1 l){c:ByteArray}(hc:N2 l m)(hi:∀i∈m.c,R7 i)(hh:l4 l m)(hr:G2 l m a ht){j:Nat}(hj:j<m.l+ht){t:Ty}(F:D9 l t)
 (E:∀S,Sol l c m S->C4 l t ((S a).getD j A8)=true):∀p∈N6 l m a (F0 l m a ht) j t,a1j l c m p:=by
 intro p D;have ho:=a8y hh hr;have ab:=hh.room a ht hr;unfold N5 at ab;simp only[nr,decide_eq_true_eq]at ab;have ac:=l5 hc hi hr;have hok:=hi _ (b1D ac.1);have af:=hc.need a ac.1;unfold N6 at D;rcases nh.1 D with D|D
 ·split at D
  ·rename_i hjl;obtain⟨d,hd,rfl⟩:=ld.1 D;obtain⟨h1,h2⟩:=ui.1 hd;refine⟨⟨1,ho.1 d h1 h2,by simp only;omega⟩,F,λS y=> ?_⟩;have hf:=y.flow a ht hr (d.t,hdF m d) (lu _ (ld.2 ⟨d,hd,rfl⟩));have h3:=hf.2 j (by rw[a6j (y.shape a ht hr)];omega);rw[a9t (y.shape a ht hr) _ Oo,if_pos hjl]at h3;exact h.under_trans F (b6 (y.ok a ht hr) j) (b6 (y.ok d.t 1 (ho.1 d h1 h2)) j) (E S y) h3
  ·cases D
 ·obtain⟨x,hx,D⟩:=nv.1 D;have ah:=ho.2 x hx
  have aa:∀(j2:Nat) (v:Ty),j2<m.l+a0m l m a ht->D9 l v->(∀S,Sol l c m S->C4 l v ((X9 l m (A5 m a) (S a)).getD j2 A8)=true)->a1j l c m (x,j2,v):=λj2 v h1 h2 h3=>by
   refine⟨⟨_,ah,h1⟩,h2,λS y=> ?_⟩;have hf:=y.flow a ht hr (x,X9 l m (A5 m a)) (lq _ (ld.2 ⟨x,hx,rfl⟩));have ae:=a6k (y.shape a ht hr) (hh.room a ht hr);have hT:=b6 (h.out_ok hw hc ac.1 (y.ok a ht hr) (q:=(x,X9 l m (A5 m a))) (lq _ (ld.2 ⟨x,hx,rfl⟩))) j2;exact h.under_trans h2 hT (b6 (y.ok x _ ah) j2) (h3 S y) (hf.2 j2 (by rw[ae];exact h1))
  have al:F0 l m a ht=m.l+ht-D7 l m (A5 m a):=rfl;have ak:a0m l m a ht=ht-D7 l m (A5 m a)+I5 l (A5 m a):=rfl;have B:=λS (y:Sol l c m S) (j2:Nat)=>a9v (l:=l) (a:=a) (y.shape a ht hr) ab.1 j2
  have T:I5 l (A5 m a)=(C7 l (A5 m a)).length:=rfl;split at D
  ·cases D
  ·rename_i n3;split at D
   ·rename_i e2;have ad:=a5R af hok (.inl e2.1);have am:I5 l (A5 m a)=1:=by rw[T];simp[C7,e2.1]
    simp only[uw,ux,or_false]at D;rcases D with rfl|rfl
    ·exact aa j t Oo F (λS y=>by rw[B S y,if_pos Oo,if_neg Oo];exact E S y)
    ·exact aa _ t Oo F (λS y=>by rw[B S y,if_neg Oo,if_neg Oo,b2J _ _ e2.1,nw,<-e2.2];exact E S y)
   ·rename_i n2;split at D
    ·rename_i hlt;rw[nx.1 D];refine aa j t Oo F (λS y=> ?_);rw[B S y];split
     ·rw[if_neg (λe=>n3 ⟨e.1,e.2.symm⟩)];exact E S y
     ·first|exact E S y|(rw[if_pos hlt];exact E S y)
    ·rename_i hge;have aj:0<D7 l m (A5 m a):=by omega
     split at D
     ·rename_i e3;have ad:=a5R af hok (.inr e3);have ai:D7 l m (A5 m a)=1:=by simp[D7,E5,e3]
      have M:j=F0 l m a ht:=by omega
      rw[nx.1 D];exact aa _ t Oo F (λS y=>by rw[B S y,if_pos ad,if_pos ⟨e3,rfl⟩,<-M];exact E S y)
     ·split at D
      ·rename_i e5;have ai:D7 l m (A5 m a)=1:=by simp[D7,E5,e5]
       have ag:I5 l (A5 m a)=2:=by rw[T];simp[C7,e5]
       have M:j=F0 l m a ht:=by omega
       simp only[uw,ux,or_false]at D;rcases D with rfl|rfl
       ·exact aa _ t Oo F (λS y=>by rw[B S y,if_neg Oo,if_neg Oo,a8N _ _ e5,nw,<-M];exact E S y)
       ·exact aa _ t Oo F (λS y=>by rw[B S y,if_neg Oo,if_neg Oo,a8N _ _ e5,nd,<-M];exact E S y)
      ·split at D
       ·rename_i e6;have ai:D7 l m (A5 m a)=2:=by simp[D7,E5,e6]
        have ag:I5 l (A5 m a)=2:=by rw[T];simp[C7,e6]
        rw[nx.1 D];have M:j=F0 l m a ht\/j=F0 l m a ht+1:=by omega
        rcases M with M|M
        ·have e:2*F0 l m a ht+1-j=F0 l m a ht+1:=by omega
         rw[e];exact aa _ t Oo F (λS y=>by rw[B S y,if_neg Oo,if_neg Oo,a8x _ _ e6,nd,<-M];exact E S y)
        ·have e:2*F0 l m a ht+1-j=F0 l m a ht:=by omega
         rw[e];exact aa _ t Oo F (λS y=>by rw[B S y,if_neg Oo,if_neg Oo,a8x _ _ e6,nw,<-M];exact E S y)
       ·split at D
        ·rename_i e26;have ag:I5 l (A5 m a)=1:=by rw[T];simp[C7,e26.1]
         rw[nx.1 D];exact aa _ _ Oo (b3k F) (λS y=>by rw[B S y,if_neg Oo,if_neg Oo,b1W _ _ e26.1,nw,<-e26.2];exact b1t F (b6 (y.ok a ht hr) j) (E S y))
        ·cases D
end Cf
namespace Cf
def Z8(ts:X8)(a j:Nat)(t:Ty):X8:=ts.set a ((ts.getD a []).set j (O t))
variable {ts:X8}{a j:Nat}
theorem a2U{o:Option Ty}(h:tq ts a j=O o):a<ts.length/\j<(ts.getD a []).length:=by
 unfold tq at h;have d:=(List.getElem?_eq_some_iff.1 h).1;refine⟨?_,d⟩;by_cases ha:a<ts.length
 ·exact ha
 ·have:ts.getD a []=[]:=by simp[Nat.le_of_not_lt ha]
  rw[this]at d;simp at d
theorem a4Z(ts:X8)(a j b:Nat)(t:Ty)(h:a<ts.length):(Z8 ts a j t).getD b []=if a=b then(ts.getD a []).set j (O t)else ts.getD b []:=by
 unfold Z8;rw[lb,lr];by_cases e:a=b
 ·rw[if_pos e,if_pos e,if_pos h];rfl
 ·rw[if_neg e,if_neg e,lb]
theorem a6h{o:Option Ty}(h:tq ts a j=O o)(t:Ty)(b k:Nat):tq (Z8 ts a j t) b k=if a=b/\j=k then O (O t)else tq ts b k:=by
 obtain⟨d,v⟩:=a2U h;unfold tq;rw[a4Z _ _ _ _ _ d];by_cases e:a=b
 ·subst e;rw[if_pos rfl,lr];by_cases e2:j=k
  ·rw[if_pos e2,if_pos v,if_pos ⟨rfl,e2⟩]
  ·rw[if_neg e2,if_neg (λc=>e2 c.2)]
 ·rw[if_neg e,if_neg (λc=>e c.1)]
def m9(l:List Cl)(o:Option Ty)(t:Ty):Ty:=match o with|none=>t|some x=>X7 l x t
def a2p(l:List Cl)(ts ts':X8):Prop:=∀(a j:Nat) (t:Ty),tq ts a j=O (O t)->∃u,tq ts' a j=O (O u)/\C4 l t u=true
variable {l:List Cl}{m:Me}{p:Nat×Nat×Ty}
theorem C1.raise_ok(h:C1 l){c:ByteArray}(B:a2y l c m ts)(hv:a1j l c m p){o:Option Ty}(v:tq ts p.1 p.2.1=O o):
 a2y l c m (Z8 ts p.1 p.2.1 (m9 l o p.2.2))/\a2p l ts (Z8 ts p.1 p.2.1 (m9 l o p.2.2))/\Z9 l (Z8 ts p.1 p.2.1 (m9 l o p.2.2)) p/\(o=O (m9 l o p.2.2)->Z8 ts p.1 p.2.1 (m9 l o p.2.2)=ts):=by
 obtain⟨E,F⟩:=a2U v
 have P:D9 l (m9 l o p.2.2)/\C4 l p.2.2 (m9 l o p.2.2)=true/\(∀S,Sol l c m S->C4 l (m9 l o p.2.2) ((S p.1).getD p.2.1 A8)=true)/\∀x,o=O x->C4 l x (m9 l o p.2.2)=true:=by
  cases o with
  |none=>exact⟨hv.ok,a1v _ _,hv.least,λx e=>by cases e⟩
  |some x=>
   obtain⟨x1,x2⟩:=B.snd _ _ _ v;have d:=h.joinP_lub x1 hv.ok;obtain⟨k,hk,_⟩:=hv.shape;exact⟨d.ok,d.right,λS M=>d.least _ (b6 (M.ok _ _ hk) _) (x2 S M) (hv.least S M),λy e=>by cases e;exact d.left⟩
 obtain⟨k1,k2,k3,k4⟩:=P;refine⟨⟨by unfold Z8;simpa using B.len,λa ht T=> ?_,λa D=> ?_,λa j t ht=> ?_⟩,λa j t ht=> ?_,⟨_,by rw[a6h v,if_pos ⟨rfl,rfl⟩],k2⟩,λe=> ?_⟩
 ·rw[a4Z _ _ _ _ _ E];split
  ·rename_i e;subst e;rw[List.length_set];exact B.shape _ ht T
  ·exact B.shape a ht T
 ·rw[a4Z _ _ _ _ _ E];split
  ·rename_i e;subst e;rw[B.unre _ D]at F;simp at F
  ·exact B.unre a D
 ·rw[a6h v]at ht;split at ht
  ·rename_i e;obtain⟨rfl,rfl⟩:=e;injection ht with ht;injection ht with ht;subst ht
   exact⟨k1,k3⟩
  ·exact B.snd a j t ht
 ·rw[a6h v];by_cases e:p.1=a/\p.2.1=j
  ·obtain⟨rfl,rfl⟩:=e;rw[v]at ht;injection ht with ht
   exact⟨_,if_pos ⟨rfl,rfl⟩,k4 t ht⟩
  ·exact⟨t,by rw[if_neg e];exact ht,a1v _ _⟩
 ·unfold Z8;refine nf λb=> ?_
  rw[lr];by_cases eb:p.1=b
  ·subst eb;rw[if_pos rfl,if_pos E]
   have:(ts.getD p.1 []).set p.2.1 (O (m9 l o p.2.2))=ts.getD p.1 []:=by
    refine nf λk=> ?_
    rw[lr];by_cases ek:p.2.1=k
    ·subst ek;rw[if_pos rfl,if_pos F,<-e];exact v.symm
    ·rw[if_neg ek]
   rw[this];simp[E]
  ·rw[if_neg eb]
theorem C1.satS_rises(h:C1 l){c:ByteArray}{d:X8}(E:a2y l c m ts)(F:a2y l c m d)(P:a2p l ts d)(M:D9 l p.2.2)(S:Z9 l ts p):Z9 l d p:=by
 obtain⟨u,B,y⟩:=S;obtain⟨v,D,e⟩:=P _ _ _ B;exact⟨v,D,h.under_trans M (E.snd _ _ _ B).1 (F.snd _ _ _ D).1 y e⟩
def rkO(l:List Cl)(o:Option Ty):Nat:=match o with|none=>l.length+2|some t=>rk l t
def a4J(l:List Cl)(ts:X8):Nat:=(ts.map λr=>(r.map (rkO l)).sum).sum
theorem a9h{α:Type}(f:α->Nat):∀(r:List α) (j:Nat) (x o:α),r[j]? =O o->((r.set j x).map f).sum+f o=(r.map f).sum+f x
 | [],j,_,_,h=>by simp at h
 |y::r,0,x,o,h=>by
  simp at h;subst h;simp only[List.set_cons_zero,nz,ua];omega
 |y::r,j+1,x,o,h=>by
  have:=a9h f r j x o (by simpa using h);simp only[List.set_cons_succ,nz,ua];omega
theorem b9Y(l:List Cl){o:Option Ty}(h:tq ts a j=O o)(t:Ty):a4J l (Z8 ts a j t)+rkO l o=a4J l ts+rk l t:=by
 obtain⟨e,E⟩:=a2U h;unfold a4J Z8;have d:ts[a]? =O (ts.getD a []):=by simp[e]
 have v:=a9h (λr:List (Option Ty)=>(r.map (rkO l)).sum) ts a ((ts.getD a []).set j (O t)) (ts.getD a []) d;have y:=a9h (rkO l) (ts.getD a []) j (O t) o h;have B:rkO l (O t)=rk l t:=rfl;have D:rkO l (O t)=rk l t:=rfl;omega
variable {t:Ty}
theorem C1.raise_rk(h:C1 l){o:Option Ty}(y:∀x,o=O x->D9 l x)(ht:D9 l t)(v:o≠O (m9 l o t)):rk l (m9 l o t)<rkO l o:=by
 cases o with
 |none=>have:=h.rk_le t;simp only[m9,rkO];omega
 |some x=>
  have d:=h.joinP_lub (y x rfl) ht;exact h.rk_lt (y x rfl) d.ok d.left (λe=>v (congrArg O e))
def R9(ts:X8)(a:Nat):List Ty:=(ts.getD a []).map λo=>o.getD A8
theorem a1w(h:tq ts a j=O (O t)):(R9 ts a).getD j A8=t:=by
 unfold R9 tq at*
 rw[lb,ni,h];rfl
theorem a3N{low x:Nat}(e:x∈E6 (A5 m a) a)
 (d:p∈(if(A5 m a).o=3/\j=(A5 m a).a.toNat then []
 else if(A5 m a).o=2/\j=(A5 m a).a.toNat then [(x,j,t),(x,low,t)]
 else if j<low then [(x,j,t)]
 else if(A5 m a).o=3 then [(x,(A5 m a).a.toNat,t)]
 else if(A5 m a).o=5 then [(x,low,t),(x,low+1,t)]
 else if(A5 m a).o=6 then [(x,2*low+1-j,t)]
 else if(A5 m a).o=26/\j=low then [(x,low,N7 t)]
 else [])):p∈N6 l m a low j t:=by
 unfold N6;exact lq _ (nv.2 ⟨x,e,d⟩)
theorem C1.cover(h:C1 l)(hw:Z1 l){c:ByteArray}(hc:N2 l m)(hi:∀i∈m.c,R7 i)(hh:l4 l m)(hp:a2y l c m ts){ht:Nat}(hr:G2 l m a ht)
 (T:∀p∈T1 l m a (F0 l m a ht),Z9 l ts p) (y:∀j t,tq ts a j=O (O t)->∀p∈N6 l m a (F0 l m a ht) j t,Z9 l ts p) (B:∀j,j<m.l+ht->∃t,tq ts a j=O (O t)):
 ∀q∈R4 l m a,∀j,j<(q.2 (R9 ts a)).length->Z9 l ts (q.1,j,(q.2 (R9 ts a)).getD j A8):=by
 intro q hq j hj;have F:(R9 ts a).length=m.l+ht:=by unfold R9;rw[lw];exact hp.shape a ht hr
 have E:=hh.room a ht hr;have M:=E;unfold N5 at E;simp only[nr,decide_eq_true_eq]at E;have ad:=l5 hc hi hr;have hok:=hi _ (b1D ad.1);have aa:=hc.need a ad.1;have ah:F0 l m a ht=m.l+ht-D7 l m (A5 m a):=rfl;have ag:a0m l m a ht=ht-D7 l m (A5 m a)+I5 l (A5 m a):=rfl;have D:I5 l (A5 m a)=(C7 l (A5 m a)).length:=rfl;unfold R4 at hq;rcases nh.1 hq with hq|hq
 ·obtain⟨d,hd,rfl⟩:=ld.1 hq;rw[a6j F]at hj;rw[a9t F _ Oo];split
  ·rename_i hjl;obtain⟨t,v⟩:=B j Oo;rw[a1w v];refine y j t v _ ?_;unfold N6;rw[if_pos hjl];exact lu _ (ld.2 ⟨d,hd,rfl⟩)
  ·have:j=m.l:=by omega
   subst this;refine T _ ?_;unfold T1;exact lu _ (ld.2 ⟨d,hd,rfl⟩)
 ·obtain⟨x,S,rfl⟩:=ld.1 hq;rw[a6k F M]at hj;rw[a9v F E.1];by_cases hjl:j<m.l
  ·rw[if_pos hjl];by_cases e3:(A5 m a).o=3/\(A5 m a).a.toNat=j
   ·rw[if_pos e3];have ac:D7 l m (A5 m a)=1:=by simp[D7,E5,e3.1]
    obtain⟨t,v⟩:=B (F0 l m a ht) Oo;rw[a1w v];refine y _ t v _ (a3N S ?_);rw[if_neg Oo,if_neg Oo,if_neg Oo,if_pos e3.1,e3.2];simp
   ·rw[if_neg e3];obtain⟨t,v⟩:=B j Oo;rw[a1w v];refine y _ t v _ (a3N S ?_);rw[if_neg (λe=>e3 ⟨e.1,e.2.symm⟩)];split
    ·simp
    ·rw[if_pos Oo];simp
  ·rw[if_neg hjl];by_cases hjw:j<F0 l m a ht
   ·rw[if_pos hjw];obtain⟨t,v⟩:=B j Oo;rw[a1w v];refine y _ t v _ (a3N S ?_)
    have ae:∀o,(o=2\/o=3)->¬((A5 m a).o=o/\j=(A5 m a).a.toNat):=λo ho e=>by
     have:=a5R aa hok (by rcases ho with rfl|rfl<;>simp[e.1]);omega
    rw[if_neg (ae 3 (.inr rfl)),if_neg (ae 2 (.inl rfl)),if_pos hjw];simp
   ·rw[if_neg hjw];obtain⟨k,rfl⟩:∃k,j=F0 l m a ht+k:=⟨j-F0 l m a ht,by omega⟩
    rw[nd];have hk:k<I5 l (A5 m a):=by omega
    by_cases e2:(A5 m a).o=2
    ·have ab:I5 l (A5 m a)=1:=by rw[D];simp[C7,e2]
     have ai:=a5R aa hok (.inl e2);obtain rfl:k=0:=by omega
     rw[b2J _ _ e2];obtain⟨t,v⟩:=B (A5 m a).a.toNat Oo;show Z9 l ts (x,F0 l m a ht+0,(R9 ts a).getD (A5 m a).a.toNat A8);rw[a1w v];refine y _ t v _ (a3N S ?_);rw[if_neg Oo,if_pos ⟨e2,rfl⟩];simp
    ·by_cases e5:(A5 m a).o=5
     ·have ab:I5 l (A5 m a)=2:=by rw[D];simp[C7,e5]
      have ac:D7 l m (A5 m a)=1:=by simp[D7,E5,e5]
      obtain⟨t,v⟩:=B (F0 l m a ht) Oo;rw[a8N _ _ e5,a1w v]
      have hv:([t,t]:List Ty).getD k A8=t:=by
       have:k=0\/k=1:=by omega
       rcases this with rfl|rfl<;>rfl
      rw[hv];refine y _ t v _ (a3N S ?_);rw[if_neg Oo,if_neg Oo,if_neg Oo,if_neg Oo,if_pos e5];have:k=0\/k=1:=by omega
      rcases this with rfl|rfl<;>simp
     ·by_cases e6:(A5 m a).o=6
      ·have ab:I5 l (A5 m a)=2:=by rw[D];simp[C7,e6]
       have ac:D7 l m (A5 m a)=2:=by simp[D7,E5,e6]
       rw[a8x _ _ e6];have:k=0\/k=1:=by omega
       rcases this with rfl|rfl
       ·obtain⟨t,v⟩:=B (F0 l m a ht+1) Oo;show Z9 l ts (x,F0 l m a ht+0,(R9 ts a).getD (F0 l m a ht+1) A8);rw[a1w v];refine y _ t v _ (a3N S ?_);rw[if_neg Oo,if_neg Oo,if_neg Oo,if_neg Oo,if_neg e5,if_pos e6];have:2*F0 l m a ht+1-(F0 l m a ht+1)=F0 l m a ht:=by omega
        rw[this];simp
       ·obtain⟨t,v⟩:=B (F0 l m a ht) Oo;show Z9 l ts (x,F0 l m a ht+1,(R9 ts a).getD (F0 l m a ht) A8);rw[a1w v];refine y _ t v _ (a3N S ?_);rw[if_neg Oo,if_neg Oo,if_neg Oo,if_neg Oo,if_neg e5,if_pos e6];have:2*F0 l m a ht+1-F0 l m a ht=F0 l m a ht+1:=by omega
        rw[this];simp
      ·by_cases e26:(A5 m a).o=26
       ·have ab:I5 l (A5 m a)=1:=by rw[D];simp[C7,e26]
        have ac:D7 l m (A5 m a)=2:=by simp[D7,E5,e26]
        obtain rfl:k=0:=by omega
        obtain⟨t,v⟩:=B (F0 l m a ht) Oo;rw[b1W _ _ e26,a1w v];refine y _ t v _ (a3N S ?_);rw[if_neg Oo,if_neg Oo,if_neg Oo,if_neg Oo,if_neg e5,if_neg e6,if_pos ⟨e26,rfl⟩];simp
       ·rw[b2L _ _ Oo];refine T _ ?_;unfold T1;refine lq _ (nv.2 ⟨k,uv.2 Oo,?_⟩)
        have af:((C7 l (A5 m a)).getD k A8).k≠0:=λe=>by
         have:=(h.puts_ok hw aa).2 ⟨_,b3e Oo,e⟩;omega
        rw[if_neg af];exact ld.2 ⟨x,S,rfl⟩
theorem C1.typing_ofS(h:C1 l)(hw:Z1 l){c:ByteArray}(hc:N2 l m)(hi:∀i∈m.c,R7 i)(hh:l4 l m)(hp:a2y l c m ts)
 (M:∀j,j<m.l->Z9 l ts (0,j,(T5 c m).getD j A8)) (T:∀a ht,G2 l m a ht->∀p∈T1 l m a (F0 l m a ht),Z9 l ts p)
 (F:∀a ht,G2 l m a ht->∀j t,tq ts a j=O (O t)->∀p∈N6 l m a (F0 l m a ht) j t,Z9 l ts p):
 a2O l c m (R9 ts)/\∀a ht,G2 l m a ht->∀j,j<m.l+ht->∃t,tq ts a j=O (O t):=by
 have e:∀a ht,G2 l m a ht->(R9 ts a).length=m.l+ht:=λa ht y=>by unfold R9;rw[lw];exact hp.shape a ht y
 have told:∀a ht,G2 l m a ht->∀j,j<m.l+ht->∃t,tq ts a j=O (O t):=by
  intro a ht y;refine a4T (S:=λa ht=>G2 l m a ht/\∀j,j<m.l+ht->∃t,tq ts a j=O (O t)) ⟨⟨(a1c l m).1,λj E=> ?_⟩,?_⟩ y|>.2
  ·obtain⟨u,B,_⟩:=M j Oo;exact⟨u,B⟩
  ·rintro a ht ⟨D,ab⟩ p v;have ad:=(a1c l m).2 a ht D p v;refine⟨ad,λj E=> ?_⟩
   have hq:∃q∈R4 l m a,q.1=p.1/\(q.2 (R9 ts a)).length=m.l+p.2:=by
    unfold X6 at v;rcases nh.1 v with v|v
    ·split at v
     ·cases v
     ·obtain⟨d,hd,rfl⟩:=ld.1 v;exact⟨(d.t,hdF m d),lu _ (ld.2 ⟨d,hd,rfl⟩),rfl,a6j (e a ht D)⟩
    ·split at v
     ·rename_i hroom;obtain⟨x,hx,rfl⟩:=ld.1 v;exact⟨(x,X9 l m (A5 m a)),lq _ (ld.2 ⟨x,hx,rfl⟩),rfl,a6k (e a ht D) hroom⟩
     ·cases v
   obtain⟨q,hq,e1,e2⟩:=hq;obtain⟨u,B,_⟩:=h.cover hw hc hi hh hp D (T a ht D) (F a ht D) ab q hq j Oo;rw[e1]at B;exact⟨u,B⟩
 have af:∀a ht,G2 l m a ht->G4 l (R9 ts a):=λa ht y t ae=>by
  obtain⟨j,E,rfl⟩:=b2T ae;obtain⟨u,B⟩:=told a ht y j (by rw[e a ht y]at E;exact E);rw[a1w B];exact(hp.snd a j u B).1
 refine⟨⟨⟨e,af,⟨?_,λj E=> ?_⟩,λa ht y q hq=> ?_⟩,λS hS a ht y=>⟨?_,λj E=> ?_⟩⟩,told⟩
 ·rw[a5d hc,e 0 0 (a1c l m).1];rfl
 ·rw[a5d hc]at E;obtain⟨u,B,aa⟩:=M j E;rw[a1w B];exact aa
 ·obtain⟨k,hk,ac⟩:=b2a hh y (e a ht y) hq;refine⟨by rw[ac,e _ _ hk],λj E=> ?_⟩;obtain⟨u,B,aa⟩:=h.cover hw hc hi hh hp y (T a ht y) (F a ht y) (told a ht y) q hq j E;rw[a1w B];exact aa
 ·rw[e a ht y,hS.shape a ht y]
 ·obtain⟨u,B⟩:=told a ht y j (by rw[e a ht y]at E;exact E);rw[a1w B];exact(hp.snd a j u B).2 S hS
end Cf
end
end Go.Proofs.YtdhophglnhcjbaaGreatDoor
