/- P01: a part of the proof that the last text tells. -/
import Derived.Test.YtdhophglnhcjbaaGreatDoorP00
set_option linter.all false
set_option maxRecDepth 100000
set_option maxHeartbeats 40000000
open Go.Proofs.Tryz
open Go renaming Addr->la,maxLen->ld,World->lf,Calls->lg,bodyPost_ret->ls,results->lu
open Go.RowKit renaming intOf->le
open List renaming getD_eq_getElem?_getD->lh,getElem_mem->li,getElem?_eq_getElem->lk,getElem_of_mem->lm,length_append->ln,mem_cons->lo,findIdx?_eq_some_iff_getElem->lp,any_eq_true->lq,any_eq_false->lr,mem_map->lv,length_take->lw,mem_range->ly,getElem?_append_left->nb,findIdx?_append->nc,findIdx?_cons->nd,flatMap_append->ni,flatMap_cons->nj,mem_of_mem_drop->nk,length_drop->nl,findIdx?_map->nn,findSome?_cons->nr,findSome?_append->nt,findSome?_eq_none_iff->nu,drop_zero->nv,take_succ_eq_append_getElem->nx,exists_of_findSome?_eq_some->nz,take_length->ud
open Nat renaming lt_or_ge->lj,le_trans->ll,mul_le_mul_right->nw
open Option renaming bind_some->lx,map_eq_none_iff->ng,getD_some->ny,map_some->ua,some->ub
open Bool renaming and_eq_true->no,and_assoc->uc
open Option renaming none→N,some→O
open Go.IntKind renaming i64→I
open Go.Value renaming int→J,string→Z,slice→V,pointer→U,bool→G
open Go.Ending renaming returned→Y
open Go.RowKit renaming Hid→X
open Go.Obj renaming cells→H
open Go.Addr renaming mk→A
namespace Go.Proofs.YtdhophglnhcjbaaGreatDoor
section
theorem c8f{P:Prop}(h:P:=by
 have hK:¬((xk:Int)=(yk:Int)):=by omega
 have HE:=A1 (a6K xs ys j hjx hjy (by rw[<-HXX.o,<-HYY.o];simp[I4,hk]));exact b0e):P:=h
theorem a2c{P:Prop}(h:P:=by
 subst hk;by_cases hnm:xn=yn
 ·subst hnm;have HE:=A1 (HXX.o.symm.trans HYY.o);clear HXX HYY;go_wp2
  go_quiet (fail)
  go_wp2
  go_roundw
  case rel=>exact⟨j+1,by omega,by go_num,A0 HG.o (F4 _ _ _),λr hr g1 g2=>by
   rcases Nat.lt_or_ge r j with h1|h1
   ·exact HV.o r h1 g1 g2
   ·obtain rfl:r=j:=by omega
    exact(a2M _ _).2 HE.o⟩
  case measure=>simp[intOf];omega
 ·have hN:¬xn.toList=yn.toList:=λe=>hnm (a0U e)
  have HE:=A1 (a6K xs ys j hjx hjy (by rw[<-HXX.o,<-HYY.o];simp[I4,hnm]));clear HXX HYY;go_wp2
  go_quiet (fail)
  go_wp2
  go_ret;rw[HE.o];exact⟨rfl,A0 HG.o (F4 _ _ _)⟩):P:=h
theorem a2d{P:Prop}(h:P:=by
 go_wp2_with (go_at_call 259;refine(a3I _ lim wb L p cap q HWx _ _).mono ?_;rintro e w5 ⟨rfl,hg5⟩;rw[HPV.o];have d1':=hg5.cell d1 Os;have e0':=hg5.cell e0 Os)
 go_roundw
 case rel=>exact⟨k+1,by omega,by go_num,by rw[HNEW.o];rfl,A0 hgx.o hg5⟩
 case measure=>simp[intOf];omega):P:=h
theorem a3g{P:Prop}(h:P:=by
 refine List.any_eq_false.2 (λt ht=> ?_);obtain⟨r,hr,rfl⟩:=List.getElem_of_mem ht;have:=HV.o r hr;rw[List.getD_eq_getElem?_getD,List.getElem?_eq_getElem hr]at this;simpa using this):P:=h
theorem a4r{P:Prop}(h:P:=by
 exact⟨0,Nat.zero_le _,rfl,C9 _ _,λr hr=>by omega⟩):P:=h
theorem b0e{P:Prop}(h:P:=by
 clear HXX HYY;go_wp2
 go_quiet (fail)
 go_wp2
 go_ret;rw[HE.o];exact⟨rfl,A0 HG.o (F4 _ _ _)⟩):P:=h
theorem b0j{P:Prop}(h:P:=by
 go_wp2_with (go_at_call 121;refine(a2i _ lim wb L p cap q HWx _).mono ?_;rintro e w5 ⟨rfl,rfl⟩;rw[<-HFV.o])
 go_roundw
 case rel=>exact⟨k2+1,by omega,by go_num,by rw[HNEW.o];simp[hp0],hgy⟩
 case measure=>simp[intOf];omega):P:=h
theorem c5r{P:Prop}(h:P:=by
 go_roundw
 case rel=>exact⟨j+1,by omega,by go_num,HG2,λr hr=>by
  rcases Nat.lt_or_ge r j with h1|h1
  ·exact HV.o r h1
  ·obtain rfl:r=j:=by omega
   rw[HTD.o,<-HVV.o]⟩
 case measure=>simp[intOf];omega):P:=h
theorem c5y{P:Prop}(h:P:=by
 have hjn:j=n:=by omega
 subst hjn;go_wp2_with fail
 go_ret;have:=b1c (HX.o.symm.trans HY.o) (λr h1 h2=>HV.o r (by rw[HX.o];exact h1) h1 h2);rw[this];exact⟨rfl,HG.o⟩):P:=h
theorem c6e{P:Prop}(h:P:=by
 rw[b3h (pre0:=o6 pre0) (k:=k.1) (r:=(k.1,i)) (by simpa[o6]using hpre) (λj hj=>by
  obtain⟨j',hj',rfl⟩:=List.mem_map.1 hj;rw[h0 j' hj'];rfl) (by rw[h1];rfl)]):P:=h
theorem c6x{P:Prop}(h:P:=by
 exact⟨p,pa,ca,ha,pk,ck,hk,h1,h2,h3.keep hg,h4.keep hg,h5.keep hg,λr u hu=>hg.cell (h6 r u hu) Os⟩):P:=h
theorem c7t{P:Prop}(h:P:=by
 rw[<-hys,b2l];intro j hj;obtain⟨j',hj',rfl⟩:=List.mem_map.1 hj;rw[hne j' hj'];rfl):P:=h
end
section
open Go.RowKit Go.Shelf Cf
namespace Kx
theorem N0{a b:Bool}(h:a=b):Ending.returned (G a)= Y (G b):=by rw[h]
variable {α:Type}{k:Nat}
theorem a3W{p:α->Bool}{l:List α}(hk:k<l.length)(h:p l[k]=true):l.any p=true:=lq.2 ⟨_,li hk,h⟩
theorem a3T{p:α->Bool}{l:List α}(h:∀j (d:j<l.length),p l[j]=false):l.any p=false:=by
 rw[lr];intro x e;obtain⟨j,d,rfl⟩:=lm e;rw[h j d];simp
variable {w:World}{L:List Cl}
theorem a3R{lim:Nat}{q:Nat->Qs}{a:Option la}{l:List Nat}(h:C0 w lim 4 (M6 L q) a l)(hk:k<l.length):∃p:la,a=O p/\p.block<lim/\w.cell? (p.add (k*4))=O (Z (cl L l[k]).n)/\
 w.cell? (A ((p.add (k*4)).block) ((p.add (k*4)).off+1) N)=O (Z (cl L l[k]).s)/\w.cell? (A ((p.add (k*4)).block) ((p.add (k*4)).off+2) N)=O (V (q l[k]).fa (cl L l[k]).f.length (q l[k]).fk)/\
 w.cell? (A ((p.add (k*4)).block) ((p.add (k*4)).off+3) N)=O (V (q l[k]).ma (cl L l[k]).m.length (q l[k]).mc):=by
 obtain⟨p,e,g,d⟩:=h k hk;exact⟨p,e,g,d 0 _ rfl,by rw[C2 p (k*4) 0];exact d 1 _ rfl,by rw[C2 p (k*4) 1];exact d 2 _ rfl,by rw[C2 p (k*4) 2];exact d 3 _ rfl⟩
theorem a5u(n:ByteArray):(up L n).length<=L.length:=by
 unfold up
 have:∀k n,(F1 L k n).length<=k:=by
  intro k;induction k with
  |zero=>intro n;simp[F1]
  |succ k ih=>intro n;rw[F1];split
              ·simp
              ·have:=ih (cl L ‹Nat›).s;simp;omega
 exact this _ _
theorem a8p(w:lf)(lim M:Nat)(L:List Cl)(p:la)(cap:Nat)(q:Nat->Qs)(h:X (Wo w lim M L p cap q))(s o:ByteArray):
 lg prog 183 #[U (O (A M 0 N)), Z s, Z o] w λe w'=>e= Y (G (G5 L s o))/\w.grownBy w' N:=by
 have aa:=h.o.small;go_enter func183,ntmps183;go_wp2_with (go_at_call 130;refine(a6S _ lim M L p cap q h s).mono ?_;rintro e w' ⟨a,kc,rfl,d,hg⟩)
 have C:=a5u (L:=L) s;obtain⟨l,E⟩:=Oe (up L s)
 rw[<-E]at d C⊢;have S:=A1 E;have HR:=A1 d;obtain⟨n,K⟩:=Oe l.length
 rw[<-K]at C⊢;have T:=A1 K;clear E d K;go_wp2
 go_loop [8] (λi=>∃k:Nat,k<=n/\i= J I k/\X (∀j (y:j<l.length),j<k->(cl L l[j]).n≠o)) (λi=>n-(le i).toNat)
 case atStart=>exact⟨0,by omega,rfl,λj _ y=>by omega⟩
 case round=>
  obtain⟨k,hk,rfl,g⟩:=hrel;by_cases hlt:k<n
  ·have B:k<l.length:=by rw[<-T.o];exact hlt
   obtain⟨pp,rfl,-,f0,-⟩:=a3R HR.o B;obtain⟨xn,v⟩:=Oe ((cl L l[k]).n)
   rw[<-v]at f0;have W:=A1 v;clear v;by_cases hx:xn=o
   ·subst hx;go_wp2
    go_ret;exact⟨N0 (by unfold G5;rw[<-S.o];exact(a3W B (by simpa using W.o.symm)).symm),hg⟩
   ·have hb:=l6 hx;go_wp2
    go_round
    case rel=>exact⟨k+1,by omega,by go_num,λj D y=>by
     rcases lj j k with h1|h1
     ·exact g.o j D h1
     ·obtain rfl:j=k:=by omega
      rw[<-W.o];exact hx⟩
    case measure=>simp[le];omega
  ·go_wp2
   go_ret;exact⟨N0 (by unfold G5;rw[<-S.o];exact(a3T (λj y=>by simpa using g.o j y (by rw[<-T.o]at y;omega))).symm),hg⟩
theorem b0Y(s:ByteArray):s.toList.isEmpty=decide (s=D4):=by
 rw[Bool.eq_iff_iff,decide_eq_true_eq,List.isEmpty_iff];constructor
 ·intro h;exact a0U (by rw[h,ByteArray.toList_eq];rfl)
 ·rintro rfl;rw[ByteArray.toList_eq];rfl
theorem a5i(n:ByteArray):decide (0<=a0o L n)=E9 L n:=by
 unfold a0o E9;cases C8 L n<;>simp
theorem a3I(w:lf)(lim d:Nat)(L:List Cl)(p:la)(cap:Nat)(q:Nat->Qs)(h:X (Wo w lim d L p cap q))(k:Int)(s:ByteArray):
 lg prog 259 #[U (O (A d 0 N)), .agg #[J I k, Z s]] w λe w'=>e= Y (G (decide (s=D4)||E9 L s))/\w.grownBy w' N:=by
 obtain⟨f,g⟩:=Oe (a0o L s)
 have y:=A1 g;have B:∀v,X (Wo (w.alloc v) lim d L p cap q):=λv=>h.o.keep (A2 _ _ _)
 clear g y;cases hbe:s.toList.isEmpty
 all_goals
  go_enter func259,ntmps259;go_wp2_with (go_at_call 121;refine(a2i _ lim d L p cap q (B _) _).mono ?_;rintro e w' ⟨rfl,rfl⟩)
  go_ret;exact⟨N0 (by rw[<-b0Y,hbe];first|rfl|(rw[a5i];simp)),A2 _ _ _⟩
theorem b5C(w:lf)(lim d:Nat)(L:List Cl)(p:la)(cap:Nat)(q:Nat->Qs)(h:X (Wo w lim d L p cap q))(c:Cl)(C:Qs):
 lg prog 177 #[U (O (A d 0 N)), .agg (G9 c C).toArray] w λe w'=>e= Y (G (!E9 L c.s))/\w.grownBy w' N:=by
 obtain⟨f,v⟩:=Oe (a0o L c.s)
 have g:=A1 v;have B:∀y,X (Wo (w.alloc y) lim d L p cap q):=λy=>h.o.keep (A2 _ _ _)
 clear v;unfold G9;by_cases h0:f<0
 all_goals
  go_enter func177,ntmps177;go_wp2_with (go_at_call 121;refine(a2i _ lim d L p cap q (B _) _).mono ?_;rintro e w' ⟨rfl,rfl⟩;rw[<-g.o])
  go_ret;exact⟨N0 (by rw[<-a5i,<-g.o];simp[h0];try omega),A2 _ _ _⟩
theorem b7b(w:lf)(lim d:Nat)(L:List Cl)(p:la)(cap:Nat)(q:Nat->Qs)(h:X (Wo w lim d L p cap q))(c:Cl)(D:Qs):
 lg prog 178 #[U (O (A d 0 N)), .agg (G9 c D).toArray] w λe w'=>e= Y (G (G5 L c.s c.n))/\w.grownBy w' N:=by
 obtain⟨f,g⟩:=Oe (G5 L c.s c.n)
 have y:=A1 g;have B:∀v,X (Wo (w.alloc v) lim d L p cap q):=λv=>h.o.keep (A2 _ _ _)
 rw[<-g];clear g;unfold G9;go_enter func178,ntmps178;go_wp2_with (go_at_call 183;refine(a8p _ lim d L p cap q (B _) _ _).mono ?_;rintro e w' ⟨rfl,C⟩;rw[<-y.o])
 go_ret;exact⟨rfl,A0 (A2 _ _ _) C⟩
theorem b8G(c:Cl)(d:List ByteArray)(x:ByteArray):K6 c (d++ [x])=K6 c d++ [(P3 c.n x,d.length)]:=by
 unfold K6;rw[ln,List.length_singleton,List.range_succ,List.map_append];congr 1
 ·refine List.map_congr_left (λi hi=> ?_);have:=ly.1 hi;simp[List.getD,nb this]
 ·simp[List.getD]
theorem b3H(c:Cl)(n:ByteArray)(g:c.n.size<=ld)(v:n.size<=ld):∀(ms d:List ByteArray),(∀x∈ms,x.size<=ld)->O1 (K6 c d) (P3 c.n n)=d.findIdx? (λx=>decide (x=n))->
 O1 (K6 c (d++ms)) (P3 c.n n)=(d++ms).findIdx? (λx=>decide (x=n))
 | [],d,_,h=>by simpa using h
 |x::ms,d,hs,h=>by
  have:=b3H c n g v ms (d++ [x]) (λy C=>hs y (by simp[C])) (by
   rw[b8G,a3F,a5T,h,nc];congr 1
   by_cases e:x=n
   ·subst e;simp[nd]
   ·rw[if_neg (λB=>e (b3b g (hs x Os) g v B).2)];simp[nd,e])
  simpa using this
theorem b8H(c:Cl)(n:ByteArray)(e:c.n.size<=ld)(g:n.size<=ld)(d:List ByteArray)(v:∀x∈d,x.size<=ld):O1 (K6 c d) (P3 c.n n)=d.findIdx? (λx=>decide (x=n)):=by
 have:=b3H c n e g d [] v rfl;simpa using this
theorem b7t(c:Cl)(d n:ByteArray)(g:c.n≠d)(y:c.n.size<=ld)(hd:d.size<=ld)(B:n.size<=ld)(v:List ByteArray)(D:∀x∈v,x.size<=ld):O1 (K6 c v) (P3 d n)=N:=by
 unfold O1 K6;rw[ng,List.find?_eq_none];intro p C;obtain⟨i,hi,rfl⟩:=lv.1 C;simp only[decide_eq_true_eq];intro e
 have E:(v.getD i D4).size<=ld:=by
  have:=ly.1 hi;exact D _ (by rw[lh,lk this];simp)
 exact g (b3b y E hd B e).1
def a0N(f:Cl->List ByteArray)(L:List Cl):Prop:=∀c∈L,c.n.size<=ld/\∀x∈f c,x.size<=ld
theorem a6U(f:Cl->List ByteArray)(d n:ByteArray)(hd:d.size<=ld)(g:n.size<=ld):∀(L:List Cl),a0N f L->(∀c∈L,c.n≠d)->O1 (S7 f L) (P3 d n)=N
 | [],_,_=>rfl
 |c::L,hs,hne=>by
  show O1 (K6 c (f c)++S7 f L) _=N;rw[a3F,b7t c d n (hne c Os) (hs c Os).1 hd g _ (hs c Os).2,a6U f d n hd g L (λx e=>hs x (by simp[e])) (λx e=>hne x (by simp[e]))];rfl
theorem a6d(f:Cl->List ByteArray)(hd:a1z L)(v:a0N f L)(hk:k<L.length)(n:ByteArray)(C:n.size<=ld):
 O1 (S7 f L) (P3 (cl L k).n n)=(f (cl L k)).findIdx? (λx=>decide (x=n)):=by
 have E:cl L k∈L:=by rw[V8 hk];exact li hk
 have D:L=L.take k++cl L k::L.drop (k+1):=by rw[V8 hk,List.getElem_cons_drop hk,List.take_append_drop]
 have B:=(v _ E).1
 have e:S7 f L=S7 f (L.take k)++(K6 (cl L k) (f (cl L k))++S7 f (L.drop (k+1))):=by
  conv=>lhs;rw[D]
  unfold S7;rw[ni,nj]
 rw[e,a3F,a3F,b8H _ n B C _ (v _ E).2]
 rw[a6U f (cl L k).n n B C (L.take k) (λc h=>v c (List.mem_of_mem_take h)) (λc h=>by
  obtain⟨j,g,rfl⟩:=lm h;rw[List.getElem_take];intro y;have d:j<L.length:=by rw[lw]at g;omega
  have K:j<k:=by rw[lw]at g;omega
  have:=hd j k d hk (by rw[V8 d];exact y);omega)]
 rw[a6U f (cl L k).n n B C (L.drop (k+1)) (λc h=>v c (nk h)) (λc h=>by
  obtain⟨j,g,rfl⟩:=lm h;rw[List.getElem_drop];intro y;have d:k+1+j<L.length:=by rw[nl]at g;omega
  have:=hd (k+1+j) k d hk (by rw[V8 d];exact y);omega)]
 cases (f (cl L k)).findIdx? (λx=>decide (x=n))<;>rfl
theorem b0Q(c:Cl)(n:ByteArray):(N1 c).findIdx? (λx=>decide (x=n))=a9 c n:=by
 unfold N1 a9;rw[nn];rfl
theorem a6I(c:Cl)(n:ByteArray):(I8 c).findIdx? (λx=>decide (x=n))=L2 c n:=by
 unfold I8 L2;rw[nn];rfl
theorem a6X{m:Nat}{l:List (Ky×Nat)}(h:w.ownsMap (H:=Unit) prog 255 (plainElem prog 3) m k (T7 l))(c n:ByteArray)(B:c.size<=ld)(C:n.size<=ld)(r:Option Nat)(g:O1 l (P3 c n)=r):
 (Instr.lookup 149 (.map (O m)) (.agg #[.string c, .string n]) true).run prog w= .ok (.tuple #[.int I (r.getD 0:Nat), .bool r.isSome]) w:=by
 obtain⟨v,D,e,y⟩:=h.look_ok a5y underlying149 (a3k w) (zd:= .lit (.int I 0)) (zp:=[]) (plainElem_int underlying3 Od) (a4w c n B C);obtain⟨d,rfl,hd,-⟩:=plainElem_int_inv underlying3 y;have hh:Maps.has (T7 l) (.string (P3 c n))=r.isSome:=by rw[(a5j l).has,g]
 have ha:(T7 l).atKey (.string (P3 c n)) (.lit (.int I 0))= .lit (.int I (r.getD 0:Nat)):=by rw[(a5j l).t,g]
 rw[ha,Prod.mk.injEq]at hd;obtain⟨hd,-⟩:=hd;simp only[DataW.lit.injEq,Lit.int.injEq,true_and]at hd;subst hd;rw[hh]at e;exact e
open Go.RowKit Go.Shelf
section
variable{F:Fence}{n:Nat}{P:Program}{Q:Exit->Act->World->Prop}
def a6i(o:Oper):Bool:=match o.op with| .defer _=>false|_=>true
theorem b7n{o:Oper}(h:a6i o=true):∀c,o.op≠ .defer c:=by
 intro c e;unfold a6i at h;rw[e]at h;cases h
theorem b6H(r:Nat)(d:F.round=none){o:Oper}(hd:a6i o=true){a:Act}{w:World}{K:Act→World→Prop}(h:o.wpIn F n P a w K Q):o.wpIn (F.inRound r) n P a w K Q:=by
 unfold Oper.wpIn at h⊢;rw[Oper.semAt_eq _ _ _ (b7n hd)]at h⊢;exact h
theorem a6F(r:Nat)(v:F.round=N){y:Array Oper}{md:Region.Mode}(hd:∀(i:Nat) (o:Oper),y[i]? =O o->a6i o=true):∀(d:Nat) (e:Array Bool) (a:Act) (w:lf),wpAnyIn F n P md y Q d e a w->wpAnyIn (F.inRound r) n P md y Q d e a w
 |0,_,_,_,h=>h
 |d+1,e,a,w,h=>⟨h.1,λi hi=>by
  have g:=h.2 i hi;unfold wpOpIn at g⊢;cases ho:y[i]? with
  |none=>simp only[ho]at g⊢;exact a6F r v hd d _ a w g
  |some o=>
   simp only[ho]at g⊢;split
   ·rename_i hw;rw[if_pos hw]at g;exact b6H r v (hd i o ho) (Oper.wpIn_mono (λB w' hk=>a6F r v hd d _ B w' hk) g)
   ·rename_i hw;rw[if_neg hw]at g;exact⟨g.1,a6F r v hd d _ _ w g.2⟩⟩
theorem a4s{D r:Nat}{a:Act}{w:lf}{l:List Oper}(d:F.round=N)(hd:l.all a6i=true)(y:P.follows .mixedOrders=true)(g:Region.lexB .any l.toArray=true)
 (h:wpQuietIn F n P l.toArray (λw'=>∃n,w'=w.drewN n) (λe=>∀w',(∃n,w'=w.drewN n)->Q .normal e w') l a):(Code.region D l.toArray true).wpIn (F.inRound r) n P Q a w:=by
 simp only[Region.lexB,no]at g;refine wpIn_region_any y (a6F r d (λi o B=>List.all_eq_true.1 hd o (List.mem_of_getElem? (by simpa using B))) _ _ _ _ (wpAnyIn_of_quiet (C:=λw'=>∃n,w'=w.drewN n) (Q:=λe=>∀w',(∃n,w'=w.drewN n)->Q .normal e w') d (λ_ w' v h=>h w' v) _ _ _ _ ⟨1,rfl⟩ ?_));have:=wpAnyQIn_lex (F:=F) (n:=n) (C:=λw'=>∃n,w'=w.drewN n) (md:= .any) g.1 l 0 (Array.replicate l.toArray.size false) a Os (by simpa using g.2) h;simpa using this
theorem a2K{B:Nat}{a W:lf}(h:Below B a W)(k:Nat):Below B a (W.drewN k):=⟨h.os,h.tape,h.output,h.size,h.block⟩
theorem a4t(B:Nat)(W:lf)(k:Nat):KeepsFrom B W (W.drewN k):=KeepsFrom.of_grownBy (F4 W k N) (λj e=>by cases e)
end
end Kx
namespace Cf
def a0y(l:List Cl)(n:ByteArray):ByteArray:=(cl l ((C8 l n).getD 0)).s
def P1(l:List Cl)(t:Ty):Ty:=
 if t.k=3\/t.k=4 then C5 D5 else if t.k=2/\t.n≠D5 then C5 (a0y l t.n)else A8
def a2W(l:List Cl):Nat->Ty->Ty->Ty
 |0,t,_=>t
 |k+1,t,o=>if C4 l o t then t else a2W l k (P1 l t) o
def P9(l:List Cl)(t:Ty):Nat:=if t.k=0 then 0 else if t.k=2 then(up l t.n).length else if t.k=3\/t.k=4 then 2 else 1
def X7(l:List Cl)(t o:Ty):Ty:=if C4 l t o then o else a2W l (P9 l t+1) t o
structure a7J(l:List Cl)(a b x:Ty):Prop where
 ok:D9 l x
 left:C4 l a x=true
 right:C4 l b x=true
 least:∀y,D9 l y->C4 l a y=true->C4 l b y=true->C4 l x y=true
variable {l:List Cl}
theorem a3K:D9 l A8:=a3H Oo Oo Oo
theorem C1.up_object(h:C1 l):up l D5=[0]:=by
 exact c5w
theorem C1.super_has(h:C1 l){n:ByteArray}{i:Nat}(hi:C8 l n=O i)(v:n≠D5):∃k,C8 l (a0y l n)=O k:=by
 unfold a0y;rw[hi];refine h.s i (M8 hi).1 (λe=>v ?_);subst e;have d:=(M8 hi).2.1;have g:=(M8 h.find_object).2.1;rw[<-d,g]
variable {a b t x:Ty}
theorem C1.next_ok(h:C1 l)(d:D9 l t):D9 l (P1 l t):=by
 unfold P1;split
 ·exact h.tyOk_object
 ·split
  ·rename_i h2;have:=d.2;rw[if_pos (.inl h2.1)]at this;obtain⟨i,hi⟩:=this;obtain⟨k,hk⟩:=h.super_has hi h2.2;exact⟨by simp[C5],by simp[C5,hk]⟩
  ·exact a3K
theorem C1.next_rank(h:C1 l)(e:D9 l t)(d:t.k≠0):P9 l (P1 l t)<P9 l t:=by
 unfold P1;split
 ·rename_i h3;have:P9 l (C5 D5)=1:=by simp[P9,C5,h.up_object]
  rw[this];unfold P9;rw[if_neg d,if_neg Oo,if_pos h3];omega
 ·rename_i h3;split
  ·rename_i h2;have:=e.2;rw[if_pos (.inl h2.1)]at this;obtain⟨i,hi⟩:=this;have g:P9 l t=(up l t.n).length:=by unfold P9;rw[if_neg d,if_pos h2.1]
   have v:P9 l (C5 (a0y l t.n))=(up l (a0y l t.n)).length:=by simp[P9,C5]
   rw[g,v,h.up_some hi];simp[a0y,hi]
  ·rename_i h2;have:P9 l A8=0:=by simp[P9,A8]
   rw[this];unfold P9;rw[if_neg d];split
   ·rename_i h6;have:=e.2;rw[if_pos (.inl h6)]at this;obtain⟨i,hi⟩:=this;rw[h.up_some hi];simp
   ·first|omega|(split<;>omega)
theorem C1.rank_le(h:C1 l)(t:Ty):P9 l t<=l.length:=by
 have e:9<=l.length:=by obtain⟨d,rfl⟩:=h.base;simp[show B6.length=9 from rfl]
 have:=h.up_short t.n;unfold P9;split
 ·omega
 ·split
  ·omega
  ·split<;>omega
theorem C1.next_least(h:C1 l){y:Ty}(E:D9 l t)(T:D9 l y)(h5:t.k≠5)(S:C4 l t y=true)(d:t≠y):C4 l (P1 l t) y=true:=by
 rw[y8 (h.next_ok E) T];rw[y8 E T]at S;rcases S with e|rfl|⟨g,_⟩|⟨g,W,v⟩|⟨g,rfl⟩
 ·exact absurd e d
 ·exact .inr (.inl rfl)
 ·exact absurd g h5
 ·have hn:t.n≠D5:=λe=>by
   rw[e]at v;have K:=h.below_len v;rw[h.up_object]at K;obtain⟨k,hk⟩:=h.below_has v;rcases K with B|B
   ·exact d (by cases t;cases y;simp_all)
   ·rw[h.up_some hk]at B;simp at B
  have M:=E.2;rw[if_pos (.inl g)]at M;obtain⟨i,hi⟩:=M;have C:P1 l t=C5 (a0y l t.n):=by unfold P1;rw[if_neg Oo,if_pos ⟨g,hn⟩]
  rw[C];rw[h.below_step hi]at v;have D:t.n≠y.n:=λe=>d (by cases t;cases y;simp_all)
  simp only[D,decide_false,Bool.false_or]at v;refine .inr (.inr (.inr (.inl ⟨rfl,W,?_⟩)));show G5 l (a0y l t.n) y.n=true;unfold a0y;rw[hi];exact v
 ·have C:P1 l t=C5 D5:=by unfold P1;rw[if_pos g]
  rw[C];exact .inl rfl
theorem C1.under_next(h:C1 l)(d:D9 l t):C4 l t (P1 l t)=true:=by
 rw[y8 d (h.next_ok d)];unfold P1;split
 ·rename_i h3;exact .inr (.inr (.inr (.inr ⟨h3,rfl⟩)))
 ·split
  ·rename_i h2;have e:=d.2;rw[if_pos (.inl h2.1)]at e;obtain⟨i,hi⟩:=e;obtain⟨k,hk⟩:=h.super_has hi h2.2;refine .inr (.inr (.inr (.inl ⟨h2.1,rfl,?_⟩)));rw[h.below_step hi];have:a0y l t.n=(cl l i).s:=by unfold a0y;rw[hi];rfl
   simp only[C5];rw[<-this,h.below_refl hk];simp
  ·exact .inr (.inl rfl)
theorem C1.climb_lub(h:C1 l)(ha:D9 l a)(B:D9 l b):∀(k:Nat) (t:Ty),P9 l t<k->D9 l t->C4 l a t=true->(∀y,D9 l y->C4 l a y=true->C4 l b y=true->C4 l t y=true)->(t.k=5->b.k=1\/b.k=5)->a7J l a b (a2W l k t b)
 |0,t,hk,_,_,_,_=>by omega
 |k+1,t,hk,ht,h1,h2,h5=>by
  unfold a2W;split
  ·rename_i hu;exact⟨ht,h1,hu,h2⟩
  ·rename_i hu;have M:t.k≠0:=λe=>hu (by rw[a1N ht e Oo Oo];exact a1M l b)
   refine h.climb_lub ha B k (P1 l t) (by have:=h.next_rank ht M;omega) (h.next_ok ht) (h.under_trans ha ht (h.next_ok ht) h1 (h.under_next ht)) (λy v K d=> ?_) (λe=> ?_)
   ·by_cases hk5:t.k=5
    ·have S:P1 l t=A8:=by unfold P1;rw[if_neg Oo,if_neg Oo]
     rw[S];have E:=a1N ht hk5 Oo Oo;rcases h5 hk5 with C|D
     ·have g:=h2 y v K d;rw[y8 B v]at d;rw[y8 ht v]at g
      have:y=A8:=by
       rcases d with e|e|⟨e,_⟩|⟨e,_⟩|⟨e,_⟩
       ·rcases g with f|f|⟨_,f⟩|⟨f,_⟩|⟨f,_⟩
        ·rw[<-f]at e;rw[e]at C;omega
        ·exact f
        ·rw[<-e]at f;omega
        ·omega
        ·omega
       ·exact e
       all_goals omega
      rw[this];exact a1v _ _
     ·have:=a1N B D Oo Oo;rw[this,<-E]at hu
      exact absurd (a1v _ _) hu
    ·exact h.next_least ht v hk5 (h2 y v K d) (λe=>hu (by rw[e];exact d))
   ·unfold P1 at e;split at e
    ·simp[C5]at e
    ·split at e
     ·simp[C5]at e
     ·simp[A8]at e
theorem C1.joinP_lub(h:C1 l)(ha:D9 l a)(d:D9 l b):a7J l a b (X7 l a b):=by
 unfold X7;split
 ·rename_i hu;exact⟨d,hu,a1v _ _,λy _ _ e=>e⟩
 ·rename_i hu;refine h.climb_lub ha d _ a Oo ha (a1v _ _) (λy _ e _=>e) (λg=> ?_);have:=d.1;by_cases h1:b.k=1\/b.k=5
  ·exact h1
  ·exfalso;apply hu;rw[y8 ha d];by_cases h0:b.k=0
   ·exact .inr (.inl (a1N d h0 Oo Oo))
   ·exact .inr (.inr (.inl ⟨g,by omega⟩))
def a1d(l:List Cl)(a b best x:Ty):Ty:=if C4 l a x&&C4 l b x&&C4 l x best then x else best
def a0b(l:List Cl)(a b:Ty):List Ty:=a::b::A8::l.map λc=>C5 c.n
def a5D(l:List Cl)(a b:Ty):Ty:=(a0b l a b).foldl (a1d l a b) A8
theorem C1.lub_in(h:C1 l)(ha:D9 l a)(B:D9 l b)(d:a7J l a b x):x∈a0b l a b:=by
 have hk:=d.ok.1;unfold a0b;by_cases h0:x.k=0
 ·rw[a1N d.ok h0 Oo Oo];simp[A8]
 by_cases h2:x.k=2
 ·have:=d.ok.2;rw[if_pos (.inl h2)]at this;obtain⟨i,hi⟩:=this;obtain⟨v,K,_⟩:=M8 hi;have:x=C5 (cl l i).n:=by rw[K];cases x;simp_all [C5]
  rw[this];refine lo.2 (.inr (lo.2 (.inr (lo.2 (.inr (lv.2 ⟨cl l i,?_,rfl⟩))))));rw[V8 v];exact li v
 ·have D:=(y8 ha d.ok).1 d.left;have E:=(y8 B d.ok).1 d.right;have C:x≠A8:=λe=>h0 (by rw[e];rfl)
  have n2:x≠C5 D5:=λe=>h2 (by rw[e];rfl)
  rcases D with e|e|⟨e,_⟩|⟨_,e,_⟩|⟨_,e⟩
  ·rw[e];simp
  ·exact absurd e C
  ·rcases E with f|f|⟨f,_⟩|⟨_,f,_⟩|⟨_,f⟩
   ·rw[f];simp
   ·exact absurd f C
   ·have y:=a1N ha e Oo Oo;have v:=a1N B f Oo Oo;have:=d.least a ha (a1v _ _) (by rw[v,<-y];exact a1v _ _);rw[y8 d.ok ha]at this;rcases this with g|g|⟨g,_⟩|⟨g,_⟩|⟨_,g⟩
    ·rw[g];simp
    ·rw[g]at e;simp[A8]at e
    ·rw[a1N d.ok g Oo Oo,<-y];simp
    ·exact absurd g h2
    ·rw[g]at e;simp[C5]at e
   ·exact absurd f h2
   ·exact absurd f n2
  ·exact absurd e h2
  ·exact absurd e n2
theorem C1.fold_lub(h:C1 l)(v:a7J l a b x):∀(q:List Ty) (d:Ty),(∀y∈q,D9 l y)->D9 l d->C4 l a d=true->C4 l b d=true->(x∈q\/d=x)->q.foldl (a1d l a b) d=x
 | [],d,_,_,_,_,g=>by
   rcases g with g|g
   ·cases g
   ·exact g
 |y::q,d,hq,hb,h1,h2,g=>by
  have B:=hq y Os;rw[List.foldl_cons]
  have D:a1d l a b d y=d/\(d=x->True)\/a1d l a b d y=y/\C4 l a y=true/\C4 l b y=true/\C4 l y d=true:=by
   unfold a1d;split
   ·rename_i hc;simp only[no]at hc;exact .inr ⟨rfl,hc.1.1,hc.1.2,hc.2⟩
   ·exact .inl ⟨rfl,λ_=>trivial⟩
  rcases D with⟨e,_⟩|⟨e,E,K,M⟩
  ·rw[e];refine h.fold_lub v q d (λz C=>hq z (by simp[C])) hb h1 h2 ?_;rcases g with g|g
   ·rcases lo.1 g with rfl|g
    ·right
     have:a1d l a b d x=x:=by
      unfold a1d;rw[v.left,v.right,v.least d hb h1 h2];rfl
     rw[<-e,this]
    ·exact .inl g
   ·exact .inr g
  ·rw[e];refine h.fold_lub v q y (λz C=>hq z (by simp[C])) B E K ?_;rcases g with g|g
   ·rcases lo.1 g with rfl|g
    ·exact .inr rfl
    ·exact .inl g
   ·right;rw[g]at M;exact h.under_antisymm B v.ok M (v.least y B E K)
theorem C1.joinR_eq(h:C1 l)(ha:D9 l a)(d:D9 l b):a5D l a b=X7 l a b:=by
 have v:=h.joinP_lub ha d;refine h.fold_lub v _ _ (λy e=> ?_) a3K (a1M _ _) (a1M _ _) (.inl (h.lub_in ha d v));unfold a0b at e;simp only[lo,lv]at e;rcases e with rfl|rfl|rfl|⟨c,B,rfl⟩
 ·exact ha
 ·exact d
 ·exact a3K
 ·obtain⟨q,g,rfl⟩:=lm B;have:=h.find_name g;rw[V8 g]at this;exact⟨by simp[C5],by simp[C5,this]⟩
end Cf
namespace Cf
def a4L(l:List Cl):Prop:=∀i,i<l.length->mbR l (cl l i)=false
theorem c1S(d:List Cl)(h:y6 d= .ok ()):a4L (B6++d):=by
 intro i hi;have e:B6.length=9:=rfl;by_cases h9:i<9
 ·rw[U0 Oo];rcases a3v h9 with rfl|rfl|rfl|rfl|rfl|rfl|rfl|rfl|rfl<;>rfl
 ·obtain⟨q,rfl⟩:∃q,i=9+q:=⟨i-9,by omega⟩
  rw[Y6];exact a7l h (λi=>mbR (B6++d) (cl d i)) Os q (by simp at hi;omega)
variable {l:List Cl}{n x:ByteArray}
theorem C1.fields_none(h:C1 l)(d:C8 l n=N):O9 l n=[]:=by
 unfold O9;rw[h.up_none d];rfl
variable {i:Nat}
theorem C1.fields_some(h:C1 l)(d:C8 l n=O i):O9 l n=O9 l (cl l i).s++(cl l i).f:=by
 unfold O9;rw[h.up_some d];simp
theorem C1.fieldAt_none(h:C1 l)(d:C8 l n=N):O0 l n x=N:=by
 unfold O0;rw[h.up_none d];rfl
theorem C1.fieldAt_some(h:C1 l)(d:C8 l n=O i):O0 l n x=match a9 (cl l i) x with|some j=>O (i,j)|none=>O0 l (cl l i).s x:=by
 unfold O0;rw[h.up_some d,nr];cases a9 (cl l i) x<;>rfl
def a2q(l:List Cl)(n x:ByteArray):Option Nat:=(O9 l n).findIdx? λf=>decide (f.n=x)
def o7:V3:=⟨D4,A8⟩
def a4c(l:List Cl)(p:Nat×Nat):Nat:=(O9 l (cl l p.1).s).length+p.2
theorem b6A{α:Type}(p:α->Bool)(a b:List α):(a++b).findIdx? p=match a.findIdx? p with|some i=>O i|none=>(b.findIdx? p).map (a.length+·):=by
 rw[nc];cases a.findIdx? p with
 |some i=>rfl
 |none=>simp only[Option.none_or];cases b.findIdx? p<;>simp[Nat.add_comm]
theorem C1.field_eq(h:C1 l)(M:a4L l)(n x:ByteArray):a2q l n x=(O0 l n x).map (a4c l):=by
 refine h.upInd (P:=λn=>a2q l n x=(O0 l n x).map (a4c l)) (λn d=> ?_) (λn i d C=> ?_) n
 ·unfold a2q;rw[h.fields_none d,h.fieldAt_none d];rfl
 ·have hi:=(M8 d).1;unfold a2q;rw[h.fields_some d,h.fieldAt_some d,b6A];have D:(cl l i).f.findIdx? (λf=>decide (f.n=x))=a9 (cl l i) x:=rfl;rw[D];cases hf:a9 (cl l i) x with
  |none=>
   unfold a2q at C;simp only;rw[C];cases (O0 l (cl l i).s x).map (a4c l)<;>rfl
  |some j=>
   have B:(O9 l (cl l i).s).findIdx? (λf=>decide (f.n=x))=N:=by
    rw[List.findIdx?_eq_none_iff];intro g E;have v:=M i hi;unfold mbR at v;simp only[Bool.or_eq_false_iff,lr]at v;obtain⟨K,S,_⟩:=lp.1 hf;have y:=v.2 _ (li K);have T:((cl l i).f[j]).n=x:=by simpa using S
    rw[T]at y;simp only[Bool.not_eq_true,lr,decide_eq_true_eq]at y;have:=y g E;simpa using λe:g.n=x=>this e.symm
   rw[B];rfl
variable {p:Nat×Nat}
theorem C1.field_lt(h:C1 l)(d:O0 l n x=O p):p.1<l.length/\p.2<(cl l p.1).f.length/\((cl l p.1).f.getD p.2 o7).n=x:=by
 revert d;refine h.upInd (P:=λn=>O0 l n x=O p->p.1<l.length/\p.2<(cl l p.1).f.length/\((cl l p.1).f.getD p.2 o7).n=x) (λn e d=> ?_) (λn i e y d=> ?_) n
 ·rw[h.fieldAt_none e]at d;cases d
 ·rw[h.fieldAt_some e]at d;cases hf:a9 (cl l i) x with
  |none=>rw[hf]at d;exact y d
  |some j=>
   rw[hf]at d;injection d with d
   subst d;obtain⟨g,v,_⟩:=lp.1 hf;exact⟨(M8 e).1,g,by simpa[g]using v⟩
theorem C1.field_get(h:C1 l)(d:O0 l n x=O p):(O9 l n).getD (a4c l p) o7=(cl l p.1).f.getD p.2 o7/\a4c l p<(O9 l n).length:=by
 revert d;refine h.upInd (P:=λn=>O0 l n x=O p->(O9 l n).getD (a4c l p) o7=(cl l p.1).f.getD p.2 o7/\a4c l p<(O9 l n).length) (λn e d=> ?_) (λn i e y d=> ?_) n
 ·rw[h.fieldAt_none e]at d;cases d
 ·have B:=d;rw[h.fieldAt_some e]at d;rw[h.fields_some e];cases hf:a9 (cl l i) x with
  |none=>
   rw[hf]at d;obtain⟨g,v⟩:=y d;refine⟨?_,by simp only[ln];omega⟩;rw[<-g,lh,lh,nb v]
  |some j=>
   rw[hf]at d;injection d with d
   subst d;obtain⟨C,_,_⟩:=lp.1 hf;unfold a4c;refine⟨?_,by simp only[ln];omega⟩;simp only;rw[lh,lh,List.getElem?_append_right Oo,Nat.add_sub_cancel_left]
def L6(l:List Cl)(c n:ByteArray):Option (Nat×Nat):=(up l c).findSome? λk=>(L2 (cl l k) n).map λi=>(k,i)
def G3:Me:=⟨D4,[],A8,0,0,[],[]⟩
def V0(l:List Cl)(p:Nat×Nat):Me:=(cl l p.1).m.getD p.2 G3
theorem C1.methAt_none(h:C1 l)(d:C8 l n=N):L6 l n x=N:=by
 unfold L6;rw[h.up_none d];rfl
theorem C1.methAt_some(h:C1 l)(d:C8 l n=O i):L6 l n x=match L2 (cl l i) x with|some j=>O (i,j)|none=>L6 l (cl l i).s x:=by
 unfold L6;rw[h.up_some d,nr];cases L2 (cl l i) x<;>rfl
theorem C1.meth_lt(h:C1 l)(d:L6 l n x=O p):p.1<l.length/\p.2<(cl l p.1).m.length/\(V0 l p).n=x/\L2 (cl l p.1) x=O p.2/\G5 l n (cl l p.1).n=true:=by
 revert d;refine h.upInd (P:=λn=>L6 l n x=O p->p.1<l.length/\p.2<(cl l p.1).m.length/\(V0 l p).n=x/\L2 (cl l p.1) x=O p.2/\G5 l n (cl l p.1).n=true) (λn e d=> ?_) (λn i e K d=> ?_) n
 ·rw[h.methAt_none e]at d;cases d
 ·rw[h.methAt_some e]at d;cases hf:L2 (cl l i) x with
  |none=>
   rw[hf]at d;obtain⟨v,y,B,C,D⟩:=K d;exact⟨v,y,B,C,by rw[h.below_step e,D];simp⟩
  |some j=>
   rw[hf]at d;injection d with d
   subst d;obtain⟨g,E,_⟩:=lp.1 hf;refine⟨(M8 e).1,g,by unfold V0;simpa[g]using E,hf,?_⟩;rw[h.below_step e,(M8 e).2.1];simp
end Cf
namespace Kx
attribute [local go_sem] Oper.semAt_some
variable {α:Type}
theorem b3h{f:Nat->Option α}{r:α}:∀{pre0 l:List Nat} {k:Nat},(pre0++ [k])<+:l->(∀j∈pre0,f j=N)->f k=O r->l.findSome? f=O r:=by
 rintro pre0 l k ⟨t,rfl⟩ d e;rw[nt,nt];rw[nu.2 d];simp[e]
variable {l:List Nat}
theorem b2l{f:Nat->Option α}(h:∀j∈l,f j=N):l.findSome? f=N:=nu.2 h
def a2Q(L:List Cl)(c m:ByteArray):ByteArray:=match L6 L c m with|some p=>(cl L p.1).n|none=>⟨#[]⟩
theorem b1Y(w:World)(lim b:Nat)(L:List Cl)(p:Addr)(cap m1 m2 m3:Nat)(q:Nat→Qs)(h:Hid (L4 w lim b L p cap m1 m2 m3 q))(hl:lim≤w.heap.size)(hU:Hid (UpL L))(hD:Hid (a1z L))(hZ:Hid (a0N I8 L))(c o:ByteArray)(hc:c.size≤maxLen)(ho:o.size≤maxLen):
 Calls prog 103 #[.pointer (some ⟨b,0,none⟩), .string c, .string o] w fun e w'=>e= .returned (.string (a2Q L c o))∧w.grownBy w' none:=by
 refine(callsIn_wide (n:=9)).1 ?_;refine callsIn_of_wp_marks func103 rfl trivial ?_ rfl;simp only[ntmps103,List.size_toArray,List.length_cons,List.length_nil,Nat.reduceAdd,Nat.reduceSub,Array.replicate_succ,Array.replicate_zero,List.push_toArray,List.append_toArray,List.nil_append,List.cons_append];gi_wp2_with (refine⟨trivial,?_⟩;gi_at_call 167;refine(a5V _ _ trivial rfl _ _ _).mono ?_;rintro e w' ⟨rfl,rfl⟩)
 have ac:Below w.heap.size w (((((w.alloc (.cells #[.pointer (some ⟨b,0,none⟩)] 156)).alloc (.cells #[.string o] 9)).alloc (.cells #[.string ⟨#[]⟩] 9)).alloc (.cells #[.pointer (some ⟨b,0,none⟩)] 156)).alloc (.cells #[.string c] 9)):=(((((Below.refl _ w).alloc (Nat.le_refl _) _).alloc (by simp) _).alloc (by simp;omega) _).alloc (by simp;omega) _).alloc (by simp;omega) _;have al:(((((w.alloc (.cells #[.pointer (some ⟨b,0,none⟩)] 156)).alloc (.cells #[.string o] 9)).alloc (.cells #[.string ⟨#[]⟩] 9)).alloc (.cells #[.pointer (some ⟨b,0,none⟩)] 156)).alloc (.cells #[.string c] 9)).heap.size=w.heap.size+5:=by simp
 have k0:=((((A4.new w #[.pointer (some ⟨b,0,none⟩)] 156).keep (A2 _ (.cells #[.string o] 9) none) (by simp)).keep (A2 _ (.cells #[.string ⟨#[]⟩] 9) none) (by simp)).keep (A2 _ (.cells #[.pointer (some ⟨b,0,none⟩)] 156) none) (by simp)).keep (A2 _ (.cells #[.string c] 9) none) (by simp);have k1:=(((A4.new (w.alloc (.cells #[.pointer (some ⟨b,0,none⟩)] 156)) #[.string o] 9).keep (A2 _ (.cells #[.string ⟨#[]⟩] 9) none) (by simp)).keep (A2 _ (.cells #[.pointer (some ⟨b,0,none⟩)] 156) none) (by simp)).keep (A2 _ (.cells #[.string c] 9) none) (by simp);have k2:=((A4.new ((w.alloc (.cells #[.pointer (some ⟨b,0,none⟩)] 156)).alloc (.cells #[.string o] 9)) #[.string ⟨#[]⟩] 9).keep (A2 _ (.cells #[.pointer (some ⟨b,0,none⟩)] 156) none) (by simp)).keep (A2 _ (.cells #[.string c] 9) none) (by simp);have k3:=(A4.new (((w.alloc (.cells #[.pointer (some ⟨b,0,none⟩)] 156)).alloc (.cells #[.string o] 9)).alloc (.cells #[.string ⟨#[]⟩] 9)) #[.pointer (some ⟨b,0,none⟩)] 156).keep (A2 _ (.cells #[.string c] 9) none) (by simp);have k4:=A4.new ((((w.alloc (.cells #[.pointer (some ⟨b,0,none⟩)] 156)).alloc (.cells #[.string o] 9)).alloc (.cells #[.string ⟨#[]⟩] 9)).alloc (.cells #[.pointer (some ⟨b,0,none⟩)] 156)) #[.string c] 9;simp only[World.size_alloc]at k1 k2 k3 k4;obtain⟨W0,ag⟩:∃W0,((((w.alloc (.cells #[.pointer (some ⟨b,0,none⟩)] 156)).alloc (.cells #[.string o] 9)).alloc (.cells #[.string ⟨#[]⟩] 9)).alloc (.cells #[.pointer (some ⟨b,0,none⟩)] 156)).alloc (.cells #[.string c] 9)=W0:=⟨_,rfl⟩
 rw[ag]at ac al k0 k1 k2 k3 k4⊢;clear ag;have ai:=A1 (h.out.below ac hl)
 refine wpIn_rangeFunc_ownH rfl (by omega) (gf:=254) (lb:= #[.pointer (some ⟨w.heap.size+1+1+1,0,none⟩), .pointer (some ⟨w.heap.size+1+1+1+1,0,none⟩)]) rfl trivial (enters_of func254 (by kernel_rfl) rfl)
  (a7b _ _ trivial rfl (by omega) w.heap.size (w.heap.size+1+1+1) (w.heap.size+1+1+1+1) lim b L p cap m1 m2 m3 q c hc hU W0 (by omega) (by omega) (k3.cell 0 _ rfl) (k4.cell 0 _ rfl) ai hl (by omega)) a6r (a6s (by omega) (by omega)) (Below.refl _ _) (fun _=>rfl)
  (fun A9 W=>((∀k∈A9,L2 (cl L k.1) o=none)∧A4 W (w.heap.size) #[.pointer (some ⟨b,0,none⟩)] 156∧A4 W (w.heap.size+1) #[.string o] 9∧A4 W (w.heap.size+1+1) #[.string ⟨#[]⟩] 9∧A4 W (w.heap.size+1+1+1+1) #[.string c] 9)∧Below w.heap.size w W)
  (fun d A9 W=>(d= .ret∧(∃pre0 k i,A9=pre0++ [k]∧(∀j∈pre0,L2 (cl L j.1) o=none)∧L2 (cl L k.1) o=some i∧A4 W (w.heap.size+1+1) #[.string (cl L k.1).n] 9))∧Below w.heap.size w W)
  (OwnFrom.and (fun s X Y row S T y=>⟨S.1,Own.from (P6 _ _ _) _ () X Y row S.2.1 T y,Own.from (P6 _ _ _) _ () X Y row S.2.2.1 T y,Own.from (P6 _ _ _) _ () X Y row S.2.2.2.1 T y,Own.from (P6 _ _ _) _ () X Y row S.2.2.2.2 T y⟩) (ownFrom_below (Nat.le_refl _) (by omega)))
  (fun d=>OwnFrom.and (fun s X Y row S T y=>by obtain⟨h1,pre0,k,i,h2,h3,h4,h5⟩:=S;exact⟨h1,pre0,k,i,h2,h3,h4,Own.from (P6 _ _ _) _ () X Y row h5 T y⟩) (ownFrom_below (Nat.le_refl _) (by omega)))
  ⟨⟨by simp,k0,k1,k2,k4⟩,ac⟩
  (fun x a' W=>∃Bx,w.heap.size+5≤Bx∧A4 W Bx #[.string (cl L x.1).n, .string (cl L x.1).s, .slice (q x.1).fa (cl L x.1).f.length (q x.1).fk, .slice (q x.1).ma (cl L x.1).m.length (q x.1).mc] 44∧a'={tmps:= #[.pointer (some ⟨b,0,none⟩), .string c, .string o, .pointer (some ⟨w.heap.size,0,none⟩),undef, .pointer (some ⟨w.heap.size+1,0,none⟩), .pointer (some ⟨w.heap.size+1+1,0,none⟩), .pointer (some ⟨Bx,0,none⟩),undef,undef, .pointer (some ⟨b,0,none⟩), .string c, .func (.func 254) #[] #[.pointer (some ⟨w.heap.size+1+1+1,0,none⟩), .pointer (some ⟨w.heap.size+1+1+1+1,0,none⟩)], .agg #[.string (cl L x.1).n, .string (cl L x.1).s, .slice (q x.1).fa (cl L x.1).f.length (q x.1).fk, .slice (q x.1).ma (cl L x.1).m.length (q x.1).mc],undef,undef,undef,undef,undef,undef,undef,undef,undef,undef,undef,undef,undef,undef,undef],defers:=[]})
  (fun x a' _ X Y row S T y=>by obtain⟨Bx,h1,h2,h3⟩:=S;exact⟨Bx,h1,P6 Bx _ _ () X Y row h2 T (fun r e=>(y r e).2),h3⟩)
  ?assign ?body ?done ?stop
 case assign=>
  rintro l A9 x W K ⟨⟨hne,B,C,v,E⟩,g⟩ hK;dsimp only[a3w,G9];gi_wp2
  have h3:=E.lt;exact hK _ _ ((KeepsOthers.alloc _ _).from _) ⟨(Below.refl _ W).alloc g.size _,Below.heap_alloc W _ _ (by omega)⟩ ⟨⟨hne,B.keep (A2 _ _ none) (by simp),C.keep (A2 _ _ none) (by simp),v.keep (A2 _ _ none) (by simp),E.keep (A2 _ _ none) (by simp)⟩,g.alloc g.size _⟩ ⟨W.heap.size,by omega,A4.new W _ _,rfl⟩
 case body=>
  rintro l A9 x a' W an _ ⟨⟨hne,B,C,v,E⟩,g⟩ ⟨Bx,am,ak,rfl⟩ ao;have cx:=ak.c0;have c0:=B.c0;have c1:=C.c0;have cr:=v.c0;have fr:=v.frozen 0;have ab:=A1 (h.out.below g hl);have c3:=ab.out.c3;obtain⟨r,y⟩:=Oe (L2 (cl L x.1) o)
  have ah:O1 (S7 I8 L) (P3 (cl L x.1).n o)=r:=by rw[a6d I8 hD.out hZ.out x.2 o ho,a6I,y]
  have aa:=fun k:Nat=>a6X (w:=W.drewN k) ab.out.n3 (cl L x.1).n o (ab.out.names x.1 x.2).1 ho r ah
  clear ah;have HR:=A1 y;clear y;cases r with
  |none=>
   simp only[Option.getD_none,Option.isSome_none]at aa;gi_wp2
   refine a4s rfl (by kernel_rfl) (by kernel_rfl) (by kernel_rfl) ?_;repeat (gi_big_quiet_step (fail))
   refine wpQuietIn_nil ?_;intro _ af;obtain⟨nq,M⟩:=af;subst M;gi_wp2
   exact⟨a4t _ _ _,⟨a2K (Below.refl _ _) _,rfl⟩,⟨fun k hk=>(List.mem_append.1 hk).elim (hne k) (fun e=>by simp at e;subst e;exact HR.out.symm),B,C,v,E⟩,a2K g _⟩
  |some i=>
   simp only[Option.getD_some,Option.isSome_some]at aa;gi_wp2
   refine a4s rfl (by kernel_rfl) (by kernel_rfl) (by kernel_rfl) ?_;repeat (gi_big_quiet_step (fail))
   refine wpQuietIn_nil ?_;intro _ af;obtain⟨nq,M⟩:=af;subst M;gi_wp2
   exact⟨(a4t _ _ _).trans ((KeepsOthers.setCell _ _ _).from _),⟨rfl,A9,x,i,rfl,hne,HR.out.symm,v.set 0 _⟩,(a2K g _).setCell (p:=⟨w.heap.size+1+1,0,none⟩) (by simp;omega) _⟩
 case done=>
  rintro D ys W hD hys ⟨⟨hne,B,C,v,E⟩,g⟩ hK;have cr:=v.c0;have fr:=v.frozen 0;gi_wp2
  have aj:=(KeepsOthers.setCell W ⟨w.heap.size+1+1,0,none⟩ (.string ⟨#[]⟩)).same D _ hK rfl;refine⟨by simp, .inl ⟨_,_,rfl,run_takeDeferred aj,?_⟩⟩;have ad:=(v.set 0 (.string ⟨#[]⟩)).keep (grownBy_putObj' _ D (.deferred none)) (by simp;omega);have ae:=ad.c0
  have hf:a2Q L c o=⟨#[]⟩:=by
   unfold a2Q L6;exact c7t
  rw[hf];exact⟨.string ⟨#[]⟩,by simp[results,results103,go_sem,ae],rfl,a1e ((g.setCell (p:=⟨w.heap.size+1+1,0,none⟩) (by simp;omega) _).grown (grownBy_putObj' _ D _) (by simp;exact g.size) (fun k e=>by cases e;omega))⟩
 case stop=>
  rintro D d A9 W hD hpre ⟨⟨rfl,pre0,k,i,rfl,h0,h1,v⟩,g⟩ hK;have cr:=v.c0;gi_wp2
  refine⟨by simp, .inl ⟨_,_,rfl,run_takeDeferred hK,?_⟩⟩;have ad:=v.keep (grownBy_putObj' _ D (.deferred none)) (by simp;omega);have ae:=ad.c0
  have hf:a2Q L c o=(cl L k.1).n:=by
   unfold a2Q L6
   exact c6e
  rw[hf];exact⟨.string (cl L k.1).n,by simp[results,results103,go_sem,ae],rfl,a1e (g.grown (grownBy_putObj' _ D _) g.size (fun k e=>by cases e;omega))⟩
attribute [local go_sem] Oper.semAt_some
variable {w:World}{lim:Nat}{a:Option Addr}
theorem a2J{w':lf}{B sz:Nat}{enc:α->List Value}{xs:List α}(h:C0 w lim sz enc a xs)(v:Below B w w')(D:lim<=B):C0 w' lim sz enc a xs:=λj y=>by
 obtain⟨p,d,e,g⟩:=h j y;exact⟨p,d,e,λr u C=>(v.cell (by rw[a4y];omega)).trans (g r u C)⟩
def V9(w:lf)(lim:Nat)(L:List Cl)(q:Nat->Qs):Prop:=∀i,i<L.length->C0 w lim 3 K3 (q i).fa (cl L i).f
def a2P(L:List Cl)(c n:ByteArray):Value:=match O0 L c n with
 |some p=> .tuple #[.agg #[J I ((cl L p.1).f.getD p.2 o7).ty.k, Z ((cl L p.1).f.getD p.2 o7).ty.n], G true]
 |none=> .tuple #[.agg #[J I 0, Z ⟨#[]⟩], G false]
theorem c2m{c:Cl}{n:ByteArray}{i:Nat}(h:a9 c n=O i):i<c.f.length:=by
 unfold a9 at h;obtain⟨d,-⟩:=lp.1 h;exact d
theorem a6b(w:World)(lim b:Nat)(L:List Cl)(p:Addr)(cap m1 m2 m3:Nat)(q:Nat→Qs)(h:Hid (L4 w lim b L p cap m1 m2 m3 q))(hl:lim≤w.heap.size)(hU:Hid (UpL L))(hD:Hid (a1z L))(hZ:Hid (a0N N1 L))(hP:Hid (V9 w lim L q))(c o:ByteArray)(hc:c.size≤maxLen)(ho:o.size≤maxLen):
 Calls prog 248 #[.pointer (some ⟨b,0,none⟩), .string c, .string o] w fun e w'=>e= .returned (a2P L c o)∧w.grownBy w' none:=by
 refine(callsIn_wide (n:=9)).1 ?_;refine callsIn_of_wp_marks func248 rfl trivial ?_ rfl;simp only[ntmps248,List.size_toArray,List.length_cons,List.length_nil,Nat.reduceAdd,Nat.reduceSub,Array.replicate_succ,Array.replicate_zero,List.push_toArray,List.append_toArray,List.nil_append,List.cons_append];gi_wp2_with (refine⟨trivial,?_⟩;gi_at_call 167;refine(a5V _ _ trivial rfl _ _ _).mono ?_;rintro e w' ⟨rfl,rfl⟩)
 have af:Below w.heap.size w ((((((w.alloc (.cells #[.pointer (some ⟨b,0,none⟩)] 156)).alloc (.cells #[.string o] 9)).alloc (.cells #[.int .i64 0, .string ⟨#[]⟩] 98)).alloc (.cells #[.bool false] 4)).alloc (.cells #[.pointer (some ⟨b,0,none⟩)] 156)).alloc (.cells #[.string c] 9)):=((((((Below.refl _ w).alloc (Nat.le_refl _) _).alloc (by simp) _).alloc (by simp;omega) _).alloc (by simp;omega) _).alloc (by simp;omega) _).alloc (by simp;omega) _;have a2:((((((w.alloc (.cells #[.pointer (some ⟨b,0,none⟩)] 156)).alloc (.cells #[.string o] 9)).alloc (.cells #[.int .i64 0, .string ⟨#[]⟩] 98)).alloc (.cells #[.bool false] 4)).alloc (.cells #[.pointer (some ⟨b,0,none⟩)] 156)).alloc (.cells #[.string c] 9)).heap.size=w.heap.size+6:=by simp
 have k0:=(((((A4.new w #[.pointer (some ⟨b,0,none⟩)] 156).keep (A2 _ (.cells #[.string o] 9) none) (by simp)).keep (A2 _ (.cells #[.int .i64 0, .string ⟨#[]⟩] 98) none) (by simp)).keep (A2 _ (.cells #[.bool false] 4) none) (by simp)).keep (A2 _ (.cells #[.pointer (some ⟨b,0,none⟩)] 156) none) (by simp)).keep (A2 _ (.cells #[.string c] 9) none) (by simp);have k1:=((((A4.new (w.alloc (.cells #[.pointer (some ⟨b,0,none⟩)] 156)) #[.string o] 9).keep (A2 _ (.cells #[.int .i64 0, .string ⟨#[]⟩] 98) none) (by simp)).keep (A2 _ (.cells #[.bool false] 4) none) (by simp)).keep (A2 _ (.cells #[.pointer (some ⟨b,0,none⟩)] 156) none) (by simp)).keep (A2 _ (.cells #[.string c] 9) none) (by simp);have k2:=(((A4.new ((w.alloc (.cells #[.pointer (some ⟨b,0,none⟩)] 156)).alloc (.cells #[.string o] 9)) #[.int .i64 0, .string ⟨#[]⟩] 98).keep (A2 _ (.cells #[.bool false] 4) none) (by simp)).keep (A2 _ (.cells #[.pointer (some ⟨b,0,none⟩)] 156) none) (by simp)).keep (A2 _ (.cells #[.string c] 9) none) (by simp);have k3:=((A4.new (((w.alloc (.cells #[.pointer (some ⟨b,0,none⟩)] 156)).alloc (.cells #[.string o] 9)).alloc (.cells #[.int .i64 0, .string ⟨#[]⟩] 98)) #[.bool false] 4).keep (A2 _ (.cells #[.pointer (some ⟨b,0,none⟩)] 156) none) (by simp)).keep (A2 _ (.cells #[.string c] 9) none) (by simp);have k4:=(A4.new ((((w.alloc (.cells #[.pointer (some ⟨b,0,none⟩)] 156)).alloc (.cells #[.string o] 9)).alloc (.cells #[.int .i64 0, .string ⟨#[]⟩] 98)).alloc (.cells #[.bool false] 4)) #[.pointer (some ⟨b,0,none⟩)] 156).keep (A2 _ (.cells #[.string c] 9) none) (by simp);have k5:=A4.new (((((w.alloc (.cells #[.pointer (some ⟨b,0,none⟩)] 156)).alloc (.cells #[.string o] 9)).alloc (.cells #[.int .i64 0, .string ⟨#[]⟩] 98)).alloc (.cells #[.bool false] 4)).alloc (.cells #[.pointer (some ⟨b,0,none⟩)] 156)) #[.string c] 9;simp only[World.size_alloc]at k1 k2 k3 k4 k5;obtain⟨W0,al⟩:∃W0,(((((w.alloc (.cells #[.pointer (some ⟨b,0,none⟩)] 156)).alloc (.cells #[.string o] 9)).alloc (.cells #[.int .i64 0, .string ⟨#[]⟩] 98)).alloc (.cells #[.bool false] 4)).alloc (.cells #[.pointer (some ⟨b,0,none⟩)] 156)).alloc (.cells #[.string c] 9)=W0:=⟨_,rfl⟩
 rw[al]at af a2 k0 k1 k2 k3 k4 k5⊢;clear al;have ar:=A1 (h.out.below af hl)
 refine wpIn_rangeFunc_ownH rfl (by omega) (gf:=254) (lb:= #[.pointer (some ⟨w.heap.size+1+1+1+1,0,none⟩), .pointer (some ⟨w.heap.size+1+1+1+1+1,0,none⟩)]) rfl trivial (enters_of func254 (by kernel_rfl) rfl)
  (a7b _ _ trivial rfl (by omega) w.heap.size (w.heap.size+1+1+1+1) (w.heap.size+1+1+1+1+1) lim b L p cap m1 m2 m3 q c hc hU W0 (by omega) (by omega) (k4.cell 0 _ rfl) (k5.cell 0 _ rfl) ar hl (by omega)) a6r (a6s (by omega) (by omega)) (Below.refl _ _) (fun _=>rfl)
  (fun A9 W=>((∀k∈A9,a9 (cl L k.1) o=none)∧A4 W (w.heap.size) #[.pointer (some ⟨b,0,none⟩)] 156∧A4 W (w.heap.size+1) #[.string o] 9∧A4 W (w.heap.size+1+1) #[.int .i64 0, .string ⟨#[]⟩] 98∧A4 W (w.heap.size+1+1+1) #[.bool false] 4∧A4 W (w.heap.size+1+1+1+1+1) #[.string c] 9)∧Below w.heap.size w W)
  (fun d A9 W=>(d= .ret∧(∃pre0 k i,A9=pre0++ [k]∧(∀j∈pre0,a9 (cl L j.1) o=none)∧a9 (cl L k.1) o=some i∧A4 W (w.heap.size+1+1) #[.int .i64 ((cl L k.1).f.getD i o7).ty.k, .string ((cl L k.1).f.getD i o7).ty.n] 98∧A4 W (w.heap.size+1+1+1) #[.bool true] 4))∧Below w.heap.size w W)
  (OwnFrom.and (fun s X Y row hs T B=>⟨hs.1,Own.from (P6 _ _ _) _ () X Y row hs.2.1 T B,Own.from (P6 _ _ _) _ () X Y row hs.2.2.1 T B,Own.from (P6 _ _ _) _ () X Y row hs.2.2.2.1 T B,Own.from (P6 _ _ _) _ () X Y row hs.2.2.2.2.1 T B,Own.from (P6 _ _ _) _ () X Y row hs.2.2.2.2.2 T B⟩) (ownFrom_below (Nat.le_refl _) (by omega)))
  (fun d=>OwnFrom.and (fun s X Y row hs T B=>by obtain⟨h1,pre0,k,i,h2,h3,h4,h5,h6⟩:=hs;exact⟨h1,pre0,k,i,h2,h3,h4,Own.from (P6 _ _ _) _ () X Y row h5 T B,Own.from (P6 _ _ _) _ () X Y row h6 T B⟩) (ownFrom_below (Nat.le_refl _) (by omega)))
  ⟨⟨by simp,k0,k1,k2,k3,k5⟩,af⟩
  (fun x a' W=>∃Bx,w.heap.size+6≤Bx∧A4 W Bx #[.string (cl L x.1).n, .string (cl L x.1).s, .slice (q x.1).fa (cl L x.1).f.length (q x.1).fk, .slice (q x.1).ma (cl L x.1).m.length (q x.1).mc] 44∧a'={tmps:= #[.pointer (some ⟨b,0,none⟩), .string c, .string o, .pointer (some ⟨w.heap.size,0,none⟩),undef, .pointer (some ⟨w.heap.size+1,0,none⟩), .pointer (some ⟨w.heap.size+1+1,0,none⟩), .pointer (some ⟨w.heap.size+1+1+1,0,none⟩), .pointer (some ⟨Bx,0,none⟩),undef,undef, .pointer (some ⟨b,0,none⟩), .string c, .func (.func 254) #[] #[.pointer (some ⟨w.heap.size+1+1+1+1,0,none⟩), .pointer (some ⟨w.heap.size+1+1+1+1+1,0,none⟩)], .agg #[.string (cl L x.1).n, .string (cl L x.1).s, .slice (q x.1).fa (cl L x.1).f.length (q x.1).fk, .slice (q x.1).ma (cl L x.1).m.length (q x.1).mc],undef,undef,undef,undef,undef,undef,undef,undef,undef,undef,undef,undef,undef,undef,undef,undef,undef,undef,undef,undef],defers:=[]})
  (fun x a' _ X Y row hs T B=>by obtain⟨Bx,h1,h2,h3⟩:=hs;exact⟨Bx,h1,P6 Bx _ _ () X Y row h2 T (fun r e=>(B r e).2),h3⟩)
  ?assign ?body ?done ?stop
 case assign=>
  rintro l A9 x W K ⟨⟨hne,C,E,v,y,M⟩,g⟩ hK;dsimp only[a3w,G9];gi_wp2
  have h3:=M.lt;exact hK _ _ ((KeepsOthers.alloc _ _).from _) ⟨(Below.refl _ W).alloc g.size _,Below.heap_alloc W _ _ (by omega)⟩ ⟨⟨hne,C.keep (A2 _ _ none) (by simp),E.keep (A2 _ _ none) (by simp),v.keep (A2 _ _ none) (by simp),y.keep (A2 _ _ none) (by simp),M.keep (A2 _ _ none) (by simp)⟩,g.alloc g.size _⟩ ⟨W.heap.size,by omega,A4.new W _ _,rfl⟩
 case body=>
  rintro l A9 x a' W a5 _ ⟨⟨hne,C,E,v,y,M⟩,g⟩ ⟨Bx,a4,am,rfl⟩ a6;have cx:=am.c0;have c0:=C.c0;have c1:=E.c0;have cr:=v.c0;have fr:=v.frozen 0;have ae:=A1 (h.out.below g hl);have c3:=ae.out.c2;have av:=y.c0;have ay:=y.frozen 0;have au:=v.c1;have ax:=v.frozen 1;have aw:=am.c2;obtain⟨r,B⟩:=Oe (a9 (cl L x.1) o)
  have an:O1 (S7 N1 L) (P3 (cl L x.1).n o)=r:=by rw[a6d N1 hD.out hZ.out x.2 o ho,b0Q,B]
  have ad:=fun k:Nat=>a6X (w:=W.drewN k) ae.out.n2 (cl L x.1).n o (ae.out.names x.1 x.2).1 ho r an
  clear an;have HR:=A1 B;clear B;cases r with
  |none=>
   simp only[Option.getD_none,Option.isSome_none]at ad;gi_wp2
   refine a4s rfl (by kernel_rfl) (by kernel_rfl) (by kernel_rfl) ?_;repeat (gi_big_quiet_step (fail))
   refine wpQuietIn_nil ?_;intro _ ak;obtain⟨nq,S⟩:=ak;subst S;gi_wp2
   exact⟨a4t _ _ _,⟨a2K (Below.refl _ _) _,rfl⟩,⟨fun k hk=>(List.mem_append.1 hk).elim (hne k) (fun e=>by simp at e;subst e;exact HR.out.symm),C,E,v,y,M⟩,a2K g _⟩
  |some i=>
   simp only[Option.getD_some,Option.isSome_some]at ad;have ao:=c2m HR.out.symm;obtain⟨pf,a1,a7,aj⟩:=a2J (hP.out x.1 x.2) g hl i ao;obtain⟨fd,ac⟩:=Oe ((cl L x.1).f[i])
   have g1:W.cell? ⟨(pf.add (i*3)).block,(pf.add (i*3)).off+1,none⟩=some (.int .i64 fd.ty.k):=by rw[C2 pf (i*3) 0,ac];exact aj 1 _ rfl
   have g2:W.cell? ⟨(pf.add (i*3)).block,(pf.add (i*3)).off+2,none⟩=some (.string fd.ty.n):=by rw[C2 pf (i*3) 1,ac];exact aj 2 _ rfl
   have a3:W.cell? ⟨(pf.add (i*3)).block,(pf.add (i*3)).off+1+1,none⟩=some (.string fd.ty.n):=g2;rw[a1]at aw;clear aj hP;gi_wp2
   refine a4s rfl (by kernel_rfl) (by kernel_rfl) (by kernel_rfl) ?_;repeat (gi_big_quiet_step (fail))
   refine wpQuietIn_nil ?_;intro _ ak;obtain⟨nq,S⟩:=ak;subst S;gi_wp2
   have a0:(cl L x.1).f.getD i o7=(cl L x.1).f[i]:=by rw[List.getD_eq_getElem?_getD,List.getElem?_eq_getElem ao];rfl
   refine⟨(a4t _ _ _).trans (((KeepsOthers.setCell _ _ _).from _).trans (((KeepsOthers.setCell _ _ _).from _).trans ((KeepsOthers.setCell _ _ _).from _))),⟨rfl,A9,x,i,rfl,hne,HR.out.symm,?_,?_⟩,(((a2K g _).setCell (p:=⟨w.heap.size+1+1,0,none⟩) (by simp;omega) _).setCell (p:=⟨w.heap.size+1+1,1,none⟩) (by simp;omega) _).setCell (p:=⟨w.heap.size+1+1+1,0,none⟩) (by simp;omega) _⟩
   ·rw[a0];have ap:A4 (W.drewN nq) (w.heap.size+1+1) #[.int .i64 0, .string ⟨#[]⟩] 98:=v;exact((ap.set 0 _).set 1 _).keep (A6 _ ⟨w.heap.size+1+1+1,0,none⟩ _) (by simp)
   ·have aq:A4 (W.drewN nq) (w.heap.size+1+1+1) #[.bool false] 4:=y;exact((aq.keep (A6 (W.drewN nq) ⟨w.heap.size+1+1,0,none⟩ _) (by simp)).keep (A6 _ ⟨w.heap.size+1+1,1,none⟩ _) (by simp)).set 0 _
 case done=>
  rintro D ys W hD hys ⟨⟨hne,C,E,v,y,M⟩,g⟩ hK;obtain⟨cr,au⟩:=v.q2;obtain⟨fr,ax⟩:=v.z2;have av:=y.c0;have ay:=y.frozen 0;gi_wp2
  have az:=(KeepsOthers.setCell ((W.setCell ⟨w.heap.size+1+1,0,none⟩ (.int .i64 0)).setCell ⟨w.heap.size+1+1,1,none⟩ (.string ⟨#[]⟩)) ⟨w.heap.size+1+1+1,0,none⟩ (.bool false)).same D _ ((KeepsOthers.setCell (W.setCell ⟨w.heap.size+1+1,0,none⟩ (.int .i64 0)) ⟨w.heap.size+1+1,1,none⟩ (.string ⟨#[]⟩)).same D _ ((KeepsOthers.setCell W ⟨w.heap.size+1+1,0,none⟩ (.int .i64 0)).same D _ hK rfl) rfl) rfl;refine⟨by simp, .inl ⟨_,_,rfl,run_takeDeferred az,?_⟩⟩;have ag:=(((v.set 0 (.int .i64 0)).set 1 (.string ⟨#[]⟩)).keep (A6 _ ⟨w.heap.size+1+1+1,0,none⟩ (.bool false)) (by simp)).keep (grownBy_putObj' _ D (.deferred none)) (by simp;omega);have ah:=(((y.keep (A6 W ⟨w.heap.size+1+1,0,none⟩ (.int .i64 0)) (by simp)).keep (A6 _ ⟨w.heap.size+1+1,1,none⟩ (.string ⟨#[]⟩)) (by simp)).set 0 (.bool false)).keep (grownBy_putObj' _ D (.deferred none)) (by simp;omega);obtain⟨aa,ab⟩:=ag.q2;have ai:=ah.c0
  have hf:a2P L c o= .tuple #[.agg #[.int .i64 0, .string ⟨#[]⟩], .bool false]:=by
   unfold a2P O0;exact c7t
  rw[hf];exact⟨_,by simp[results,results248,go_sem,aa,ab,ai],rfl,a1e ((((g.setCell (p:=⟨w.heap.size+1+1,0,none⟩) (by simp;omega) _).setCell (p:=⟨w.heap.size+1+1,1,none⟩) (by simp;omega) _).setCell (p:=⟨w.heap.size+1+1+1,0,none⟩) (by simp;omega) _).grown (grownBy_putObj' _ D _) (by simp;exact g.size) (fun k e=>by cases e;omega))⟩
 case stop=>
  rintro D d A9 W hD hpre ⟨⟨rfl,pre0,k,i,rfl,h0,h1,v,y⟩,g⟩ hK;gi_wp2
  refine⟨by simp, .inl ⟨_,_,rfl,run_takeDeferred hK,?_⟩⟩;have ag:=v.keep (grownBy_putObj' _ D (.deferred none)) (by simp;omega);have ah:=y.keep (grownBy_putObj' _ D (.deferred none)) (by simp;omega);obtain⟨aa,ab⟩:=ag.q2;have ai:=ah.c0
  have hf:a2P L c o= .tuple #[.agg #[.int .i64 ((cl L k.1).f.getD i o7).ty.k, .string ((cl L k.1).f.getD i o7).ty.n], .bool true]:=by
   unfold a2P O0
   exact c6e
  rw[hf];obtain⟨fd,ac⟩:=Oe ((cl L k.1).f.getD i o7)
  rw[←ac]at aa ab⊢;exact⟨_,by simp[results,results248,go_sem,aa,ab,ai],rfl,a1e (g.grown (grownBy_putObj' _ D _) g.size (fun k e=>by cases e;omega))⟩
theorem b1s(f:V3):(K3 f).length=3:=rfl
def Few(L:List Cl):Prop:=L.length<=64/\∀i,i<L.length->(cl L i).f.length<=255/\(cl L i).m.length<=255
theorem a9w{β:Type}{f:α->List β}{c:Nat}:∀{l:List α},(∀x∈l,(f x).length<=c)->(l.flatMap f).length<=l.length*c
 | [],_=>by simp
 |x::l,h=>by
  have e:=h x Os;have g:=a9w (λy d=>h y (by simp[d])) (l:=l);rw[nj,ln,List.length_cons,Nat.succ_mul];omega
def a1D(L:List Cl)(l:List Nat):List V3:=l.reverse.flatMap λk=>(cl L k).f
theorem b6y(L:List Cl)(i:Nat)(l:List Nat):a1D L (i::l)=a1D L l++(cl L i).f:=by unfold a1D;simp
theorem a8G{L:List Cl}(d:Few L)(e:∀i∈l,i<L.length):(a1D L l).length<=l.length*255:=by
 unfold a1D;have:=a9w (f:=λk=>(cl L k).f) (c:=255) (l:=l.reverse) (λx g=>(d.2 x (e x (by simpa using g))).1);simpa using this
theorem a3O{d:List V3}(h:C0 w lim 3 K3 a d){k:Nat}(hk:k<d.length):∃p:la,a=O p/\p.block<lim/\w.cell? (p.add (k*3))=O (Z d[k].n)/\
 w.cell? (A ((p.add (k*3)).block) ((p.add (k*3)).off+1) N)=O (J I d[k].ty.k)/\w.cell? (A ((p.add (k*3)).block) ((p.add (k*3)).off+2) N)=O (Z d[k].ty.n):=by
 obtain⟨p,g,v,e⟩:=h k hk;exact⟨p,g,v,e 0 _ rfl,by rw[C2 p (k*3) 0];exact e 1 _ rfl,by rw[C2 p (k*3) 1];exact e 2 _ rfl⟩
theorem b0M(w:lf)(lim wb:Nat)(L:List Cl)(p:la)(cap:Nat)(q:Nat->Qs)(h:Hid (Wo w lim wb L p cap q))(hF:Hid (V9 w lim L q))(y:Hid (Few L))(s:ByteArray):
 lg prog 260 #[U (O (A wb 0 N)), Z s] w λe w'=>∃a k,e= Y (V a (O9 L s).length k)/\C0 w' w'.heap.size 3 K3 a (O9 L s)/\w.grownBy w' N:=by
 have hL:=y.o.1;have ag:O9 L s=a1D L (up L s):=rfl;have ac:=a5u (L:=L) s;have C:∀i∈up L s,i<L.length:=a2s _ _
 rw[ag];obtain⟨l,hl⟩:=Oe (up L s)
 rw[<-hl]at ac C⊢;have ap:=A1 hl;clear hl ag;go_enter func260,ntmps260;go_wp2_with (go_at_call 130;refine(a6S _ lim wb L p cap q h s).mono ?_;rintro e w' ⟨a,kc,rfl,d,T⟩;rw[<-ap.o]at d⊢)
 have HR:=A1 d;have ae:=A1 C;have am:Hid (V9 w' lim L q):=λi hi=>(hF.o i hi).keep T
 obtain⟨n,hn⟩:=Oe l.length
 rw[<-hn]at ac;have a0:n<=64:=by omega
 have HN:=A1 hn;rw[<-hn];clear hn;have HG:=A1 T;clear d C ac hL T;go_wp2
 go_loopw [5,7] (λo f wr=>∃j:Nat,j<=n/\f= J I ((j:Int)-1)/\Hid (wr.ownsRow w'.heap.size 129 3 o (a1D L (l.drop j)).length ((a1D L (l.drop j)).flatMap K3))/\Hid (w'.grownBy wr N)) (λ_ f _=>(le f+1).toNat)
 case atStart=>exact⟨n,by omega,rfl,by unfold Hid;rw[HN.o,List.drop_length];exact World.ownsRow_nil _ _ _ _,C9 _ _⟩
 case round=>
  obtain⟨j,hj,rfl,d,T⟩:=hrel;cases j with
  |zero=>
   obtain⟨a1,k1,rfl⟩:=F7 d.o;go_wp2
   go_ret;have HO:=d.o;rw[nv]at HO;exact⟨a1,k1,a8w (by rw[nv]),V7 b1s HO,A0 HG.o T.o⟩
  |succ j=>
   have aa:j<l.length:=by rw[<-HN.o];omega
   obtain⟨pp,rfl,-,-,-,g2,-⟩:=a3R HR.o aa;have aj:=ae.o _ (li aa);obtain⟨X,hX⟩:=Oe (a1D L (l.drop (j+1)))
   have HX:Hid (a1D L (l.drop j)=X++(cl L l[j]).f):=by
    unfold Hid;rw[List.drop_eq_getElem_cons aa,b6y,hX]
   have a4:X.length<=64*255:=by
    rw[hX];have:=a8G y.o (l:=l.drop (j+1)) (λi hi=>ae.o i (nk hi));rw[nl]at this;have h2:(l.length-(j+1))*255<=64*255:=nw _ (by rw[<-HN.o];omega);omega
   rw[<-hX]at d;clear hX;have ad:=A1 (am.o _ aj);have ai:=(y.o.2 _ aj).1;obtain⟨fa,M⟩:=Oe ((q l[j]).fa)
   obtain⟨fk,ah⟩:=Oe ((q l[j]).fk)
   obtain⟨D,E⟩:=Oe ((cl L l[j]).f)
   rw[<-M,<-E]at ad;rw[<-M,<-E,<-ah]at g2;rw[<-E]at HX ai;obtain⟨nf,ab⟩:=Oe D.length
   rw[<-ab]at g2 ai;have af:=A1 ab;clear M ah E ab;have a3:=T.o.cell g2 Os;have al:(((j:Int)+1-1))=(j:Int):=by omega
   simp only[Int.natCast_add,Int.natCast_one,al];clear al;go_wp2
   go_loopw [5,8] (λo f wx=>∃k:Nat,k<=nf/\f= J I k/\Hid (wx.ownsRow w'.heap.size 129 3 o (X++D.take k).length ((X++D.take k).flatMap K3))/\Hid (w'.grownBy wx N)) (λ_ f _=>nf-(le f).toNat)
   case atStart=>exact⟨0,by omega,rfl,by unfold Hid;rw[List.take_zero,List.append_nil];exact d.o,T.o⟩
   case round=>
    obtain⟨k,hk,rfl,v,B⟩:=hrel;obtain⟨a1,k1,rfl⟩:=F7 v.o;have a2:=B.o.cell g2 Os;by_cases hlt:k<nf
    ·have ak:k<D.length:=by rw[<-af.o];exact hlt
     obtain⟨fp,rfl,-,e0,e1,e2⟩:=a3O (ad.o.keep B.o) ak;obtain⟨fx,S⟩:=Oe (D[k])
     rw[<-S]at e0 e1 e2;have an:=A1 S;obtain⟨az,au,aw,ax,ay⟩:=info_parts a8T;have av:(X++D.take k).length<65536:=by rw[ln,lw];omega
     have a5:=B.o.size;clear S
     go_wp2_with (at_builtin;go_loud (refine wpList_append_own _ rfl _ _ 41 rfl w'.heap.size 129 az _ 3 40 underlying41 au aw ax ay rfl Od _ (X++D.take k).length ((X++D.take k).flatMap K3) rfl (World.ownsRow.alloc v.o _) (A wr.heap.size 0 N) 1 1 (K3 fx) rfl rfl (O8 wr _ _) (by simp[K3,Value.oneCell']) (a0S rfl av) Oo Oi ?_
                                      intro v' w4 K W _;have ao:=A1 K;have ar:=A0 (A2 wr (H (K3 fx).toArray 129) _) W;clear K))
     go_roundw
     case rel=>exact⟨k+1,by omega,by go_num,by
      unfold Hid;rw[nx ak,<-an.o,<-List.append_assoc,ln,ni (xs:=X++D.take k)];simpa using ao.o,C6 B.o ar (λg e=> .inl (K7 v.o e).1)⟩
     case measure=>simp[le];omega
    ·have aq:Hid (a1D L (l.drop j)=X++D.take k):=by
      unfold Hid;rw[HX.o,List.take_of_length_le (by rw[<-af.o];omega)]
     go_wp2
     refine⟨⟨j,by omega,rfl,by unfold Hid;rw[aq.o];exact v.o,B⟩,by simp[le]⟩
open Go.RowKit Cf
def mv(m:Me)(pa:Option la)(pk:Nat)(ca:Option la)(ck:Nat)(ha:Option la)(hk:Nat):List Value:=
 [Z m.n, V pa m.p.length pk, J I m.r.k, Z m.r.n, J I m.s, J I m.l, V ca m.c.length ck, V ha m.h.length hk]
def P8(w:lf)(lim:Nat)(L:List Cl)(q:Nat->Qs):Prop:=
 ∀i,i<L.length->∀j,j<(cl L i).m.length->∃(p:la) (pa ca ha:Option la) (pk ck hk:Nat),(q i).ma=O p/\p.block<lim/\
  C0 w lim 2 B8 pa ((cl L i).m.getD j G3).p/\C0 w lim 4 M0 ca ((cl L i).m.getD j G3).c/\C0 w lim 4 O3 ha ((cl L i).m.getD j G3).h/\
  ∀r u,(mv ((cl L i).m.getD j G3) pa pk ca ck ha hk)[r]? =O u->w.cell? (p.add (j*8+r))=O u
def a2Y(L:List Cl)(c n:ByteArray):Option (Nat×Nat):=(C8 L c).bind λk=>(L2 (cl L k) n).map λi=>(k,i)
variable {i j k lim:Nat}
theorem b4j{c:Cl}{n:ByteArray}(h:L2 c n=O i):i<c.m.length:=by
 unfold L2 at h;obtain⟨d,-⟩:=lp.1 h;exact d
variable {w w':World}{L:List Cl}
theorem a8B{m n:Nat}(h:w.ownsMap (H:=Unit) prog 9 (plainElem prog 3) m n (T7 (x9 L)))(s:ByteArray)(g:s.size<=ld):
 (Instr.lookup 148 (.map (O m)) (.string s) false).run prog w= .ok (.int I ((C8 L s).getD 0:Nat)) w:=by
 obtain⟨c,e,d,-⟩:=h.lookup_int a5x underlying148 underlying3 (a3k w) (WideMaps.keyOf_string_mk underlying9 g);have ha:(T7 (x9 L)).atKey (.string s.data.toList) (.lit (.int I 0))= .lit (.int I ((C8 L s).getD 0:Nat)):=b1i L s;rw[ha]at d;simp only[DataW.lit.injEq,Lit.int.injEq,true_and]at d;subst d;exact e
theorem c1T(f:Cl->List ByteArray)(hd:a1z L)(g:a0N f L)(c n:ByteArray)(B:c.size<=ld)(e:n.size<=ld):
 O1 (S7 f L) (P3 c n)=(C8 L c).bind λk=>(f (cl L k)).findIdx? (λx=>decide (x=n)):=by
 cases hf:C8 L c with
 |none=>
  rw[a6U f c n B e L g (λx C=>by
   obtain⟨j,d,rfl⟩:=lm C;have:=a6P hf j d;rwa[V8 d]at this)]
  rfl
 |some k=>
  obtain⟨v,y,-⟩:=M8 hf;rw[<-y,a6d f hd g v n e];rfl
def a3u(w:lf)(lim:Nat)(L:List Cl)(r:Option (Nat×Nat))(e:Ending):Prop:=match r with
 |none=>e= Y (.tuple #[.agg mZ, G false])
 |some k=>∃(pa ca ha:Option la) (pk ck hk:Nat),e= Y (.tuple #[.agg (mv (V0 L k) pa pk ca ck ha hk).toArray, G true])/\C0 w lim 2 B8 pa (V0 L k).p/\C0 w lim 4 M0 ca (V0 L k).c/\C0 w lim 4 O3 ha (V0 L k).h
theorem a5Q(w:lf)(lim b:Nat)(L:List Cl)(p:la)(cap m1 m2 m3:Nat)(q:Nat->Qs)(h:X (L4 w lim b L p cap m1 m2 m3 q))(hl:lim<=w.heap.size)(hD:X (a1z L))(hZ:X (a0N I8 L))(hP:X (P8 w lim L q))(c o:ByteArray)(hc:c.size<=ld)(ho:o.size<=ld):
 lg prog 69 #[U (O (A b 0 N)), Z c, Z o] w λe w'=>w.grownBy w' N/\a3u w lim L (a2Y L c o) e:=by
 have c3:=h.o.c3;have M:=c1T I8 hD.o hZ.o c o hc ho;obtain⟨W1,D⟩:=Oe (w.alloc (H mZ 102))
 have S:w.grownBy W1 N:=by rw[D];exact A2 _ _ _
 have E:=A1 (h.o.keep S hl);have B:A4 W1 w.heap.size mZ 102:=by rw[D];exact A4.new w _ _
 have cA:=E.o.c3;cases hm:a2Y L c o with
 |none=>
  have hr:O1 (S7 I8 L) (P3 c o)=N:=by
   rw[M];unfold a2Y at hm;cases hf:C8 L c with
   |none=>rfl
   |some k=>
    rw[hf]at hm;simp only[lx,ng]at hm⊢;rw[a6I,hm]
  have y:=a6X E.o.n3 c o hc ho N hr;simp only[Option.getD_none,Option.isSome_none]at y;rw[D]at y B cA;obtain⟨W,aa,ab,ac,ad,ae,af,ag⟩:=B.z8;obtain⟨d0,d1,d2,d3,d4,d5,d6,d7⟩:=B.q8;clear M hr S E D;go_enter func69,ntmps69;go_wp2
  refine ls (v:= .tuple #[.agg mZ, G false]) (by simp[lu,results69,go_sem,d0,d1,d2,d3,d4,d5,d6,d7]) rfl ?_;exact⟨A2 _ _ _,rfl⟩
 |some k=>
  obtain⟨k,i⟩:=k
  have hk:C8 L c=O k/\L2 (cl L k) o=O i:=by
   unfold a2Y at hm;cases hf:C8 L c with
   |none=>rw[hf]at hm;cases hm
   |some k'=>
    rw[hf]at hm;simp only[lx,Option.map_eq_some_iff,Prod.mk.injEq]at hm;obtain⟨i',h1,rfl,rfl⟩:=hm;exact⟨rfl,h1⟩
  have hr:O1 (S7 I8 L) (P3 c o)=O i:=by rw[M,hk.1,lx,a6I,hk.2]
  have al:=(M8 hk.1).1;have ak:=b4j hk.2;have y:=a6X E.o.n3 c o hc ho _ hr;simp only[ny,Option.isSome_some]at y;obtain⟨pm,pa,ca,ha,pk,ck,K,e1,e2,e3,e4,e5,e6⟩:=hP.o k al i ak;obtain⟨d,T⟩:=Oe ((cl L k).m.getD i G3)
  have aj:∀(C:Obj),(w.alloc C).drew.cell? (A b 0 N)=O (V (O p) L.length cap)/\(w.alloc C).drew.cell? (A b 1 N)=O (.map (O m1))/\(w.alloc C).drew.cell? (A ((p.add (k*4)).block) ((p.add (k*4)).off+3) N)=O (V (O pm) (cl L k).m.length (q k).mc)/\(w.alloc C).drew.cell? (pm.add (i*8))=O (Z d.n)/\(w.alloc C).drew.cell? (A ((pm.add (i*8)).block) ((pm.add (i*8)).off+1) N)=O (V pa d.p.length pk)/\(w.alloc C).drew.cell? (A ((pm.add (i*8)).block) ((pm.add (i*8)).off+2) N)=O (J I d.r.k)/\(w.alloc C).drew.cell? (A ((pm.add (i*8)).block) ((pm.add (i*8)).off+3) N)=O (Z d.r.n)/\(w.alloc C).drew.cell? (A ((pm.add (i*8)).block) ((pm.add (i*8)).off+4) N)=O (J I d.s)/\(w.alloc C).drew.cell? (A ((pm.add (i*8)).block) ((pm.add (i*8)).off+5) N)=O (J I d.l)/\(w.alloc C).drew.cell? (A ((pm.add (i*8)).block) ((pm.add (i*8)).off+6) N)=O (V ca d.c.length ck)/\(w.alloc C).drew.cell? (A ((pm.add (i*8)).block) ((pm.add (i*8)).off+7) N)=O (V ha d.h.length K)/\(Instr.lookup 148 (.map (O m1)) (Z c) false).run prog (w.alloc C).drew= .ok (J I (k:Int)) (w.alloc C).drew:=λC=>by
   have hg:=A0 (A2 w C N) (A7 _ _);have HK:=h.o.keep hg hl;have g:=λr u hu=>hg.cell (e6 r u (by rw[<-T];exact hu)) Os
   have am:=a8B HK.n1 c hc;rw[hk.1]at am;refine⟨HK.c0,HK.c1,?_,g 0 _ rfl,?_,?_,?_,?_,?_,?_,?_,am⟩
   ·rw[C2 p (k*4) 2,<-e1];exact HK.row k al 3 _ rfl
   ·rw[C2 pm (i*8) 0];exact g 1 _ rfl
   ·rw[C2 pm (i*8) 1];exact g 2 _ rfl
   ·rw[C2 pm (i*8) 2];exact g 3 _ rfl
   ·rw[C2 pm (i*8) 3];exact g 4 _ rfl
   ·rw[C2 pm (i*8) 4];exact g 5 _ rfl
   ·rw[C2 pm (i*8) 5];exact g 6 _ rfl
   ·rw[C2 pm (i*8) 6];exact g 7 _ rfl
  rw[D]at y B cA;obtain⟨W,aa,ab,ac,ad,ae,af,ag⟩:=B.z8;obtain⟨d0,d1,d2,d3,d4,d5,d6,d7⟩:=B.q8;have ai:=aj;clear aj;clear M hr S E D;go_enter func69,ntmps69;go_wp2
  go_region_held2 (λw'=>w'.cell? (A b 0 N)=O (V (O p) L.length cap)/\w'.cell? (A b 1 N)=O (.map (O m1))/\w'.cell? (A ((p.add (k*4)).block) ((p.add (k*4)).off+3) N)=O (V (O pm) (cl L k).m.length (q k).mc)/\w'.cell? (pm.add (i*8))=O (Z d.n)/\w'.cell? (A ((pm.add (i*8)).block) ((pm.add (i*8)).off+1) N)=O (V pa d.p.length pk)/\w'.cell? (A ((pm.add (i*8)).block) ((pm.add (i*8)).off+2) N)=O (J I d.r.k)/\w'.cell? (A ((pm.add (i*8)).block) ((pm.add (i*8)).off+3) N)=O (Z d.r.n)/\w'.cell? (A ((pm.add (i*8)).block) ((pm.add (i*8)).off+4) N)=O (J I d.s)/\w'.cell? (A ((pm.add (i*8)).block) ((pm.add (i*8)).off+5) N)=O (J I d.l)/\w'.cell? (A ((pm.add (i*8)).block) ((pm.add (i*8)).off+6) N)=O (V ca d.c.length ck)/\w'.cell? (A ((pm.add (i*8)).block) ((pm.add (i*8)).off+7) N)=O (V ha d.h.length K)/\(Instr.lookup 148 (.map (O m1)) (Z c) false).run prog w'= .ok (J I (k:Int)) w') (exact ai _) (fail)
  have an:(cl L k).m[i]=d:=by rw[T,lh,lk ak];rfl
  have ah:=(A4.new w (mv d pa pk ca ck ha K).toArray 102).keep (A7 _ N) Os;obtain⟨g0,g1,g2,g3,g4,g5,g6,g7⟩:=ah.q8;simp only[an];clear B ah W aa ab ac ad ae af ag d0 d1 d2 d3 d4 d5 d6 d7 ai;simp only[mv]at g0 g1 g2 g3 g4 g5 g6 g7;go_wp2
  refine ls (v:= .tuple #[.agg (mv d pa pk ca ck ha K).toArray, G true]) (by simp[lu,results69,go_sem,g0,g1,g2,g3,g4,g5,g6,g7,mv]) rfl ?_;refine⟨A0 (A2 _ _ N) (A7 _ _),?_⟩;unfold a3u;refine⟨pa,ca,ha,pk,ck,K,?_,?_⟩
  ·unfold V0;rw[<-T]
  ·unfold V0;exact⟨e3,e4,e5⟩
variable {q:Nat->Qs}
theorem P8.keep(h:P8 w lim L q)(hg:w.grownBy w' N):P8 w' lim L q:=λi hi j d=>by
 obtain⟨p,pa,ca,ha,pk,ck,hk,h1,h2,h3,h4,h5,h6⟩:=h i hi j d;exact c6x
variable {α:Type}{a:Option Addr}
theorem a8o{sz:Nat}{enc:α->List Value}{xs:List α}(h:C0 w' lim sz enc a xs)(v:w.grownBy w' N)(C:lim<=w.heap.size):C0 w lim sz enc a xs:=λj y=>by
 obtain⟨p,d,e,g⟩:=h j y;refine⟨p,d,e,λr u B=> ?_⟩;rw[<-g r u B];exact(World.cell?_of_block (w:=w) (v.block (p.add (j*sz+r)).block (by rw[a4y];omega) Os)).symm
def a7I(L:List Cl):Prop:=C8 L ⟨#[]⟩=N
theorem b7l(y:a1z L)(B:a7I L)(C:UpL L)(c o:ByteArray):a2Y L (a2Q L c o) o=L6 L c o:=by
 unfold a2Q;cases hm:L6 L c o with
 |none=>
  unfold a2Y;rw[B];rfl
 |some p=>
  obtain⟨k,i⟩:=p;unfold L6 at hm;obtain⟨v,e,d⟩:=nz hm;cases hmi:L2 (cl L v) o with
  |none=>rw[hmi]at d;cases d
  |some i'=>
   rw[hmi]at d;simp only[ua,ub.injEq,Prod.mk.injEq]at d;obtain⟨rfl,rfl⟩:=d;have g:=a2s _ _ _ e;show a2Y L (cl L v).n o=O (v,i');unfold a2Y;rw[a6Q y g];simp[hmi]
theorem b0O(w:lf)(lim b:Nat)(L:List Cl)(p:la)(cap m1 m2 m3:Nat)(q:Nat->Qs)(h:X (L4 w lim b L p cap m1 m2 m3 q))(E:lim<=w.heap.size)(hU:X (UpL L))(hD:X (a1z L))(hN:X (a7I L))(hZ:X (a0N I8 L))(hP:X (P8 w lim L q))(c o:ByteArray)(hc:c.size<=ld)(ho:o.size<=ld):
 lg prog 62 #[U (O (A b 0 N)), Z c, Z o] w λe w'=>w.grownBy w' N/\a3u w lim L (L6 L c o) e:=by
 have aa:∀ob,X (L4 (w.alloc ob) lim b L p cap m1 m2 m3 q):=λob=>h.o.keep (A2 w ob N) E
 have T:(a2Q L c o).size<=ld:=by
  unfold a2Q;cases hm:L6 L c o with
  |none=>exact Nat.zero_le _
  |some k=>
   unfold L6 at hm;obtain⟨k',ao,hf⟩:=nz hm;have ap:=a2s _ _ _ ao;cases hmi:L2 (cl L k') o with
   |none=>rw[hmi]at hf;cases hf
   |some i'=>
    rw[hmi]at hf;simp only[ua,ub.injEq]at hf;subst hf;exact(h.o.names k' ap).1
 have D:=b7l hD.o hN.o hU.o c o;obtain⟨on,W⟩:=Oe (a2Q L c o)
 rw[<-W]at T D;obtain⟨mo,ae⟩:=Oe (L6 L c o)
 rw[<-ae]at D⊢;have ad:=A1 W;have ab:=A1 D;have ac:=A1 T;clear W D ae T;cases mo with
 |none=>
  go_enter func62,ntmps62
  go_wp2_with (first
   |(go_at_call 103
     go_loud (refine(b1Y _ lim b L p cap m1 m2 m3 q (aa _) Oi hU hD hZ c o hc ho).mono ?_;rintro e w1 ⟨rfl,B⟩;rw[<-ad.o])
     have g:=A0 (A2 _ _ N) B;have M:=(A4.new w mZ 102).keep B Os;have K:=A1 (h.o.keep g E);have S:=ll E g.size;dsimp only)
   |(go_at_call 69
     refine(a5Q w1 lim b L p cap m1 m2 m3 q K S hD hZ (hP.o.keep g) on o ac.o ho).mono ?_;intro e w2 hq;have C:=hq.1;have d:=hq.2;rw[ab.o]at d;clear hq;unfold a3u at d;dsimp only at d;subst d;have y:=M.keep C Os;obtain⟨d0,d1,d2,d3,d4,d5,d6,d7⟩:=y.q8;obtain⟨ag,ah,ai,aj,ak,al,am,an⟩:=y.z8;dsimp only))
  refine ls (v:= .tuple #[.agg mZ, G false]) (by simp[lu,results62,go_sem,d0,d1,d2,d3,d4,d5,d6,d7]) rfl ?_;exact⟨C6 (A0 g C) (@a2m w2 w.heap.size 0 1 2 3 4 5 6 7 _ _ _ _ _ _ _ _) (λk e=>by cases e;exact .inl (Nat.le_refl _)),rfl⟩
 |some k=>
  go_enter func62,ntmps62
  go_wp2_with (first
   |(go_at_call 103
     go_loud (refine(b1Y _ lim b L p cap m1 m2 m3 q (aa _) Oi hU hD hZ c o hc ho).mono ?_;rintro e w1 ⟨rfl,B⟩;rw[<-ad.o])
     have g:=A0 (A2 _ _ N) B;have M:=(A4.new w mZ 102).keep B Os;have K:=A1 (h.o.keep g E);have S:=ll E g.size;dsimp only)
   |(go_at_call 69
     refine(a5Q w1 lim b L p cap m1 m2 m3 q K S hD hZ (hP.o.keep g) on o ac.o ho).mono ?_;intro e w2 hq;have C:=hq.1;have d:=hq.2;rw[ab.o]at d;clear hq;unfold a3u at d;dsimp only at d;obtain⟨pa,ca,ha,pk,ck,hk,he,r1,r2,r3⟩:=d;generalize hmd:V0 L k=md at he r1 r2 r3;unfold mv at he;subst he;have af:=A1 hmd;clear hmd;have y:=M.keep C Os;obtain⟨d0,d1,d2,d3,d4,d5,d6,d7⟩:=y.q8;obtain⟨ag,ah,ai,aj,ak,al,am,an⟩:=y.z8;dsimp only))
  refine ls (v:= .tuple #[.agg (mv md pa pk ca ck ha hk).toArray, G true]) (by simp[lu,results62,go_sem,d0,d1,d2,d3,d4,d5,d6,d7,mv]) rfl ?_;refine⟨C6 (A0 g C) (@a2m w2 w.heap.size 0 1 2 3 4 5 6 7 _ _ _ _ _ _ _ _) (λk e=>by cases e;exact .inl (Nat.le_refl _)),?_⟩;unfold a3u;dsimp only;rw[af.o];exact⟨pa,ca,ha,pk,ck,hk,rfl,a8o r1 g E,a8o r2 g E,a8o r3 g E⟩
def PM(w:lf)(lim:Nat)(a:Option la)(ms:List Me):Prop:=∀j,j<ms.length->∃(p:la) (pa ca ha:Option la) (pk ck hk:Nat),a=O p/\p.block<lim/\
    C0 w lim 2 B8 pa (ms.getD j G3).p/\C0 w lim 4 M0 ca (ms.getD j G3).c/\C0 w lim 4 O3 ha (ms.getD j G3).h/\
    ∀r u,(mv (ms.getD j G3) pa pk ca ck ha hk)[r]? =O u->w.cell? (p.add (j*8+r))=O u
theorem P8.at(h:P8 w lim L q)(hi:i<L.length):PM w lim (q i).ma (cl L i).m:=h i hi
variable {ms:List Me}
theorem PM.keep(h:PM w lim a ms)(hg:w.grownBy w' N):PM w' lim a ms:=λj d=>by
 obtain⟨p,pa,ca,ha,pk,ck,hk,h1,h2,h3,h4,h5,h6⟩:=h j d;exact c6x
theorem a5h(h:PM w lim a ms)(hk:k<ms.length):∃(p:la) (pa ca ha:Option la) (pk ck hh:Nat),a=O p/\p.block<lim/\
 C0 w lim 2 B8 pa ms[k].p/\C0 w lim 4 M0 ca ms[k].c/\C0 w lim 4 O3 ha ms[k].h/\
 w.cell? (p.add (k*8))=O (Z ms[k].n)/\w.cell? (A ((p.add (k*8)).block) ((p.add (k*8)).off+1) N)=O (V pa ms[k].p.length pk)/\
 w.cell? (A ((p.add (k*8)).block) ((p.add (k*8)).off+2) N)=O (J I ms[k].r.k)/\w.cell? (A ((p.add (k*8)).block) ((p.add (k*8)).off+3) N)=O (Z ms[k].r.n)/\
 w.cell? (A ((p.add (k*8)).block) ((p.add (k*8)).off+4) N)=O (J I ms[k].s)/\w.cell? (A ((p.add (k*8)).block) ((p.add (k*8)).off+5) N)=O (J I ms[k].l)/\
 w.cell? (A ((p.add (k*8)).block) ((p.add (k*8)).off+6) N)=O (V ca ms[k].c.length ck)/\w.cell? (A ((p.add (k*8)).block) ((p.add (k*8)).off+7) N)=O (V ha ms[k].h.length hh):=by
 obtain⟨p,pa,ca,ha,pk,ck,hh,B,C,g,v,y,d⟩:=h k hk;have e:ms.getD k G3=ms[k]:=by rw[lh,lk hk];rfl
 rw[e]at g v y d
 exact⟨p,pa,ca,ha,pk,ck,hh,B,C,g,v,y,d 0 _ rfl,by rw[C2 p (k*8) 0];exact d 1 _ rfl,by rw[C2 p (k*8) 1];exact d 2 _ rfl,by rw[C2 p (k*8) 2];exact d 3 _ rfl,
  by rw[C2 p (k*8) 3];exact d 4 _ rfl,by rw[C2 p (k*8) 4];exact d 5 _ rfl,by rw[C2 p (k*8) 5];exact d 6 _ rfl,by rw[C2 p (k*8) 6];exact d 7 _ rfl⟩
theorem b9A{ts:List Ty}(h:C0 w lim 2 B8 a ts)(hk:k<ts.length):∃p:la,a=O p/\p.block<lim/\w.cell? (p.add (k*2))=O (J I ts[k].k)/\
 w.cell? (A ((p.add (k*2)).block) ((p.add (k*2)).off+1) N)=O (Z ts[k].n):=by
 obtain⟨p,e,g,d⟩:=h k hk;exact⟨p,e,g,d 0 _ rfl,by rw[C2 p (k*2) 0];exact d 1 _ rfl⟩
theorem c0J{d:List Hd}(h:C0 w lim 4 O3 a d)(hk:k<d.length):∃p:la,a=O p/\p.block<lim/\w.cell? (p.add (k*4))=O (J I d[k].f)/\
 w.cell? (A ((p.add (k*4)).block) ((p.add (k*4)).off+1) N)=O (J I d[k].to)/\w.cell? (A ((p.add (k*4)).block) ((p.add (k*4)).off+2) N)=O (J I d[k].t)/\w.cell? (A ((p.add (k*4)).block) ((p.add (k*4)).off+3) N)=O (Z d[k].c):=by
 obtain⟨p,g,v,e⟩:=h k hk;exact⟨p,g,v,e 0 _ rfl,by rw[C2 p (k*4) 0];exact e 1 _ rfl,by rw[C2 p (k*4) 1];exact e 2 _ rfl,by rw[C2 p (k*4) 2];exact e 3 _ rfl⟩
def Szc(c:Cl):Prop:=c.f.length<=65536/\c.m.length<=65536/\∀(j:Nat) (hj:j<c.m.length),c.m[j].p.length<=65536/\c.m[j].h.length<=65536
theorem b3s(p:α->Bool)(l:List α)(k:Nat)(hk:k<l.length):(l.take (k+1)).all p=((l.take k).all p&&p l[k]):=by
 rw[nx hk,List.all_append];simp
theorem b5A(w:lf)(lim wb:Nat)(L:List Cl)(p:la)(cap:Nat)(q:Nat->Qs)(h:X (Wo w lim wb L p cap q))(c:Cl)(v:Qs)(hF:X (C0 w lim 3 K3 v.fa c.f))(hM:X (PM w lim v.ma c.m))(hz:X (Szc c)):
 lg prog 179 #[U (O (A wb 0 N)), .agg (G9 c v).toArray] w λe w'=>e= Y (G (tyR L c))/\w.grownBy w' N:=by
 have bl:=hz.o.1;have bm:=hz.o.2.1;obtain⟨nf,hf⟩:=Oe c.f.length
 obtain⟨nm,hm⟩:=Oe c.m.length
 have az:=A1 hf;have a1:=A1 hm;unfold G9;rw[<-hf,<-hm];rw[<-hf]at bl;rw[<-hm]at bm;clear hf hm;go_enter func179,ntmps179;have a7:=A4.new w #[Z c.n, Z c.s, V v.fa nf v.fk, V v.ma nm v.mc] 44;have aj:=A1 a7;have bd:X (w.grownBy (w.alloc (H #[Z c.n, Z c.s, V v.fa nf v.fk, V v.ma nm v.mc] 44)) N):=A2 _ _ _;clear a7;go_wp2
 go_loopw [5] (λf wr=>∃k:Nat,k<=nf/\f= J I k/\X (∀(j:Nat) (K:j<c.f.length),j<k->(!V6 L c.f[j].ty||decide (c.f[j].ty.k=0))=false)/\X (w.grownBy wr N)/\X (A4 wr w.heap.size #[Z c.n, Z c.s, V v.fa nf v.fk, V v.ma nm v.mc] 44)) (λf _=>nf-(le f).toNat)
 case atStart=>exact⟨0,by omega,rfl,λj _ K=>by omega,bd,aj⟩
 case round=>
  obtain⟨k,hk,rfl,y,E,hb⟩:=hrel;have c2:=hb.o.c2;by_cases hlt:k<nf
  ·have T:k<c.f.length:=by rw[<-az.o];exact hlt
   obtain⟨fp,a',-,e0,e1,e2⟩:=a3O (hF.o.keep E.o) T;rw[a']at c2;clear a';obtain⟨fx,am⟩:=Oe (c.f[k])
   rw[<-am]at e0 e1 e2;have ax:=A1 am;clear am;obtain⟨tv,D⟩:=Oe ((decide (fx.ty.n=D4)||E9 L fx.ty.n))
   have HT:=A1 D;have a5:X (V6 L fx.ty=tv):=D.symm;clear D
   have M:X ((!tv||decide (fx.ty.k=0))=true->tyR L c=true):=by
    intro e;unfold tyR;rw[Bool.or_eq_true];exact .inl (a3W T (by rw[<-ax.o,a5.o];exact e))
   have ba:X ((!tv||decide (fx.ty.k=0))=false->∀(j:Nat) (K:j<c.f.length),j<k+1->(!V6 L c.f[j].ty||decide (c.f[j].ty.k=0))=false):=by
    intro e j ao K;rcases lj j k with h1|h1
    ·exact y.o j ao h1
    ·obtain rfl:j=k:=by omega
     rw[<-ax.o,a5.o];exact e
   have HW:=A1 (h.o.keep E.o);obtain⟨fn,al⟩:=Oe fx.ty.n
   rw[<-al]at e2;have ak:=A1 al;clear al;obtain⟨kd,S⟩:=Oe fx.ty.k
   rw[<-S]at e1 M ba;clear S;cases tv with
   |false=>
    go_wp2_with (go_at_call 259;refine(a3I _ lim wb L p cap q HW _ _).mono ?_;rintro e w4 ⟨rfl,g⟩;rw[ak.o,<-HT.o])
    go_ret;exact⟨N0 (M.o rfl).symm,A0 E.o g⟩
   |true=>
    by_cases hk0:kd=0
    ·subst hk0
     go_wp2_with (go_at_call 259
                  refine(a3I _ lim wb L p cap q HW _ _).mono ?_;rintro e w4 ⟨rfl,g⟩;rw[ak.o,<-HT.o];have bg:w4.cell? (A w.heap.size 2 N)=_:=g.cell c2 Os;have bh:=g.cell e1 Os)
     go_ret;exact⟨N0 (M.o rfl).symm,A0 E.o g⟩
    ·go_wp2_with (go_at_call 259
                  refine(a3I _ lim wb L p cap q HW _ _).mono ?_;rintro e w4 ⟨rfl,g⟩;rw[ak.o,<-HT.o];have bg:w4.cell? (A w.heap.size 2 N)=_:=g.cell c2 Os;have bh:=g.cell e1 Os)
     go_roundw
     case rel=>exact⟨k+1,by omega,by go_num,by have:=ba.o (by simp[hk0]);exact this,A0 E.o g,hb.o.keep g Os⟩
     case measure=>simp[le];omega
  ·have bc:X (c.f.any (λf=> !V6 L f.ty||decide (f.ty.k=0))=false):=a3T (λj K=>y.o j K (by rw[<-az.o]at K;omega));clear y;go_wp2
   clear hlt hk;go_loopw [7] (λf wr=>∃k:Nat,k<=nm/\f= J I k/\X (∀(j:Nat) (K:j<c.m.length),j<k->a4a L c.m[j]=false)/\X (w.grownBy wr N)/\X (A4 wr w.heap.size #[Z c.n, Z c.s, V v.fa nf v.fk, V v.ma nm v.mc] 44)) (λf _=>nm-(le f).toNat)
   case atStart=>exact⟨0,by omega,rfl,λj _ K=>by omega,E,hb⟩
   case round=>
    clear E hb c2;obtain⟨km,bs,rfl,y,E,hb⟩:=hrel;have c3:=hb.o.c3;by_cases hltm:km<nm
    ·have W:km<c.m.length:=by rw[<-a1.o];exact hltm
     obtain⟨mp,pa,ca,ha,pk,ck,hh,bb,-,r1,-,r3,m0,m1,m2,m3,m4,m5,m6,m7⟩:=a5h (hM.o.keep E.o) W;rw[bb]at c3;clear bb;have ae:=hz.o.2.2 km W;obtain⟨d,aq⟩:=Oe (c.m[km])
     rw[<-aq]at r1 r3 m0 m1 m2 m3 m4 m5 m6 m7 ae;have ay:=A1 aq;have ac:=A1 r1;have ad:=A1 r3;obtain⟨np,au⟩:=Oe d.p.length
     obtain⟨nh,ar⟩:=Oe d.h.length
     rw[<-au]at m1 ae;rw[<-ar]at m7 ae;have a2:=A1 au;have a0:=A1 ar;obtain⟨bp,bo⟩:=ae;have HW:∀ob,X (Wo (wr.alloc ob) lim wb L p cap q):=λob=>(h.o.keep E.o).keep (A2 _ _ _)
     have bq:X (V6 L d.r=(decide (d.r.n=D4)||E9 L d.r.n)):=rfl;clear aq r1 r3 au ar;obtain⟨tv,D⟩:=Oe (V6 L d.r)
     have bf:=A1 D.symm;have a6:X ((decide (d.r.n=D4)||E9 L d.r.n)=tv):=D.symm;clear D;have ag:X (A4 (wr.alloc (H #[Z d.n, V pa np pk, J I d.r.k, Z d.r.n, J I d.s, J I d.l, V ca d.c.length ck, V ha nh hh] 102)) wr.heap.size #[Z d.n, V pa np pk, J I d.r.k, Z d.r.n, J I d.s, J I d.l, V ca d.c.length ck, V ha nh hh] 102):=A4.new wr _ _;have ah:X (w.grownBy (wr.alloc (H #[Z d.n, V pa np pk, J I d.r.k, Z d.r.n, J I d.s, J I d.l, V ca d.c.length ck, V ha nh hh] 102)) N):=A0 E.o (A2 _ _ _);have af:X (A4 (wr.alloc (H #[Z d.n, V pa np pk, J I d.r.k, Z d.r.n, J I d.s, J I d.l, V ca d.c.length ck, V ha nh hh] 102)) w.heap.size #[Z c.n, Z c.s, V v.fa nf v.fk, V v.ma nm v.mc] 44):=hb.o.keep (A2 _ _ N) Os;have a3:X (C0 (wr.alloc (H #[Z d.n, V pa np pk, J I d.r.k, Z d.r.n, J I d.s, J I d.l, V ca d.c.length ck, V ha nh hh] 102)) lim 2 B8 pa d.p):=ac.o.keep (A2 _ _ _);have a4:X (C0 (wr.alloc (H #[Z d.n, V pa np pk, J I d.r.k, Z d.r.n, J I d.s, J I d.l, V ca d.c.length ck, V ha nh hh] 102)) lim 4 O3 ha d.h):=ad.o.keep (A2 _ _ _);clear ac ad
     go_wp2_with (go_at_call 259
                  refine(a3I _ lim wb L p cap q (HW _) _ _).mono ?_;rintro e w4 ⟨rfl,g⟩;rw[a6.o])
     have aw:=A1 (ag.o.keep g Os);have ab:=A1 (A0 ah.o g);have aj:=A1 (af.o.keep g Os);have ac:=A1 (a3.o.keep g);have ad:=A1 (a4.o.keep g);clear ag ah af a3 a4 g m0 m1 m2 m3 m4 m5 m6 m7 c3;go_loopw [9,10] (λo f wx=>∃k:Nat,k<=np/\f= J I k/\o= G (tv&&(d.p.take k).all (λp=>V6 L p&&decide (p.k≠0)))/\X (w4.grownBy wx N)) (λ_ f _=>np-(le f).toNat)
     case atStart=>exact⟨0,by omega,rfl,by simp,C9 _ _⟩
     case round=>
      obtain⟨k,hk,rfl,rfl,hgx⟩:=hrel;have bi:=aw.o.keep hgx.o Os;have d1:=bi.c1;by_cases hlt:k<np
      ·have T:k<d.p.length:=by rw[<-a2.o];exact hlt
       obtain⟨tp,aa,-,e0,e1⟩:=b9A (ac.o.keep hgx.o) T;rw[aa]at d1;clear aa;obtain⟨px,av⟩:=Oe (d.p[k])
       rw[<-av]at e0 e1;obtain⟨pv,B⟩:=Oe (V6 L px)
       obtain⟨o,ho⟩:=Oe ((tv&&(d.p.take k).all (λp=>V6 L p&&decide (p.k≠0))))
       have HNEW:X ((tv&&(d.p.take (k+1)).all (λp=>V6 L p&&decide (p.k≠0)))=(o&&(pv&&decide (px.k≠0)))):=by
        unfold X;rw[b3s _ _ _ T,<-av,B,ho,uc]
       have HPV:X ((decide (px.n=D4)||E9 L px.n)=pv):=B.symm;have HWx:=A1 ((h.o.keep ab.o).keep hgx.o);rw[<-ho];obtain⟨kd,S⟩:=Oe px.k
       rw[<-S]at e0 HNEW;clear ho B av S;cases o with
       |false=>
        exact a2d
       |true=>
        cases pv with
        |false=>
         exact a2d
        |true=>
         by_cases hk0:kd=0
         ·subst hk0;exact a2d
         ·have br:(kd:Int)≠0:=by omega
          go_wp2_with (go_at_call 259;refine(a3I _ lim wb L p cap q HWx _ _).mono ?_;rintro e w5 ⟨rfl,hg5⟩;rw[HPV.o];have d1':=hg5.cell d1 Os;have e0':=hg5.cell e0 Os)
          go_roundw
          case rel=>exact⟨k+1,by omega,by go_num,by rw[HNEW.o];simp[hk0],A0 hgx.o hg5⟩
          case measure=>simp[le];omega
      ·have ap:k=np:=by omega
       subst ap;obtain⟨o,ho⟩:=Oe ((tv&&(d.p.take k).all (λp=>V6 L p&&decide (p.k≠0))))
       have HO:X (o=(tv&&d.p.all (λp=>V6 L p&&decide (p.k≠0)))):=by unfold X;rw[ho,a2.o,ud]
       rw[<-ho];clear ho;go_wp2
       go_loopw [9,12] (λo2 f wy=>∃k2:Nat,k2<=nh/\f= J I k2/\o2= G (o&&(d.h.take k2).all (λh=>E9 L h.c))/\X (w4.grownBy wy N)) (λ_ f _=>nh-(le f).toNat)
       case atStart=>exact⟨0,by omega,rfl,by simp,hgx⟩
       case round=>
        obtain⟨k2,bk,rfl,rfl,hgy⟩:=hrel;have bj:=aw.o.keep hgy.o Os;have d7:=bj.c7;by_cases hlt2:k2<nh
        ·have ai:k2<d.h.length:=by rw[<-a0.o];exact hlt2
         obtain⟨tp,aa,-,-,-,-,e3⟩:=c0J (ad.o.keep hgy.o) ai;rw[aa]at d7;clear aa d1;obtain⟨pv,B⟩:=Oe (a0o L d.h[k2].c)
         obtain⟨hn,an⟩:=Oe (d.h[k2].c)
         rw[<-an]at e3 B;obtain⟨o2,C⟩:=Oe ((o&&(d.h.take k2).all (λh=>E9 L h.c)))
         have HNEW:X ((o&&(d.h.take (k2+1)).all (λh=>E9 L h.c))=(o2&&decide (0<=pv))):=by
          unfold X;rw[b3s _ _ _ ai,<-an,B,a5i,C,uc]
         have HFV:=A1 B;have HWx:=A1 ((h.o.keep ab.o).keep hgy.o);rw[<-C];clear C B an;cases o2 with
         |false=>
          go_wp2_with (go_at_call 121;refine(a2i _ lim wb L p cap q HWx _).mono ?_;rintro e w5 ⟨rfl,rfl⟩;rw[<-HFV.o])
          go_roundw
          case rel=>exact⟨k2+1,by omega,by go_num,by rw[HNEW.o];rfl,hgy⟩
          case measure=>simp[le];omega
         |true=>
          by_cases hp0:0<=pv
          ·have bn:pv≥0:=hp0;exact b0j
          ·have bn:¬pv≥0:=hp0;exact b0j
        ·have ap:k2=nh:=by omega
         subst ap;obtain⟨o2,C⟩:=Oe ((o&&(d.h.take k2).all (λh=>E9 L h.c)))
         have HB:X (a4a L d= !o2):=by
          unfold X a4a;rw[C,HO.o,bf.o,a0.o,ud]
         rw[<-C];clear C hlt2 bk;cases o2 with
         |false=>
          go_wp2
          go_ret
          exact⟨N0 (by
           unfold tyR;rw[a3W (p:=a4a L) W (by rw[<-ay.o,HB.o];rfl),Bool.or_true]),A0 ab.o hgy.o⟩
         |true=>
          go_wp2
          refine⟨⟨km+1,by omega,by go_num,?_,A0 ab.o hgy.o,aj.o.keep hgy.o Os⟩,by simp[le];omega⟩;intro j ao K;rcases lj j km with h1|h1
          ·exact y.o j ao h1
          ·obtain rfl:j=km:=by omega
           rw[<-ay.o,HB.o];rfl
    ·have be:=A1 (a3T (λj K=>y.o j K (by rw[<-a1.o]at K;omega)));go_wp2
     go_ret;exact⟨N0 (by unfold tyR;rw[bc.o,be.o];rfl),E.o⟩
theorem a7i(f:α->ByteArray)(d:α)(l:List α)(h:j<l.length):f (l.getD j d)=f l[j]:=by
 rw[lh,lk h];rfl
def Dif(f:α->ByteArray)(l:List α)(k:Nat):Prop:=∀i j (hi:i<l.length) (hj:j<l.length),i<j->j<k->f l[i]≠f l[j]
theorem b2x(f:α->ByteArray)(d:α){l:List α}(h:Dif f l l.length):a0a f l=false:=by
 cases ht:a0a f l with
 |false=>rfl
 |true=>
  obtain⟨i,j,v,e,g⟩:=(a5X f d l).1 ht;rw[a7i f d l Oo,a7i f d l e]at g;exact absurd g (h i j Oo e v e)
theorem b1J(f:α->ByteArray)(d:α){l:List α}(hi:i<l.length)(v:j<l.length)(g:i<j)(e:f l[i]=f l[j]):a0a f l=true:=
 (a5X f d l).2 ⟨i,j,g,v,by rw[a7i f d l hi,a7i f d l v];exact e⟩
theorem Dif.step{f:α->ByteArray}{l:List α}(h:Dif f l k)(hk:k<l.length)(y:∀i (hi:i<l.length),i<k->f l[i]≠f l[k]):Dif f l (k+1):=λi j hi g d v=>by
 rcases lj j k with e|e
 ·exact h i j hi g d e
 ·obtain rfl:j=k:=by omega
  exact y i hi d
theorem b5D(w:lf)(lim wb:Nat)(L:List Cl)(p:la)(cap:Nat)(q:Nat->Qs)(h:X (Wo w lim wb L p cap q))(a7:X (V9 w lim L q))(ae:X (Few L))(c:Cl)(E:Qs)(hF:X (C0 w lim 3 K3 E.fa c.f))(hM:X (PM w lim E.ma c.m))(hz:X (Szc c)):
 lg prog 180 #[U (O (A wb 0 N)), .agg (G9 c E).toArray] w λe w'=>e= Y (G (mbR L c))/\w.grownBy w' N:=by
 have bb:=hz.o.1;have bc:=hz.o.2.1;obtain⟨nf,hf⟩:=Oe c.f.length
 obtain⟨nm,hm⟩:=Oe c.m.length
 have am:=A1 hf;have aw:=A1 hm;unfold G9;rw[<-hf,<-hm];rw[<-hf]at bb;rw[<-hm]at bc;clear hf hm;go_enter func180,ntmps180;have a2:X (A4 (w.alloc (H #[Z c.n, Z c.s, V E.fa nf E.fk, V E.ma nm E.mc] 44)) w.heap.size #[Z c.n, Z c.s, V E.fa nf E.fk, V E.ma nm E.mc] 44):=A4.new w _ _;have a3:X (w.grownBy (w.alloc (H #[Z c.n, Z c.s, V E.fa nf E.fk, V E.ma nm E.mc] 44)) N):=A2 _ _ _;go_wp2
 go_loopw [5] (λf wr=>∃k:Nat,k<=nm/\f= J I k/\X (Dif (λm:Me=>m.n) c.m k)/\X (w.grownBy wr N)/\X (A4 wr w.heap.size #[Z c.n, Z c.s, V E.fa nf E.fk, V E.ma nm E.mc] 44)) (λf _=>nm-(le f).toNat)
 case atStart=>exact⟨0,by omega,rfl,λi j _ _ _ v=>by omega,a3,a2⟩
 case round=>
  obtain⟨i,hi,rfl,K,d,hb⟩:=hrel;have c3:=hb.o.c3;by_cases hlt:i<nm
  ·have M:i<c.m.length:=by rw[<-aw.o];exact hlt
   go_wp2
   clear c3;go_loopw [6] (λf wx=>∃k:Nat,k<=i/\f= J I k/\X (∀j (v:j<c.m.length),j<k->c.m[j].n≠c.m[i].n)/\X (w.grownBy wx N)/\X (A4 wx w.heap.size #[Z c.n, Z c.s, V E.fa nf E.fk, V E.ma nm E.mc] 44)) (λf _=>i-(le f).toNat)
   case atStart=>exact⟨0,by omega,rfl,λj _ v=>by omega,d,hb⟩
   case round=>
    clear d hb;obtain⟨k,hk,rfl,y,d,hb⟩:=hrel;have c3:=hb.o.c3;by_cases hlt2:k<i
    ·have af:k<c.m.length:=by omega
     obtain⟨mp,-,-,-,-,-,-,W,-,-,-,-,m0,-⟩:=a5h (hM.o.keep d.o) M;obtain⟨a1,-,-,-,-,-,-,B,-,-,-,-,ag,-⟩:=a5h (hM.o.keep d.o) af;rw[W]at B c3;cases B;clear W;obtain⟨xa,C⟩:=Oe (c.m[i].n)
     obtain⟨xb,D⟩:=Oe (c.m[k].n)
     rw[<-C]at m0;rw[<-D]at ag;have S:=A1 C;have T:=A1 D;clear C D;have a':=hlt;have ba:k<nm:=by omega
     by_cases hx:xa=xb
     ·subst hx;go_wp2
      go_quiet (fail)
      go_wp2
      go_ret;exact⟨N0 (by unfold mbR;rw[b1J (λm:Me=>m.n) G3 af M hlt2 (T.o.symm.trans S.o)];rfl),A0 d.o (F4 _ _ _)⟩
     ·have az:=l6 hx;go_wp2
      go_quiet (fail)
      go_wp2
      go_roundw
      case rel=>exact⟨k+1,by omega,by go_num,by
       intro j v ab;rcases lj j k with h1|h1
       ·exact y.o j v h1
       ·obtain rfl:j=k:=by omega
        rw[<-S.o,<-T.o];exact λe=>hx e.symm,A0 d.o (F4 _ _ _),hb.o.keep (F4 _ _ N) Os⟩
      case measure=>simp[le];omega
    ·have aq:k=i:=by omega
     subst aq;go_wp2
     exact⟨⟨k+1,by omega,by go_num,K.o.step M (λj v ab=>y.o j v ab),d,hb⟩,by simp[le];omega⟩
  ·have a6:=A1 (b2x _ G3 (by rw[<-aw.o,show nm=i from by omega];exact K.o));have c1:=hb.o.c1;have HW:=A1 (h.o.keep d.o);have ax:X (V9 wr lim L q):=λi hi=>(a7.o i hi).keep d.o
   have ah:(O9 L c.s).length<=64*255:=by
    have h1:=a8G ae.o (l:=up L c.s) (a2s _ _);have h2:=a5u (L:=L) c.s;have h3:=ae.o.1;have h4:(up L c.s).length*255<=64*255:=nw _ Oo;have h5:O9 L c.s=a1D L (up L c.s):=rfl;rw[h5];omega
   obtain⟨fr,ao⟩:=Oe (O9 L c.s)
   rw[<-ao]at ah;have aj:=A1 ao.symm;obtain⟨na,au⟩:=Oe fr.length
   have al:=A1 au.symm;rw[<-au]at ah;clear ao au;go_wp2_with (go_at_call 260;refine(b0M _ lim wb L p cap q HW ax ae _).mono ?_;rintro e w4 ⟨aa,ak,rfl,av,ap⟩;rw[aj.o]at av⊢;rw[al.o])
   have a4:=A1 av;have ac:=A1 (A0 d.o ap);have ai:=A1 (hb.o.keep ap Os);clear av ap c1 c3 d hb K hlt hi;go_loopw [8] (λf wx=>∃k:Nat,k<=nf/\f= J I k/\X (Dif (λm:V3=>m.n) c.f k)/\X (∀j (v:j<c.f.length),j<k->∀m (hm:m<fr.length),c.f[j].n≠fr[m].n)/\X (w4.grownBy wx N)) (λf _=>nf-(le f).toNat)
   case atStart=>exact⟨0,by omega,rfl,λi j _ _ _ v=>by omega,λj _ v=>by omega,C9 _ _⟩
   case round=>
    obtain⟨i,hi,rfl,K,ay,d⟩:=hrel;have hb:=ai.o.keep d.o Os;have c2:=hb.c2;by_cases hlt:i<nf
    ·have M:i<c.f.length:=by rw[<-am.o];exact hlt
     clear hb;go_wp2
     clear c2;go_loopw [9] (λf wx=>∃k:Nat,k<=i/\f= J I k/\X (∀j (v:j<c.f.length),j<k->c.f[j].n≠c.f[i].n)/\X (w4.grownBy wx N)) (λf _=>i-(le f).toNat)
     case atStart=>exact⟨0,by omega,rfl,λj _ v=>by omega,d⟩
     case round=>
      clear d;obtain⟨k,hk,rfl,y,d⟩:=hrel;have c2:=(ai.o.keep d.o Os).cell 2 _ rfl;by_cases hlt2:k<i
      ·have af:k<c.f.length:=by omega
       have an:=(hF.o.keep ac.o).keep d.o;obtain⟨mp,W,-,m0,-⟩:=a3O an M;obtain⟨a1,B,-,ag,-⟩:=a3O an af;rw[W]at B c2;cases B;clear W an;obtain⟨xa,C⟩:=Oe (c.f[i].n)
       obtain⟨xb,D⟩:=Oe (c.f[k].n)
       rw[<-C]at m0;rw[<-D]at ag;have S:=A1 C;have T:=A1 D;clear C D;have a':=hlt;have ba:k<nf:=by omega
       by_cases hx:xa=xb
       ·subst hx;go_wp2
        go_quiet (fail)
        go_wp2
        go_ret;exact⟨N0 (by unfold mbR;rw[b1J (λm:V3=>m.n) o7 af M hlt2 (T.o.symm.trans S.o)];simp),A0 (A0 ac.o d.o) (F4 _ _ _)⟩
       ·have az:=l6 hx;go_wp2
        go_quiet (fail)
        go_wp2
        go_roundw
        case rel=>exact⟨k+1,by omega,by go_num,by
         intro j v ab;rcases lj j k with h1|h1
         ·exact y.o j v h1
         ·obtain rfl:j=k:=by omega
          rw[<-S.o,<-T.o];exact λe=>hx e.symm,A0 d.o (F4 _ _ _)⟩
        case measure=>simp[le];omega
      ·have aq:k=i:=by omega
       subst aq;go_wp2
       clear c2;go_loopw [10] (λf wx=>∃m:Nat,m<=na/\f= J I m/\X (∀j (v:j<fr.length),j<m->c.f[k].n≠fr[j].n)/\X (w4.grownBy wx N)) (λf _=>na-(le f).toNat)
       case atStart=>exact⟨0,by omega,rfl,λj _ v=>by omega,d⟩
       case round=>
        clear d;obtain⟨m,hm,rfl,ad,d⟩:=hrel;have c2:=(ai.o.keep d.o Os).cell 2 _ rfl;by_cases hlt3:m<na
        ·have a0:m<fr.length:=by rw[al.o];exact hlt3
         obtain⟨mp,W,-,m0,-⟩:=a3O ((hF.o.keep ac.o).keep d.o) M;obtain⟨a1,B,-,ag,-⟩:=a3O (a4.o.keep d.o) a0;rw[W]at c2;clear W;subst B;obtain⟨xa,C⟩:=Oe (c.f[k].n)
         obtain⟨xb,D⟩:=Oe (fr[m].n)
         rw[<-C]at m0;rw[<-D]at ag;have S:=A1 C;have T:=A1 D;clear C D;by_cases hx:xa=xb
         ·subst hx;go_wp2
          go_quiet (fail)
          go_wp2
          go_ret
          exact⟨N0 (by
           unfold mbR;rw[aj.o,a3W (p:=λf:V3=>fr.any λg=>decide (f.n=g.n)) M (a3W (p:=λg:V3=>decide (c.f[k].n=g.n)) a0 (by rw[decide_eq_true_eq,<-S.o,<-T.o]))];simp),A0 (A0 ac.o d.o) (F4 _ _ _)⟩
         ·have az:=l6 hx;go_wp2
          go_quiet (fail)
          go_wp2
          go_roundw
          case rel=>exact⟨m+1,by omega,by go_num,by
           intro j v ab;rcases lj j m with h1|h1
           ·exact ad.o j v h1
           ·obtain rfl:j=m:=by omega
            rw[<-S.o,<-T.o];exact hx,A0 d.o (F4 _ _ _)⟩
          case measure=>simp[le];omega
        ·go_wp2
         exact⟨⟨k+1,by omega,by go_num,K.o.step M (λj v ab=>y.o j v ab),by
          intro j v ab m' ar;rcases lj j k with h1|h1
          ·exact ay.o j v h1 m' ar
          ·obtain rfl:j=k:=by omega
           exact ad.o m' ar (by rw[al.o]at ar;omega),d⟩,by simp[le];omega⟩
    ·have a5:=A1 (b2x _ o7 (by rw[<-am.o,show nf=i from by omega];exact K.o));go_wp2
     go_ret
     exact⟨N0 (by
      unfold mbR;rw[a6.o,a5.o,aj.o,a3T (p:=λf:V3=>fr.any λg=>decide (f.n=g.n)) (λj v=>a3T (λm hm=>by simpa using ay.o j v (by rw[<-am.o]at v;omega) m hm))];rfl),A0 ac.o d.o⟩
theorem a5O(w:lf)(lim b:Nat)(L:List Cl)(p:la)(cap B C D:Nat)(q:Nat->Qs)(h:X (L4 w lim b L p cap B C D q))(S:lim<=w.heap.size)(k:Nat)(s:ByteArray)(M:X (s.size<=ld)):
 lg prog 245 #[U (O (A b 0 N)), .agg #[J I k, Z s]] w λe w'=>e= Y (G (U7 L ⟨k,s⟩))/\w.grownBy w' N:=by
 have d:∀K,X (L4 (w.alloc K) lim b L p cap B C D q):=λK=>h.o.keep (A2 w K N) S
 by_cases h2:k=2
 ·subst h2;obtain⟨v,g⟩:=Oe (E9 L s)
  have E:=A1 g;have y:X (U7 L ⟨2,s⟩=v):=by unfold X U7;rw[if_pos (.inl rfl),g]
  clear g;rw[y.o];go_enter func245,ntmps245;go_wp2_with (go_at_call 244;go_loud (refine(a5q _ lim b L p cap B C D q (d _) s M).mono ?_;rintro e T ⟨rfl,rfl⟩;rw[<-E.o]))
  go_ret;exact⟨rfl,A2 _ _ _⟩
 ·by_cases h4:k=4
  ·subst h4;obtain⟨v,g⟩:=Oe (E9 L s)
   have E:=A1 g;have y:X (U7 L ⟨4,s⟩=v):=by unfold X U7;rw[if_pos (.inr rfl),g]
   clear g;rw[y.o];go_enter func245,ntmps245;go_wp2_with (go_at_call 244;go_loud (refine(a5q _ lim b L p cap B C D q (d _) s M).mono ?_;rintro e T ⟨rfl,rfl⟩;rw[<-E.o]))
   go_ret;exact⟨rfl,A2 _ _ _⟩
  ·have y:X (U7 L ⟨k,s⟩=decide (k≠0)):=by unfold X U7;rw[if_neg (by rintro(e|e);exact h2 e;exact h4 e)]
   rw[y.o];clear y d;by_cases h0:k=0
   ·subst h0;go_enter func245,ntmps245;go_wp2
    go_ret;exact⟨rfl,A2 _ _ _⟩
   ·have W:((k:Int)==2)=false:=by simp;omega
    have hB:((k:Int)==4)=false:=by simp;omega
    go_enter func245,ntmps245;go_wp2
    go_ret;exact⟨by simp[h0],A2 _ _ _⟩
theorem b4U(w:lf)(lim b:Nat)(L:List Cl)(p:la)(cap B C D:Nat)(q:Nat->Qs)(h:X (L4 w lim b L p cap B C D q))(i:Nat)(hi:i<L.length):
 lg prog 159 #[U (O (A b 0 N)), J I i] w λe w'=>e= Y (G (nsP L i))/\w.grownBy w' N:=by
 have c0:=h.o.c0;have M:w.cell? (A ((p.add (i*4)).block) ((p.add (i*4)).off+1) N)=O (Z (cl L i).s):=by rw[C2 p (i*4) 0];exact h.o.row i hi 1 _ rfl
 have y:=A1 ((h.o.names i hi).2);obtain⟨s,d⟩:=Oe ((cl L i).s)
 obtain⟨v,g⟩:=Oe (E9 L s)
 have K:=A1 g;have E:X (nsP L i= !v):=by unfold X nsP;rw[g,d]
 rw[<-d]at M y;clear g d;rw[E.o];go_enter func159,ntmps159;go_wp2_with (go_at_call 244;go_loud (refine(a5q _ lim b L p cap B C D q h s y).mono ?_;rintro e S ⟨rfl,rfl⟩;rw[<-K.o]))
 go_ret;exact⟨rfl,C9 _ _⟩
theorem b6s(w:lf)(lim b:Nat)(L:List Cl)(p:la)(cap C D E:Nat)(q:Nat->Qs)(h:X (L4 w lim b L p cap C D E q))(i:Nat)(hi:i<L.length):
 lg prog 158 #[U (O (A b 0 N)), J I i] w λe w'=>e= Y (G (twP L i))/\w.grownBy w' N:=by
 have c0:=h.o.c0;have c1:=h.o.c1;have B:w.cell? (p.add (i*4))=O (Z (cl L i).n):=h.o.row i hi 0 _ rfl;have v:=(h.o.names i hi).1;have d:=λk:Nat=>a8B (w:=w.drewN k) h.o.n1 (cl L i).n v
 obtain⟨s,g⟩:=Oe ((cl L i).n)
 obtain⟨k,hk⟩:∃k,C8 L (cl L i).n=O k:=by
  cases hf:C8 L (cl L i).n with
  |none=>exact absurd rfl (a6P hf i hi)
  |some k=>exact⟨k,rfl⟩
 rw[hk]at d;simp only[ny]at d;have y:X (twP L i=decide (k≠i)):=by unfold X twP;rw[hk];simp
 rw[<-g]at B d;clear g hk v;rw[y.o];by_cases hki:k=i
 ·subst hki;go_enter func158,ntmps158;go_wp2
  go_quiet (fail)
  go_wp2
  go_ret;exact⟨by simp,F4 _ _ _⟩
 ·go_enter func158,ntmps158;go_wp2
  go_quiet (fail)
  go_wp2
  go_ret;exact⟨by simp[hki];omega,F4 _ _ _⟩
def a6w(m:Me):Prop:=(∀t∈m.p,t.n.size<=ld)/\(∀h∈m.h,h.c.size<=ld)/\m.r.n.size<=ld/\m.p.length<=65536/\m.h.length<=65536
theorem b0k(w:lf)(lim b:Nat)(L:List Cl)(p:la)(cap m1 m2 m3:Nat)(q:Nat->Qs)(h:X (L4 w lim b L p cap m1 m2 m3 q))(hl:lim<=w.heap.size)(m:Me)(pa ca ha:Option la)(pk ck hk:Nat)
 (hz:X (a6w m)) (r1:X (C0 w lim 2 B8 pa m.p)) (r3:X (C0 w lim 4 O3 ha m.h)):
 lg prog 247 #[U (O (A b 0 N)), .agg #[Z m.n, V pa m.p.length pk, J I m.r.k, Z m.r.n, J I m.s, J I m.l, V ca m.c.length ck, V ha m.h.length hk]] w λe w'=>e= Y (G (a0D L m))/\w.grownBy w' N:=by
 have av:=hz.o.2.2.2.1;have au:=hz.o.2.2.2.2;go_enter func247,ntmps247;go_wp2_with fail
 obtain⟨W1,T⟩:=Oe (w.alloc (H #[Z m.n, V pa m.p.length pk, J I m.r.k, Z m.r.n, J I m.s, J I m.l, V ca m.c.length ck, V ha m.h.length hk] 102))
 have ak:w.grownBy W1 N:=by rw[T];exact A2 _ _ _
 have ag:X (A4 W1 w.heap.size #[Z m.n, V pa m.p.length pk, J I m.r.k, Z m.r.n, J I m.s, J I m.l, V ca m.c.length ck, V ha m.h.length hk] 102):=by rw[T];exact A4.new w _ _
 have ai:=A1 ak;rw[<-T];clear T ak;go_loopw [12] (λi wr=>∃j:Nat,j<=m.p.length/\i= J I j/\W1.grownBy wr N/\∀r,r<j->U7 L (m.p.getD r ⟨0,⟨#[]⟩⟩)=true) (λi _=>m.p.length-(le i).toNat)
 case atStart=>exact a4r
 case round=>
  obtain⟨j,hj,rfl,K,hv⟩:=hrel;have HG:=A1 K;have HV:=A1 hv;have C:=A1 (A0 ai.o HG.o);clear K hv;by_cases hlt:j<m.p.length
  ·obtain⟨B,ae,ar,g⟩:=r1.o.keep C.o j hlt;obtain⟨t,ht⟩:=Oe (m.p[j])
   rw[<-ht]at g;have f0:wr.cell? (B.add (j*2))=O (J I t.k):=g 0 _ rfl;have f1:wr.cell? (A ((B.add (j*2)).block) ((B.add (j*2)).off+1) N)=O (Z t.n):=by rw[C2 B (j*2) 0];exact g 1 _ rfl
   have D:∀M,X (L4 (wr.alloc M) lim b L p cap m1 m2 m3 q):=λM=>(h.o.keep C.o hl).keep (A2 wr M N) (ll hl C.o.size)
   have al:∀M,lim<=(wr.alloc M).heap.size:=λM=>by have:=C.o.size;simp;omega
   have HS:=A1 (hz.o.1 t (by rw[ht];exact li hlt));have HT:=A1 ht;have HTD:X (m.p.getD j ⟨0,⟨#[]⟩⟩=t):=by unfold X;rw[ht,lh,lk hlt];rfl
   obtain⟨v,y⟩:=Oe (U7 L ⟨t.k,t.n⟩)
   have HVV:=A1 y;subst ae;clear g ht y;cases v with
   |true=>
    go_wp2_with (go_at_call 245;go_loud (refine(a5O _ lim b L p cap m1 m2 m3 q (D _) (al _) t.k t.n HS).mono ?_;rintro e w2 ⟨rfl,E⟩;rw[<-HVV.o];have HG2:=A0 (A0 HG.o (A2 wr _ N)) E))
    exact c5r
   |false=>
    go_wp2_with (go_at_call 245;go_loud (refine(a5O _ lim b L p cap m1 m2 m3 q (D _) (al _) t.k t.n HS).mono ?_;rintro e w2 ⟨rfl,E⟩;rw[<-HVV.o];have HG2:=A0 (A0 C.o (A2 wr _ N)) E))
    go_ret
    have ad:a0D L m=true:=by
     have:(m.p.any λp=> !U7 L p)=true:=lq.2 ⟨t,by rw[HT.o];exact li hlt,by show(!U7 L ⟨t.k,t.n⟩)=true;rw[<-HVV.o];rfl⟩;unfold a0D;rw[this];rfl
    rw[ad];exact⟨rfl,HG2⟩
  ·have ab:j=m.p.length:=by omega
   subst ab
   have ap:X ((m.p.any λp=> !U7 L p)=false):=by
    exact a3g
   have am:=A1 (ag.o.keep HG.o Os);have c7:=am.o.c7;clear HV hlt;go_wp2_with fail
   go_loopw [24] (λi wx=>∃j:Nat,j<=m.h.length/\i= J I j/\W1.grownBy wx N/\∀r,r<j->E9 L (m.h.getD r ⟨0,0,0,⟨#[]⟩⟩).c=true) (λi _=>m.h.length-(le i).toNat)
   case atStart=>exact⟨0,Nat.zero_le _,rfl,HG.o,λr hr=>by omega⟩
   case round=>
    obtain⟨j,hj,rfl,K,hv⟩:=hrel;have aa:=A1 K;have HV:=A1 hv;have d:=A1 (A0 ai.o aa.o);clear K hv;by_cases hlt:j<m.h.length
    ·obtain⟨B,ae,ar,g⟩:=r3.o.keep d.o j hlt;obtain⟨t,ht⟩:=Oe (m.h[j])
     rw[<-ht]at g;have f0:wr.cell? (B.add (j*4))=O (J I t.f):=g 0 _ rfl;have f1:wr.cell? (A ((B.add (j*4)).block) ((B.add (j*4)).off+1) N)=O (J I t.to):=by rw[C2 B (j*4) 0];exact g 1 _ rfl
     have f2:wr.cell? (A ((B.add (j*4)).block) ((B.add (j*4)).off+2) N)=O (J I t.t):=by rw[C2 B (j*4) 1];exact g 2 _ rfl
     have f3:wr.cell? (A ((B.add (j*4)).block) ((B.add (j*4)).off+3) N)=O (Z t.c):=by rw[C2 B (j*4) 2];exact g 3 _ rfl
     have D:∀M,X (L4 (wr.alloc M) lim b L p cap m1 m2 m3 q):=λM=>(h.o.keep d.o hl).keep (A2 wr M N) (ll hl d.o.size)
     have HS:=A1 (hz.o.2.1 t (by rw[ht];exact li hlt));have HT:=A1 ht;have HTD:X (m.h.getD j ⟨0,0,0,⟨#[]⟩⟩=t):=by unfold X;rw[ht,lh,lk hlt];rfl
     obtain⟨v,y⟩:=Oe (E9 L t.c)
     have HVV:=A1 y;subst ae;clear g ht y c7;cases v with
     |true=>
      go_wp2_with (go_at_call 244;go_loud (refine(a5q _ lim b L p cap m1 m2 m3 q (D _) t.c HS).mono ?_;rintro e w2 ⟨rfl,rfl⟩;rw[<-HVV.o]))
      go_roundw
      case rel=>exact⟨j+1,by omega,by go_num,A0 aa.o (A2 wr _ N),λr hr=>by
       rcases lj r j with h1|h1
       ·exact HV.o r h1
       ·obtain rfl:r=j:=by omega
        rw[HTD.o,<-HVV.o]⟩
      case measure=>simp[le];omega
     |false=>
      go_wp2_with (go_at_call 244;go_loud (refine(a5q _ lim b L p cap m1 m2 m3 q (D _) t.c HS).mono ?_;rintro e w2 ⟨rfl,rfl⟩;rw[<-HVV.o]))
      go_ret
      have ad:a0D L m=true:=by
       have:(m.h.any λh=> !E9 L h.c)=true:=lq.2 ⟨t,by rw[HT.o];exact li hlt,by rw[<-HVV.o];rfl⟩;unfold a0D;rw[this];simp
      rw[ad];exact⟨rfl,A0 d.o (A2 wr _ N)⟩
    ·have ab:j=m.h.length:=by omega
     subst ab
     have an:X ((m.h.any λh=> !E9 L h.c)=false):=by
      exact a3g
     have ah:=A1 (ag.o.keep aa.o Os);have c2:=ah.o.c2;have c3:=ah.o.c3;have S:X (a0D L m=(decide (m.r.k≠0)&& !U7 L m.r)):=by unfold X a0D;rw[ap.o,an.o];rfl
     have ao:=A1 (h.o.keep d.o hl);have aq:=ll hl d.o.size;have aj:=A1 hz.o.2.2.1;clear HV hlt c7;obtain⟨kd,ac⟩:=Oe m.r.k
     obtain⟨rn,af⟩:=Oe m.r.n
     have W:m.r=⟨kd,rn⟩:=by rw[ac,af]
     rw[W]at aj S;rw[<-ac]at c2;rw[<-af]at c3;clear ac af W;by_cases hk0:kd=0
     ·subst hk0;go_wp2_with fail
      go_ret;rw[S.o];exact⟨rfl,d.o⟩
     ·have hA:((kd:Int)==0)=false:=by simp;omega
      obtain⟨v,y⟩:=Oe (U7 L ⟨kd,rn⟩)
      have HVV:=A1 y;rw[<-y]at S;clear y;go_wp2_with (go_at_call 245;go_loud (refine(a5O _ lim b L p cap m1 m2 m3 q ao aq kd rn aj).mono ?_;rintro e w2 ⟨rfl,E⟩;rw[<-HVV.o]))
      go_ret;rw[S.o];exact⟨by simp[hk0],A0 d.o E⟩
def SzL(L:List Cl):Prop:=∀i,i<L.length->(∀j,j<(cl L i).m.length->a6w ((cl L i).m.getD j G3))/\(∀f∈(cl L i).f,f.ty.n.size<=ld/\f.n.size<=ld)/\(cl L i).f.length<=65536/\(cl L i).m.length<=65536
theorem b5o(w:lf)(lim b:Nat)(L:List Cl)(p:la)(cap m1 m2 m3:Nat)(q:Nat->Qs)(h:X (L4 w lim b L p cap m1 m2 m3 q))(hl:lim<=w.heap.size)(hP:X (P8 w lim L q))(hZ:X (SzL L))(i:Nat)(hi:i<L.length):
 lg prog 314 #[V (q i).ma (cl L i).m.length (q i).mc, .func (.func 247) #[U (O (A b 0 N))] #[]] w λe w'=>
  ∃v:Int,e= Y (J I v)/\X ((!decide (v<0))=(cl L i).m.any (a0D L))/\w.grownBy w' N:=by
 have ab:=(hZ.o i hi).2.2.2;obtain⟨n,hn⟩:=Oe ((cl L i).m.length)
 have HN:=A1 hn;rw[<-hn]at ab⊢;clear hn;go_enter func314,ntmps314;go_wp2_with fail
 go_loopw [5,8] (λ_ k wr=>∃j:Nat,j<=n/\k= J I j/\w.grownBy wr N/\∀r,r<j->a0D L ((cl L i).m.getD r G3)=false) (λ_ k _=>n-(le k).toNat)
 case atStart=>exact a4r
 case round=>
  obtain⟨j,hj,rfl,M,hv⟩:=hrel;have E:=A1 M;have HV:=A1 hv;clear M hv;by_cases hlt:j<n
  ·have B:j<(cl L i).m.length:=by rw[<-HN.o];exact hlt
   obtain⟨pm,pa,ca,ha,pk,ck,hk,e1,e2,W,e4,e5,g⟩:=hP.o.keep E.o i hi j B;obtain⟨d,C⟩:=Oe ((cl L i).m.getD j G3)
   rw[<-C]at W e5 g;have HM:=A1 C;have HS:X (a6w d):=by rw[C];exact(hZ.o i hi).1 j B
   have f0:wr.cell? (pm.add (j*8))=O (Z d.n):=g 0 _ rfl;have f1:wr.cell? (A ((pm.add (j*8)).block) ((pm.add (j*8)).off+1) N)=O (V pa d.p.length pk):=by rw[C2 pm (j*8) 0];exact g 1 _ rfl
   have f2:wr.cell? (A ((pm.add (j*8)).block) ((pm.add (j*8)).off+2) N)=O (J I d.r.k):=by rw[C2 pm (j*8) 1];exact g 2 _ rfl
   have f3:wr.cell? (A ((pm.add (j*8)).block) ((pm.add (j*8)).off+3) N)=O (Z d.r.n):=by rw[C2 pm (j*8) 2];exact g 3 _ rfl
   have f4:wr.cell? (A ((pm.add (j*8)).block) ((pm.add (j*8)).off+4) N)=O (J I d.s):=by rw[C2 pm (j*8) 3];exact g 4 _ rfl
   have f5:wr.cell? (A ((pm.add (j*8)).block) ((pm.add (j*8)).off+5) N)=O (J I d.l):=by rw[C2 pm (j*8) 4];exact g 5 _ rfl
   have f6:wr.cell? (A ((pm.add (j*8)).block) ((pm.add (j*8)).off+6) N)=O (V ca d.c.length ck):=by rw[C2 pm (j*8) 5];exact g 6 _ rfl
   have f7:wr.cell? (A ((pm.add (j*8)).block) ((pm.add (j*8)).off+7) N)=O (V ha d.h.length hk):=by rw[C2 pm (j*8) 6];exact g 7 _ rfl
   have K:=A1 (h.o.keep E.o hl);have S:=ll hl E.o.size;have R3:=A1 W;have R5:=A1 e5;obtain⟨v,T⟩:=Oe (a0D L d)
   have y:=A1 T;clear T C W e4 e5 g;rw[e1];cases v with
   |true=>
    go_wp2_with (go_at_call 247;go_loud (refine(b0k _ lim b L p cap m1 m2 m3 q K S d pa ca ha pk ck hk HS R3 R5).mono ?_;rintro e w2 ⟨rfl,D⟩;rw[<-y.o]))
    go_ret;refine⟨_,rfl,?_,A0 E.o D⟩;have:=lq.2 ⟨d,by rw[HM.o,lh,lk B];exact li B,y.o.symm⟩;rw[this];unfold X;simp
   |false=>
    go_wp2_with (go_at_call 247;go_loud (refine(b0k _ lim b L p cap m1 m2 m3 q K S d pa ca ha pk ck hk HS R3 R5).mono ?_;rintro e w2 ⟨rfl,D⟩;rw[<-y.o]))
    go_roundw
    case rel=>exact⟨j+1,by omega,by go_num,A0 E.o D,λr hr=>by
     rcases lj r j with h1|h1
     ·exact HV.o r h1
     ·obtain rfl:r=j:=by omega
      rw[<-HM.o,<-y.o]⟩
    case measure=>simp[le];omega
  ·have aa:j=n:=by omega
   subst aa;go_wp2_with fail
   go_ret;refine⟨_,rfl,?_,E.o⟩
   have:(cl L i).m.any (a0D L)=false:=lr.2 (λt ht=>by
    obtain⟨r,hr,rfl⟩:=lm ht;have:=HV.o r (by rw[HN.o];exact hr);rw[lh,lk hr]at this;simpa using this)
   rw[this];rfl
theorem b5a(w:lf)(lim b:Nat)(L:List Cl)(p:la)(cap y B C:Nat)(q:Nat->Qs)(h:X (L4 w lim b L p cap y B C q))(S:lim<=w.heap.size)(K:X (P8 w lim L q))(M:X (SzL L))(i:Nat)(hi:i<L.length):
 lg prog 246 #[V (q i).ma (cl L i).m.length (q i).mc, .func (.func 247) #[U (O (A b 0 N))] #[]] w λe w'=>
  e= Y (G ((cl L i).m.any (a0D L)))/\w.grownBy w' N:=by
 obtain⟨r,g⟩:=Oe ((cl L i).m.any (a0D L))
 have D:=A1 g;rw[<-g];clear g;go_enter func246,ntmps246;go_wp2_with (go_at_call 314;go_loud (refine(b5o _ lim b L p cap y B C q h S K M i hi).mono ?_;rintro e T ⟨v,rfl,E,d⟩))
 go_ret;refine⟨?_,d⟩;have:=E.o;rw[<-D.o]at this
 have e:decide (0<=v)= !decide (v<0):=by
  by_cases hv:v<0
  ·simp only[hv,decide_true,Bool.not_true,decide_eq_false_iff_not];omega
  ·simp only[hv,decide_false,Bool.not_false,decide_eq_true_eq];omega
 rw[<-this,<-e];rfl
theorem b4Z(w:lf)(lim b:Nat)(L:List Cl)(p:la)(cap m1 m2 m3:Nat)(q:Nat->Qs)(h:X (L4 w lim b L p cap m1 m2 m3 q))(hl:lim<=w.heap.size)(hF:X (V9 w lim L q))(hP:X (P8 w lim L q))(hZ:X (SzL L))(i:Nat)(hi:i<L.length):
 lg prog 161 #[U (O (A b 0 N)), J I i] w λe w'=>e= Y (G (tyP L i))/\w.grownBy w' N:=by
 have c0:=h.o.c0;have g:=h.o.row i hi;have f0:w.cell? (p.add (i*4))=O (Z (cl L i).n):=g 0 _ rfl;have f1:w.cell? (A ((p.add (i*4)).block) ((p.add (i*4)).off+1) N)=O (Z (cl L i).s):=by rw[C2 p (i*4) 0];exact g 1 _ rfl
 have f2:w.cell? (A ((p.add (i*4)).block) ((p.add (i*4)).off+2) N)=O (V (q i).fa (cl L i).f.length (q i).fk):=by rw[C2 p (i*4) 1];exact g 2 _ rfl
 have f3:w.cell? (A ((p.add (i*4)).block) ((p.add (i*4)).off+3) N)=O (V (q i).ma (cl L i).m.length (q i).mc):=by rw[C2 p (i*4) 2];exact g 3 _ rfl
 clear g;have aj:=(hZ.o i hi).2.2.1;obtain⟨y,T⟩:=Oe (cl L i)
 have C:=A1 T;rw[<-T]at f0 f1 f2 f3 aj;clear T;go_enter func161,ntmps161;go_wp2_with fail
 obtain⟨W1,K⟩:=Oe (w.alloc (H #[Z y.n, Z y.s, V (q i).fa y.f.length (q i).fk, V (q i).ma y.m.length (q i).mc] 44))
 have ag:X (w.grownBy W1 N):=by rw[K];exact A2 _ _ _
 have ad:X (A4 W1 w.heap.size #[Z y.n, Z y.s, V (q i).fa y.f.length (q i).fk, V (q i).ma y.m.length (q i).mc] 44):=by rw[K];exact A4.new w _ _
 rw[<-K];clear K;go_loopw [18] (λk wr=>∃j:Nat,j<=y.f.length/\k= J I j/\W1.grownBy wr N/\∀r,r<j->U7 L (y.f.getD r o7).ty=true) (λk _=>y.f.length-(le k).toNat)
 case atStart=>exact a4r
 case round=>
  obtain⟨j,hj,rfl,ab,hv⟩:=hrel;have HG:=A1 ab;have HV:=A1 hv;have d:=A1 (A0 ag.o HG.o);clear ab hv;by_cases hlt:j<y.f.length
  ·obtain⟨S,am,ao,g⟩:=(hF.o i hi).keep d.o j (by rw[<-C.o];exact hlt);obtain⟨t,ht⟩:=Oe (y.f[j])
   have B:∀r u,(K3 t)[r]? =O u->wr.cell? (S.add (j*3+r))=O u:=by
    intro r u hu;refine g r u ?_;rw[ht]at hu;simpa only[C.o]using hu
   have g0:wr.cell? (S.add (j*3))=O (Z t.n):=B 0 _ rfl;have g1:wr.cell? (A ((S.add (j*3)).block) ((S.add (j*3)).off+1) N)=O (J I t.ty.k):=by rw[C2 S (j*3) 0];exact B 1 _ rfl
   have g2:wr.cell? (A ((S.add (j*3)).block) ((S.add (j*3)).off+2) N)=O (Z t.ty.n):=by rw[C2 S (j*3) 1];exact B 2 _ rfl
   have aa:∀ob,X (L4 (wr.alloc ob) lim b L p cap m1 m2 m3 q):=λob=>(h.o.keep d.o hl).keep (A2 wr ob N) (ll hl d.o.size)
   have ac:∀ob,lim<=(wr.alloc ob).heap.size:=λob=>by have:=d.o.size;simp;omega
   have M:t∈y.f:=by rw[ht];exact li hlt
   have HS:=A1 (((hZ.o i hi).2.1 t (by rw[<-C.o];exact M)).1);have HTD:X (y.f.getD j o7=t):=by unfold X;rw[ht,lh,lk hlt];rfl
   obtain⟨v,E⟩:=Oe (U7 L ⟨t.ty.k,t.ty.n⟩)
   have HVV:=A1 E;rw[am];clear g B ht E f0 f1 f2 f3 c0;cases v with
   |true=>
    go_wp2_with (go_at_call 245;go_loud (refine(a5O _ lim b L p cap m1 m2 m3 q (aa _) (ac _) t.ty.k t.ty.n HS).mono ?_;rintro e w2 ⟨rfl,D⟩;rw[<-HVV.o];have HG2:=A0 (A0 HG.o (A2 wr _ N)) D))
    exact c5r
   |false=>
    go_wp2_with (go_at_call 245;go_loud (refine(a5O _ lim b L p cap m1 m2 m3 q (aa _) (ac _) t.ty.k t.ty.n HS).mono ?_;rintro e w2 ⟨rfl,D⟩;rw[<-HVV.o];have HG2:=A0 (A0 d.o (A2 wr _ N)) D))
    go_ret
    have W:tyP L i=true:=by
     have:((cl L i).f.any λf=> !U7 L f.ty)=true:=lq.2 ⟨t,by rw[<-C.o];exact M,by show(!U7 L ⟨t.ty.k,t.ty.n⟩)=true;rw[<-HVV.o];rfl⟩;unfold tyP;rw[this];rfl
    rw[W];exact⟨rfl,HG2⟩
  ·have ak:j=y.f.length:=by omega
   subst ak
   have af:X (((cl L i).f.any λf=> !U7 L f.ty)=false):=by
    rw[<-C.o];exact a3g
   have ae:=A1 (ad.o.keep HG.o Os);have c7:=ae.o.c3;have an:∀(fn:Fn) (first cap:Array Value) (w:lf),(Instr.makeFunc fn first cap).run prog w= .ok (.func fn first cap) w:=λ_ _ _ _=>rfl
   have ah:=A1 (h.o.keep d.o hl);have al:=ll hl d.o.size;rw[C.o]at c7;have ai:=A1 (hP.o.keep d.o);obtain⟨v,E⟩:=Oe ((cl L i).m.any (a0D L))
   have HVV:=A1 E;clear HV hlt f0 f1 f2 f3 c0 E;go_wp2_with (go_at_call 246;go_loud (refine(b5a _ lim b L p cap m1 m2 m3 q ah al ai hZ i hi).mono ?_;rintro e w2 ⟨rfl,D⟩;rw[<-HVV.o]))
   go_ret;have W:tyP L i=v:=by unfold tyP;rw[af.o,<-HVV.o];rfl
   rw[W];exact⟨rfl,A0 d.o D⟩
theorem a6K:∀(xs ys:List Ty) (j:Nat) (d:j<xs.length) (e:j<ys.length),I4 xs[j] ys[j]=false->Z4 xs ys=false:=λxs ys j d e h=>by
 cases hb:Z4 xs ys with
 |false=>rfl
 |true=>
  have:=(a4v xs ys).1 hb;subst this;rw[a5W]at h;cases h
variable {xs ys:List Ty}
theorem b1c(g:xs.length=ys.length)(h:∀j (d:j<xs.length) (e:j<ys.length),I4 xs[j] ys[j]=true):Z4 xs ys=true:=
 (a4v xs ys).2 (List.ext_getElem g (λj d e=>(a2M _ _).1 (h j d e)))
theorem b1I(h:xs.length≠ys.length):Z4 xs ys=false:=by
 cases hb:Z4 xs ys with
 |false=>rfl
 |true=>exact absurd (congrArg List.length ((a4v xs ys).1 hb)) h
theorem b6B(w:lf)(l1 l2:Nat)(xs ys:List Ty)(M S:Option la)(k1 k2:Nat)(h1:X (C0 w l1 2 B8 M xs))(h2:X (C0 w l2 2 B8 S ys))(hx:xs.length<=65536)(hy:ys.length<=65536):
 lg prog 315 #[V M xs.length k1, V S ys.length k2] w λe w'=>e= Y (G (Z4 xs ys))/\w.grownBy w' N:=by
 by_cases hl:xs.length=ys.length
 ·obtain⟨n,D⟩:=Oe xs.length
  have HX:=A1 D;have HY:=A1 (D.trans hl);rw[<-hl,<-D];have aa:n<=65536:=by omega
  clear D hl hx hy;go_enter func315,ntmps315;go_wp2_with fail
  go_loopw [5,13] (λ_ k wr=>∃j:Nat,j<=n/\k= J I j/\w.grownBy wr N/\∀r,r<j->∀(g1:r<xs.length) (g2:r<ys.length),I4 xs[r] ys[r]=true) (λ_ k _=>n-(le k).toNat)
  case atStart=>exact a4r
  case round=>
   obtain⟨j,hj,rfl,C,T⟩:=hrel;have HG:=A1 C;have HV:=A1 T;clear C T;by_cases hlt:j<n
   ·have hjx:j<xs.length:=by rw[<-HX.o];exact hlt
    have hjy:j<ys.length:=by rw[<-HY.o];exact hlt
    obtain⟨E,W,-,d⟩:=h1.o.keep HG.o j hjx;obtain⟨K,e2,-,g⟩:=h2.o.keep HG.o j hjy;obtain⟨x,v⟩:=Oe (xs[j])
    obtain⟨y,B⟩:=Oe (ys[j])
    rw[<-v]at d;rw[<-B]at g;have HXX:=A1 v;have HYY:=A1 B;have f0:wr.cell? (E.add (j*2))=O (J I x.k):=d 0 _ rfl;have f1:wr.cell? (A ((E.add (j*2)).block) ((E.add (j*2)).off+1) N)=O (Z x.n):=by rw[C2 E (j*2) 0];exact d 1 _ rfl
    have g0:wr.cell? (K.add (j*2))=O (J I y.k):=g 0 _ rfl;have g1:wr.cell? (A ((K.add (j*2)).block) ((K.add (j*2)).off+1) N)=O (Z y.n):=by rw[C2 K (j*2) 0];exact g 1 _ rfl
    rw[W,e2];clear d g v B;obtain⟨xk,xn⟩:=x;obtain⟨yk,yn⟩:=y;dsimp only at f0 f1 g0 g1;by_cases hk:xk=yk
    ·exact a2c
    ·exact c8f
   ·exact c5y
 ·rw[b1I hl];have hA:((xs.length:Int)==(ys.length:Int))=false:=by simp;omega
  go_enter func315,ntmps315;go_wp2
  go_ret;exact⟨rfl,C9 _ _⟩
theorem b2u(w:lf)(l1 l2:Nat)(m o:Me)(B W ad C aa ae:Option la)(S ab af T ac ag:Nat)(h1:X (C0 w l1 2 B8 B m.p))(h2:X (C0 w l2 2 B8 C o.p))(hx:m.p.length<=65536)(hy:o.p.length<=65536):
 lg prog 249 #[.agg #[Z m.n, V B m.p.length S, J I m.r.k, Z m.r.n, J I m.s, J I m.l, V W m.c.length ab, V ad m.h.length af], .agg #[Z o.n, V C o.p.length T, J I o.r.k, Z o.r.n, J I o.s, J I o.l, V aa o.c.length ac, V ae o.h.length ag]] w λe w'=>e= Y (G (a1V m o))/\w.grownBy w' N:=by
 obtain⟨r,hr⟩:=Oe (a1V m o)
 have HR:=A1 hr;rw[<-hr];clear hr;obtain⟨xr,K⟩:∃x,x=m.r:=⟨_,rfl⟩
 obtain⟨yr,M⟩:∃y,y=o.r:=⟨_,rfl⟩
 have D:X (a1V m o=(I4 xr yr&&Z4 m.p o.p)):=by unfold X a1V;rw[K,M]
 rw[<-K,<-M];clear K M;obtain⟨xk,xn⟩:=xr;obtain⟨yk,yn⟩:=yr;dsimp only;obtain⟨W1,E⟩:=Oe ((w.alloc (H #[Z m.n, V B m.p.length S, J I xk, Z xn, J I m.s, J I m.l, V W m.c.length ab, V ad m.h.length af] 102)).alloc (H #[Z o.n, V C o.p.length T, J I yk, Z yn, J I o.s, J I o.l, V aa o.c.length ac, V ae o.h.length ag] 102))
 have d:X (w.grownBy W1 N):=by rw[E];exact A0 (A2 _ _ N) (A2 _ _ N)
 have R1:=A1 (h1.o.keep d.o);have R2:=A1 (h2.o.keep d.o);rw[E]at R1 R2 d;clear E;by_cases hk:xk=yk
 ·subst hk;by_cases hnm:xn=yn
  ·subst hnm;obtain⟨v,hv⟩:=Oe (Z4 m.p o.p)
   have HV:=A1 hv;have g:X (r=v):=by unfold X;rw[HR.o,D.o,a5W,hv];rfl
   clear hv;go_enter func249,ntmps249;go_wp2_with (go_at_call 315;go_loud (refine(b6B _ l1 l2 m.p o.p B C S T R1 R2 hx hy).mono ?_;rintro e w2 ⟨rfl,ah⟩;rw[<-HV.o]))
   go_ret;rw[g.o];exact⟨rfl,A0 d.o ah⟩
  ·have hN:¬xn.toList=yn.toList:=λe=>hnm (a0U e)
   have g:X (r=false):=by unfold X;rw[HR.o,D.o];simp[I4,hnm]
   go_enter func249,ntmps249;go_wp2
   go_ret;rw[g.o];exact⟨rfl,d.o⟩
 ·have hK:¬((xk:Int)=(yk:Int)):=by omega
  have g:X (r=false):=by unfold X;rw[HR.o,D.o];simp[I4,hk]
  go_enter func249,ntmps249;go_wp2
  go_ret;rw[g.o];exact⟨rfl,d.o⟩
end Kx
end
end Go.Proofs.YtdhophglnhcjbaaGreatDoor
