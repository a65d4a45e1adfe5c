/- P04: a part of the proof that the last text tells. -/
import Derived.Test.YtdhophglnhcjbaaGreatDoorP03
import Derived.Deep.Cut
set_option linter.all false
set_option maxRecDepth 100000
set_option maxHeartbeats 40000000
open Go.Proofs.Tryz
open Go renaming Value->la,World->ld,Addr->ll,wpList_append_own->ln,undef->lq,info_parts->ls,results->lv,bodyPost_ret->lw,maxLen->nb
open Go.World renaming ownsRow->lb,ownsRow_nil->lr
open Go.RowKit renaming intOf->le
open Nat renaming lt_succ_self->lg,zero_le->li,le_trans->lj,le_refl->lk,lt_of_lt_of_le->ns
open List renaming getElem?_eq_getElem->lu,getElem_mem->ly,range->na,mem_singleton->ng,mem_map->ni,getElem_of_mem->nl,mem_append->no,getD_eq_getElem?_getD->nr,length_append->nt,mem_cons->nw,flatten_cons->nx,length_singleton->ny
open ByteArray renaming empty->lx,mk->nz
open Bool renaming and_eq_true->nd,not_eq_true'->nj,not_eq_false'->nk,or_eq_false_iff->nv
open Array renaming getD_eq_getD_getElem?->nu
open Option renaming none→N,some→O
open Go.IntKind renaming i64→I
open Go.Value renaming int→J,string→Z,slice→V,pointer→U
open Go.Ending renaming returned→Y
open Go.RowKit renaming Hid→X
open Go.Obj renaming cells→H
open Go.Addr renaming mk→A
namespace Go.Proofs.YtdhophglnhcjbaaGreatDoor
section
theorem a3e{P:Prop}(h:P:=by
 go_roundw
 case rel=>exact⟨k+1,fs++ [c],a4e qf fs.length q,by omega,by simp[HFL.o],by go_num,HD6,by
  intro j hj hjk;rcases Nat.lt_or_ge j k with h1|h1
  ·rw[U0 (by rw[HFL.o];exact h1)];exact hall.o j hj h1
  ·obtain rfl:j=k:=by omega
   have e2:cl (fs++ [c]) j=c:=by rw[<-HFL.o];exact a6l _ _
   rw[e2];have:=HDE.o;rw[HS1.o]at this;exact this,HB6,HG6⟩
 case measure=>simp[intOf];omega):P:=h
theorem c7a{P:Prop}(h:P:=by
 go_wp2_with fail
 exact⟨⟨j+1,hjl,by go_num,by rw[b1L hjl,<-HO1.o];rfl,HW.o⟩,by simp[intOf];omega⟩):P:=h
theorem c7i{P:Prop}(h:P:=by
 exact⟨k+1,xs++ [()],_,_,by go_num,hlt,HM8.o,HS8.o,HN8.o,A0 HG8.o (A6 _ ⟨b,2,none⟩ _)⟩):P:=h
theorem c7j{P:Prop}(h:P:=by
 unfold D6;rw[e];exact⟨(λ_ _ e=>by cases e),rfl⟩):P:=h
theorem c7w{P:Prop}(h:P:=by
 exact⟨0,[],λ_=>q0,by omega,rfl,rfl,T9.nil _ _ _,λj _ hj=>by omega,HB0,HG0⟩):P:=h
end
section
open Go.RowKit Cf
variable {α:Type}
def D6(s:Except Er St)(p:St->R α)(a:α)(s':Except Er St):Prop:=
 (∀a' st,D0 s p= .ok (a',st)->a'=a)/\F5 (D0 s p)=s'
variable {s:Except Er St}
theorem D6.then{β:Type}{s1 s2:Except Er St}{p:St->R α}{m:α->St->R β}{a:α}{c:β}(h:D6 s p a s1)(D:D6 s1 (m a) c s2):D6 s (λst=>E3 (p st) m) c s2:=by
 obtain⟨ha,rfl⟩:=h;obtain⟨y,rfl⟩:=D;cases s with
 |error er=>exact⟨(λ_ _ e=>by cases e),rfl⟩
 |ok st=>
  unfold D6;cases hp:p st with
  |error er=>
   have d:D0 (Except.ok st) p= .error er:=hp;rw[d];simp only[D0,hp,E3];exact⟨(λ_ _ e=>by cases e),rfl⟩
  |ok q=>
   obtain⟨j,st1⟩:=q;have d:D0 (Except.ok st) p= .ok (j,st1):=hp;rw[d]at y ha⊢;cases ha j st1 rfl;simp only[D0,hp,E3];exact⟨y,rfl⟩
theorem D6.pure(s:Except Er St)(a:α):D6 s (λst=> .ok (a,st)) a s:=by
 cases s with
 |error er=>exact⟨(λ_ _ e=>by cases e),rfl⟩
 |ok st=>exact⟨λ_ _ e=>by cases e;rfl,rfl⟩
variable {w:World}{b c k n:Nat}{f:ByteArray}{pv:Value}
theorem D6.ends{j:Except Er St}{p:St->R α}{d:ld->la->α->Prop}{v:la}{w':ld}{a:α}
 (h:D6 s p a j) (y:w.grownBy w' (O b)) (hv:d w' v a) (hs:E7 w' b f pv j):K4 w b f pv (D0 s p) d (Y v) w':=
 ⟨y,v,a,rfl,hv,h.1,by rw[h.2];exact hs⟩
def L9(f:ByteArray)(c:Nat)(p:St->R α)(s:Except Er St)(n k:Nat)(xs:List α)(s2:Except Er St):Prop:=
 match s2 with
 | .ok st2=>∃st1,D0 s (C3 f c)= .ok (n,st1)/\Mid p n st1 k xs st2
 | .error er=>D0 s (D8 f c p)= .error er
theorem b2f(f:ByteArray)(c:Nat)(p:St->R α):D8 f c p=λst=>E3 (C3 f c st) (E4 p):=by
 funext st
 unfold D8 E3;cases C3 f c st<;>rfl
theorem a9c(f:ByteArray)(c:Nat)(p:St->R α)(s:Except Er St):D0 s (D8 f c p)=E3 (D0 s (C3 f c)) (E4 p):=by
 rw[b2f,a7o]
theorem L9.start{p:St->R α}(h:∀d st,D0 s (C3 f c)= .ok (d,st)->d=n):L9 f c p s n 0 [] (F5 (D0 s (C3 f c))):=by
 cases hr:D0 s (C3 f c)with
 |error er=>show D0 s (D8 f c p)= .error er;rw[a9c,hr];rfl
 |ok q=>obtain⟨d,st1⟩:=q;cases h d st1 hr;exact⟨st1,hr, .start _ _ _⟩
variable {st2:St}
theorem L9.step{p:St->R α}{xs:List α}{a:α}{s3:Except Er St}(h:L9 f c p s n k xs (.ok st2))(hk:k<n)(ha:D6 (.ok st2) p a s3):L9 f c p s n (k+1) (xs++ [a]) s3:=by
 obtain⟨st1,D,F⟩:=h;obtain⟨K,rfl⟩:=ha;cases hp:p st2 with
 |error er=>
  have j:D0 (Except.ok st2) p= .error er:=hp;rw[j];show D0 s (D8 f c p)= .error er;rw[a9c,D];exact F.fail hk hp
 |ok q=>
  obtain⟨y,d⟩:=q;have j:D0 (Except.ok st2) p= .ok (y,d):=hp;cases K y d j;rw[j];exact⟨st1,D,F.step hk hp⟩
theorem L9.done{p:St->R α}{xs:List α}(h:L9 f c p s n n xs (.ok st2)):D6 s (D8 f c p) xs (.ok st2):=by
 obtain⟨st1,d,j⟩:=h;have e:D0 s (D8 f c p)= .ok (xs,st2):=by rw[a9c,d];exact j.done
 unfold D6;rw[e];exact⟨λ_ _ e=>by cases e;rfl,rfl⟩
theorem L9.err{p:St->R α}{xs:List α}{er:Er}(h:L9 f c p s n k xs (.error er)):D6 s (D8 f c p) xs (.error er):=by
 have e:D0 s (D8 f c p)= .error er:=h;exact c7j
theorem a8A(f:ByteArray):meth f=λst=>E3 (name f st) λn st1=>E3 (D8 f 1 (kind f) st1) λps st2=>E3 (kind f st2) λK d=>E3 (C3 f 1 d) λL j=>E3 (C3 f 1 j) λlo y=>
 E3 (D8 f 2 (ins f) y) λis D=>E3 (D8 f 1 (m8 f) D) λhs F=> .ok (⟨n,ps,K,L,lo,is,hs⟩,F):=by
 funext st
 unfold meth E3;cases name f st with
 |error er=>rfl
 |ok q=>
  obtain⟨n,st1⟩:=q;dsimp only;cases D8 f 1 (kind f) st1 with
  |error er=>rfl
  |ok q=>
   obtain⟨ps,st2⟩:=q;dsimp only;cases kind f st2 with
   |error er=>rfl
   |ok q=>
    obtain⟨K,d⟩:=q;dsimp only;cases C3 f 1 d with
    |error er=>rfl
    |ok q=>
     obtain⟨L,j⟩:=q;dsimp only;cases C3 f 1 j with
     |error er=>rfl
     |ok q=>
      obtain⟨lo,y⟩:=q;dsimp only;cases D8 f 2 (ins f) y with
      |error er=>rfl
      |ok q=>
       obtain⟨is,D⟩:=q;dsimp only;cases D8 f 1 (m8 f) D<;>rfl
theorem a8a(f:ByteArray):m8 f=λst=>E3 (C3 f 2 st) λa st1=>E3 (C3 f 2 st1) λb st2=>E3 (C3 f 2 st2) λc j=>E3 (name f j) λd y=> .ok (⟨a,b,c,d⟩,y):=by
 funext st
 unfold m8 E3;cases C3 f 2 st with
 |error er=>rfl
 |ok q=>
  obtain⟨n,st1⟩:=q;dsimp only;cases C3 f 2 st1 with
  |error er=>rfl
  |ok q=>
   obtain⟨ps,st2⟩:=q;dsimp only;cases C3 f 2 st2 with
   |error er=>rfl
   |ok q=>
    obtain⟨D,j⟩:=q;dsimp only;cases name f j<;>rfl
def a6v(b G B:Nat)(t:Nat->la):Act:=⟨#[U (O (A b 0 N)),t 1, U (O (A G 0 N)), U (O (A B 0 N)),t 4,t 5,t 6,t 7,t 8,t 9,t 10,t 11,t 12,t 13,t 14,t 15,t 16,t 17,t 18,t 19,t 20,t 21,t 22,t 23,t 24,t 25,t 26,t 27,t 28,t 29,t 30,t 31,t 32,t 33,t 34,t 35,t 36,t 37,t 38,t 39,t 40,t 41,t 42,t 43,t 44,t 45,t 46,t 47,t 48,t 49,t 50,t 51,t 52,t 53,t 54,t 55,t 56,t 57,t 58,t 59,t 60,t 61,t 62,t 63,t 64,t 65,t 66,t 67,t 68,t 69,t 70,t 71,t 72,t 73,t 74,t 75,t 76,t 77,t 78,t 79,t 80,t 81,t 82,t 83,t 84,t 85,t 86,t 87,t 88,t 89,t 90,t 91,t 92,t 93,t 94,t 95,t 96,t 97,t 98,t 99,t 100],[]⟩
def MeJ(b G B:Nat)(R:ld->Prop)(a:Act)(w:ld):Prop:=R w/\∃t:Nat->la,a=a6v b G B t
theorem MeJ.of{G B:Nat}{R:ld->Prop}(a:Act)(h:a=a6v b G B (λk=>a.tmps.getD k lq))(d:R w):MeJ b G B R a w:=⟨d,_,h⟩
theorem a3l{P:Program}{c:Code}{a:Act}{i:Nat}{J K:Act->ld->Prop}{Q:Exit->Act->ld->Prop}(y:∀a w,J a w->K a w)
 (h:c.wp P (Exit.inBlock i (Exit.then J (λ_ _ _=>False))) a w):c.wp P (Exit.inBlock i (Exit.then K Q)) a w:=by
 refine Code.wp_mono ?_ h;intro e a w d
 have j:∀e a w,Exit.then J (λ_ _ _=>False) e a w->Exit.then K Q e a w:=by
  intro e a w d;cases e<;>first|exact y _ _ d|exact d.elim
 revert d;cases e<;>simp only[Exit.inBlock]<;>intro d
 all_goals first
  |exact j _ _ _ d
  |(split at d<;>split<;>first|exact j _ _ _ d|contradiction)
theorem a6N{base e size m:Nat}{l:la}{cs:List la}(y:∀k,m<=k->pv.ownBlock≠O k)(j:w.ownsRow base e size l n cs)(d:m<=base):pv.ownBlock=N\/pv.ownBlock≠l.ownBlock:=by
 cases h:pv.ownBlock with
 |none=>exact .inl rfl
 |some g=>exact .inr (λe=>y g (lj d (K7 j e.symm).1) h)
structure MS(w:World)(b G B:Nat)(f:ByteArray)(pv:Value)(c:Array Value)(s:Except Er St)(wr:World):Prop where
 eye:E7 wr b f pv s
 me:A4 wr B c 102
 o:A4 wr G mZ 102
 grown:w.grownBy wr (some b)
section
variable{w wr w1:World}{b G B:Nat}{f:ByteArray}{pv:Value}{c:Array Value}{s s1:Except Er St}
theorem MS.setB(h:MS w b G B f pv c s wr)(D:b≠B)(y:G≠B)(F:pv.ownBlock≠O B)(d:w.heap.size<=B)(j:Nat)(v:la):MS w b G B f pv (c.setIfInBounds j v) s (wr.setCell (A B j N) v):=
 ⟨h.eye.keep (A6 _ (A B j N) _) (by simpa using D) (.inr F),h.me.set j v,h.o.keep (A6 _ (A B j N) _) (by simpa using y),Y4 h.grown d j v⟩
theorem MS.step(h:MS w b G B f pv c s wr)(d:wr.grownBy w1 (O b))(hs:E7 w1 b f pv s1)(y:b≠B)(j:b≠G):MS w b G B f pv c s1 w1:=
 ⟨hs,h.me.keep d (by simpa using λe=>y e.symm),h.o.keep d (by simpa using λe=>j e.symm),A0 h.grown d⟩
end
theorem a0k{α:Type}{enc:α->List la}{w w1:ld}{base e size b:Nat}{v:la}{xs:List α}(h:F2 base e size enc w v xs)(j:w.grownBy w1 (O b))(d:b<base):F2 base e size enc w1 v xs:=
 lb.kept h j (.inr (F9 h d))
variable {f:ByteArray}{s s1 s2 s3 s4:Except Er St}
theorem b5z{x y z:Nat}{d:ByteArray}(j:D6 s (C3 f 2) x s1)(D:D6 s1 (C3 f 2) y s2)(F:D6 s2 (C3 f 2) z s3)(K:D6 s3 (name f) d s4):D6 s (m8 f) ⟨x,y,z,d⟩ s4:=by
 rw[a8a];exact j.then (D.then (F.then (K.then (D6.pure _ _))))
theorem b8g{j y D:Except Er St}{n:ByteArray}{ps:List Ty}{d:Ty}{F lo:Nat}{is:List In}{hs:List Hd}(K:D6 s (name f) n s1)(L:D6 s1 (D8 f 1 (kind f)) ps s2)(M:D6 s2 (kind f) d s3)
 (P:D6 s3 (C3 f 1) F s4) (S:D6 s4 (C3 f 1) lo j) (T:D6 j (D8 f 2 (ins f)) is y) (W:D6 y (D8 f 1 (m8 f)) hs D):D6 s (meth f) ⟨n,ps,d,F,lo,is,hs⟩ D:=by
 rw[a8A];exact K.then (L.then (M.then (P.then (S.then (T.then (W.then (D6.pure _ _)))))))
structure ML(w:World)(b G B:Nat)(f:ByteArray)(pv:Value)(c:Array Value)(ps:List Ty)(is:List In)(hs:List Hd)(lp lc lh:Value)(s:Except Er St)(wr:World):Prop where
 ms:MS w b G B f pv c s wr
 rp:F2 (B+1) 98 2 B8 wr lp ps
 rc:F2 (B+1) 120 4 M0 wr lc is
 rh:F2 (B+1) 202 4 O3 wr lh hs
section
variable{w wr w1:World}{b G B g:Nat}{f:ByteArray}{pv:Value}{c:Array Value}{ps:List Ty}{is:List In}{hs:List Hd}{lp lc lh:Value}{s s1:Except Er St}
theorem ML.step(h:ML w b G B f pv c ps is hs lp lc lh s wr)(d:wr.grownBy w1 (O b))(y:E7 w1 b f pv s1)(D:b<B)(j:b≠G):ML w b G B f pv c ps is hs lp lc lh s1 w1:=
 ⟨h.ms.step d y Oo j,a0k h.rp d Oo,a0k h.rc d Oo,a0k h.rh d Oo⟩
theorem ML.beside(h:ML w b G B f pv c ps is hs lp lc lh s wr)(d:wr.grownBy w1 (O g))(L:b≠g)(F:B≠g)(K:G≠g)(M:pv.ownBlock≠O g)(j:lp.ownBlock≠O g)(y:lc.ownBlock≠O g)(D:lh.ownBlock≠O g)(P:w.heap.size<=g):ML w b G B f pv c ps is hs lp lc lh s w1:=
 ⟨⟨h.ms.eye.keep d (by simpa using L) (.inr M),h.ms.me.keep d (by simpa using F),h.ms.o.keep d (by simpa using K),C6 h.ms.grown d (λk e=> .inl (by cases e;exact P))⟩,
   lb.kept h.rp d (.inr j),lb.kept h.rc d (.inr y),lb.kept h.rh d (.inr D)⟩
theorem ML.fresh(h:ML w b G B f pv c ps is hs lp lc lh s wr)(d:wr.grownBy w1 N):ML w b G B f pv c ps is hs lp lc lh s w1:=
 ⟨⟨h.ms.eye.keep0 d,h.ms.me.keep d Os,h.ms.o.keep d Os,L8 h.ms.grown d⟩,
   lb.kept h.rp d (by cases lp.ownBlock<;>simp),lb.kept h.rc d (by cases lc.ownBlock<;>simp),lb.kept h.rh d (by cases lh.ownBlock<;>simp)⟩
theorem ML.lies(h:ML w b G B f pv c ps is hs lp lc lh s wr)(hk:wr.heap.size<=g)(d:∀k,B<=k->pv.ownBlock≠O k):B<g/\pv.ownBlock≠O g/\lp.ownBlock≠O g/\lc.ownBlock≠O g/\lh.ownBlock≠O g:=by
 have j:=h.ms.me.lt;refine⟨by omega,d g Oo,λe=> ?_,λe=> ?_,λe=> ?_⟩
 ·have:=(K7 h.rp e).2;omega
 ·have:=(K7 h.rc e).2;omega
 ·have:=(K7 h.rh e).2;omega
theorem ML.turn{j:List Hd}{y:la}(h:ML w b G B f pv c ps is hs lp lc lh s wr)(d:wr.grownBy w1 lh.ownBlock)(F:F2 (B+1) 202 4 O3 w1 y j)(L:b<B)(D:G<B)(M:w.heap.size<=B)(K:∀k,B<=k->pv.ownBlock≠O k):ML w b G B f pv c ps is j lp lc y s w1:=
 ⟨⟨h.ms.eye.keep d (λe=>F9 h.rh (show b<B+1 by omega) e.symm) (a6N K h.rh Oo),h.ms.me.keep d (λe=>F9 h.rh (show B<B+1 by omega) e.symm),h.ms.o.keep d (λe=>F9 h.rh (show G<B+1 by omega) e.symm),
  C6 h.ms.grown d (λk e=> .inl (by have:=(K7 h.rh e).1;omega))⟩,
   lb.kept h.rp d (a1O h.rp h.rh Od),lb.kept h.rc d (a1O h.rc h.rh Od),F⟩
theorem ML.setB(h:ML w b G B f pv c ps is hs lp lc lh s wr)(D:b≠B)(y:G≠B)(F:pv.ownBlock≠O B)(d:w.heap.size<=B)(j:Nat)(v:la):ML w b G B f pv (c.setIfInBounds j v) ps is hs lp lc lh s (wr.setCell (A B j N) v):=
 ⟨h.ms.setB D y F d j v,a0k h.rp (A6 _ (A B j N) _) (lg _),a0k h.rc (A6 _ (A B j N) _) (lg _),a0k h.rh (A6 _ (A B j N) _) (lg _)⟩
end
theorem c0l(W:ld)(t:Array la)(G:Nat)(d j y D F K L M:la)(T:TypeId)(ht:t.getD 2 lq= U (O (A G 0 N)))(h:A4 W G #[d,j,y,D,F,K,L,M] T):(lv Tryz.f119 t).run prog W= .ok (.agg #[d,j,y,D,F,K,L,M]) W:=by
 have P:=h.cell 0 d rfl;have S:=h.cell 1 j rfl;have h2:=h.cell 2 y rfl;have h3:=h.cell 3 D rfl;have h4:=h.cell 4 F rfl;have h5:=h.cell 5 K rfl;have h6:=h.cell 6 L rfl;have h7:=h.cell 7 M rfl;rw[nu]at ht;simp[lv,results119,go_sem,ht,P,S,h2,h3,h4,h5,h6,h7]
variable {w w1:World}{row:Option Nat}
theorem c0O(h:w.grownBy w1 row){g:Nat}(d:w.heap.size<=g){i0 j y D F K L M:Nat}{P S T W x4 x5 x6 x7:la}:
 w.grownBy ((((((((w1.setCell (A g i0 N) P).setCell (A g j N) S).setCell (A g y N) T).setCell (A g D N) W).setCell (A g F N) x4).setCell (A g K N) x5).setCell (A g L N) x6).setCell (A g M N) x7) row:=a1i (a1i h d) d
theorem b6C(w:ld)(b:Nat)(f:ByteArray)(pv:la)(s:Except Er St)(h:X (E7 w b f pv s)):
 Calls prog 119 #[U (O (A b 0 N))] w (K4 w b f pv (D0 s (meth f)) (b4G w.heap.size)):=by
 have fh:=h.o.lt;have fc:=h.o.poolLt (lk _);go_enter func119,ntmps119;go_wp2_with (go_at_call 117;refine K4.bind (a3Q _ b f pv s (h.o.keep0 (A2 _ _ _))) ?_)
 rintro nm v w1 H1 rfl bf dg;have de:X (A4 w1 w.heap.size mZ 102):=(A4.new w _ _).keep dg Oi;have eq:=de.o.lt;have eo:=A1 (A0 (A2 _ _ _) dg);have aj:b<w1.heap.size:=by omega
 have S1:X (D6 s (name f) nm (F5 (D0 s (name f)))):=⟨H1.o,rfl⟩
 generalize F5 (D0 s (name f))=s1 at bf S1;clear H1 dg;go_wp2_with (go_at_call 114;refine K4.bind (p8 _ b f pv s1 1 (bf.o.keep0 (A2 _ _ _)) Oo) ?_)
 rintro n1 v w2 H2 rfl b5 b1;have b0:X (A4 w2 w1.heap.size #[Z nm, V N 0 0, .int I 0, Z ⟨#[]⟩, .int I 0, .int I 0, V N 0 0, V N 0 0] 102):=(A4.new w1 _ _).keep b1 Oi;have df:=A1 ((de.o.keep (A2 _ _ N) Os).keep b1 Oi);have es:=b0.o.lt;have ce:=A1 (A0 (A0 eo.o (A2 _ _ _)) b1);have M2:X (L9 f 1 (kind f) s1 n1 0 [] (F5 (D0 s1 (C3 f 1)))):=L9.start H2.o;generalize F5 (D0 s1 (C3 f 1))=s2 at b5 M2;have dl:=bf.o.poolLt (lk _);have bz:=A1 (λk (hk:w1.heap.size<=k)=>bf.o.poolLt hk);clear b1 de bf;go_wp2_with fail
 have ff:=aj
 have ae:pv.ownBlock≠O w1.heap.size:=by
  exact dl
 refine a3l (J:=MeJ b w.heap.size w1.heap.size (λwr=>∃(ps:List Ty) (s3:Except Er St) (l:la),D6 s1 (D8 f 1 (kind f)) ps s3/\
  MS w b w.heap.size w1.heap.size f pv #[Z nm,l, .int I 0, Z ⟨#[]⟩, .int I 0, .int I 0, V N 0 0, V N 0 0] s3 wr/\F2 (w1.heap.size+1) 98 2 B8 wr l ps)) ?_ ?_
 ·rintro a wr ⟨⟨ps,s3,l,cq,M,S⟩,t,rfl⟩;clear b5 b0 df M2 H2 es ce;obtain⟨L,T,rfl⟩:=F7 S;have S3:=A1 cq;have cz:=A1 M;have eb:=A1 S;have ad:b≠w1.heap.size:=by omega
  have af:b≠w.heap.size:=by omega
  have ap:w.heap.size≠w1.heap.size:=by omega
  have ak:w.heap.size<=w1.heap.size:=by omega
  clear M S cq;dsimp only[a6v]
  go_wp2_with (first
   |(go_at_call 114
     have av:X (MS w b w.heap.size w1.heap.size f pv #[Z nm, V L ps.length T, .int I F.k, Z F.n, .int I so, .int I lo, V N 0 0, V N 0 0] s6 (w6.setCell (A w1.heap.size 5 N) (.int I lo))):=bv.o.setB ad ap ae ak 5 _;have cd:X (F2 (w1.heap.size+1) 98 2 B8 (w6.setCell (A w1.heap.size 5 N) (.int I lo)) (V L ps.length T) ps):=a0k ee.o (A6 _ (A w1.heap.size 5 N) _) (lg _);refine K4.bind (p8 _ b f pv s6 2 av.o.eye Oo) ?_;rintro n2 v w7 H7 rfl et dj;have bw:=A1 (av.o.step dj et.o ad af);have dc:=A1 (a0k cd.o dj Oo);clear et dj av cd bv ee;try dsimp only)
   |(go_at_call 114
     have au:X (MS w b w.heap.size w1.heap.size f pv #[Z nm, V L ps.length T, .int I F.k, Z F.n, .int I so, .int I 0, V N 0 0, V N 0 0] s5 (w5.setCell (A w1.heap.size 4 N) (.int I so))):=bu.o.setB ad ap ae ak 4 _;have cc:X (F2 (w1.heap.size+1) 98 2 B8 (w5.setCell (A w1.heap.size 4 N) (.int I so)) (V L ps.length T) ps):=a0k ed.o (A6 _ (A w1.heap.size 4 N) _) (lg _);refine K4.bind (p8 _ b f pv s5 1 au.o.eye Oo) ?_;rintro lo v w6 H6 rfl dq di;obtain⟨s6,bn⟩:=Oe (F5 (D0 s5 (C3 f 1)))
     rw[<-bn]at dq;have S6:X (D6 s5 (C3 f 1) lo s6):=⟨H6.o,bn.symm⟩
     have bv:=A1 (au.o.step di dq.o ad af);have ee:=A1 (a0k cc.o di Oo);have z5:=bv.o.me.frozen 5;have d5:=bv.o.me.c5;clear bn dq di au cc bu ed H6;try dsimp only)
   |(go_at_call 114
     have ar:X (MS w b w.heap.size w1.heap.size f pv #[Z nm, V L ps.length T, .int I F.k, Z F.n, .int I 0, .int I 0, V N 0 0, V N 0 0] s4 ((w4.setCell (A w1.heap.size 2 N) (.int I F.k)).setCell (A w1.heap.size 3 N) (Z F.n))):=(ao.o.setB ad ap ae ak 2 _).setB ad ap ae ak 3 _;have cb:X (F2 (w1.heap.size+1) 98 2 B8 ((w4.setCell (A w1.heap.size 2 N) (.int I F.k)).setCell (A w1.heap.size 3 N) (Z F.n)) (V L ps.length T) ps):=a0k (a0k ec.o (A6 _ (A w1.heap.size 2 N) _) (lg _)) (A6 _ (A w1.heap.size 3 N) _) (lg _);refine K4.bind (p8 _ b f pv s4 1 ar.o.eye Oo) ?_;rintro so v w5 H5 rfl dp dh;obtain⟨s5,bm⟩:=Oe (F5 (D0 s4 (C3 f 1)))
     rw[<-bm]at dp;have S5:X (D6 s4 (C3 f 1) so s5):=⟨H5.o,bm.symm⟩
     have bu:=A1 (ar.o.step dh dp.o ad af);have ed:=A1 (a0k cb.o dh Oo);have z4:=bu.o.me.frozen 4;have d4:=bu.o.me.c4;clear bm dp dh ar cb ao ec H5;try dsimp only)
   |(go_at_call 118
     refine K4.bind (a8I wr b f pv s3 cz.o.eye) ?_;rintro F v w4 H4 rfl bk ag;obtain⟨s4,bl⟩:=Oe (F5 (D0 s3 (kind f)))
     rw[<-bl]at bk;have S4:X (D6 s3 (kind f) F s4):=⟨H4.o,bl.symm⟩
     have ao:=A1 (cz.o.step ag bk.o ad af);have ec:=A1 (a0k eb.o ag Oo);have z2:=ao.o.me.frozen 2;have z3:=ao.o.me.frozen 3;have d2:=ao.o.me.c2;have d3:=ao.o.me.c3;clear bl bk ag cz eb H4;try dsimp only))
  have an:X (L9 f 2 (ins f) s6 n2 0 [] (F5 (D0 s6 (C3 f 2)))):=L9.start H7.o;obtain⟨s7,co⟩:=Oe (F5 (D0 s6 (C3 f 2)))
  rw[<-co]at bw an;clear co H7 z2 z3 d2 d3 z4 d4 z5 d5
  refine a3l (J:=MeJ b w.heap.size w1.heap.size (λwr=>∃(is:List In) (s3:Except Er St) (l:la),D6 s6 (D8 f 2 (ins f)) is s3/\
   MS w b w.heap.size w1.heap.size f pv #[Z nm, V L ps.length T, .int I F.k, Z F.n, .int I so, .int I lo,l, V N 0 0] s3 wr/\F2 (w1.heap.size+1) 120 4 M0 wr (l) is/\F2 (w1.heap.size+1) 98 2 B8 wr (V L ps.length T) ps)) ?_ ?_
  ·rintro a wr ⟨⟨is,s8,fi,cr,M,dm,be⟩,t,rfl⟩;clear bw an dc;obtain⟨ac,kc,rfl⟩:=F7 dm;have S8:=A1 cr;have c':X (ML w b w.heap.size w1.heap.size f pv #[Z nm, V L ps.length T, .int I F.k, Z F.n, .int I so, .int I lo, V ac is.length kc, V N 0 0] ps is [] (V L ps.length T) (V ac is.length kc) (V N 0 0) s8 wr):=⟨M,be,dm,lr _ _ _ _⟩
   clear M dm be cr;dsimp only[a6v];go_wp2_with (go_at_call 114;refine K4.bind (p8 _ b f pv s8 1 c'.o.ms.eye Oo) ?_;rintro n3 v w9 H9 rfl ev ep;have bx:=A1 (c'.o.step ep ev.o aj af);have M9:X (L9 f 1 (m8 f) s8 n3 0 [] (F5 (D0 s8 (C3 f 1)))):=L9.start H9.o;clear ev ep H9 c';try dsimp only)
   obtain⟨s9,cp⟩:=Oe (F5 (D0 s8 (C3 f 1)))
   rw[<-cp]at bx M9;clear cp;refine a3l (J:=MeJ b w.heap.size w1.heap.size (λwr=>∃(hs:List Hd) (s3:Except Er St) (l:la),D6 s8 (D8 f 1 (m8 f)) hs s3/\ML w b w.heap.size w1.heap.size f pv #[Z nm, V L ps.length T, .int I F.k, Z F.n, .int I so, .int I lo, V ac is.length kc,l] ps is hs (V L ps.length T) (V ac is.length kc) (l) s3 wr)) ?_ ?_
   ·rintro a wr ⟨⟨hs,fj,lh,bp,aq⟩,t,rfl⟩;clear M9 bx;obtain⟨ah,kh,rfl⟩:=F7 aq.rh;have fb:=A1 bp;have W:=A1 aq;clear aq bp;dsimp only[a6v];obtain⟨d0,d1,d2,d3,d4,d5,d6,d7⟩:=W.o.ms.me.q8;obtain⟨g0,g1,g2,g3,g4,g5,g6,g7⟩:=W.o.ms.o.q8;obtain⟨z0,z1,z2,z3,z4,z5,z6,z7⟩:=W.o.ms.o.z8;go_wp2_with fail
    refine lw (v:= .agg #[Z nm, V L ps.length T, .int I F.k, Z F.n, .int I so, .int I lo, V ac is.length kc, V ah hs.length kh]) (c0l _ _ w.heap.size _ _ _ _ _ _ _ _ _ rfl ((((((((W.o.ms.o.set 0 _).set 1 _).set 2 _).set 3 _).set 4 _).set 5 _).set 6 _).set 7 _)) rfl ?_;have en:=b8g S1.o S3.o S4.o S5.o S6.o S8.o fb.o;refine en.ends (c0O W.o.ms.grown (lk _)) ⟨_,rfl,_,_,_,rfl,?_,?_,?_,λ_ _=>trivial⟩ ?_
    ·exact U6 (lb.kept W.o.rp (a2m (g:=w.heap.size)) (.inr (F9 W.o.rp Oo))) Oo
    ·exact U6 (lb.kept W.o.rc (a2m (g:=w.heap.size)) (.inr (F9 W.o.rc Oo))) Oo
    ·exact U6 (lb.kept W.o.rh (a2m (g:=w.heap.size)) (.inr (F9 W.o.rh Oo))) Oo
    ·exact W.o.ms.eye.keep (a2m (g:=w.heap.size)) Oi (.inr fc)
   ·go_loopw [9] (λi wr=>∃(k:Nat) (hs:List Hd) (s3:Except Er St) (l:la),i= .int I k/\k<=n3/\hs.length=k/\L9 f 1 (m8 f) s8 n3 k hs s3/\ML w b w.heap.size w1.heap.size f pv #[Z nm, V L ps.length T, .int I F.k, Z F.n, .int I so, .int I lo, V ac is.length kc,l] ps is hs (V L ps.length T) (V ac is.length kc) (l) s3 wr) (λi _=>n3-(le i).toNat)
    case atStart=>exact⟨0,[],s9,_,rfl,li _,rfl,M9.o,bx.o⟩
    case round=>
     clear M9 bx;obtain⟨k,hs,fd,l,rfl,hk,aa,ab,aq⟩:=hrel;have HM:=A1 ab;have W:=A1 aq;have HL:=A1 aa;clear ab aq aa;cases fd with
     |error er=>
      obtain⟨c4,ew⟩:=W.o.ms.eye.err;go_wp2_with fail
      all_goals exact MeJ.of _ rfl ⟨hs,_,l,HM.o.err,W.o⟩
     |ok st3=>
      have c4:=W.o.ms.eye.2.cells0.2.2.2.2.1;by_cases hlt:k<n3
      ·obtain⟨i,hi,bq,br,bt⟩:=ls b3N;have hn:n3<256:=by obtain⟨st1,h1,-⟩:=HM.o;exact(a3i h1).1
       have bb:hs.length<65536:=by have:=HL.o;omega
       have hx:=W.o.lies (lk _) bz.o;have HX:X _:=hx;have fg:=hx.1;clear hx
       go_wp2_with (first
        |(go_at_call 117
          have cw:X (ML w b w.heap.size w1.heap.size f pv #[Z nm, V L ps.length T, .int I F.k, Z F.n, .int I so, .int I lo, V ac is.length kc,l] ps is hs (V L ps.length T) (V ac is.length kc) (l) t3 (dy.setCell (A wr.heap.size 2 N) (.int I z))):=eh.o.beside (g:=wr.heap.size) (A6 _ (A wr.heap.size 2 N) _) Oo Oo Oo HX.o.2.1 HX.o.2.2.1 HX.o.2.2.2.1 HX.o.2.2.2.2 Oo;have el:X (A4 (dy.setCell (A wr.heap.size 2 N) (.int I z)) wr.heap.size #[.int I x, .int I y, .int I z, Z ⟨#[]⟩] 202):=a1.o.set 2 _;refine K4.bind (a3Q _ b f pv t3 cw.o.ms.eye) ?_;rintro d v am d' rfl cn a';obtain⟨t4,dv⟩:=Oe (F5 (D0 t3 (name f)))
          have bj:E7 am b f pv t4:=by rw[dv];exact cn.o
          have Q4:X (D6 t3 (name f) d t4):=⟨d'.o,dv.symm⟩
          have ax:=A1 (cw.o.step a' bj aj af);have a2:=A1 (el.o.keep a' Oi);obtain⟨e0,e1,e2,e3⟩:=a2.o.q4;have y3:=a2.o.frozen 3;have d1:=ax.o.ms.me.cell 7 l rfl;have z1:=ax.o.ms.me.frozen 7;have cf:=a2.o.lt;have cx:X (ML w b w.heap.size w1.heap.size f pv #[Z nm, V L ps.length T, .int I F.k, Z F.n, .int I so, .int I lo, V ac is.length kc,l] ps is hs (V L ps.length T) (V ac is.length kc) (l) t4 (am.setCell (A wr.heap.size 3 N) (Z d))):=ax.o.beside (g:=wr.heap.size) (A6 _ (A wr.heap.size 3 N) _) Oo Oo Oo HX.o.2.1 HX.o.2.2.1 HX.o.2.2.2.1 HX.o.2.2.2.2 Oo
          have NC:X (∀j u,(O3 ⟨x,y,z,d⟩)[j]? =O u->((am.setCell (A wr.heap.size 3 N) (Z d)).alloc (H (O3 ⟨x,y,z,d⟩).toArray 202)).cell? (((A am.heap.size 0 N):ll).add j)=O u):=by
           have:=O8 (am.setCell (A wr.heap.size 3 N) (Z d)) (O3 ⟨x,y,z,d⟩) 202;exact c6v
          clear a' cn bj dv d' cw el;try dsimp only)
        |(go_at_call 114
          have cv:X (ML w b w.heap.size w1.heap.size f pv #[Z nm, V L ps.length T, .int I F.k, Z F.n, .int I so, .int I lo, V ac is.length kc,l] ps is hs (V L ps.length T) (V ac is.length kc) (l) t2 (dx.setCell (A wr.heap.size 1 N) (.int I y))):=eg.o.beside (g:=wr.heap.size) (A6 _ (A wr.heap.size 1 N) _) Oo Oo Oo HX.o.2.1 HX.o.2.2.1 HX.o.2.2.2.1 HX.o.2.2.2.2 Oo;have ek:X (A4 (dx.setCell (A wr.heap.size 1 N) (.int I y)) wr.heap.size #[.int I x, .int I y, .int I 0, Z ⟨#[]⟩] 202):=a0.o.set 1 _;refine K4.bind (p8 _ b f pv t2 2 cv.o.ms.eye Oo) ?_;rintro z v dy d9 rfl cm a7;obtain⟨t3,du⟩:=Oe (F5 (D0 t2 (C3 f 2)))
          have bi:E7 dy b f pv t3:=by rw[du];exact cm.o
          have Q3:X (D6 t2 (C3 f 2) z t3):=⟨d9.o,du.symm⟩
          have eh:=A1 (cv.o.step a7 bi aj af);have a1:=A1 (ek.o.keep a7 Oi);have e2:=a1.o.c2;have y2:=a1.o.frozen 2;clear a7 cm bi du d9 cv ek;try dsimp only)
        |(go_at_call 114
          have cu:X (ML w b w.heap.size w1.heap.size f pv #[Z nm, V L ps.length T, .int I F.k, Z F.n, .int I so, .int I lo, V ac is.length kc,l] ps is hs (V L ps.length T) (V ac is.length kc) (l) t1 (dw.setCell (A wr.heap.size 0 N) (.int I x))):=ef.o.beside (g:=wr.heap.size) (A6 _ (A wr.heap.size 0 N) _) Oo Oo Oo HX.o.2.1 HX.o.2.2.1 HX.o.2.2.2.1 HX.o.2.2.2.2 Oo;have ej:X (A4 (dw.setCell (A wr.heap.size 0 N) (.int I x)) wr.heap.size #[.int I x, .int I 0, .int I 0, Z ⟨#[]⟩] 202):=az.o.set 0 _;refine K4.bind (p8 _ b f pv t1 2 cu.o.ms.eye Oo) ?_;rintro y v dx d8 rfl cj a6;obtain⟨t2,dt⟩:=Oe (F5 (D0 t1 (C3 f 2)))
          have bh:E7 dx b f pv t2:=by rw[dt];exact cj.o
          have Q2:X (D6 t1 (C3 f 2) y t2):=⟨d8.o,dt.symm⟩
          have eg:=A1 (cu.o.step a6 bh aj af);have a0:=A1 (ej.o.keep a6 Oi);have e1:=a0.o.c1;have y1:=a0.o.frozen 1;clear a6 cj bh dt d8 cu ej;try dsimp only)
        |(go_at_call 114
          have ct:X (ML w b w.heap.size w1.heap.size f pv #[Z nm, V L ps.length T, .int I F.k, Z F.n, .int I so, .int I lo, V ac is.length kc,l] ps is hs (V L ps.length T) (V ac is.length kc) (l) (.ok st3) (wr.alloc (H #[.int I 0, .int I 0, .int I 0, Z ⟨#[]⟩] 202))):=W.o.fresh (A2 _ _ N);have ei:X (A4 (wr.alloc (H #[.int I 0, .int I 0, .int I 0, Z ⟨#[]⟩] 202)) wr.heap.size #[.int I 0, .int I 0, .int I 0, Z ⟨#[]⟩] 202):=A4.new _ _ _;refine K4.bind (p8 _ b f pv (.ok st3) 2 ct.o.ms.eye Oo) ?_;rintro x v dw dz rfl cg a4;obtain⟨t1,dr⟩:=Oe (F5 (D0 (.ok st3) (C3 f 2)))
          have bg:E7 dw b f pv t1:=by rw[dr];exact cg.o
          have Q1:X (D6 (.ok st3) (C3 f 2) x t1):=⟨dz.o,dr.symm⟩
          have ef:=A1 (ct.o.step a4 bg aj af);have az:=A1 (ei.o.keep a4 Oi);have e0:=az.o.c0;have y0:=az.o.frozen 0;clear a4 cg bg dr dz ct ei;try dsimp only)
        |(at_builtin
          go_loud (refine ln _ rfl _ _ 100 rfl (w1.heap.size+1) 202 i _ 4 40 underlying100 hi bq br bt rfl Od _ hs.length (hs.flatMap O3) rfl (lb.alloc cx.o.rh _) (A am.heap.size 0 N) 1 1 (O3 ⟨x,y,z,d⟩) rfl rfl NC.o (by simp[O3,Value.oneCell']) (a0S rfl bb) Oo Oi ?_)))
       intro v' fe hown D _;obtain⟨a5,k5,rfl⟩:=F7 hown;have K:=A0 (A2 (am.setCell (A wr.heap.size 3 N) (Z d)) (H (O3 ⟨x,y,z,d⟩).toArray 202) _) D
       have b':X (F2 (w1.heap.size+1) 202 4 O3 fe (V a5 (hs.length+1) k5) (hs++ [⟨x,y,z,d⟩])):=by
        unfold F2 X;exact c5j
       have ay:=A1 (cx.o.turn K b'.o aj eq ak bz.o);have ex:=ay.o.ms.me.frozen 7;have em:=ay.o.ms.me.cell 7 l rfl;clear hown D K d1 z1 cx b' e0 e1 e2 e3 y0 y1 y2 y3;go_wp2_with fail
       go_roundw
       case rel=>
        have bo:(hs++ [(⟨x,y,z,d⟩:Hd)]).length=k+1:=by have:=HL.o;simp;omega
        exact⟨k+1,hs++ [(⟨x,y,z,d⟩:Hd)],t4, V a5 (hs.length+1) k5,by go_num,hlt,bo,L9.step HM.o hlt (b5z Q1.o Q2.o Q3.o Q4.o),ay.o.setB ad ap ae ak 7 (V a5 (hs.length+1) k5)⟩
       case measure=>simp[le];omega
      ·go_wp2_with fail
       have ba:k=n3:=by omega
       subst ba;exact MeJ.of _ rfl ⟨hs,_,l,L9.done HM.o,W.o⟩
  ·go_loopw [7] (λi wr=>∃(k:Nat) (is:List In) (s3:Except Er St) (l:la),i= .int I k/\k<=n2/\is.length=k/\L9 f 2 (ins f) s6 n2 k is s3/\
    MS w b w.heap.size w1.heap.size f pv #[Z nm, V L ps.length T, .int I F.k, Z F.n, .int I so, .int I lo,l, V N 0 0] s3 wr/\F2 (w1.heap.size+1) 120 4 M0 wr (l) is/\F2 (w1.heap.size+1) 98 2 B8 wr (V L ps.length T) ps) (λi _=>n2-(le i).toNat)
   case atStart=>exact⟨0,[],s7,_,rfl,li _,rfl,an.o,bw.o,lr _ _ _ _,dc.o⟩
   case round=>
    clear an bw dc;obtain⟨k,is,s8,l,rfl,hk,aa,ab,M,S,be⟩:=hrel;have HM:=A1 ab;have W:=A1 M;have HO:=A1 S;have HP:=A1 be;have HL:=A1 aa;clear ab M S aa be;cases s8 with
    |error er=>
     obtain⟨c4,ew⟩:=W.o.eye.err;go_wp2_with fail
     all_goals exact MeJ.of _ rfl ⟨is,_,l,HM.o.err,W.o,HO.o,HP.o⟩
    |ok st3=>
     have c4:=W.o.eye.2.cells0.2.2.2.2.1;by_cases hlt:k<n2
     ·obtain⟨i,hi,bq,br,bt⟩:=ls b3M;have hn:n2<65536:=by obtain⟨st1,h1,-⟩:=HM.o;exact(a3i h1).1
      have b4:l.ownBlock≠O b:=F9 HO.o Oo;have bc:l.ownBlock≠O w1.heap.size:=F9 HO.o Oo;have bd:l.ownBlock≠O w.heap.size:=F9 HO.o Oo;have bb:is.length<65536:=by have:=HL.o;omega
      go_wp2_with (first
       |(go_at_call 175
         refine K4.bind (c1b wr b f pv (.ok st3) W.o.eye) ?_;rintro x v w8 H8 rfl eu b3;have ai:=A1 (W.o.step b3 eu.o ad af);have aw:=A1 (a0k HO.o b3 Oo);have db:=A1 (a0k HP.o b3 Oo);have d1:=ai.o.me.cell 6 l rfl;have z1:=ai.o.me.frozen 6;have cf:=ai.o.me.lt
         have NC:X (∀j u,(M0 x)[j]? =O u->((w8.alloc (H (M0 x).toArray 120)).alloc (H (M0 x).toArray 120)).cell? (((A (w8.heap.size+1) 0 N):ll).add j)=O u):=by
          have:=O8 (w8.alloc (H (M0 x).toArray 120)) (M0 x) 120;exact c6v
         clear b3 eu;try dsimp only)
       |(at_builtin
         go_loud (refine ln _ rfl _ _ 99 rfl (w1.heap.size+1) 120 i _ 4 48 underlying99 hi bq br bt rfl Od _ is.length (is.flatMap M0) rfl ((lb.alloc aw.o _).alloc _) (A (w8.heap.size+1) 0 N) 1 1 (M0 x) rfl rfl NC.o (by simp[M0,Value.oneCell']) (a0S rfl bb) Oo Oi ?_)))
      intro v' w9 hown D _;obtain⟨a5,k5,rfl⟩:=F7 hown;have K:=A0 (A0 (A2 w8 (H (M0 x).toArray 120) _) (A2 _ (H (M0 x).toArray 120) _)) D
      have dd:X (MS w b w.heap.size w1.heap.size f pv #[Z nm, V L ps.length T, .int I F.k, Z F.n, .int I so, .int I lo,l, V N 0 0] (F5 (D0 (.ok st3) (ins f))) w9):=
       ⟨ai.o.eye.keep K (λe=>b4 e.symm) (a6N bz.o aw.o Oo),ai.o.me.keep K (λe=>bc e.symm),ai.o.o.keep K (λe=>bd e.symm),C6 ai.o.grown K (λg hg=> .inl (by have:=(K7 aw.o hg).1;omega))⟩
      have e9:X (F2 (w1.heap.size+1) 120 4 M0 w9 (V a5 (is.length+1) k5) (is++ [x])):=by
       unfold F2 X;exact c5j
      have e':X (F2 (w1.heap.size+1) 98 2 B8 w9 (V L ps.length T) ps):=lb.kept db.o K (a1O db.o aw.o Od);have ex:=dd.o.me.frozen 6;have em:=dd.o.me.cell 6 l rfl;clear hown D K d1 z1 ai aw db;go_wp2_with fail
      go_roundw
      case rel=>
       have bo:(is++ [x]).length=k+1:=by have:=HL.o;simp;omega
       exact⟨k+1,is++ [x],_,_,by go_num,hlt,bo,L9.step HM.o hlt ⟨H8.o,rfl⟩,dd.o.setB ad ap ae ak 6 _,a0k e9.o (A6 _ (A w1.heap.size 6 N) _) (lg _),a0k e'.o (A6 _ (A w1.heap.size 6 N) _) (lg _)⟩
      case measure=>simp[le];omega
     ·go_wp2_with fail
      have ba:k=n2:=by omega
      subst ba;exact MeJ.of _ rfl ⟨is,_,l,L9.done HM.o,W.o,HO.o,HP.o⟩
 ·go_loopw [5] (λi wr=>∃(k:Nat) (ps:List Ty) (s3:Except Er St) (l:la),i= .int I k/\k<=n1/\ps.length=k/\L9 f 1 (kind f) s1 n1 k ps s3/\
   MS w b w.heap.size w1.heap.size f pv #[Z nm,l, .int I 0, Z ⟨#[]⟩, .int I 0, .int I 0, V N 0 0, V N 0 0] s3 wr/\F2 (w1.heap.size+1) 98 2 B8 wr l ps) (λi _=>n1-(le i).toNat)
  case atStart=>exact⟨0,[],s2,_,rfl,li _,rfl,M2.o,⟨b5.o,b0.o,df.o,ce.o⟩,lr _ _ _ _⟩
  case round=>
   clear b5 b0 df M2;obtain⟨k,ps,s3,l,rfl,hk,aa,ab,M,S⟩:=hrel;have HM:=A1 ab;have HE:=A1 M.eye;have HB:=A1 M.me;have HG:=A1 M.o;have dk:=A1 M.grown;have HO:=A1 S;have HL:=A1 aa;clear ab M S aa;cases s3 with
   |error er=>
    obtain⟨c4,ew⟩:=HE.o.err;go_wp2_with fail
    all_goals exact MeJ.of _ rfl ⟨ps,_,l,HM.o.err,⟨HE.o,HB.o,HG.o,dk.o⟩,HO.o⟩
   |ok st3=>
    have c4:=HE.o.2.cells0.2.2.2.2.1;by_cases hlt:k<n1
    ·obtain⟨i,hi,bq,br,bt⟩:=ls a2n;have hn:n1<256:=by obtain⟨st1,h1,-⟩:=HM.o;exact(a3i h1).1
     have b4:l.ownBlock≠O b:=F9 HO.o Oo;have bc:l.ownBlock≠O w1.heap.size:=F9 HO.o Oo;have bd:l.ownBlock≠O w.heap.size:=F9 HO.o Oo;have bb:ps.length<65536:=by have:=HL.o;omega
     go_wp2_with (first
      |(go_at_call 118
        refine K4.bind (a8I wr b f pv (.ok st3) HE) ?_;rintro x v w3 H3 rfl bk ag;have a3:=HB.o.keep ag Oi;have ey:=A1 a3;have e4:=A1 (HG.o.keep ag Oi);have da:X (F2 (w1.heap.size+1) 98 2 B8 w3 l ps):=lb.kept HO.o ag (.inr b4);have d1:=a3.cell 1 l rfl;have z1:=a3.frozen 1;have cf:=a3.lt;have e5:=A1 (A0 dk.o ag)
        have NC:X (∀j u,(B8 x)[j]? =O u->((w3.alloc (H (B8 x).toArray 98)).alloc (H (B8 x).toArray 98)).cell? (((A (w3.heap.size+1) 0 N):ll).add j)=O u):=by
         have:=O8 (w3.alloc (H (B8 x).toArray 98)) (B8 x) 98;exact c6v
        clear a3 ag;try dsimp only)
      |(at_builtin
        go_loud (refine ln _ rfl _ _ 96 rfl (w1.heap.size+1) 98 i _ 2 24 underlying96 hi bq br bt rfl Od _ ps.length (ps.flatMap B8) rfl ((lb.alloc da.o _).alloc _) (A (w3.heap.size+1) 0 N) 1 1 (B8 x) rfl rfl NC.o (by simp[B8,Value.oneCell']) (a0S rfl bb) Oo Oi ?_)))
     intro v' w4 hown D _;obtain⟨a5,k5,rfl⟩:=F7 hown;have K:=A0 (A0 (A2 w3 (H (B8 x).toArray 98) _) (A2 _ (H (B8 x).toArray 98) _)) D;have cy:=A1 (ey.o.keep K (λe=>bc e.symm));have e6:=A1 (e4.o.keep K (λe=>bd e.symm));have ez:=A1 (bk.o.keep K (λe=>b4 e.symm) (a6N bz.o da.o Oo))
     have ea:X (F2 (w1.heap.size+1) 98 2 B8 w4 (V a5 (ps.length+1) k5) (ps++ [x])):=by
      unfold F2 X;exact c5j
     have e7:=A1 (C6 e5.o K (λg hg=> .inl (by have:=(K7 da.o hg).1;omega)));have ex:=cy.o.frozen 1;have em:=cy.o.cell 1 l rfl;clear hown D K d1 z1;go_wp2_with fail
     go_roundw
     case rel=>
      have bo:(ps++ [x]).length=k+1:=by have:=HL.o;simp;omega
      refine⟨k+1,ps++ [x],_,_,by go_num,hlt,bo,L9.step HM.o hlt ⟨H3.o,rfl⟩,⟨ez.o.keep (A6 _ (A w1.heap.size 1 N) _) Oi (.inr ae),cy.o.set 1 _,e6.o.keep (A6 _ (A w1.heap.size 1 N) _) Oi,Y4 e7.o Oo 1 _⟩,lb.kept ea.o (A6 _ (A w1.heap.size 1 N) _) (.inr (F9 ea.o (lg _)))⟩
     case measure=>simp[le];omega
    ·go_wp2_with fail
     have ba:k=n1:=by omega
     subst ba;exact MeJ.of _ rfl ⟨ps,_,l,L9.done HM.o,⟨HE.o,HB.o,HG.o,dk.o⟩,HO.o⟩
variable {a k:Nat}
theorem c0j{s:ByteArray}(hk:k<s.size)(ha:(s[k]'hk).toNat=a)(h:97<=a/\a<=122\/65<=a/\a<=90\/48<=a/\a<=57):a1y s.data[k]=true:=by
 rw[a8c,decide_eq_true_eq];have e:s.data[k].toNat=a:=ha;rw[e];exact h
theorem c1N{s:ByteArray}(hk:k<s.size)(ha:(s[k]'hk).toNat=a)(h:¬(97<=a/\a<=122\/65<=a/\a<=90\/48<=a/\a<=57)):a1y s.data[k]=false:=by
 rw[a8c,decide_eq_false_iff_not];have e:s.data[k].toNat=a:=ha;rw[e];exact h
theorem b0T(s:ByteArray)(w:ld)(hs:s.size<=2048):
 Calls prog 173 #[Z s] w λe w'=>e= Y (.bool (L7 s))/\w=w':=by
 go_enter func173,ntmps173;go_wp2_with fail
 go_loop [3] (λi=>∃k:Nat,k<=s.size/\i= J I k/\X (∀j (y:j<s.size),j<k->a1y s.data[j]=true)) (λi=>s.size-(le i).toNat)
 case atStart=>exact⟨0,by omega,rfl,λj y h=>by omega⟩
 case round=>
  obtain⟨k,hk,rfl,d⟩:=hrel;by_cases hlt:k<s.size
  ·obtain⟨a,ha⟩:∃a,(s[k]'hlt).toNat=a:=⟨_,rfl⟩
   have K:=A1 ha
   have F:X ((97<=a/\a<=122\/65<=a/\a<=90\/48<=a/\a<=57)->∀j (y:j<s.size),j<k+1->a1y s.data[j]=true):=by
    intro h j y hk;by_cases e:j=k
    ·subst e;exact c0j _ K.o h
    ·exact d.o j y Oo
   have D:X (s.size-(le (Value.int IntKind.i64 ((k:Int)+1))).toNat<s.size-(le (Value.int IntKind.i64 (k:Int))).toNat):=by unfold X;simp[le];omega
   by_cases hyes:97<=a/\a<=122\/65<=a/\a<=90\/48<=a/\a<=57
   ·have M:=A1 hyes;clear hyes;go_wp2_with fail
    all_goals first
     |exact⟨⟨k+1,hlt,by go_num,F.o M.o⟩,D.o⟩
     |(exfalso;have:=M.o;try simp only[nj,decide_eq_false_iff_not]at*
       omega)
   ·have L:=A1 hyes;clear hyes;go_wp2_with fail
    all_goals first
     |(go_ret;exact⟨by rw[b1o k hlt (c1N _ K.o L.o)];rfl,rfl⟩)
     |(exfalso;have:=L.o;try simp only[nk,decide_eq_true_eq]at*
       omega)
  ·go_wp2_with fail
   all_goals
    go_ret;refine⟨congrArg (λx=>Ending.returned (.bool x)) ?_,rfl⟩
    have S:s.data.toList.all a1y=true:=by
     simp only[List.all_eq_true];intro c T;obtain⟨j,y,rfl⟩:=nl T;exact d.o j (by simpa using y) (by simp at y;have:s.data.size=s.size:=rfl;omega)
    simp only[L7,S,Bool.and_true];by_cases q1:1<=s.size<;>by_cases q2:s.size<=12<;>simp[q1,q2]<;>omega
def b4A(w:ld)(b:Nat)(f:ByteArray)(r:R (List Unit))(e:Ending)(w':ld):Prop:=
 e= Y (.tuple #[])/\w.grownBy w' (O b)/\∃pv,E7 w' b f pv (F5 r)
def a4D(w wr:ld)(pv:la)(k:Nat)(s:Except Er St):Prop:=∀st,s= .ok st->st.p.length=k/\wr.ownsRow w.heap.size 9 1 pv st.p.length (st.p.map Value.string)
variable {l:List ByteArray}
theorem b1L{j:Nat}(y:j<l.length){d:Bool}{nm:ByteArray}:(d&& !(l.take (j+1)).contains nm)=((d&& !(l.take j).contains nm)&& !(l[j].toList==nm.toList)):=by
 haveI:=a8d
 rw[List.take_succ_eq_append_getElem y,Bool.eq_iff_iff];have:(l[j].toList==nm.toList)=true↔l[j]=nm:=⟨a0U,λe=>by rw[e];simp⟩
 simp only[nd,nj,<-Bool.not_eq_true,List.contains_iff_mem,no,ng,this,eq_comm (a:=nm)];rw[not_or,and_assoc]
variable {f n:ByteArray}
theorem Ey.setNames{j:ld}{b base:Nat}{pv d:la}{e p:Nat}{names:List ByteArray}{t:Int}(h:Ey w b f pv a names t e p)(D:w.grownBy w1 N)(F:w1.grownBy j row)(M:row≠O b)
 (y:j.ownsRow base 9 1 d l.length (l.map Value.string)) (K:b<base) (L:l.length<=255):Ey (j.setCell (A b 2 N) d) b f d a l t e p:=
 ⟨((h.blk.keep D Os).keep F (λe=>M e.symm)).set 2 _,(U6 y Oo).kept (A6 j (A b 2 N) d) (.inr (F9 y K)),h.fits,h.t,L,h.lo,h.hi⟩
theorem b9b(w:ld)(b:Nat)(f:ByteArray)(st:St)(h:X (E7 w b f (V N 0 0) (.ok st)))(h0:st.p=[]):
 Calls prog 116 #[U (O (A b 0 N))] w (b4A w b f (D8 f 1 (L5 f) st)):=by
 have ad:=h.o.lt;have H0:=A1 h0;clear h0;go_enter func116,ntmps116;go_wp2_with (go_at_call 114;refine K4.bind (p8 w b f _ (.ok st) 1 h Oo) ?_)
 rintro n v w1 H1 rfl a2 be;have M1:X (L9 f 1 (L5 f) (.ok st) n 0 [] (F5 (D0 (.ok st) (C3 f 1)))):=L9.start H1.o;have a6:=A1 be
 have HN:X (a4D w w1 (V N 0 0) 0 (F5 (D0 (.ok st) (C3 f 1)))):=by
  intro st1 e
  have hp:st1.p=[]:=by
   cases hr:C3 f 1 st with
   |error er=>rw[show D0 (Except.ok st) (C3 f 1)= .error er from hr]at e;cases e
   |ok q=>
    obtain⟨a,st2⟩:=q;rw[show D0 (Except.ok st) (C3 f 1)= .ok (a,st2)from hr]at e;cases e;rw[(T4 hr).1];exact H0.o
  rw[hp];exact⟨rfl,lr _ _ _ _⟩
 obtain⟨s1,aq⟩:=Oe (F5 (D0 (.ok st) (C3 f 1)))
 rw[<-aq]at a2 M1 HN;clear aq be H1;go_wp2_with fail
 go_loopw [3] (λi wr=>∃(k:Nat) (xs:List Unit) (s2:Except Er St) (pv:la),i= J I k/\k<=n/\L9 f 1 (L5 f) (.ok st) n k xs s2/\E7 wr b f pv s2/\a4D w wr pv k s2/\w.grownBy wr (O b)) (λi _=>n-(le i).toNat)
 case atStart=>exact⟨0,[],s1,_,rfl,li _,M1.o,a2.o,HN.o,a6.o⟩
 case round=>
  clear a2 M1 HN a6;obtain⟨k,xs,s2,pv,rfl,hk,ap,bd,bi,bg⟩:=hrel;have HM:=A1 ap;have HE:=A1 bd;have HN:=A1 bi;have HG:=A1 bg;clear ap bd bi bg;cases s2 with
  |error er=>
   obtain⟨c4,bm⟩:=HE.o.err;go_wp2_with fail
   all_goals
    go_end0;exact⟨rfl,HG.o,pv,by rw[show D8 f 1 (L5 f) st= .error er from HM.o];exact HE.o⟩
  |ok st2=>
   obtain⟨-,c1,-,-,c4,-,-,-,-,-,-⟩:=HE.o.2.cells0;by_cases hlt:k<n
   ·have hn:n<256:=by obtain⟨st1,h1,-⟩:=HM.o;exact(a3i h1).1
    go_wp2_with (go_at_call 114;refine K4.bind (p8 wr b f pv (.ok st2) 1 HE Oo) ?_)
    rintro m v w3 H3 rfl ao ax;try dsimp only
    have aj:=A1 (A0 HG.o ax)
    have av:X (a4D w w3 pv k (.ok st2)):=by
     intro T e;obtain⟨h1,h2⟩:=HN.o T e;exact⟨h1,lb.kept h2 ax (.inr (F9 h2 ad))⟩
    clear ax c1 c4 HG HN HE;cases hr:C3 f 1 st2 with
    |error er=>
     have L:X (E7 w3 b f pv (.error er)):=by
      have:=ao.o;rw[show D0 (Except.ok st2) (C3 f 1)= .error er from hr]at this;exact this
     have au:X (L9 f 1 (L5 f) (.ok st) n (k+1) (xs++ [()]) (.error er)):=HM.o.step hlt (by
      have e:D0 (Except.ok st2) (L5 f)= .error er:=a7A (by simp only[l7,hr]);unfold D6;rw[e];exact⟨(λ_ _ e=>by cases e),rfl⟩)
     clear hr ao H3;obtain⟨c4,bm⟩:=L.o.err
     obtain⟨c1,c0⟩:(∃a:Nat,w3.cell? (A b 1 N)=O (J I a))/\w3.cell? (A b 0 N)=O (Z f):=by
      obtain⟨h1,a,names,t,h2⟩:=L.o;exact⟨⟨a,h2.cells.2.1⟩,h2.cells.1⟩
     obtain⟨a1,c1⟩:=c1;have cd:((er.1:Int)==0)=false:=by simpa using bm
     go_wp2_with fail
     go_quiet (fail)
     have bb:X (E7 (w3.drewN nq) b f pv (.error er)):=L.o.keep0 (F4 _ _ _);go_wp2_with fail
     all_goals
      go_end0;exact⟨rfl,A0 aj.o (F4 _ _ _),pv,by rw[show D8 f 1 (L5 f) st= .error er from au.o];exact bb.o⟩
    |ok q=>
     obtain⟨m',d⟩:=q;have hm:=H3.o m' d hr;subst hm;have HR:=A1 hr
     have L:X (E7 w3 b f pv (.ok d)):=by
      have:=ao.o;rw[show D0 (Except.ok st2) (C3 f 1)= .ok (m',d)from hr]at this;exact this
     have bv:m'<256:=(T4 hr).2;have ag:X (d.p=st2.p):=by unfold X;rw[(T4 hr).1]
     have b1:=L.o.1.t;have b':=L.o.1.fits;clear hr ao H3;obtain⟨c0,c1,c2,-,c4,-,f1,f2,-,-,-⟩:=L.o.2.cells0;by_cases hfit:d.t+m'<=f.size
     ·go_wp2_with fail
      go_quiet (fail)
      have ab:X (E7 (w3.drewN nq) b f pv (.ok d)):=L.o.keep0 (F4 _ _ _);have ar:X (w.grownBy (w3.drewN nq) (O b)):=A0 aj.o (F4 _ _ _);have ak:X (a4D w (w3.drewN nq) pv k (.ok st2)):=λT e=>⟨(av.o T e).1,lb.kept (av.o T e).2 (F4 _ _ N) (by cases pv.ownBlock<;>simp)⟩
      generalize w3.drewN nq=w4 at ab ar ak⊢;clear L aj av c0 c1 c2 c4 f1 f2;obtain⟨c0,c1,c2,-,c4,-,f1,f2,-,-,-⟩:=ab.o.2.cells0;go_wp2_with fail
      go_quiet (fail)
      have M:X (E7 (w4.drewN nq) b f pv (.ok d)):=ab.o.keep0 (F4 _ _ _);have ae:X (w.grownBy (w4.drewN nq) (O b)):=A0 ar.o (F4 _ _ _);have al:X (a4D w (w4.drewN nq) pv k (.ok st2)):=λT e=>⟨(ak.o T e).1,lb.kept (ak.o T e).2 (F4 _ _ N) (by cases pv.ownBlock<;>simp)⟩
      generalize w4.drewN nq=w5 at M ae al⊢;clear ab ar ak c0 c1 c2 c4 f1 f2;obtain⟨c0,c1,c2,-,c4,-,f1,f2,-,-,-⟩:=M.o.2.cells0;obtain⟨nm,an⟩:=Oe (f.extract d.t (d.t+m'))
      rw[<-an];have a':=A1 an;have bw:nm.size<=2048:=by rw[an];simp;omega
      clear an;go_wp2_with (go_at_call 173;refine(b0T nm _ bw).mono ?_)
      rintro e w6 ⟨rfl,ai⟩;try dsimp only
      rw[show((d.t:Int)+(m':Int))=((d.t+m':Nat):Int)by omega]at ai
      have bc:X (E7 w6 b f pv (.ok {d with t:=d.t+m'})):=by
       rw[<-ai];exact⟨⟨M.o.1.fits,hfit,M.o.1.u,M.o.1.p⟩,M.o.2.setAt _ hfit⟩
      have bo:X (w.grownBy w6 (O b)):=by rw[<-ai];exact A0 ae.o (A6 _ (A b 1 N) _)
      have HL:=A1 ((al.o st2 rfl).1)
      have aw:X (w6.ownsRow w.heap.size 9 1 pv st2.p.length (st2.p.map Value.string)):=by
       rw[<-ai];have:=(al.o st2 rfl).2;exact this.kept (A6 _ (A b 1 N) _) (.inr (F9 this ad))
      clear M ae al ai c0 c1 c2 c4 f1 f2;obtain⟨-,-,c2,-,-,-,-,f2,-,-,-⟩:=bc.o.2.cells0;obtain⟨a0,k0,rfl⟩:=F7 aw.o
      have HC:X (∀j,j<st2.p.length->∃g,a0=O (A g 0 N)/\w6.cell? (A g j N)=O (Z (st2.p.getD j lx))):=by
       intro j hj;rcases a4z aw.o with⟨-,h2⟩|⟨g,br,h1,-,hc⟩
       ·rw[h2]at hj;cases hj
       ·exact⟨g,by injection h1,hc j hj⟩
      have cb:st2.p.length<256:=by have:=HL.o;omega
      obtain⟨o0,az⟩:=Oe (L7 nm)
      rw[<-az];have bp:=A1 az;clear az;go_wp2_with fail
      go_loopw [7,8] (λo i wr=>∃j:Nat,j<=st2.p.length/\i= J I j/\o= .bool (o0&& !(st2.p.take j).contains nm)/\w6.grownBy wr N) (λ_ i _=>st2.p.length-(le i).toNat)
      case atStart=>exact⟨0,li _,rfl,by simp,C9 _ _⟩
      case round=>
       obtain⟨j,hj,rfl,rfl,am⟩:=hrel;have HW:=A1 am;have ac:=A1 (bc.o.keep0 am);have af:=A1 (lb.kept aw.o am (by cases (Value.slice a0 st2.p.length k0).ownBlock<;>simp));clear am c2 f2;obtain⟨-,-,c2,-,-,-,-,f2,-,-,-⟩:=ac.o.2.cells0;by_cases hjl:j<st2.p.length
       ·obtain⟨g,rfl,-⟩:=HC.o j hjl
        have b5:wr.cell? (A g j N)=O (Z (st2.p.getD j lx)):=by
         rcases a4z af.o with⟨h2,-⟩|⟨g',br,h1,-,hc⟩
         ·cases h2
         ·cases h1;exact hc j hjl
        obtain⟨o1,aa⟩:=Oe ((o0&& !(st2.p.take j).contains nm))
        rw[<-aa];have HO1:=A1 aa;clear aa;cases o1
        ·exact c7a
        ·exact c7a
       ·have bh:j=st2.p.length:=by omega
        obtain⟨o1,aa⟩:=Oe ((o0&& !(st2.p.take j).contains nm))
        rw[<-aa]
        have HO1:X (o1=(L7 nm&& !st2.p.contains nm)):=by
         unfold X;rw[aa,bh,List.take_length,bp.o]
        clear aa bh;obtain⟨i,hi,bj,bk,bl⟩:=ls a7m;have W:=F9 af.o ad;have b4:=ac.o.lt;have a4:=A1 (L8 bo.o HW.o);have cc:=a4.o.size;cases o1
        ·go_wp2_with (first
          |(go_at_call 115
            refine(a1f _ b f _ _ 4 st2.t ac Oo).mono ?_;rintro e w7 ⟨rfl,ay,ah⟩;have ba:=A1 (lb.kept af.o ay (.inr W));have a7:=A1 (A0 a4.o ay);have bn:X (∃a names t,Ey w7 b f (V a0 st2.p.length k0) a names t (4:Nat) st2.t):=ah.2;have b3:=E7.lt ah;have bz:=a7.o.size;have d2:w7.cell? (A b 2 N)=O (V a0 st2.p.length k0):=by obtain⟨a,names,t,hE⟩:=ah.2;exact hE.cells.2.2.1
            have e2:w7.frozen? (A b 2 N)=false:=by obtain⟨a,names,t,hE⟩:=ah.2;exact hE.blk.frozen 2
            clear ah ay;try dsimp only)
          |(at_builtin
            go_loud (refine ln _ rfl _ _ 22 rfl w.heap.size 9 i _ 1 16 underlying22 hi bj bk bl rfl Od _ st2.p.length (st2.p.map Value.string) rfl (lb.alloc ba.o _) (A w7.heap.size 0 N) 1 1 [Z nm] rfl rfl (O8 w7 [Z nm] 9) (by simp[Value.oneCell']) (a0S rfl Oo) Oo Oi ?_)))
         intro v' w8 K y _;obtain⟨a5,k5,rfl⟩:=F7 K;have S:=A0 (A2 w7 (H #[Z nm] 9) _) y
         have D:w8.ownsRow w.heap.size 9 1 (V a5 (st2.p.length+1) k5) (st2.p++ [nm]).length ((st2.p++ [nm]).map Value.string):=by
          simpa using K
         have F:(st2.p++ [nm]).length<=255:=by have:=HL.o;simp;omega
         have HS8:X (E7 (w8.setCell (A b 2 N) (V a5 (st2.p.length+1) k5)) b f (V a5 (st2.p.length+1) k5) (.error (4,st2.t))):=by
          obtain⟨a,names,t,hE⟩:=bn.o;exact⟨by simp,a,_,t,hE.setNames (A2 _ _ _) y W D ad F⟩
         have HG8:=A1 (C6 a7.o S (λg hg=> .inl (K7 ba.o hg).1));have HN8:X (a4D w (w8.setCell (A b 2 N) (V a5 (st2.p.length+1) k5)) (V a5 (st2.p.length+1) k5) (k+1) (.error (4,st2.t))):=λT e=>by cases e
         have HM8:X (L9 f 1 (L5 f) (.ok st) n (k+1) (xs++ [()]) (.error (4,st2.t))):=HM.o.step hlt (by
          have e:D0 (Except.ok st2) (L5 f)= .error (4,st2.t):=a7A (by simp only[l7,HR.o,hfit,if_true,<-a'.o,<-HO1.o,Bool.false_eq_true,if_false]);unfold D6;rw[e];exact⟨(λ_ _ e=>by cases e),rfl⟩)
         have bq:=(S.cell_far (A b 2 N) Oi (λe=>W e.symm)).trans d2;have bt:=(S.frozen_far (A b 2 N) Oi (λe=>W e.symm)).trans e2;clear K D y S c2 f2 F d2 e2;go_wp2_with fail
         go_roundw
         case rel=>exact c7i
         case measure=>simp[le];omega
        ·go_wp2_with (at_builtin;go_loud (refine ln _ rfl _ _ 22 rfl w.heap.size 9 i _ 1 16 underlying22 hi bj bk bl rfl Od _ st2.p.length (st2.p.map Value.string) rfl (lb.alloc af.o _) (A wr.heap.size 0 N) 1 1 [Z nm] rfl rfl (O8 wr [Z nm] 9) (by simp[Value.oneCell']) (a0S rfl Oo) Oo Oi ?_))
         intro v' w8 K y _;obtain⟨a5,k5,rfl⟩:=F7 K;have S:=A0 (A2 wr (H #[Z nm] 9) _) y
         have D:w8.ownsRow w.heap.size 9 1 (V a5 (st2.p.length+1) k5) (d.p++ [nm]).length ((d.p++ [nm]).map Value.string):=by
          rw[ag.o];simpa using K
         have bx:d.p.length=k:=by rw[ag.o];exact HL.o
         have F:(d.p++ [nm]).length<=255:=by rw[ag.o];have:=HL.o;simp;omega
         have HS8:X (E7 (w8.setCell (A b 2 N) (V a5 (st2.p.length+1) k5)) b f (V a5 (st2.p.length+1) k5) (.ok {d with t:=d.t+m',p:=d.p++ [nm]})):=
          ⟨⟨ac.o.1.fits,hfit,by have:d.u<=d.p.length:=ac.o.1.u;simp;omega,by simp;omega⟩,ac.o.2.setNames (A2 _ _ _) y W D ad F⟩
         have HG8:=A1 (C6 a4.o S (λg hg=> .inl (K7 af.o hg).1))
         have HN8:X (a4D w (w8.setCell (A b 2 N) (V a5 (st2.p.length+1) k5)) (V a5 (st2.p.length+1) k5) (k+1) (.ok {d with t:=d.t+m',p:=d.p++ [nm]})):=by
          intro T e;cases e;exact⟨by simp;omega,D.kept (A6 w8 (A b 2 N) _) (.inr (F9 D ad))⟩
         have HM8:X (L9 f 1 (L5 f) (.ok st) n (k+1) (xs++ [()]) (.ok {d with t:=d.t+m',p:=d.p++ [nm]})):=HM.o.step hlt (by
          have e:D0 (Except.ok st2) (L5 f)= .ok ((),{d with t:=d.t+m',p:=d.p++ [nm]}):=b3A (st1:={d with t:=d.t+m'}) (by simp only[l7,HR.o,hfit,if_true,<-a'.o,<-HO1.o]);unfold D6;rw[e];exact⟨(λ_ _ e=>by cases e;rfl),rfl⟩)
         have bq:=(S.cell_far (A b 2 N) Oi (λe=>W e.symm)).trans c2;have bt:=(S.frozen_far (A b 2 N) Oi (λe=>W e.symm)).trans f2;clear K D y S c2 f2 F bx;go_wp2_with fail
         go_roundw
         case rel=>exact c7i
         case measure=>simp[le];omega
     ·go_wp2_with fail
      go_quiet (fail)
      have ab:X (E7 (w3.drewN nq) b f pv (.ok d)):=L.o.keep0 (F4 _ _ _);go_wp2_with (go_at_call 115;refine(a1f _ b f pv _ 2 f.size ab Oo).mono ?_)
      rintro e w4 ⟨rfl,bf,a3⟩;try dsimp only
      have M:X (E7 w4 b f pv (.error (2,f.size))):=a3;have ae:=A1 (A0 (A0 aj.o (F4 _ _ _)) bf)
      have au:X (L9 f 1 (L5 f) (.ok st) n (k+1) (xs++ [()]) (.error (2,f.size))):=HM.o.step hlt (by
       have e:D0 (Except.ok st2) (L5 f)= .error (2,f.size):=a7A (by simp only[l7,HR.o,hfit,if_false]);unfold D6;rw[e];exact⟨(λ_ _ e=>by cases e),rfl⟩)
      obtain⟨b0,-⟩:=a3.err;clear bf a3 c0 c1 c2 c4 f1 f2;go_wp2_with fail
      go_end0;exact⟨rfl,ae.o,pv,by rw[show D8 f 1 (L5 f) st= .error (2,f.size)from au.o];exact M.o⟩
   ·go_wp2_with fail
    go_end0;have bu:k=n:=by omega
    subst bu;have:=(L9.done HM.o).2;exact⟨rfl,HG.o,pv,by rw[show F5 (D8 f 1 (L5 f) st)= .ok st2 from this];exact HE.o⟩
def a2r(f:ByteArray):St->R Cl:=λst=>E3 (K9 f 87 0 st) λ_ st1=>E3 (K9 f 49 1 st1) λ_ st2=>E3 (D8 f 1 (L5 f) st2) λ_ st3=>E3 (cls f st3) λc st4=>E3 (a3a f st4) λ_ st5=> .ok (c,st5)
def a7E{α:Type}(r:R α):Except Er α:=match r with| .ok (a,_)=> .ok a| .error er=> .error er
theorem b2n(y:¬2048<f.size):I9 f=a7E (a2r f ⟨0,0,[]⟩):=by
 simp only[I9,y,if_false,a2r];cases K9 f 87 0 ⟨0,0,[]⟩with
 |error er=>rfl
 |ok q=>
  obtain⟨u,st1⟩:=q;dsimp only[E3];cases K9 f 49 1 st1 with
  |error er=>rfl
  |ok q=>
   obtain⟨u,st2⟩:=q;dsimp only;cases D8 f 1 (L5 f) st2 with
   |error er=>rfl
   |ok q=>
    obtain⟨D,j⟩:=q;dsimp only;cases cls f j with
    |error er=>rfl
    |ok q=>
     obtain⟨c,d⟩:=q;dsimp only[a3a];by_cases h1:d.u<d.p.length
     ·simp only[h1,if_true,a7E]
     ·by_cases h2:d.t<f.size
      ·simp only[h1,h2,if_true,if_false,a7E]
      ·simp only[h1,h2,if_false,a7E]
theorem a9a(f:ByteArray):cls f=λst=>E3 (name f st) λn st1=>E3 (name f st1) λy st2=>E3 (D8 f 1 (a0c f) st2) λfs d=>E3 (D8 f 1 (meth f) d) λms j=> .ok (⟨n,y,fs,ms⟩,j):=by
 funext st
 unfold cls E3;cases name f st with
 |error er=>rfl
 |ok q=>
  obtain⟨n,st1⟩:=q;dsimp only;cases name f st1 with
  |error er=>rfl
  |ok q=>
   obtain⟨y,st2⟩:=q;dsimp only;cases D8 f 1 (a0c f) st2 with
   |error er=>rfl
   |ok q=>
    obtain⟨fs,d⟩:=q;dsimp only;cases D8 f 1 (meth f) d<;>rfl
variable {s s1 s2 s3 s4:Except Er St}
theorem b9L{d:ByteArray}{fs:List V3}{ms:List Me}(j:D6 s (name f) n s1)(y:D6 s1 (name f) d s2)(D:D6 s2 (D8 f 1 (a0c f)) fs s3)(F:D6 s3 (D8 f 1 (meth f)) ms s4):D6 s (cls f) ⟨n,d,fs,ms⟩ s4:=by
 rw[a9a];exact j.then (y.then (D.then (F.then (D6.pure _ _))))
variable {c:Cl}
theorem b1d{d:Except Er St}{xs:List Unit}(j:D6 s (K9 f 87 0) () s1)(y:D6 s1 (K9 f 49 1) () s2)(D:D6 s2 (D8 f 1 (L5 f)) xs s3)(F:D6 s3 (cls f) c s4)(K:D6 s4 (a3a f) () d):D6 s (a2r f) c d:=by
 unfold a2r;exact j.then (y.then (D.then (F.then (K.then (D6.pure _ _)))))
theorem a8r(f:ByteArray):a0c f=λst=>E3 (name f st) λn st1=>E3 (kind f st1) λt st2=> .ok (⟨n,t⟩,st2):=by
 funext st
 unfold a0c E3;cases name f st with
 |error er=>rfl
 |ok q=>
  obtain⟨n,st1⟩:=q;dsimp only;cases kind f st1<;>rfl
theorem b6T{t:Ty}(d:D6 s (name f) n s1)(j:D6 s1 (kind f) t s2):D6 s (a0c f) ⟨n,t⟩ s2:=by
 rw[a8r];exact d.then (j.then (D6.pure _ _))
theorem b9t(D:¬2048<f.size){d:St}(h:D6 (.ok ⟨0,0,[]⟩) (a2r f) c (.ok d)):I9 f= .ok c:=by
 rw[b2n D];have y:F5 (a2r f ⟨0,0,[]⟩)= .ok d:=h.2;have F:∀j st,a2r f ⟨0,0,[]⟩= .ok (j,st)->j=c:=h.1
 cases hr:a2r f ⟨0,0,[]⟩with
 |error er=>rw[hr]at y;cases y
 |ok q=>obtain⟨a,st⟩:=q;rw[F a st hr];rfl
theorem b7R(j:¬2048<f.size){er:Er}(h:D6 (.ok ⟨0,0,[]⟩) (a2r f) c (.error er)):I9 f= .error er:=by
 rw[b2n j];have d:F5 (a2r f ⟨0,0,[]⟩)= .error er:=h.2;cases hr:a2r f ⟨0,0,[]⟩with
 |error er'=>rw[hr]at d;cases d;rfl
 |ok q=>obtain⟨a,st⟩:=q;rw[hr]at d;cases d
namespace Cf
def i0:In:=⟨0,0,D4,D4⟩
def A5(m:Me)(at_:Nat):In:=m.c.getD at_ i0
def a1h(op:Nat):Bool:=op==12||op==20||op==30
def K8(l:List Cl)(m:Me)(i:In):Bool:=
 if i.o=2\/i.o=3 then decide (i.a<m.l)
 else if 12<=i.o/\i.o<=15 then decide (i.a<m.c.length)
 else if i.o=16\/i.o=22\/i.o=28\/i.o=29 then E9 l i.c
 else if i.o=17\/i.o=18 then(O0 l i.c i.m).isSome
 else if i.o=19 then(L6 l i.c i.m).isSome
 else true
def p9(l:List Cl)(m:Me)(at_:Nat):Bool:= !K8 l m (A5 m at_)||(decide (at_+1=m.c.length)&& !a1h (A5 m at_).o)
def a0Z(l:List Cl)(m:Me)(h:Hd):Bool:=decide (h.to<=h.f)||decide (m.c.length<h.to)||decide (m.c.length<=h.t)|| !G5 l h.c G6
def e8(l:List Cl)(m:Me):Option Nat:=
 if m.c.length=0\/m.l<1+m.p.length then O 0
 else match a0T (p9 l m) m.c.length with
  |some at_=>O at_
  |none=>(m.h.find? (a0Z l m)).map (·.f)
def O2(l:List Cl)(i:In):Me:=match L6 l i.c i.m with|some p=>V0 l p|none=>G3
def Z3(l:List Cl)(i:In):Ty:=match O0 l i.c i.m with|some p=>((cl l p.1).f.getD p.2 o7).ty|none=>A8
def Z2(t:Ty):List Ty:=if t.k=0 then []else [t]
def E5(l:List Cl)(m:Me)(i:In):List Ty:=
 if i.o=3\/i.o=4\/i.o=5 then [A8]
 else if i.o=6 then [A8,A8]
 else if(7<=i.o/\i.o<=11)\/i.o=14 then [O4,O4]
 else if i.o=13\/i.o=21\/i.o=22\/i.o=31 then [O4]
 else if i.o=15 then [C5 D5,C5 D5]
 else if i.o=17 then [C5 i.c]
 else if i.o=18 then [C5 i.c,Z3 l i]
 else if i.o=19 then C5 i.c::(O2 l i).p
 else if i.o=20 then Z2 m.r
 else if i.o=23\/i.o=28\/i.o=29 then [C5 D5]
 else if i.o=24 then [⟨3,D4⟩,O4]
 else if i.o=25 then [⟨3,D4⟩,O4,O4]
 else if i.o=26 then [C5 D5,O4]
 else if i.o=27 then [C5 D5,O4,C5 D5]
 else if i.o=30 then [C5 G6]
 else []
def C7(l:List Cl)(i:In):List Ty:=
 if i.o=0\/(7<=i.o/\i.o<=11)\/i.o=23\/i.o=24\/i.o=29 then [O4]
 else if i.o=1 then [a0X]
 else if i.o=2\/i.o=26 then [A8]
 else if i.o=5\/i.o=6 then [A8,A8]
 else if i.o=16\/i.o=28 then [C5 i.c]
 else if i.o=17 then [Z3 l i]
 else if i.o=19 then Z2 (O2 l i).r
 else if i.o=21 then [⟨3,D4⟩]
 else if i.o=22 then [⟨4,i.c⟩]
 else []
def D7(l:List Cl)(m:Me)(i:In):Nat:=(E5 l m i).length
def I5(l:List Cl)(i:In):Nat:=(C7 l i).length
def E6(i:In)(at_:Nat):List Nat:=
 if i.o=20\/i.o=30 then []else if i.o=12 then [i.a.toNat]else if 13<=i.o/\i.o<=15 then [at_+1,i.a.toNat]else [at_+1]
def G0(h:Hd)(at_:Nat):Bool:=decide (h.f<=at_)&&decide (at_<h.to)
def N5(l:List Cl)(m:Me)(at_ h:Nat):Bool:=decide (D7 l m (A5 m at_)<=h)&&decide (h-D7 l m (A5 m at_)+I5 l (A5 m at_)<=m.s)
def a0m(l:List Cl)(m:Me)(at_ h:Nat):Nat:=h-D7 l m (A5 m at_)+I5 l (A5 m at_)
def X6(l:List Cl)(m:Me)(at_ h:Nat):List (Nat×Nat):=
 (if m.s=0 then []else(m.h.filter λd=>G0 d at_).map λd=>(d.t,1))++
 (if N5 l m at_ h then(E6 (A5 m at_) at_).map λn=>(n,a0m l m at_ h)else [])
def a9z(l:List Cl)(m:Me)(S:Nat->Nat->Prop):Prop:=S 0 0/\∀at_ h,S at_ h->∀p∈X6 l m at_ h,S p.1 p.2
def G2(l:List Cl)(m:Me)(at_ h:Nat):Prop:=∀S,a9z l m S->S at_ h
theorem a1c(l:List Cl)(m:Me):a9z l m (G2 l m):=
 ⟨λ_ d=>d.1,λat_ h y p j S d=>d.2 at_ h (y S d) p j⟩
variable {l:List Cl}{m:Me}{at_ ht:Nat}
theorem a4T{S:Nat->Nat->Prop}(d:a9z l m S){h:Nat}(j:G2 l m at_ h):S at_ h:=j S d
structure N2(l0:List Cl)(m:Me):Prop where
 some_:0<m.c.length
 l:1+m.p.length<=m.l
 need:∀at_,at_<m.c.length->K8 l0 m (A5 m at_)=true
 last:∀at_,at_+1=m.c.length->a1h (A5 m at_).o=true
 hds:∀d∈m.h,d.f<d.to/\d.to<=m.c.length/\d.t<m.c.length/\G5 l0 d.c G6=true
theorem b2o(h:e8 l m=N):N2 l m:=by
 unfold e8 at h;split at h
 ·cases h
 ·rename_i h0;split at h
  ·cases h
  ·rename_i h1;have j:=a6C h1;rw[Option.map_eq_none_iff]at h;have y:=List.find?_eq_none.1 h;refine⟨by omega,by omega,λa ha=> ?_,λa ha=> ?_,λd hd=> ?_⟩
   ·have:=j a ha;unfold p9 at this;simp only[nv,nk]at this;exact this.1
   ·have:=j a Oo;unfold p9 at this;simp only[nv,ha,decide_true,Bool.true_and,nk]at this;exact this.2
   ·have:=y d hd;unfold a0Z at this;simp only[Bool.or_eq_true,decide_eq_true_eq,nj,not_or,Nat.not_le,Bool.not_eq_false]at this;exact⟨this.1.1.1,by omega,this.1.2,this.2⟩
def R7(i:In):Prop:=i.o<32/\(i.o≠0->0<=i.a)
theorem a9u(h:N2 l m)(hi:∀i∈m.c,R7 i)(ha:at_<m.c.length):∀n∈E6 (A5 m at_) at_,n<m.c.length:=by
 intro n y;have K:A5 m at_∈m.c:=by unfold A5;simp[ha]
 have hok:=hi _ K;have d:=h.need at_ ha;have D:=h.last at_;unfold E6 at y;unfold K8 at d
 have j:a1h (A5 m at_).o=false->at_+1<m.c.length:=λF=>by
  by_cases e:at_+1=m.c.length
  ·rw[D e]at F;cases F
  ·omega
 split at y
 ·cases y
 ·split at y
  ·rename_i h12;rw[if_neg Oo,if_pos Oo]at d;have:=of_decide_eq_true d;have:=hok.2 Oo;simp only[ng]at y;omega
  ·split at y
   ·rename_i h13;rw[if_neg Oo,if_pos Oo]at d;have:=of_decide_eq_true d;have:=hok.2 Oo;have:=j (by simp[a1h];omega);simp only[nw,List.not_mem_nil,or_false]at y;omega
   ·rename_i h1 h2 h3;have:=j (by simp[a1h];omega);simp only[ng]at y;omega
theorem b9F(h:N2 l m)(hi:∀i∈m.c,R7 i)(ha:at_<m.c.length):∀p∈X6 l m at_ ht,p.1<m.c.length/\p.2<=m.s:=by
 intro p j;unfold X6 at j;rcases no.1 j with j|j
 ·split at j
  ·cases j
  ·obtain⟨d,hd,rfl⟩:=ni.1 j;exact⟨(h.hds d (List.mem_filter.1 hd).1).2.2.1,by simp only;omega⟩
 ·split at j
  ·rename_i hr;obtain⟨n,y,rfl⟩:=ni.1 j;simp only[N5,nd,decide_eq_true_eq]at hr;exact⟨a9u h hi ha n y,hr.2⟩
  ·cases j
theorem l5(h:N2 l m)(hi:∀i∈m.c,R7 i)(y:G2 l m at_ ht):at_<m.c.length/\ht<=m.s:=
 a4T (S:=λa b=>a<m.c.length/\b<=m.s) ⟨⟨h.some_,li _⟩,λa b d p j=>b9F h hi d.1 p j⟩ y
def a0F(l:List Cl)(m:Me)(at_:Nat):Prop:=
 (∃h,G2 l m at_ h/\N5 l m at_ h=false)\/((∃d∈m.h,G0 d at_=true)/\(∃h,G2 l m at_ h)/\m.s=0)\/∃h k,h≠k/\G2 l m at_ h/\G2 l m at_ k
def a1R(l:List Cl)(m:Me):Option Nat->Prop
 |some a=>a<m.c.length/\a0F l m a/\∀j,j<a->¬a0F l m j
 |none=>∀j,j<m.c.length->¬a0F l m j
theorem b5k{a b:Option Nat}(ha:a1R l m a)(d:a1R l m b):a=b:=by
 cases a with
 |none=>
  cases b with
  |none=>rfl
  |some b=>exact absurd d.2.1 (ha b d.1)
 |some a=>
  cases b with
  |none=>exact absurd ha.2.1 (d a ha.1)
  |some b=>
   rcases Nat.lt_trichotomy a b with h|h|h
   ·exact absurd ha.2.1 (d.2.2 a h)
   ·rw[h]
   ·exact absurd d.2.1 (ha.2.2 b h)
def a1G(t:Ty):Option Ty:=if t.k=4 then O (C5 t.n)else if t.k=5 then O a0X else N
def a1k(l:List Cl)(m:Me)(i:In)(stack:List Ty):List Ty:=stack.drop (stack.length-D7 l m i)
def a4E(l:List Cl)(m:Me)(i:In)(n:Nat):Bool:=decide (D7 l m i<=n)&&decide (n-D7 l m i+I5 l i<=m.s)
def T3(l:List Cl):List Ty->List Ty->Bool
 |a::xs,b::bs=>C4 l a b&&T3 l xs bs
 |_,_=>true
def V5(l:List Cl)(i:In)(taken:List Ty):Bool:=
 if i.o=3 then decide ((taken.getD 0 A8).k≠0)
 else if i.o=23 then decide ((taken.getD 0 A8).k≠2)
 else if i.o=26 then(a1G (taken.getD 0 A8)).isSome
 else if i.o=27 then match a1G (taken.getD 0 A8)with|none=>false|some e=>decide (e.k=5)||C4 l (taken.getD 2 A8) e
 else true
def Z5(l:List Cl)(m:Me)(i:In)(stack locals:List Ty):Bool:=
 a4E l m i stack.length&&(if i.o=2 then decide ((locals.getD i.a.toNat A8).k≠0)else T3 l (a1k l m i stack) (E5 l m i)&&V5 l i (a1k l m i stack))
end Cf
namespace Cf
def b4p(st:St):Prop:=∀n∈st.p,L7 n=true
variable {α:Type}
def a0e(p:St->R α)(Q:α->Prop):Prop:=∀st x st1,b4p st->p st= .ok (x,st1)->b4p st1/\Q x
theorem z9{β:Type}{p:St->R α}{m:α->St->R β}{P:α->Prop}{Q:β->Prop}(F:a0e p P)(D:∀a,P a->a0e (m a) Q):a0e (λst=>E3 (p st) m) Q:=λst x st1 d h=>by
 unfold E3 at h;cases hr:p st with
 |error er=>simp only[hr]at h;cases h
 |ok q=>
  obtain⟨a,s1⟩:=q;simp only[hr]at h;obtain⟨j,y⟩:=F st a s1 d hr;exact D a y s1 x st1 j h
theorem a4W{Q:α->Prop}{a:α}(h:Q a):a0e (λst=> .ok (a,st)) Q:=λst x st1 d e=>by cases e;exact⟨d,h⟩
theorem a3j(f:ByteArray)(k:Nat):a0e (C3 f k) (λn=>n<256^k):=λst x st1 d h=>by
 obtain⟨rfl,j⟩:=T4 h;exact⟨d,j⟩
theorem b3d{p:St->R α}{P:α->Prop}(y:a0e p P):∀n,a0e (E4 p n) (λl=>l.length=n/\∀x∈l,P x)
 |0=>λst x st1 d h=>by
  simp only[E4,Except.ok.injEq,Prod.mk.injEq]at h;obtain⟨rfl,rfl⟩:=h;exact⟨d,rfl,λx j=>by cases j⟩
 |n+1=>λst x st1 d h=>by
  simp only[E4]at h;cases hq:p st with
  |error er=>rw[hq]at h;cases h
  |ok q=>
   obtain⟨a,s1⟩:=q;rw[hq]at h;dsimp only at h;cases hr:E4 p n s1 with
   |error er=>rw[hr]at h;cases h
   |ok q=>
    obtain⟨S,s2⟩:=q;rw[hr]at h;simp only[Except.ok.injEq,Prod.mk.injEq]at h;obtain⟨rfl,rfl⟩:=h;obtain⟨D,F⟩:=y st a s1 d hq;obtain⟨K,L,M⟩:=b3d y n s1 S s2 D hr;exact⟨K,by simp[L],λx j=>(nw.1 j).elim (λe=>e▸F) (M x)⟩
theorem a4Y{p:St->R α}{P:α->Prop}(F:a0e p P)(f:ByteArray)(k:Nat):a0e (D8 f k p) (λl=>l.length<256^k/\∀x∈l,P x):=λst x st1 d h=>by
 unfold D8 at h;cases hn:C3 f k st with
 |error er=>rw[hn]at h;cases h
 |ok q=>
  obtain⟨n,s1⟩:=q;rw[hn]at h;dsimp only at h;obtain⟨j,K⟩:=a3j f k st n s1 d hn;obtain⟨y,L,D⟩:=b3d F n s1 x st1 j h;exact⟨y,by omega,D⟩
theorem a4X(f:ByteArray):a0e (name f) (λn=>L7 n=true):=λst x st1 d h=>by
 unfold name at h;cases hn:C3 f 1 st with
 |error er=>rw[hn]at h;cases h
 |ok q=>
  obtain⟨n,s1⟩:=q;rw[hn]at h;dsimp only at h;split at h
  ·rename_i hc;have hk:=(T4 hn).1;cases h;subst hk;refine⟨d,d _ ?_⟩;rw[nr,lu hc.2];exact ly hc.2
  ·cases h
theorem a8e(f:ByteArray)(b:Bool):a0e (Y8 f b) (λn=>if b then L7 n=true else n=lx):=by
 cases b with
 |true=>exact a4X f
 |false=>exact a4W (a:=lx) rfl
variable {n:ByteArray}
theorem c1O(h:L7 n=true):n≠D4:=λe=>by subst e;revert h;decide
theorem a8E(f:ByteArray):a0e (kind f) a1m:=by
 rw[a8D];refine z9 (a3j f 1) λk _=> ?_
 intro st x st1 j h;by_cases h4:4<k
 ·simp only[h4,if_true]at h;cases h
 ·simp only[h4,if_false]at h;refine z9 (a8e f (a1T k)) (λn d=> ?_) st x st1 j h;refine a4W ⟨by show k<=4;omega,?_,?_⟩
  ·show n=D4↔¬(k=2\/k=4);unfold a1T at d;by_cases hk:k=2\/k=4
   ·have:(k==2||k==4)=true:=by simpa using hk
    rw[this]at d;exact⟨λe=>absurd e (c1O d),λe=>absurd hk e⟩
   ·have:(k==2||k==4)=false:=by simpa using hk
    rw[this]at d;exact⟨λ_=>hk,λ_=>d⟩
  ·show n≠D4->L7 n=true;intro y;cases hb:a1T k with
   |true=>rw[hb]at d;exact d
   |false=>rw[hb]at d;exact absurd d y
structure a4M(i:In):Prop where
 o:i.o<32
 lo: -2147483648<=i.a
 hi:i.a<=2147483647
 nn:i.o≠0->0<=i.a/\i.a<65536
 c:i.c=D4\/L7 i.c=true
 m:i.m=D4\/L7 i.m=true
theorem a6T{b:Bool}(h:if b then L7 n=true else n=lx):n=D4\/L7 n=true:=by
 cases b with
 |true=>exact .inr h
 |false=>exact .inl h
theorem c0L(f:ByteArray):a0e (ins f) a4M:=λst x st1 W h=>by
 unfold ins at h;cases h1:C3 f 1 st with
 |error er=>rw[h1]at h;cases h
 |ok q=>
  obtain⟨d,s1⟩:=q;rw[h1]at h;dsimp only at h;by_cases h32:32<=d
  ·rw[if_pos h32]at h;cases h
  ·rw[if_neg h32]at h;obtain⟨M,-⟩:=a3j f 1 st d s1 W h1;cases h2:C3 f (P0 d) s1 with
   |error er=>rw[h2]at h;cases h
   |ok q=>
    obtain⟨n,s2⟩:=q;rw[h2]at h;dsimp only at h;obtain⟨S,y⟩:=a3j f (P0 d) s1 n s2 M h2;cases h3:Y8 f (a0I d) s2 with
    |error er=>rw[h3]at h;cases h
    |ok q=>
     obtain⟨c,s3⟩:=q;rw[h3]at h;dsimp only at h;obtain⟨T,F⟩:=a8e f _ s2 c s3 S h3;cases h4:Y8 f (a0V d) s3 with
     |error er=>rw[h4]at h;cases h
     |ok q=>
      obtain⟨m,s4⟩:=q;rw[h4]at h;obtain⟨D,L⟩:=a8e f _ s3 m s4 T h4;cases h
      have j:P0 d=4/\d=0\/(P0 d<=2/\d≠0):=by
       unfold P0;by_cases e0:d=0
       ·simp[e0]
       ·right;refine⟨?_,e0⟩;rw[if_neg e0];split<;>(try split)<;>omega
      rcases j with⟨j,K⟩|⟨j,K⟩
      ·rw[j]at y;have y:n<4294967296:=y;refine⟨D,by show d<32;omega,?_,?_,λh=>absurd K h,a6T F,a6T L⟩
       ·show-2147483648<=Y7 (P0 d) n;unfold Y7;split<;>omega
       ·show Y7 (P0 d) n<=2147483647;rw[j];unfold Y7;split<;>omega
      ·have h6:256^P0 d<=256^2:=Nat.pow_le_pow_right Oo j;have y:n<65536:=ns y h6;have hs:Y7 (P0 d) n=n:=by unfold Y7;rw[if_neg Oo]
       refine⟨D,by show d<32;omega,?_,?_,λ_=> ?_,a6T F,a6T L⟩
       ·show-2147483648<=Y7 (P0 d) n;rw[hs];omega
       ·show Y7 (P0 d) n<=2147483647;rw[hs];omega
       ·show 0<=Y7 (P0 d) n/\Y7 (P0 d) n<65536;rw[hs];omega
structure b4J(h:Hd):Prop where
 f:h.f<65536
 to:h.to<65536
 t:h.t<65536
 c:L7 h.c=true
theorem b5M(f:ByteArray):a0e (m8 f) b4J:=by
 rw[a8a];exact z9 (a3j f 2) λa ha=>z9 (a3j f 2) λb d=>z9 (a3j f 2) λc j=>z9 (a4X f) λn y=>a4W ⟨ha,d,j,y⟩
theorem b7D(f:ByteArray):a0e (a0c f) (λx=>L7 x.n=true/\a1m x.ty):=by
 rw[a8r];exact z9 (a4X f) λn d=>z9 (a8E f) λt ht=>a4W ⟨d,ht⟩
structure b0a(m:Me):Prop where
 n:L7 m.n=true
 p:∀p∈m.p,a1m p
 r:a1m m.r
 s:m.s<256
 l:m.l<256
 c:∀i∈m.c,a4M i
 h:∀h∈m.h,b4J h
 np:m.p.length<256
 nc:m.c.length<65536
 nh:m.h.length<256
theorem b8U(f:ByteArray):a0e (meth f) b0a:=by
 rw[a8A]
 exact z9 (a4X f) λn y=>z9 (a4Y (a8E f) f 1) λps d=>z9 (a8E f) λt ht=>z9 (a3j f 1) λs hs=>z9 (a3j f 1) λl j=>
  z9 (a4Y (c0L f) f 2) λis hi=>z9 (a4Y (b5M f) f 1) λD hh=>a4W ⟨y,d.2,ht,hs,j,hi.2,hh.2,d.1,hi.1,hh.1⟩
structure a0r(c:Cl):Prop where
 n:L7 c.n=true
 s:L7 c.s=true
 f:∀x∈c.f,L7 x.n=true/\a1m x.ty
 m:∀m∈c.m,b0a m
 nf:c.f.length<256
 nm:c.m.length<256
theorem c0M(f:ByteArray):a0e (cls f) a0r:=by
 rw[a9a];exact z9 (a4X f) λn y=>z9 (a4X f) λs hs=>z9 (a4Y (b7D f) f 1) λfs d=>z9 (a4Y (b8U f) f 1) λms j=>a4W ⟨y,hs,d.2,j.2,d.1,j.1⟩
theorem b8T(f:ByteArray):a0e (L5 f) (λ_=>True):=λst x st1 y h=>by
 unfold L5 at h;cases d:l7 f st with
 |error er=>rw[d]at h;cases h
 |ok q=>
  obtain⟨s,s1⟩:=q;rw[d]at h;cases h;unfold l7 at d;cases h1:C3 f 1 st with
  |error er=>rw[h1]at d;cases d
  |ok q=>
   obtain⟨k,s2⟩:=q;rw[h1]at d;dsimp only at d;obtain⟨rfl,-⟩:=T4 h1;split at d
   ·split at d
    ·rename_i hc;cases d;refine⟨λn d=> ?_,trivial⟩;rcases no.1 d with j|j
     ·exact y n j
     ·rw[ng.1 j];simp only[nd]at hc;exact hc.1
    ·cases d
   ·cases d
theorem b1q(f:ByteArray)(c i:Nat):a0e (K9 f c i) (λ_=>True):=λst x st1 d h=>by
 unfold K9 at h;cases h1:C3 f 1 st with
 |error er=>rw[h1]at h;cases h
 |ok q=>
  obtain⟨k,s2⟩:=q;rw[h1]at h;dsimp only at h;obtain⟨rfl,-⟩:=T4 h1;split at h
  ·cases h;exact⟨d,trivial⟩
  ·cases h
variable {c:Cl}
theorem b4m{f:ByteArray}(h:I9 f= .ok c):a0r c:=by
 unfold I9 at h;split at h
 ·cases h
 ·cases h1:K9 f 87 0 ⟨0,0,[]⟩with
  |error er=>rw[h1]at h;cases h
  |ok q=>
   obtain⟨u1,s1⟩:=q;rw[h1]at h;dsimp only at h;have d:=(b1q f 87 0 _ u1 s1 (λn F=>by cases F) h1).1;cases h2:K9 f 49 1 s1 with
   |error er=>rw[h2]at h;cases h
   |ok q=>
    obtain⟨u2,s2⟩:=q;rw[h2]at h;dsimp only at h;have j:=(b1q f 49 1 _ u2 s2 d h2).1;cases h3:D8 f 1 (L5 f) s2 with
    |error er=>rw[h3]at h;cases h
    |ok q=>
     obtain⟨u3,s3⟩:=q;rw[h3]at h;dsimp only at h;have y:=(a4Y (b8T f) f 1 _ u3 s3 j h3).1;cases h4:cls f s3 with
     |error er=>rw[h4]at h;cases h
     |ok q=>
      obtain⟨c4,s4⟩:=q;rw[h4]at h;dsimp only at h;have D:=(c0M f _ c4 s4 y h4).2;split at h
      ·cases h
      ·split at h
       ·cases h
       ·cases h;exact D
theorem a3L(h:L7 n=true):n.size<=12:=by
 unfold L7 at h;simp only[nd,decide_eq_true_eq]at h;exact h.1.2
theorem a9g{t:Ty}(h:a1m t):t.n.size<=12:=by
 by_cases e:t.n=D4
 ·rw[e];decide
 ·exact a3L (h.2.2 e)
theorem a0r.okCl(h:a0r c):a2z c:=⟨h.n,h.s,h.f,λm j=>⟨(h.m m j).n,(h.m m j).r,(h.m m j).p,λd hd=>((h.m m j).h d hd).c⟩⟩
end Cf
open Go.RowKit Go.Shelf Cf
namespace Kx
def LC(w:ld)(base:Nat)(q:Qs)(c:Cl):Prop:=F2 base 129 3 K3 w (V q.fa c.f.length q.fk) c.f/\o5 base w (V q.ma c.m.length q.mc) c.m
theorem LC.of{base:Nat}{w:ld}{v:la}{c:Cl}(h:a1J base w v c):∃q,v= .agg (G9 c q).toArray/\LC w base q c:=by
 obtain⟨d,F,j,K,rfl,y,D⟩:=h;exact⟨⟨d,F,j,K⟩,rfl,y,D⟩
section
variable{w w':World}{bs b2:Nat}{q:Qs}{c:Cl}
theorem LC.keep(h:LC w bs q c)(d:w.grownBy w' N):LC w' bs q c:=⟨h.1.keep d (λk e=>by cases e),h.2.keep d (λk e=>by cases e)⟩
theorem LC.lower(h:LC w bs q c)(j:b2<=bs):LC w b2 q c:=by
 refine⟨U6 h.1 j,?_⟩;obtain⟨d,y,D,F⟩:=h.2;exact⟨d,y,U6 D j,λi c m K L=>(F i c m K L).base j⟩
theorem LC.onto{v:la}{s n:Nat}{cs:List la}(h:LC w bs q c)(j:w.ownsRow b2 44 s v n cs)(d:w.grownBy w' v.ownBlock):LC w' bs q c:=by
 refine⟨lb.kept h.1 d (a1O h.1 j Od),?_⟩;obtain⟨y,W,M,h3⟩:=h.2;refine⟨y,W,M.kept d (a1O M j Od),λi c m D hm=> ?_⟩;obtain⟨pv,S,hv,D,F,K,L,T⟩:=h3 i c m D hm;exact⟨pv,S,hv,D,lb.kept F d (a1O F j Od),lb.kept K d (a1O K j Od),lb.kept L d (a1O L j Od),T⟩
theorem b4y:∀(d:List (List la)) (_:∀c∈d,c.length=8) (j:Nat) (y:j<d.length) (r:Nat) (_:r<8),d.flatten[j*8+r]? =d[j][r]?
 | [],_,_,y,_,_=>by cases y
 |x::l,h,0,_,r,hr=>by
  rw[nx,Nat.zero_mul,Nat.zero_add,List.getElem?_append_left (by rw[h x Os];exact hr)];rfl
 |x::l,h,j+1,y,r,hr=>by
  rw[nx,List.getElem?_append_right (by rw[h x Os];omega),h x Os,show(j+1)*8+r-8=j*8+r from by omega];exact b4y l (λc D=>h c (by simp[D])) j (by simpa using y) r hr
theorem LC.rd(h:LC w bs q c):C0 w w.heap.size 3 K3 q.fa c.f/\PM w w.heap.size q.ma c.m:=by
 refine⟨V7 b1s h.1,λj W=> ?_⟩;obtain⟨d,h1,S,T⟩:=h.2;have D:j<d.length:=by omega
 obtain⟨pv,cv,y,F,K,L,M,-⟩:=T j d[j] c.m[j] (lu D) (lu W);obtain⟨pa,pk,rfl⟩:=F7 K;obtain⟨ca,ck,rfl⟩:=F7 L;obtain⟨ha,hk,rfl⟩:=F7 M;obtain⟨g,aa,y,-,hg⟩:=S.form Oo;injection y with y _ _
 have e:c.m.getD j G3=c.m[j]:=by rw[nr,lu W];rfl
 rw[e];refine⟨(A g 0 N),pa,ca,ha,pk,ck,hk,y,hg,V7 (λ_=>rfl) K,V7 (λ_=>rfl) L,V7 (λ_=>rfl) M,λr u hu=> ?_⟩;have hr:r<8:=by have:=(List.getElem?_eq_some_iff.1 hu).1;simpa[mv]using this
 have h8:∀x∈d,x.length=8:=λx hx=>by
  obtain⟨i,hi,rfl⟩:=nl hx;obtain⟨pv,cv,y,F,-⟩:=T i d[i] c.m[i] (lu hi) (lu Oo);rw[F];rfl
 refine S.cells (g:=g) (by rw[y];rfl) (j*8+r) u ?_;rw[b4y d h8 j D r hr,F];exact hu
end
structure T9(w:World)(B:Nat)(v:Value)(fs:List Cl)(qf:Nat->Qs):Prop where
 own:w.ownsRow B 44 4 v fs.length ((List.range fs.length).flatMap (M6 fs qf))
 lc:∀i,i<fs.length->LC w B (qf i) (cl fs i)
theorem T9.nil(w:ld)(B:Nat)(qf:Nat->Qs):T9 w B (V N 0 0) [] qf:=⟨lr _ _ _ _,λi hi=>by cases hi⟩
variable {w w':World}{B:Nat}{v:Value}{fs:List Cl}{qf:Nat->Qs}
theorem T9.keep(h:T9 w B v fs qf)(d:w.grownBy w' N):T9 w' B v fs qf:=
 ⟨h.own.kept d (by cases v.ownBlock<;>simp),λi hi=>(h.lc i hi).keep d⟩
def a4e(qf:Nat->Qs)(n:Nat)(q:Qs)(i:Nat):Qs:=if i=n then q else qf i
variable {c:Cl}
theorem T9.push{j:la}{q:Qs}(h:T9 w B v fs qf)(y:LC w B q c)(D:w'.ownsRow B 44 4 j (fs.length+1) ((na fs.length).flatMap (M6 fs qf)++G9 c q))(d:w.grownBy w' v.ownBlock):
 T9 w' B j (fs++ [c]) (a4e qf fs.length q):=by
 refine⟨?_,λi hi=> ?_⟩
 ·rw[nt,ny,List.range_succ,List.flatMap_append]
  have e:(na fs.length).flatMap (M6 (fs++ [c]) (a4e qf fs.length q))=(na fs.length).flatMap (M6 fs qf):=by
   refine a5P (λi hi=> ?_);have:=List.mem_range.1 hi;unfold M6 a4e;rw[U0 this,if_neg Oo]
  rw[e];simp only[List.flatMap_cons,List.flatMap_nil,List.append_nil,M6,a6l,a4e,if_true];exact D
 ·rw[nt,ny]at hi;by_cases e:i=fs.length
  ·subst e;rw[a6l,a4e,if_pos rfl];exact y.onto h.own d
  ·rw[U0 Oo,a4e,if_neg e];exact(h.lc i Oo).onto h.own d
theorem a5w(h:a0r c):Okc c:=by
 have d:(12:Nat)<=nb:=by decide
 refine⟨lj (a3L h.n) d,lj (a3L h.s) d,λx y=> ?_,λx y=> ?_,by have:=h.nf;omega,by have:=h.nm;omega⟩
 ·obtain⟨f,j,rfl⟩:=ni.1 y;exact lj (a3L (h.f f j).1) d
 ·obtain⟨f,j,rfl⟩:=ni.1 y;exact lj (a3L (h.m f j).n) d
theorem c2J(h:a0r c):Szc c:=⟨by have:=h.nf;omega,by have:=h.nm;omega,λj d=>by
 have:=h.m _ (ly d);have a:=this.np;have b:=this.nh;omega⟩
theorem T9.gvn{a:Option ll}{k n:Nat}(h:T9 w B (V a n k) fs qf)(hok:∀c∈fs,a0r c)(y:fs.length<=12):Y3 w w.heap.size fs qf/\C0 w w.heap.size 4 (M6 fs qf) a (na fs.length):=by
 have d:∀i,i<fs.length->a0r (cl fs i):=λi hi=>by rw[V8 hi];exact hok _ (ly hi)
 refine⟨⟨λi hi=>(h.lc i hi).rd.1,λi hi=>(h.lc i hi).rd.2,λi hi=>c2J (d i hi),λi hi=>⟨(a5w (d i hi)).1,(a5w (d i hi)).2.1⟩,λi hi=>⟨(a5w (d i hi)).2.2.2.2.1,(a5w (d i hi)).2.2.2.2.2⟩,y⟩,?_⟩;obtain⟨F,K,j⟩:=F7 h.own;injection j with j D hk
 have:=h.own;rw[D]at this;exact V7 (a6f fs qf) (by simpa using this)
theorem c2I(hok:∀c∈fs,a0r c):SzL (B6++fs):=λi hi=>by
 by_cases h9:i<9
 ·rw[U0 h9];have:=a2k h9;refine⟨λj K=> ?_,λf F=> ?_,by rw[this.1];simp,by rw[this.2.1];simp⟩
  ·rw[this.2.1]at K;cases K
  ·rw[this.1]at F;cases F
 ·obtain⟨j,rfl⟩:∃j,i=9+j:=⟨i-9,by omega⟩
  rw[Y6];have K:j<fs.length:=by rw[nt,a9d]at hi;omega
  have D:a0r (cl fs j):=by rw[V8 K];exact hok _ (ly K)
  have y:(12:Nat)<=nb:=by decide
  refine⟨λk hk=> ?_,λf F=>⟨lj (a9g (D.f f F).2) y,lj (a3L (D.f f F).1) y⟩,by have:=D.nf;omega,by have:=D.nm;omega⟩
  have L:b0a ((cl fs j).m.getD k G3):=by
   rw[nr,lu hk];exact D.m _ (ly hk)
  exact⟨λt ht=>lj (a9g (L.p t ht)) y,λd hd=>lj (a3L (L.h d hd).c) y,lj (a9g L.r) y,by have:=L.np;omega,by have:=L.nh;omega⟩
end Kx
namespace Cf
variable {α:Type}
def a0f(p:St->R α):Prop:=∀st er,p st= .error er->0<er.1
theorem i9{β:Type}{p:St->R α}{m:α->St->R β}(j:a0f p)(d:∀a,a0f (m a)):a0f (λst=>E3 (p st) m):=λst er h=>by
 unfold E3 at h;cases hr:p st with
 |error e=>simp only[hr]at h;cases h;exact j st _ hr
 |ok q=>simp only[hr]at h;exact d q.1 q.2 er h
theorem a5a{a:α}:a0f (λst=> .ok (a,st)):=λst er h=>by cases h
theorem a1Q(f:ByteArray)(k:Nat):a0f (C3 f k):=λst er h=>by
 unfold C3 at h;split at h
 ·cases h
 ·cases h;show 0<2;omega
theorem b3i{p:St->R α}(d:a0f p):∀n,a0f (E4 p n)
 |0=>λst er h=>by simp only[E4]at h;cases h
 |n+1=>λst er h=>by
  simp only[E4]at h;cases hq:p st with
  |error e=>rw[hq]at h;cases h;exact d st _ hq
  |ok q=>
   rw[hq]at h;dsimp only at h;cases hr:E4 p n q.2 with
   |error e=>rw[hr]at h;cases h;exact b3i d n q.2 _ hr
   |ok q2=>rw[hr]at h;cases h
theorem a5c{p:St->R α}(d:a0f p)(f:ByteArray)(k:Nat):a0f (D8 f k p):=by
 rw[b2f];exact i9 (a1Q f k) λn=>b3i d n
theorem a5b(f:ByteArray):a0f (name f):=by
 rw[b2b];refine i9 (a1Q f 1) λn st er h=> ?_
 split at h
 ·cases h
 ·cases h;show 0<5;omega
theorem a8g(f:ByteArray)(b:Bool):a0f (Y8 f b):=by
 cases b with
 |true=>exact a5b f
 |false=>exact a5a (a:=lx)
theorem a8H(f:ByteArray):a0f (kind f):=by
 rw[a8D];refine i9 (a1Q f 1) λk st er h=> ?_
 by_cases h4:4<k
 ·simp only[h4,if_true]at h;cases h;show 0<3;omega
 ·simp only[h4,if_false]at h;exact i9 (a8g f _) (λn=>a5a) st er h
theorem c0V(f:ByteArray):a0f (ins f):=λst er h=>by
 unfold ins at h;cases h1:C3 f 1 st with
 |error e=>rw[h1]at h;cases h;exact a1Q f 1 st _ h1
 |ok q=>
  rw[h1]at h;dsimp only at h;split at h
  ·cases h;show 0<3;omega
  ·cases h2:C3 f (P0 q.1) q.2 with
   |error e=>rw[h2]at h;cases h;exact a1Q f _ _ _ h2
   |ok q2=>
    rw[h2]at h;dsimp only at h;cases h3:Y8 f (a0I q.1) q2.2 with
    |error e=>rw[h3]at h;cases h;exact a8g f _ _ _ h3
    |ok q3=>
     rw[h3]at h;dsimp only at h;cases h4:Y8 f (a0V q.1) q3.2 with
     |error e=>rw[h4]at h;cases h;exact a8g f _ _ _ h4
     |ok q4=>rw[h4]at h;cases h
theorem b5O(f:ByteArray):a0f (m8 f):=by
 rw[a8a];exact i9 (a1Q f 2) λa=>i9 (a1Q f 2) λb=>i9 (a1Q f 2) λc=>i9 (a5b f) λn=>a5a
theorem b7J(f:ByteArray):a0f (a0c f):=by
 rw[a8r];exact i9 (a5b f) λn=>i9 (a8H f) λt=>a5a
theorem b9a(f:ByteArray):a0f (meth f):=by
 rw[a8A]
 exact i9 (a5b f) λn=>i9 (a5c (a8H f) f 1) λps=>i9 (a8H f) λt=>i9 (a1Q f 1) λs=>i9 (a1Q f 1) λl=>
  i9 (a5c (c0V f) f 2) λis=>i9 (a5c (b5O f) f 1) λd=>a5a
theorem c0W(f:ByteArray):a0f (cls f):=by
 rw[a9a];exact i9 (a5b f) λn=>i9 (a5b f) λs=>i9 (a5c (b7J f) f 1) λfs=>i9 (a5c (b9a f) f 1) λms=>a5a
theorem b8Z(f:ByteArray):a0f (L5 f):=λst er h=>by
 unfold L5 at h;cases hn:l7 f st with
 |error e=>
  rw[hn]at h;cases h;unfold l7 at hn;cases h1:C3 f 1 st with
  |error e=>rw[h1]at hn;cases hn;exact a1Q f 1 st _ h1
  |ok q=>
   rw[h1]at hn;dsimp only at hn;split at hn
   ·split at hn
    ·cases hn
    ·cases hn;show 0<4;omega
   ·cases hn;show 0<2;omega
 |ok q=>rw[hn]at h;cases h
theorem b1r(f:ByteArray)(c i:Nat):a0f (K9 f c i):=λst er h=>by
 unfold K9 at h;cases h1:C3 f 1 st with
 |error e=>rw[h1]at h;cases h;exact a1Q f 1 st _ h1
 |ok q=>
  rw[h1]at h;dsimp only at h;split at h
  ·cases h
  ·cases h;show 0<3;omega
theorem a9x{f:ByteArray}{er:Er}(h:I9 f= .error er):0<er.1:=by
 unfold I9 at h;split at h
 ·cases h;show 0<1;omega
 ·cases h1:K9 f 87 0 ⟨0,0,[]⟩with
  |error e=>rw[h1]at h;cases h;exact b1r f _ _ _ _ h1
  |ok q=>
   rw[h1]at h;dsimp only at h;cases h2:K9 f 49 1 q.2 with
   |error e=>rw[h2]at h;cases h;exact b1r f _ _ _ _ h2
   |ok q2=>
    rw[h2]at h;dsimp only at h;cases h3:D8 f 1 (L5 f) q2.2 with
    |error e=>rw[h3]at h;cases h;exact a5c (b8Z f) f 1 _ _ h3
    |ok q3=>
     rw[h3]at h;dsimp only at h;cases h4:cls f q3.2 with
     |error e=>rw[h4]at h;cases h;exact c0W f _ _ h4
     |ok q4=>
      rw[h4]at h;dsimp only at h;split at h
      ·cases h;show 0<5;omega
      ·split at h
       ·cases h;show 0<6;omega
       ·cases h
end Cf
namespace Kx
def X3(s:ByteArray):List la:=[Z s]
def b4K(B:Nat)(files:List ByteArray)(e:Ending)(w':ld):Prop:=
 (∃(j:Nat) (hj:j<files.length) (er:Er),I9 files[j]= .error er/\(∀i (hi:i<files.length),i<j->∃c,I9 files[i]= .ok c)/\e= Y (.tuple #[V N 0 0, J I er.1, .agg #[J I j, J I 0, J I er.2]]))\/
 (∃(fs:List Cl) (v:la) (qf:Nat->Qs),fs.length=files.length/\(∀i (hi:i<files.length),I9 files[i]= .ok (cl fs i))/\e= Y (.tuple #[v, J I 0, .agg #[J I 0, J I 0, J I 0]])/\T9 w' B v fs qf)
variable {w w':World}{c:Cl}{e:Ending}
theorem b1v(h:a7v w (.ok c) e w'):w.grownBy w' N/\∃q,e= Y (.tuple #[.agg #[Z c.n, Z c.s, V q.fa c.f.length q.fk, V q.ma c.m.length q.mc], J I 0, J I 0])/\LC w' w.heap.size q c:=by
 obtain⟨j,v,k,rfl,d,rfl⟩:=h;obtain⟨q,rfl,y⟩:=LC.of d;exact⟨j,q,rfl,y⟩
variable {er:Er}
theorem b0V(h:a7v w (.error er) e w'):w.grownBy w' N/\e= Y (.tuple #[.agg #[Z ⟨#[]⟩, Z ⟨#[]⟩, V N 0 0, V N 0 0], J I er.1, J I er.2]):=by
 obtain⟨d,v,k,rfl,rfl,rfl⟩:=h;exact⟨d,rfl⟩
variable {B g k:Nat}{q:Qs}
theorem LC.far(h:LC w B q c)(d:w.grownBy w' (O k))(hk:k<B):LC w' B q c:=⟨h.1.keep d (λx e=>by cases e;exact hk),h.2.keep d (λx e=>by cases e;exact hk)⟩
variable {v:Value}{fs:List Cl}{qf:Nat->Qs}
theorem T9.far(h:T9 w B v fs qf)(d:w.grownBy w' (O k))(hk:k<B):T9 w' B v fs qf:=
 ⟨h.own.kept d (.inr (F9 h.own hk)),λi hi=>(h.lc i hi).far d hk⟩
theorem NC(w:ld)(c:Cl)(q:Qs):X (∀j u,(G9 c q)[j]? =O u->((w.alloc (H #[Z c.n, Z c.s, V q.fa c.f.length q.fk, V q.ma c.m.length q.mc] 44)).alloc (H #[Z c.n, Z c.s, V q.fa c.f.length q.fk, V q.ma c.m.length q.mc] 44)).cell? (((A (w.heap.size+1) 0 N):ll).add j)=O u):=by
 have:=O8 (w.alloc (H #[Z c.n, Z c.s, V q.fa c.f.length q.fk, V q.ma c.m.length q.mc] 44)) (G9 c q) 44;unfold X;simpa[G9]using this
theorem T9.ownk(h:T9 w B v fs qf)(hk:fs.length=k):w.ownsRow B 44 4 v k ((na fs.length).flatMap (M6 fs qf)):=by
 subst hk;exact h.own
theorem b2N{s n:Nat}{t:TypeId}{xs:List la}(hk:n=k)(h:w.ownsRow B t s v (k+1) xs):w.ownsRow B t s v (n+1) xs:=by
 subst hk;exact h
theorem b5r(w:ld)(lim:Nat)(hl:lim<=w.heap.size)(files:List ByteArray)(a:Option ll)(kk:Nat)(hR:X (C0 w lim 1 X3 a files))(hz:X (∀s∈files,s.size<=nb))(ah:files.length<=12)(hS:X (Shp w)):
 Calls prog 59 #[V a files.length kk] w λe w'=>w.grownBy w' N/\b4K (w.heap.size+1) files e w':=by
 obtain⟨n,hn⟩:=Oe files.length
 have HN:=A1 hn;rw[<-hn]at ah⊢;clear hn;have HB0:X (A4 (w.alloc (H #[J I 0, J I 0, J I 0] 78)) w.heap.size #[J I 0, J I 0, J I 0] 78):=A4.new w _ _;have HG0:X (w.grownBy (w.alloc (H #[J I 0, J I 0, J I 0] 78)) N):=A2 _ _ _;go_enter func59,ntmps59;go_wp2_with fail
 go_loopw [5,13] (λo i wr=>∃(k:Nat) (fs:List Cl) (qf:Nat->Qs),k<=n/\fs.length=k/\i= J I k/\X (T9 wr (w.heap.size+1) o fs qf)/\X (∀j (hj:j<files.length),j<k->I9 files[j]= .ok (cl fs j))/\X (A4 wr w.heap.size #[J I 0, J I 0, J I 0] 78)/\X (w.grownBy wr N)) (λ_ i _=>n-(le i).toNat)
 case atStart=>exact c7w
 case round=>
  obtain⟨k,fs,qf,hk,aa,rfl,T,hall,hb,hg⟩:=hrel;obtain⟨va,vk,rfl⟩:=F7 T.o.own;have HFL:=A1 aa;rw[aa];by_cases hlt:k<n
  ·have ab:k<files.length:=by rw[<-HN.o];exact hlt
   obtain⟨p,hp,-,hc⟩:=hR.o.keep hg.o k ab;have c0:wr.cell? (p.add k)=O (Z files[k]):=by have:=hc 0 _ rfl;simpa using this
   subst hp;clear hc;obtain⟨s,hs⟩:=Oe (files[k])
   rw[<-hs]at c0;have ad:s.size<=nb:=by rw[hs];exact hz.o _ (ly ab)
   have HS1:=A1 hs;have ae:=A1 (hS.o.keep hg.o Os);clear hs aa;cases hd:I9 s with
   |error er=>
    have aq:=a9x hd;have HDE:=A1 hd;have ar:(er.1:Int)≠0:=by omega
    clear hd;go_wp2_with (go_at_call 18;refine(b1u _ s ad ae).mono ?_;intro e M he;rw[HDE.o]at he;obtain⟨K,rfl⟩:=b0V he;clear he;have S:=(hb.o.keep K Os).keep (A2 M (H #[Z ⟨#[]⟩, Z ⟨#[]⟩, V N 0 0, V N 0 0] 44) N) Os;obtain⟨r0,r1,r2⟩:=S.q3;obtain⟨z0,z1,z2⟩:=S.z3;have ac:=G7 S;have F:=G7 (A0 (A0 hg.o K) (A2 M (H #[Z ⟨#[]⟩, Z ⟨#[]⟩, V N 0 0, V N 0 0] 44) N));clear S K)
    clear r0 r1 r2 z0 z1 z2;generalize M.alloc (H #[Z ⟨#[]⟩, Z ⟨#[]⟩, V N 0 0, V N 0 0] 44)=W5 at ac F⊢;have d:=((ac.o.set 0 (J I k)).set 1 (J I 0)).set 2 (J I er.2);have L:=a2o (w:=w) F.o (lk _) (i:=0) (j:=1) (k:=2) (x:= J I k) (y:= J I 0) (z:= J I er.2);generalize ((W5.setCell (A w.heap.size 0 N) (J I k)).setCell (A w.heap.size 1 N) (J I 0)).setCell (A w.heap.size 2 N) (J I er.2)=W6 at d L⊢;have q0:=d.c0;have q1:=d.c1;have q2:=d.c2;refine lw (v:= .tuple #[V N 0 0, J I er.1, .agg #[J I k, J I 0, J I er.2]]) (by simp[lv,results59,go_sem,q0,q1,q2]) rfl ⟨L, .inl ⟨k,ab,er,by rw[<-HS1.o];exact HDE.o,λi hi al=>⟨_,hall.o i hi al⟩,rfl⟩⟩
   |ok c=>
    have HDE:=A1 hd;clear hd;obtain⟨ap,ak,am,an,ao⟩:=ls a5p;rw[HFL.o]at T
    go_wp2_with (first
     |(go_at_call 18;refine(b1u _ s ad ae).mono ?_;intro e M he;rw[HDE.o]at he;obtain⟨K,q,rfl,ag⟩:=b1v he;clear he;have aj:=G7 ag;have F:=G7 K;clear ag K)
     |(at_builtin;go_loud (refine ln _ rfl _ _ 90 rfl (w.heap.size+1) 44 ap _ 4 80 underlying90 ak am an ao rfl Od _ k ((na fs.length).flatMap (M6 fs qf)) rfl (lb.alloc (lb.alloc ((T9.keep T.o F.o).ownk HFL.o) _) _) (A (M.heap.size+1) 0 N) 1 1 (G9 c q) rfl rfl (NC M c q).o (by simp[G9,Value.oneCell']) Om Oo (by have:=hg.o.size;have:=F.o.size;have:=hb.o.lt;simp;omega) ?_;intro v' w6 W D _;have HD6:=G7 (T9.push (((T9.keep T.o F.o).keep (A2 M (H #[Z c.n, Z c.s, V q.fa c.f.length q.fk, V q.ma c.m.length q.mc] 44) N)).keep (A2 _ (H #[Z c.n, Z c.s, V q.fa c.f.length q.fk, V q.ma c.m.length q.mc] 44) N)) (((aj.o.lower (by have:=hg.o.size;have:=hb.o.lt;omega)).keep (A2 M (H #[Z c.n, Z c.s, V q.fa c.f.length q.fk, V q.ma c.m.length q.mc] 44) N)).keep (A2 _ (H #[Z c.n, Z c.s, V q.fa c.f.length q.fk, V q.ma c.m.length q.mc] 44) N)) (b2N HFL.o W) D);have HG6:=G7 (C6 (A0 (A0 (A0 hg.o F.o) (A2 M (H #[Z c.n, Z c.s, V q.fa c.f.length q.fk, V q.ma c.m.length q.mc] 44) N)) (A2 _ (H #[Z c.n, Z c.s, V q.fa c.f.length q.fk, V q.ma c.m.length q.mc] 44) N)) D (λx e=> .inl (by have:=(K7 T.o.own e).1;omega)));have HB6:=G7 ((((hb.o.keep F.o Os).keep (A2 M (H #[Z c.n, Z c.s, V q.fa c.f.length q.fk, V q.ma c.m.length q.mc] 44) N) Os).keep (A2 _ (H #[Z c.n, Z c.s, V q.fa c.f.length q.fk, V q.ma c.m.length q.mc] 44) N) Os).keep D (λe=>F9 T.o.own (lg _) e.symm));clear W D)))
    exact a3e
  ·have af:k=n:=by omega
   rw[HFL.o]at T;obtain⟨r0,r1,r2⟩:=hb.o.q3;obtain⟨z0,z1,z2⟩:=hb.o.z3;go_wp2_with fail
   clear r0 r1 r2 z0 z1 z2;have d:=((hb.o.set 0 (J I 0)).set 1 (J I 0)).set 2 (J I 0);have L:=a2o (w:=w) hg.o (lk _) (i:=0) (j:=1) (k:=2) (x:= J I 0) (y:= J I 0) (z:= J I 0);have ai:=A0 (A0 (A6 wr (A w.heap.size 0 N) (J I 0)) (A6 _ (A w.heap.size 1 N) (J I 0))) (A6 _ (A w.heap.size 2 N) (J I 0));generalize ((wr.setCell (A w.heap.size 0 N) (J I 0)).setCell (A w.heap.size 1 N) (J I 0)).setCell (A w.heap.size 2 N) (J I 0)=W6 at d L ai⊢;have q0:=d.c0;have q1:=d.c1;have q2:=d.c2;refine lw (v:= .tuple #[V va k vk, J I 0, .agg #[J I 0, J I 0, J I 0]]) (by simp[lv,results59,go_sem,q0,q1,q2]) rfl ⟨L, .inr ⟨fs, V va k vk,qf,by rw[HFL.o,af,HN.o],λi hi=>hall.o i hi (by rw[af,HN.o];exact hi),rfl,?_⟩⟩;have:=T.o.far ai (lg _);exact this
variable {cs:Array Value}
theorem LC.blk{bs:Nat}(h:LC w bs q c)(hb:A4 w g cs 78)(hg:w.grownBy w' (O g)):LC w' bs q c:=by
 have hk:∀{base e sz n:Nat} {v:la} {xs:List la},78≠e->w.ownsRow base e sz v n xs->w'.ownsRow base e sz v n xs:=λy D=>D.kept hg (.inr (N4 D hb y))
 refine⟨hk Od h.1,?_⟩;obtain⟨d,T,W,h3⟩:=h.2;refine⟨d,T,hk Od W,λi c m j hm=> ?_⟩;obtain⟨pv,F,hv,j,K,L,M,S⟩:=h3 i c m j hm;exact⟨pv,F,hv,j,hk Od K,hk Od L,hk Od M,S⟩
theorem T9.blk(h:T9 w B v fs qf)(d:A4 w g cs 78)(j:w.grownBy w' (O g)):T9 w' B v fs qf:=
 ⟨h.own.kept j (.inr (N4 h.own d Od)),λi hi=>(h.lc i hi).blk d j⟩
theorem a9b{files:List ByteArray}(j:fs.length=files.length)(h:∀i (hi:i<files.length),I9 files[i]= .ok (cl fs i)):∀c∈fs,a0r c:=λc d=>by
 obtain⟨i,hi,rfl⟩:=nl d;have:=h i Oo;rw[V8 hi]at this;exact Cf.b4m this
theorem a8S:∀(rs:List (Nat->Bool)) (n k:Nat) (er:Er),b9 rs n k= .error er->k<=er.1
 | [],n,k,er,h=>by simp[b9]at h
 |r::rs,n,k,er,h=>by
  simp only[b9]at h;split at h
  ·cases h;exact lk _
  ·exact lj (Nat.le_succ _) (a8S rs n (k+1) er h)
theorem c0s(h:a8 fs= .error er):0<er.1:=ns Od (a8S _ _ _ _ h)
end Kx
theorem b3T:wrap64 ((nz #[87,49])[0].toNat:Int)=87:=by kernel_rfl
theorem b3U:wrap64 ((nz #[87,49])[1].toNat:Int)=49:=by kernel_rfl
theorem b7v(f:ByteArray)(c i:Nat):K9 f c i=λst=>E3 (C3 f 1 st) λn st1=>if n=c then .ok ((),st1)else .error (3,i):=by
 funext st
 unfold K9 E3;cases C3 f 1 st<;>rfl
theorem a8J(f:ByteArray)(c i:Nat)(s:Except Er St):D0 s (K9 f c i)=E3 (D0 s (C3 f 1)) λn st1=>if n=c then .ok ((),st1)else .error (3,i):=by
 rw[b7v,a7o]
variable {f:ByteArray}{E b c i n:Nat}{s:Except Er St}
theorem b0o{er:Er}(h:F5 (D0 s (C3 f 1))= .error er):D6 s (K9 f c i) () (.error er):=by
 have e:D0 s (K9 f c i)= .error er:=by
  rw[a8J];cases hr:D0 s (C3 f 1)with
  |error er'=>rw[hr]at h;cases h;rfl
  |ok q=>rw[hr]at h;cases h
 exact c7j
variable {st1:St}
theorem b0s(y:∀d st,D0 s (C3 f 1)= .ok (d,st)->d=n)(h:F5 (D0 s (C3 f 1))= .ok st1)(j:n=c):D6 s (K9 f c i) () (.ok st1):=by
 have e:D0 s (K9 f c i)= .ok ((),st1):=by
  rw[a8J];cases hr:D0 s (C3 f 1)with
  |error er'=>rw[hr]at h;cases h
  |ok q=>
   obtain⟨a,st⟩:=q;rw[hr]at h;cases h;have:=y a st1 hr;subst this;simp only[E3,j,if_true]
 unfold D6;rw[e];exact⟨(λ_ _ e=>by cases e;rfl),rfl⟩
theorem b0t(y:∀d st,D0 s (C3 f 1)= .ok (d,st)->d=n)(h:F5 (D0 s (C3 f 1))= .ok st1)(j:¬n=c):D6 s (K9 f c i) () (.error (3,i)):=by
 have e:D0 s (K9 f c i)= .error (3,i):=by
  rw[a8J];cases hr:D0 s (C3 f 1)with
  |error er'=>rw[hr]at h;cases h
  |ok q=>
   obtain⟨a,st⟩:=q;have:=y a st hr;subst this;simp only[E3,j,if_false]
 exact c7j
variable {w:World}{pv:Value}
theorem E7.errCell(h:E7 w b f pv s):∃x:Nat,w.cell? (A b 4 N)=O (J I x)/\((x=0/\∃st,s= .ok st)\/(x≠0/\∃er,s= .error er)):=by
 cases s with
 |ok st=>exact⟨0,h.2.cells0.2.2.2.2.1, .inl ⟨rfl,st,rfl⟩⟩
 |error er=>exact⟨er.1,h.err.1, .inr ⟨h.1,er,rfl⟩⟩
theorem b1e{α:Type}(er:Er)(p:St->R α)(a:α):D6 (.error er) p a (.error er):=⟨(λ_ _ e=>by cases e),rfl⟩
theorem E7.any(h:E7 w b f pv s):∃(a:Nat) (names:List ByteArray) (t:Int) (e p:Nat),Ey w b f pv a names t e p/\
 (∀st,s= .ok st->a=st.t/\names=st.p/\t=st.u-1/\e=0)/\(∀er,s= .error er->e=er.1/\p=er.2/\e≠0):=by
 cases s with
 |ok st=>exact⟨_,_,_,_,_,h.2,(λ_ e=>by cases e;exact⟨rfl,rfl,rfl,rfl⟩),(λ_ e=>by cases e)⟩
 |error er=>
  obtain⟨d,a,names,t,j⟩:=h;exact⟨_,_,_,_,_,j,(λ_ e=>by cases e),(λ_ e=>by cases e;exact⟨rfl,rfl,d⟩)⟩
def a4g(f:ByteArray)(s:Except Er St):Except Er St:=match s with| .ok st=>if st.u<st.p.length then .error (5,f.size)else .ok st| .error er=> .error er
def a3t(f:ByteArray)(s:Except Er St):Except Er St:=match s with| .ok st=>if st.t<f.size then .error (6,st.t)else .ok st| .error er=> .error er
theorem b9K(f:ByteArray)(s:Except Er St):D6 s (a3a f) () (a3t f (a4g f s)):=by
 cases s with
 |error er=>exact b1e _ _ _
 |ok st=>
  unfold D6;simp only[D0,a3a,a4g];by_cases h1:st.u<st.p.length
  ·simp only[h1,if_true,a3t];exact⟨(λ_ _ e=>by cases e),rfl⟩
  ·simp only[h1,if_false,a3t];by_cases h2:st.t<f.size
   ·simp only[h2,if_true];exact⟨(λ_ _ e=>by cases e),rfl⟩
   ·simp only[h2,if_false];exact⟨(λ_ _ _=>trivial),rfl⟩
theorem b2R{k:Nat}(hs:∀st,s= .ok st->st.p=[])(h:F5 (D0 s (C3 f k))= .ok st1):st1.p=[]:=by
 cases s with
 |error er=>cases h
 |ok st=>
  cases hr:C3 f k st with
  |error er=>rw[show D0 (Except.ok st) (C3 f k)= .error er from hr]at h;cases h
  |ok q=>
   obtain⟨n,st2⟩:=q;rw[show D0 (Except.ok st) (C3 f k)= .ok (n,st2)from hr]at h;cases h;rw[(T4 hr).1];exact hs st rfl
theorem b8w{w':ld}{st:St}{e:Ending}(h:b4A w b f (D8 f 1 (L5 f) st) e w'):e= Y (.tuple #[])/\w.grownBy w' (O b)/\∃pv j s3,E7 w' b f pv s3/\D6 (.ok st) (D8 f 1 (L5 f)) j s3:=by
 obtain⟨D,F,pv,d⟩:=h;cases hr:D8 f 1 (L5 f) st with
 |error er=>
  rw[hr]at d;refine⟨D,F,pv,[],_,d,?_⟩;unfold D6;rw[show D0 (Except.ok st) (D8 f 1 (L5 f))= .error er from hr];exact⟨(λ_ _ e=>by cases e),rfl⟩
 |ok q=>
  obtain⟨j,y⟩:=q;rw[hr]at d;refine⟨D,F,pv,j,_,d,?_⟩;unfold D6;rw[show D0 (Except.ok st) (D8 f 1 (L5 f))= .ok (j,y)from hr];exact⟨(λ_ _ e=>by cases e;rfl),rfl⟩
def a9S(f:ByteArray)(R E:Nat)(t:Nat->la):Act:=⟨#[Z f,t 1, U (O (A R 0 N)), J I 0, J I 0, U (O (A E 0 N)),t 6,t 7,t 8,t 9,t 10,t 11,t 12,t 13,t 14,t 15,t 16,t 17,t 18,t 19,t 20,t 21,t 22,t 23,t 24,t 25,t 26,t 27,t 28,t 29,t 30,t 31,t 32,t 33,t 34,t 35,t 36,t 37,t 38,t 39,t 40,t 41,t 42,t 43,t 44,t 45,t 46,t 47,t 48,t 49,t 50,t 51,t 52,t 53,t 54,t 55,t 56,t 57,t 58,t 59,t 60,t 61,t 62,t 63,t 64,t 65,t 66,t 67,t 68,t 69,t 70,t 71,t 72,t 73,t 74,t 75,t 76,t 77,t 78,t 79,t 80,t 81,t 82,t 83,t 84,t 85,t 86,t 87,t 88,t 89,t 90,t 91,t 92,t 93,t 94,t 95,t 96,t 97,t 98,t 99,t 100,t 101,t 102,t 103,t 104,t 105,t 106,t 107,t 108,t 109,t 110,t 111,t 112,t 113,t 114,t 115,t 116,t 117,t 118,t 119,t 120,t 121,t 122,t 123,t 124,t 125,t 126,t 127,t 128,t 129,t 130,t 131,t 132,t 133,t 134,t 135,t 136,t 137,t 138,t 139,t 140,t 141,t 142,t 143,t 144,t 145],[]⟩
def a7M(f:ByteArray)(R E C:Nat)(t:Nat->la):Act:=⟨#[Z f,t 1, U (O (A R 0 N)), J I 0, J I 0, U (O (A E 0 N)),t 6,t 7, U (O (A C 0 N)),t 9,t 10,t 11,t 12,t 13,t 14,t 15,t 16,t 17,t 18,t 19,t 20,t 21,t 22,t 23,t 24,t 25,t 26,t 27,t 28,t 29,t 30,t 31,t 32,t 33,t 34,t 35,t 36,t 37,t 38,t 39,t 40,t 41,t 42,t 43,t 44,t 45,t 46,t 47,t 48,t 49,t 50,t 51,t 52,t 53,t 54,t 55,t 56,t 57,t 58,t 59,t 60,t 61,t 62,t 63,t 64,t 65,t 66,t 67,t 68,t 69,t 70,t 71,t 72,t 73,t 74,t 75,t 76,t 77,t 78,t 79,t 80,t 81,t 82,t 83,t 84,t 85,t 86,t 87,t 88,t 89,t 90,t 91,t 92,t 93,t 94,t 95,t 96,t 97,t 98,t 99,t 100,t 101,t 102,t 103,t 104,t 105,t 106,t 107,t 108,t 109,t 110,t 111,t 112,t 113,t 114,t 115,t 116,t 117,t 118,t 119,t 120,t 121,t 122,t 123,t 124,t 125,t 126,t 127,t 128,t 129,t 130,t 131,t 132,t 133,t 134,t 135,t 136,t 137,t 138,t 139,t 140,t 141,t 142,t 143,t 144,t 145],[]⟩
def a7P(f:ByteArray)(R E:Nat)(Q:ld->Prop)(a:Act)(w:ld):Prop:=Q w/\∃t:Nat->la,a=a9S f R E t
variable {Q:World->Prop}
theorem a7P.of{R:Nat}(a:Act)(h:a=a9S f R E (λk=>a.tmps.getD k lq))(d:Q w):a7P f R E Q a w:=⟨d,_,h⟩
def DeJ(f:ByteArray)(R E C:Nat)(Q:ld->Prop)(a:Act)(w:ld):Prop:=Q w/\∃t:Nat->la,a=a7M f R E C t
theorem DeJ.of{R C:Nat}(a:Act)(h:a=a7M f R E C (λk=>a.tmps.getD k lq))(d:Q w):DeJ f R E C Q a w:=⟨d,_,h⟩
structure DS(w:World)(R E C:Nat)(f:ByteArray)(pv:Value)(c:Array Value)(s:Except Er St)(wr:World):Prop where
 eye:E7 wr E f pv s
 me:A4 wr C c 44
 o:A4 wr R #[.string ⟨#[]⟩, .string ⟨#[]⟩, .slice none 0 0, .slice none 0 0] 44
 grown:w.grownBy wr none
structure DL(w:World)(R E C:Nat)(f:ByteArray)(pv:Value)(c:Array Value)(fs:List V3)(ms:List Me)(lf lm:Value)(s:Except Er St)(wr:World):Prop where
 ds:DS w R E C f pv c s wr
 rf:F2 (C+1) 129 3 K3 wr lf fs
 rm:o5 (C+1) wr lm ms
section
variable{w wr w1:World}{R E C g:Nat}{f:ByteArray}{pv:Value}{c:Array Value}{fs:List V3}{ms:List Me}{lf lm:Value}{s s1:Except Er St}
theorem DS.step(h:DS w R E C f pv c s wr)(d:wr.grownBy w1 (O E))(F:E7 w1 E f pv s1)(y:w.heap.size<=E)(j:E≠C)(D:E≠R):DS w R E C f pv c s1 w1:=
 ⟨F,h.me.keep d (by simpa using λe=>j e.symm),h.o.keep d (by simpa using λe=>D e.symm),C6 h.grown d (λk e=> .inl (by cases e;exact y))⟩
theorem DS.setC(h:DS w R E C f pv c s wr)(d:w.heap.size<=C)(y:E≠C)(D:R≠C)(F:pv.ownBlock≠O C)(j:Nat)(v:la):DS w R E C f pv (c.setIfInBounds j v) s (wr.setCell (A C j N) v):=
 ⟨h.eye.keep (A6 _ (A C j N) _) (by simpa using y) (.inr F),h.me.set j v,h.o.keep (A6 _ (A C j N) _) (by simpa using D),Y4 h.grown d j v⟩
theorem DS.fresh(h:DS w R E C f pv c s wr)(d:wr.grownBy w1 N):DS w R E C f pv c s w1:=
 ⟨h.eye.keep0 d,h.me.keep d Os,h.o.keep d Os,L8 h.grown d⟩
theorem DS.beside(h:DS w R E C f pv c s wr)(d:wr.grownBy w1 (O g))(y:E≠g)(j:C≠g)(D:R≠g)(F:pv.ownBlock≠O g)(K:w.heap.size<=g):DS w R E C f pv c s w1:=
 ⟨h.eye.keep d (by simpa using y) (.inr F),h.me.keep d (by simpa using j),h.o.keep d (by simpa using D),C6 h.grown d (λk e=> .inl (by cases e;exact K))⟩
theorem DS.turn{e sz n:Nat}{l:la}{cs:List la}(h:DS w R E C f pv c s wr)(d:wr.ownsRow (C+1) e sz l n cs)(j:wr.grownBy w1 l.ownBlock)(D:E<C)(F:R<C)(K:w.heap.size<=C)(y:∀k,C<=k->pv.ownBlock≠O k):DS w R E C f pv c s w1:=
 ⟨h.eye.keep j (λe=>F9 d (show E<C+1 by omega) e.symm) (a6N y d Oo),h.me.keep j (λe=>F9 d (show C<C+1 by omega) e.symm),h.o.keep j (λe=>F9 d (show R<C+1 by omega) e.symm),
  C6 h.grown j (λk e=> .inl (by have:=(K7 d e).1;omega))⟩
theorem DL.step(h:DL w R E C f pv c fs ms lf lm s wr)(d:wr.grownBy w1 (O E))(D:E7 w1 E f pv s1)(j:w.heap.size<=E)(F:E<C)(y:E≠R):DL w R E C f pv c fs ms lf lm s1 w1:=
 ⟨h.ds.step d D j Oo y,h.rf.keep d (λk e=>by cases e;omega),h.rm.keep d (λk e=>by cases e;omega)⟩
theorem DL.setC(h:DL w R E C f pv c fs ms lf lm s wr)(d:w.heap.size<=C)(y:E≠C)(D:R≠C)(F:pv.ownBlock≠O C)(j:Nat)(v:la):DL w R E C f pv (c.setIfInBounds j v) fs ms lf lm s (wr.setCell (A C j N) v):=
 ⟨h.ds.setC d y D F j v,h.rf.keep (A6 _ (A C j N) _) (λk e=>by cases e;simp),h.rm.keep (A6 _ (A C j N) _) (λk e=>by cases e;simp)⟩
theorem DL.fresh(h:DL w R E C f pv c fs ms lf lm s wr)(d:wr.grownBy w1 N):DL w R E C f pv c fs ms lf lm s w1:=
 ⟨⟨h.ds.eye.keep0 d,h.ds.me.keep d Os,h.ds.o.keep d Os,L8 h.ds.grown d⟩,h.rf.keep d Os,h.rm.keep d Os⟩
end
theorem a8Y(W:ld)(t:Array la)(R:Nat)(d j D F:la)(T:TypeId)(x y:Int)(K:t.getD 2 lq= U (O (A R 0 N)))(L:t.getD 3 lq= J I x)(M:t.getD 4 lq= J I y)(h:A4 W R #[d,j,D,F] T):
 (lv Tryz.f66 t).run prog W= .ok (.tuple #[.agg #[d,j,D,F], J I x, J I y]) W:=by
 have c0:=h.cell 0 d rfl;have c1:=h.cell 1 j rfl;have c2:=h.cell 2 D rfl;have c3:=h.cell 3 F rfl;rw[nu]at K L M;simp[lv,results66,go_sem,K,L,M,c0,c1,c2,c3]
theorem b0U(w:ld)(f:ByteArray)(ea:f.size<=nb):
 Calls prog 66 #[Z f] w (a7v w (I9 f)):=by
 go_enter func66,ntmps66;by_cases hb:2048<f.size
 ·have hd:I9 f= .error (1,0):=by simp only[I9,hb,if_true]
  have ce:=A4.new w #[Z ⟨#[]⟩, Z ⟨#[]⟩, V N 0 0, V N 0 0] 44;obtain⟨z0,z1,z2,z3⟩:=ce.z4;obtain⟨c0,c1,c2,c3⟩:=ce.q4;go_wp2_with fail
  rw[hd];refine lw (v:= .tuple #[.agg #[Z ⟨#[]⟩, Z ⟨#[]⟩, V N 0 0, V N 0 0], .int I 1, .int I 0]) (a8Y _ _ w.heap.size _ _ _ _ _ _ _ rfl rfl rfl ce) rfl ?_;exact⟨A2 w _ N,_,(1,0),rfl,rfl,rfl⟩
 ·have be:=A1 hb;have dg:f.size<=2048:=by omega
  have hO:=(A4.new w #[Z ⟨#[]⟩, Z ⟨#[]⟩, V N 0 0, V N 0 0] 44).keep (A2 _ (H #[Z f, .int I 0, V N 0 0, .int I (-1), .int I 0, .int I 0] 241) N) Os;have bu:=A4.new (w.alloc (H #[Z ⟨#[]⟩, Z ⟨#[]⟩, V N 0 0, V N 0 0] 44)) #[Z f, .int I 0, V N 0 0, .int I (-1), .int I 0, .int I 0] 241;simp only[a8m]at bu;obtain⟨wa,bv⟩:=Oe ((w.alloc (H #[Z ⟨#[]⟩, Z ⟨#[]⟩, V N 0 0, V N 0 0] 44)).alloc (H #[Z f, .int I 0, V N 0 0, .int I (-1), .int I 0, .int I 0] 241))
  have b5:X (w.grownBy wa N):=by rw[bv];exact A0 (A2 _ _ _) (A2 _ _ _)
  rw[<-bv]at hO bu;have HO:=A1 hO;have HE:X (E7 wa (w.heap.size+1) f (V N 0 0) (.ok ⟨0,0,[]⟩)):=⟨⟨dg,li _,li _,li _⟩,bu,lr _ _ _ _,dg,li _,li _,by simp,by simp⟩
  clear hO bu;go_wp2_with fail
  rw[<-bv];clear bv;obtain⟨E,hE⟩:=Oe (w.heap.size+1)
  rw[<-hE]at HE⊢;have af:E≠w.heap.size:=by omega
  have D:w.heap.size<=E:=by omega
  clear hE
  refine a3l (J:=a7P f w.heap.size E (λwr=>∃s1 s2:Except Er St,D6 (.ok ⟨0,0,[]⟩) (K9 f 87 0) () s1/\D6 s1 (K9 f 49 1) () s2/\(∀st,s2= .ok st->st.p=[])/\
   E7 wr E f (V N 0 0) s2/\A4 wr w.heap.size #[Z ⟨#[]⟩, Z ⟨#[]⟩, V N 0 0, V N 0 0] 44/\w.grownBy wr N)) ?_ ?_
  ·rintro a wr ⟨⟨s1,s2,q1,q2,hp,he,ho,hg⟩,t,rfl⟩;clear HE HO b5;have Q1:=A1 q1;have Q2:=A1 q2;have HP:=A1 hp;have HE:=A1 he;have HO:=A1 ho;have HG:=A1 hg;obtain⟨x,c4,hx⟩:=he.errCell;clear he ho hg hp q1 q2;dsimp only[a9S];go_upto_if 46 with(fail)
   go_cut []from 42 (λwx=>∃(xs:List Unit) (s3:Except Er St) (pv:la),D6 s2 (D8 f 1 (L5 f)) xs s3/\E7 wx E f pv s3/\A4 wx w.heap.size #[Z ⟨#[]⟩, Z ⟨#[]⟩, V N 0 0, V N 0 0] 44/\w.grownBy wx N)
   case first=>
    rcases hx with⟨rfl,st,rfl⟩|⟨d8,er,rfl⟩
    ·go_wp2_with (go_at_call 116;refine(b9b wr E f st HE (HP.o st rfl)).mono ?_)
     intro e w3 d4;obtain⟨rfl,M,pv,xs,s3,dz,sn⟩:=b8w d4;dsimp only;go_wp2_with fail
     go_meet
     case rel=>exact⟨xs,s3,pv,sn,dz,HO.o.keep M Oi,C6 HG.o M (λk e=> .inl (by cases e;exact D))⟩
    ·have dl:¬(x:Int)=0:=by omega
     go_wp2_with fail
     go_meet
     case rel=>exact⟨[], .error er,_,b1e _ _ _,HE.o,HO.o,HG.o⟩
   case rest=>
    obtain⟨xs,s3,pv,q3,he,ho,hg⟩:=hcut;clear hx c4 HE HO HG HP;have Q3:=A1 q3;have HE:=A1 he;have HO:=A1 ho;have HG:=A1 hg;clear q3 he ho hg
    go_wp2_with (first
     |(go_at_call 114
       have bf:X (DS w w.heap.size E w1.heap.size f pv #[Z nm, Z sp, V N 0 0, V N 0 0] s5 (w2.setCell (A w1.heap.size 1 N) (Z sp))):=br.o.setC bq Oo Oo cm 1 _;refine K4.bind (p8 _ E f pv s5 1 bf.o.eye Oo) ?_;rintro n1 v w3 H3 rfl y M;obtain⟨s6,bn⟩:=Oe (F5 (D0 s5 (C3 f 1)))
       rw[<-bn]at y;have b3:=A1 (bf.o.step M y.o D Oo af);have M3:X (L9 f 1 (a0c f) s5 n1 0 [] s6):=by rw[bn];exact L9.start H3.o
       clear bn y M H3 bf br z1 d1;try dsimp only)
     |(go_at_call 117
       refine K4.bind (a3Q _ E f pv s4 b1.o.eye) ?_;rintro sp v w2 H2 rfl co dh;obtain⟨s5,bm⟩:=Oe (F5 (D0 s4 (name f)))
       rw[<-bm]at co;have Q5:X (D6 s4 (name f) sp s5):=⟨H2.o,bm.symm⟩
       have br:=A1 (b1.o.step dh co.o D Oo af);have z1:=br.o.me.frozen 1;have d1:=br.o.me.c1;clear bm co dh H2 b1;try dsimp only)
     |(go_at_call 117
       refine K4.bind (a3Q wc E f pv s3 HE) ?_;rintro nm v w1 H1 rfl bi cf;obtain⟨s4,bl⟩:=Oe (F5 (D0 s3 (name f)))
       rw[<-bl]at bi;have Q4:X (D6 s3 (name f) nm s4):=⟨H1.o,bl.symm⟩
       have a4:=bi.o.lt;have dc:w.heap.size<w1.heap.size:=by omega
       have bq:w.heap.size<=w1.heap.size:=by omega
       have bt:=A1 (λk (hk:w1.heap.size<=k)=>bi.o.poolLt hk);have cm:=bt.o _ (lk _)
       have b1:X (DS w w.heap.size E w1.heap.size f pv #[Z nm, Z ⟨#[]⟩, V N 0 0, V N 0 0] s4 (w1.alloc (H #[Z nm, Z ⟨#[]⟩, V N 0 0, V N 0 0] 44))):=
        ⟨bi.o.keep0 (A2 _ _ _),A4.new _ _ _,(HO.o.keep cf Oi).keep (A2 _ _ N) Os,L8 (C6 HG.o cf (λk e=> .inl (by cases e;exact D))) (A2 _ _ _)⟩
       clear bl bi cf H1 HO HG HE;try dsimp only))
    refine a3l (J:=DeJ f w.heap.size E w1.heap.size (λwr=>∃(fs:List V3) (s7:Except Er St) (l:la),D6 s5 (D8 f 1 (a0c f)) fs s7/\DS w w.heap.size E w1.heap.size f pv #[Z nm, Z sp,l, V N 0 0] s7 wr/\F2 (w1.heap.size+1) 129 3 K3 wr l fs)) ?_ ?_
    ·rintro a wr ⟨⟨fs,s7,lf,q7,hds,ag⟩,t,rfl⟩;clear b3 M3;obtain⟨T,W,rfl⟩:=F7 ag;have Q7:=A1 q7;have d:=A1 hds;have HF:=A1 ag;clear hds ag q7;dsimp only[a7M]
     go_wp2_with (
      go_at_call 114
      refine K4.bind (p8 wr E f pv s7 1 d.o.eye Oo) ?_;rintro n2 v w4 H4 rfl a' ai;obtain⟨s8,bp⟩:=Oe (F5 (D0 s7 (C3 f 1)))
      rw[<-bp]at a';have cc:X (DL w w.heap.size E w1.heap.size f pv #[Z nm, Z sp, V T fs.length W, V N 0 0] fs [] (V T fs.length W) (V N 0 0) s8 w4):=⟨d.o.step ai a'.o D Oo af,HF.o.keep ai (λk e=>by cases e;omega), .nil _ _⟩
      have M4:X (L9 f 1 (meth f) s7 n2 0 [] s8):=by rw[bp];exact L9.start H4.o
      clear bp a' ai H4 d HF;try dsimp only)
     refine a3l (J:=DeJ f w.heap.size E w1.heap.size (λwr=>∃(ms:List Me) (s9:Except Er St) (lm:la),D6 s7 (D8 f 1 (meth f)) ms s9/\DL w w.heap.size E w1.heap.size f pv #[Z nm, Z sp, V T fs.length W,lm] fs ms (V T fs.length W) (lm) s9 wr)) ?_ ?_
     ·rintro a wr ⟨⟨ms,s9,lm,q9,bc⟩,t,rfl⟩;clear cc M4;obtain⟨am,km,rfl⟩:=bc.rm.slice;have QC:=A1 (b9L Q4.o Q5.o Q7.o q9);have d:=A1 bc;clear bc q9;dsimp only[a7M];obtain⟨a0,names,t0,e0,p0,L,hok,a7⟩:=d.o.ds.eye.any;obtain⟨-,c1,c2,c3,c4,c5,-,-,-,-,-⟩:=L.cells;obtain⟨pa,pk,cn⟩:=F7 L.own;rw[cn]at c2;have dv:=A1 cn;have d7:=L.lo;have d5:=L.hi;have d9:=L.len;have bg:=A1 hok;have du:=A1 a7;clear L hok a7 cn;go_wp2_with fail
      go_quiet (fail)
      go_upto_if 113 with(fail)
      go_cut []from 103 (λwx=>DL w w.heap.size E w1.heap.size f pv #[Z nm, Z sp, V T fs.length W, V am ms.length km] fs ms (V T fs.length W) (V am ms.length km) (a4g f s9) wx)
      case first=>
       cases s9 with
       |error er=>
        have ax:X (DL w w.heap.size E w1.heap.size f pv #[Z nm, Z sp, V T fs.length W, V am ms.length km] fs ms (V T fs.length W) (V am ms.length km) (.error er) (wr.drewN nq)):=d.o.fresh (F4 _ _ _);go_wp2_with (go_at_call 115;refine(a1f _ E f pv (.error er) 5 f.size ax.o.ds.eye Oo).mono ?_;rintro e w7 ⟨rfl,ad,ae⟩;have az:X (DL w w.heap.size E w1.heap.size f pv #[Z nm, Z sp, V T fs.length W, V am ms.length km] fs ms (V T fs.length W) (V am ms.length km) (.error er) w7):=ax.o.step ad ae D a4 af;clear ad ae;try dsimp only)
        ·go_meet
         case rel=>exact az.o
        ·go_meet
         case rel=>exact ax.o
       |ok st=>
        have ax:X (DL w w.heap.size E w1.heap.size f pv #[Z nm, Z sp, V T fs.length W, V am ms.length km] fs ms (V T fs.length W) (V am ms.length km) (.ok st) (wr.drewN nq)):=d.o.fresh (F4 _ _ _);obtain⟨rfl,rfl,rfl,rfl⟩:=bg.o st rfl;by_cases hu:st.u<st.p.length
        ·have aw:X (a4g f (.ok st)= .error (5,f.size)):=by unfold X;simp only[a4g,hu,if_true]
         go_wp2_with (go_at_call 115;refine(a1f _ E f pv (.ok st) 5 f.size ax.o.ds.eye Oo).mono ?_;rintro e w7 ⟨rfl,ad,ae⟩;have az:X (DL w w.heap.size E w1.heap.size f pv #[Z nm, Z sp, V T fs.length W, V am ms.length km] fs ms (V T fs.length W) (V am ms.length km) (.error (5,f.size)) w7):=ax.o.step ad ae D a4 af;clear ad ae;try dsimp only)
         go_meet
         case rel=>rw[aw.o];exact az.o
        ·have aw:X (a4g f (.ok st)= .ok st):=by unfold X;simp only[a4g,hu,if_false]
         go_wp2_with fail
         go_meet
         case rel=>rw[aw.o];exact ax.o
      case rest=>
       obtain⟨cw,ah⟩:=Oe (a4g f s9)
       have aa:=A1 ah;rw[<-ah]at hcut;clear d c1 c2 c3 c4 c5 dv bg du d7 d5 d9 ah;have d:=A1 hcut;clear hcut;obtain⟨a1,dq,t1,e1,p1,L,hok,a7⟩:=d.o.ds.eye.any;obtain⟨-,c1,-,-,c4,c5,-,-,-,-,-⟩:=L.cells;have dy:=L.t;have bg:=A1 hok;clear L hok a7;go_upto_if 124 with(fail)
       go_cut []from 103 (λwx=>DL w w.heap.size E w1.heap.size f pv #[Z nm, Z sp, V T fs.length W, V am ms.length km] fs ms (V T fs.length W) (V am ms.length km) (a3t f cw) wx)
       case first=>
        cases cw with
        |error er=>
         go_wp2_with (go_at_call 115;refine(a1f _ E f pv (.error er) 6 a1 d.o.ds.eye Oo).mono ?_;rintro e w7 ⟨rfl,ad,ae⟩;have az:X (DL w w.heap.size E w1.heap.size f pv #[Z nm, Z sp, V T fs.length W, V am ms.length km] fs ms (V T fs.length W) (V am ms.length km) (.error er) w7):=d.o.step ad ae D a4 af;clear ad ae;try dsimp only)
         ·go_meet
          case rel=>exact az.o
         ·go_meet
          case rel=>exact d.o
        |ok st=>
         obtain⟨rfl,rfl,rfl,rfl⟩:=bg.o st rfl;by_cases hu:st.t<f.size
         ·have aw:X (a3t f (.ok st)= .error (6,st.t)):=by unfold X;simp only[a3t,hu,if_true]
          go_wp2_with (go_at_call 115;refine(a1f _ E f pv (.ok st) 6 st.t d.o.ds.eye Oo).mono ?_;rintro e w7 ⟨rfl,ad,ae⟩;have az:X (DL w w.heap.size E w1.heap.size f pv #[Z nm, Z sp, V T fs.length W, V am ms.length km] fs ms (V T fs.length W) (V am ms.length km) (.error (6,st.t)) w7):=d.o.step ad ae D a4 af;clear ad ae;try dsimp only)
          go_meet
          case rel=>rw[aw.o];exact az.o
         ·have aw:X (a3t f (.ok st)= .ok st):=by unfold X;simp only[a3t,hu,if_false]
          go_wp2_with fail
          go_meet
          case rel=>rw[aw.o];exact d.o
       case rest=>
        have a6:=hcut;obtain⟨dp,bk⟩:=Oe (a3t f cw)
        rw[<-bk]at a6;have QE:X (D6 s9 (a3a f) () dp):=by have:=b9K f s9;rw[<-aa.o,<-bk]at this;exact this
        clear hcut bk d aa bg c1 c4 c5 dy;have d:=A1 a6;clear a6;obtain⟨o0,o1,o2,o3⟩:=d.o.ds.o.q4;obtain⟨z0,z1,z2,z3⟩:=d.o.ds.o.z4;cases dp with
        |error er=>
         have HD:=A1 (b7R be.o (b1d Q1.o Q2.o Q3.o QC.o QE.o));obtain⟨a2,dr,t2,e2,p2,L,-,a7⟩:=d.o.ds.eye.any;obtain⟨rfl,rfl,d8⟩:=a7 er rfl;obtain⟨-,-,-,-,c4,c5,-,-,-,-,-⟩:=L.cells;have dl:¬(er.1:Int)=0:=by omega
         clear L a7;go_wp2_with fail
         go_region
         go_wp2_with fail
         refine lw (v:= .tuple #[.agg #[Z ⟨#[]⟩, Z ⟨#[]⟩, V N 0 0, V N 0 0], .int I er.1, .int I er.2]) (a8Y _ _ w.heap.size _ _ _ _ _ _ _ rfl rfl rfl (((((d.o.ds.o.set 0 _).set 1 _).set 2 _).set 3 _).keep (A7 _ N) Os)) rfl ?_;rw[HD.o];exact⟨L8 (C6 d.o.ds.grown (a0G (g:=w.heap.size)) (λk e=> .inl (by cases e;exact lk _))) (A7 _ _),_,er,rfl,rfl,rfl⟩
        |ok st=>
         have HD:=A1 (b9t be.o (b1d Q1.o Q2.o Q3.o QC.o QE.o));have c4:=d.o.ds.eye.2.cells0.2.2.2.2.1;obtain⟨d0,d1,d2,d3⟩:=d.o.ds.me.q4;go_wp2_with fail
         refine lw (v:= .tuple #[.agg #[Z nm, Z sp, V T fs.length W, V am ms.length km], .int I 0, .int I 0]) (a8Y _ _ w.heap.size _ _ _ _ _ _ _ rfl rfl rfl ((((d.o.ds.o.set 0 _).set 1 _).set 2 _).set 3 _)) rfl ?_;rw[HD.o];refine⟨C6 d.o.ds.grown (a0G (g:=w.heap.size)) (λk e=> .inl (by cases e;exact lk _)),_,(0,0),rfl,?_,rfl⟩;exact⟨_,_,_,_,rfl,(d.o.rf.keep (a0G (g:=w.heap.size)) (λk e=>by cases e;omega)).base Oo,(d.o.rm.keep (a0G (g:=w.heap.size)) (λk e=>by cases e;omega)).base Oo⟩
     ·go_loopw [12] (λi wr=>∃(k:Nat) (ms:List Me) (s9:Except Er St) (l:la),i= .int I k/\k<=n2/\ms.length=k/\L9 f 1 (meth f) s7 n2 k ms s9/\DL w w.heap.size E w1.heap.size f pv #[Z nm, Z sp, V T fs.length W,l] fs ms (V T fs.length W) (l) s9 wr) (λi _=>n2-(le i).toNat)
      case atStart=>exact⟨0,[],s8,_,rfl,li _,rfl,M4.o,cc.o⟩
      case round=>
       clear M4 cc;obtain⟨k,ms,s9,l,rfl,hk,ao,ap,bc⟩:=hrel;have HM:=A1 ap;have d:=A1 bc;have HL:=A1 ao;clear ap bc ao;cases s9 with
       |error er=>
        obtain⟨c4,cv⟩:=d.o.ds.eye.err;go_wp2_with fail
        all_goals exact DeJ.of _ rfl ⟨ms,_,l,HM.o.err,d.o⟩
       |ok st3=>
        have c4:=d.o.ds.eye.2.cells0.2.2.2.2.1;by_cases hlt:k<n2
        ·obtain⟨i,hi,cr,ct,cu⟩:=ls b3L;have hn:n2<256:=by obtain⟨st1,h1,-⟩:=HM.o;exact(a3i h1).1
         have cj:ms.length<65536:=by have:=HL.o;omega
         obtain⟨dw,de,df,dd⟩:=d.o.rm;have b4:=A1 df;have cy:=A1 dd;have dt:=A1 de;have ed:=d.o.ds.me.lt;clear de df dd
         go_wp2_with (first
          |(go_at_call 119
            refine K4.bind (b6C wr E f pv (.ok st3) d.o.ds.eye) ?_;rintro x v F H8 ⟨c,rfl,dk⟩ bo an;obtain⟨t1,ba⟩:=Oe (F5 (D0 (.ok st3) (meth f)))
            have aq:E7 F E f pv t1:=by rw[ba];exact bo.o
            have U1:X (D6 (.ok st3) (meth f) x t1):=⟨H8.o,ba.symm⟩
            have ac:=A1 (d.o.step an aq D a4 af);have c':=A1 dk;obtain⟨ef,eb,ee,rfl,r1,r2,r3,-⟩:=dk;obtain⟨a1,k1,rfl⟩:=F7 r1;obtain⟨a2,k2,rfl⟩:=F7 r2;obtain⟨a3,k3,rfl⟩:=F7 r3;have aj:=A1 (lb.kept b4.o an (.inr (F9 b4.o Oo)));have bx:=A1 (λi c m hc hm=>(cy.o i c m hc hm).keep an (λk e=>by cases e;omega));have d1:=ac.o.ds.me.cell 3 l rfl;have z1:=ac.o.ds.me.frozen 3;have dj:=ac.o.ds.me.lt
            have NC:X (∀j u,([Z x.n, V a1 x.p.length k1, .int I x.r.k, Z x.r.n, .int I x.s, .int I x.l, V a2 x.c.length k2, V a3 x.h.length k3]:List la)[j]? =O u->((F.alloc (H (mV x a1 k1 a2 k2 a3 k3) 102)).alloc (H (mV x a1 k1 a2 k2 a3 k3) 102)).cell? (((A (F.heap.size+1) 0 N):ll).add j)=O u):=by
             have:=O8 (F.alloc (H (mV x a1 k1 a2 k2 a3 k3) 102)) [Z x.n, V a1 x.p.length k1, .int I x.r.k, Z x.r.n, .int I x.s, .int I x.l, V a2 x.c.length k2, V a3 x.h.length k3] 102;exact c6v
            clear an bo aq ba H8 r1 r2 r3;try dsimp only)
          |(at_builtin
            go_loud (refine ln _ rfl _ _ 42 rfl (w1.heap.size+1) 102 i _ 8 128 underlying42 hi cr ct cu rfl Od _ ms.length dw.flatten rfl ((lb.alloc aj.o _).alloc _) (A (F.heap.size+1) 0 N) 1 1 [Z x.n, V a1 x.p.length k1, .int I x.r.k, Z x.r.n, .int I x.s, .int I x.l, V a2 x.c.length k2, V a3 x.h.length k3] rfl rfl NC.o (by simp[Value.oneCell']) (a0S rfl cj) Oo Oi ?_)))
         intro v' bw hown S _;obtain⟨a5,k5,rfl⟩:=F7 hown;have bh:=A0 (A2 F (H (mV x a1 k1 a2 k2 a3 k3) 102) N) (A2 _ (H (mV x a1 k1 a2 k2 a3 k3) 102) N);have bd:=C6 (row:=l.ownBlock) (b3O bh) S (λk e=> .inr e.symm)
         have ab:X (DL w w.heap.size E w1.heap.size f pv #[Z nm, Z sp, V T fs.length W,l] fs (ms++ [x]) (V T fs.length W) (V a5 (ms.length+1) k5) t1 bw):=⟨ac.o.ds.turn aj.o bd a4 dc bq bt.o,lb.kept ac.o.rf bd (a1O ac.o.rf aj.o Od),
          o5.push dt.o (lb.kept aj.o bh (by cases l.ownBlock<;>simp)) (λi c m hc hm=>(bx.o i c m hc hm).keep bh Os) ((c'.o.base Oo).keep bh Os) hown S⟩
         have d':=ab.o.ds.me.frozen 3;have dx:=ab.o.ds.me.cell 3 l rfl;clear hown S bd bh d1 z1 NC b4 cy aj bx ac c';go_wp2_with fail
         go_roundw
         case rel=>
          have cp:(ms++ [x]).length=k+1:=by have:=HL.o;simp;omega
          exact⟨k+1,ms++ [x],t1, V a5 (ms.length+1) k5,by go_num,hlt,cp,L9.step HM.o hlt U1.o,ab.o.setC bq Oo Oo cm 3 (V a5 (ms.length+1) k5)⟩
         case measure=>simp[le];omega
        ·go_wp2_with fail
         have cg:k=n2:=by omega
         subst cg;exact DeJ.of _ rfl ⟨ms,_,l,L9.done HM.o,d.o⟩
    ·go_loopw [10] (λi wr=>∃(k:Nat) (fs:List V3) (s7:Except Er St) (l:la),i= .int I k/\k<=n1/\fs.length=k/\L9 f 1 (a0c f) s5 n1 k fs s7/\DS w w.heap.size E w1.heap.size f pv #[Z nm, Z sp,l, V N 0 0] s7 wr/\F2 (w1.heap.size+1) 129 3 K3 wr l fs) (λi _=>n1-(le i).toNat)
     case atStart=>exact⟨0,[],s6,_,rfl,li _,rfl,M3.o,b3.o,lr _ _ _ _⟩
     case round=>
      clear M3 b3;obtain⟨k,fs,s7,l,rfl,hk,ao,ap,hds,ag⟩:=hrel;have HM:=A1 ap;have d:=A1 hds;have HR:=A1 ag;have HL:=A1 ao;clear ap hds ag ao;cases s7 with
      |error er=>
       obtain⟨c4,cv⟩:=d.o.eye.err;go_wp2_with fail
       all_goals exact DeJ.of _ rfl ⟨fs,_,l,HM.o.err,d.o,HR.o⟩
      |ok st3=>
       have c4:=d.o.eye.2.cells0.2.2.2.2.1;by_cases hlt:k<n1
       ·obtain⟨i,hi,cr,ct,cu⟩:=ls a8T;have hn:n1<256:=by obtain⟨st1,h1,-⟩:=HM.o;exact(a3i h1).1
        have cj:fs.length<65536:=by have:=HL.o;omega
        go_wp2_with (first
         |(go_at_call 118
           refine K4.bind (a8I _ E f pv t1 cd.o.eye) ?_;rintro ft v ar cx rfl ah bb;obtain⟨t2,cq⟩:=Oe (F5 (D0 t1 (kind f)))
           have bj:E7 ar E f pv t2:=by rw[cq];exact ah.o
           have U2:X (D6 t1 (kind f) ft t2):=⟨cx.o,cq.symm⟩
           have aa:=A1 (cd.o.step bb bj D Oo af);have b0:=A1 (da.o.keep bb (λk e=>by cases e;omega));have ak:=A1 (cz.o.keep bb Oi);obtain⟨e0,e1,e2⟩:=ak.o.q3;have y1:=ak.o.frozen 1;have y2:=ak.o.frozen 2;have d1:=aa.o.me.cell 2 l rfl;have z1:=aa.o.me.frozen 2;have dj:=ak.o.lt;have db:X (DS w w.heap.size E w1.heap.size f pv #[Z nm, Z sp,l, V N 0 0] t2 ((ar.setCell (A F.heap.size 1 N) (.int I ft.k)).setCell (A F.heap.size 2 N) (Z ft.n))):=(aa.o.beside (g:=F.heap.size) (A6 _ (A F.heap.size 1 N) _) Oo Oo Oo dm Oo).beside (g:=F.heap.size) (A6 _ (A F.heap.size 2 N) _) Oo Oo Oo dm Oo;have cb:X (F2 (w1.heap.size+1) 129 3 K3 ((ar.setCell (A F.heap.size 1 N) (.int I ft.k)).setCell (A F.heap.size 2 N) (Z ft.n)) l fs):=lb.kept (lb.kept b0.o (A6 _ (A F.heap.size 1 N) _) (.inr di)) (A6 _ (A F.heap.size 2 N) _) (.inr di)
           have NC:X (∀j u,(K3 ⟨fn,ft⟩)[j]? =O u->(((ar.setCell (A F.heap.size 1 N) (.int I ft.k)).setCell (A F.heap.size 2 N) (Z ft.n)).alloc (H (K3 ⟨fn,ft⟩).toArray 129)).cell? (((A ar.heap.size 0 N):ll).add j)=O u):=by
            have:=O8 ((ar.setCell (A F.heap.size 1 N) (.int I ft.k)).setCell (A F.heap.size 2 N) (Z ft.n)) (K3 ⟨fn,ft⟩) 129;exact c6v
           clear bb ah bj cq cx cd da cz;try dsimp only)
         |(go_at_call 117
           refine K4.bind (a3Q wr E f pv (.ok st3) d.o.eye) ?_;rintro fn v F H8 rfl bo an;obtain⟨t1,ba⟩:=Oe (F5 (D0 (.ok st3) (name f)))
           have aq:E7 F E f pv t1:=by rw[ba];exact bo.o
           have U1:X (D6 (.ok st3) (name f) fn t1):=⟨H8.o,ba.symm⟩
           have ac:=A1 (d.o.step an aq D Oo af);have b':=A1 (HR.o.keep an (λk e=>by cases e;omega));have ec:=ac.o.me.lt;have dm:pv.ownBlock≠O F.heap.size:=bt.o _ Oo;have di:l.ownBlock≠O F.heap.size:=λe=>by have:=(K7 b'.o e).2;omega
           have cd:X (DS w w.heap.size E w1.heap.size f pv #[Z nm, Z sp,l, V N 0 0] t1 (F.alloc (H #[Z fn, .int I 0, Z ⟨#[]⟩] 129))):=ac.o.fresh (A2 _ _ _);have da:X (F2 (w1.heap.size+1) 129 3 K3 (F.alloc (H #[Z fn, .int I 0, Z ⟨#[]⟩] 129)) l fs):=b'.o.keep (A2 _ _ N) Os;have cz:X (A4 (F.alloc (H #[Z fn, .int I 0, Z ⟨#[]⟩] 129)) F.heap.size #[Z fn, .int I 0, Z ⟨#[]⟩] 129):=A4.new _ _ _;clear an bo aq ba H8 ac b';try dsimp only)
         |(at_builtin
           go_loud (refine ln _ rfl _ _ 41 rfl (w1.heap.size+1) 129 i _ 3 40 underlying41 hi cr ct cu rfl Od _ fs.length (fs.flatMap K3) rfl (lb.alloc cb.o _) (A ar.heap.size 0 N) 1 1 (K3 ⟨fn,ft⟩) rfl rfl NC.o (by simp[K3,Value.oneCell']) (a0S rfl cj) Oo Oi ?_)))
        intro v' bw hown S _;obtain⟨a5,k5,rfl⟩:=F7 hown;have bd:=A0 (A2 ((ar.setCell (A F.heap.size 1 N) (.int I ft.k)).setCell (A F.heap.size 2 N) (Z ft.n)) (H (K3 ⟨fn,ft⟩).toArray 129) _) S
        have bz:X (F2 (w1.heap.size+1) 129 3 K3 bw (V a5 (fs.length+1) k5) (fs++ [⟨fn,ft⟩])):=by
         unfold F2 X;exact c5j
        have ab:=A1 (db.o.turn cb.o bd a4 dc bq bt.o);have d':=ab.o.me.frozen 2;have dx:=ab.o.me.cell 2 l rfl;clear hown S bd d1 z1 db cb NC e0 e1 e2 y1 y2 aa b0 ak;go_wp2_with fail
        go_roundw
        case rel=>
         have cp:(fs++ [(⟨fn,ft⟩:V3)]).length=k+1:=by have:=HL.o;simp;omega
         exact⟨k+1,fs++ [(⟨fn,ft⟩:V3)],t2, V a5 (fs.length+1) k5,by go_num,hlt,cp,L9.step HM.o hlt (b6T U1.o U2.o),ab.o.setC bq Oo Oo cm 2 (V a5 (fs.length+1) k5),lb.kept bz.o (A6 bw (A w1.heap.size 2 N) _) (.inr (F9 bz.o (lg _)))⟩
        case measure=>simp[le];omega
       ·go_wp2_with fail
        have cg:k=n1:=by omega
        subst cg;exact DeJ.of _ rfl ⟨fs,_,l,L9.done HM.o,d.o,HR.o⟩
  ·go_loopw [6] (λi wr=>∃(k:Nat) (s:Except Er St),i= .int I k/\k<=2/\E7 wr E f (V N 0 0) s/\A4 wr w.heap.size #[Z ⟨#[]⟩, Z ⟨#[]⟩, V N 0 0, V N 0 0] 44/\w.grownBy wr N/\(∀st,s= .ok st->st.p=[])/\
    (k=0->s= .ok ⟨0,0,[]⟩)/\(k=1->D6 (.ok ⟨0,0,[]⟩) (K9 f 87 0) () s)/\(k=2->∃s1,D6 (.ok ⟨0,0,[]⟩) (K9 f 87 0) () s1/\D6 s1 (K9 f 49 1) () s)) (λi _=>2-(le i).toNat)
   case atStart=>exact⟨0,_,rfl,by omega,HE.o,HO.o,b5.o,(λst e=>by cases e;rfl),λ_=>rfl,(λe=>by cases e),(λe=>by cases e)⟩
   case round=>
    clear HE HO b5;obtain⟨k,s,rfl,hk,he,ho,hg,hp,h0,h1,h2⟩:=hrel;have HE:=A1 he;have HO:=A1 ho;have HG:=A1 hg;have HP:=A1 hp;clear he ho hg hp;by_cases hk2:k=2
    ·subst hk2;have H2:X _:=h2 rfl;clear h0 h1 h2;go_wp2_with fail
     obtain⟨s1,g1,g2⟩:=H2.o;exact a7P.of _ rfl ⟨s1,s,g1,g2,HP.o,HE.o,HO.o,HG.o⟩
    ·by_cases hk0:k=0
     ·subst hk0;have H0:=A1 (h0 rfl);clear h0 h1 h2;go_wp2_with (go_at_call 114;refine K4.bind (p8 wr E f _ s 1 HE Oo) ?_)
      rintro n v w3 H3 rfl y M;have av:=A1 (HO.o.keep M Oi);have au:=A1 (C6 HG.o M (λk e=> .inl (by cases e;exact D)));clear M;try dsimp only
      obtain⟨s3,K⟩:=Oe (F5 (D0 s (C3 f 1)))
      rw[<-K]at y;cases s3 with
      |error er=>
       obtain⟨c4,cv⟩:=y.o.err;go_wp2_with fail
       exact⟨⟨1, .error er,rfl,by omega,y.o,av.o,au.o,(λst e=>by cases e),(λe=>by cases e),(λ_=>by rw[<-H0.o];exact b0o K.symm),(λe=>by cases e)⟩,by simp[le]⟩
      |ok st3=>
       have c4:=y.o.2.cells0.2.2.2.2.1;have ay:=A1 K.symm;clear K;go_wp2_with (go_at_call 115;refine(a1f w3 E f _ (.ok st3) 3 0 y Oo).mono ?_;rintro e w4 ⟨rfl,ai,a'⟩;try dsimp only)
       ·rename_i hq;have hn:¬n=87:=by intro e;subst e;rw[b3T]at hq;revert hq;decide
        exact⟨⟨1, .error (3,0),rfl,by omega,a',av.o.keep ai Oi,C6 au.o ai (λk e=> .inl (by cases e;exact D)),(λst e=>by cases e),(λe=>by cases e),(λ_=>by rw[<-H0.o];exact b0t H3.o ay.o hn),(λe=>by cases e)⟩,by simp[le]⟩
       ·rename_i hq
        have hn:n=87:=by
         rw[b3T]at hq;have:(n:Int)=87:=by simpa using hq
         omega
        exact⟨⟨1, .ok st3,rfl,by omega,y.o,av.o,au.o,(λst e=>by cases e;exact b2R HP.o ay.o),(λe=>by cases e),(λ_=>by rw[<-H0.o];exact b0s H3.o ay.o hn),(λe=>by cases e)⟩,by simp[le]⟩
     ·have d6:k=1:=by omega
      subst d6;have H1:=A1 (h1 rfl);clear h0 h1 h2;go_wp2_with (go_at_call 114;refine K4.bind (p8 wr E f _ s 1 HE Oo) ?_)
      rintro n v w3 H3 rfl y M;have av:=A1 (HO.o.keep M Oi);have au:=A1 (C6 HG.o M (λk e=> .inl (by cases e;exact D)));clear M;try dsimp only
      obtain⟨s3,K⟩:=Oe (F5 (D0 s (C3 f 1)))
      rw[<-K]at y;cases s3 with
      |error er=>
       obtain⟨c4,cv⟩:=y.o.err;go_wp2_with fail
       exact⟨⟨2, .error er,rfl,by omega,y.o,av.o,au.o,(λst e=>by cases e),(λe=>by cases e),(λe=>by cases e),(λ_=>⟨s,H1.o,b0o K.symm⟩)⟩,by simp[le]⟩
      |ok st3=>
       have c4:=y.o.2.cells0.2.2.2.2.1;have ay:=A1 K.symm;clear K;go_wp2_with (go_at_call 115;refine(a1f w3 E f _ (.ok st3) 3 1 y Oo).mono ?_;rintro e w4 ⟨rfl,ai,a'⟩;try dsimp only)
       ·rename_i hq;have hn:¬n=49:=by intro e;subst e;rw[b3U]at hq;revert hq;decide
        exact⟨⟨2, .error (3,1),rfl,by omega,a',av.o.keep ai Oi,C6 au.o ai (λk e=> .inl (by cases e;exact D)),(λst e=>by cases e),(λe=>by cases e),(λe=>by cases e),(λ_=>⟨s,H1.o,b0t H3.o ay.o hn⟩)⟩,by simp[le]⟩
       ·rename_i hq
        have hn:n=49:=by
         rw[b3U]at hq;have:(n:Int)=49:=by simpa using hq
         omega
        exact⟨⟨2, .ok st3,rfl,by omega,y.o,av.o,au.o,(λst e=>by cases e;exact b2R HP.o ay.o),(λe=>by cases e),(λe=>by cases e),(λ_=>⟨s,H1.o,b0s H3.o ay.o hn⟩)⟩,by simp[le]⟩
namespace Kx
variable {fs:List Cl}
theorem c0q{er:Er}(h:y6 fs= .error er):0<er.1:=ns Od (a8S _ _ _ _ h)
theorem Mk.far{w w':ld}{B F r:Nat}{y D:la}{qf:Nat->Qs}{k:Nat}(h:Mk w B F y D fs qf k)(d:w.grownBy w' (O r))(j:r<B):Mk w' B F y D fs qf k:=by
 have K:=h.low;exact⟨h.blk.keep d Oi,h.all.kept d (.inr (F9 h.all j)),h.files.kept d (.inr (F9 h.files j)),h.apart,h.low⟩
end Kx
end
end Go.Proofs.YtdhophglnhcjbaaGreatDoor
