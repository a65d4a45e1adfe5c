/- P17: a part of the proof that the last text tells. -/
import Derived.Test.YtdhophglnhcjbaaGreatDoorP16
set_option linter.all false
namespace Go.Proofs.YtdhophglnhcjbaaGreatDoor
namespace Cf
theorem a7m(a b:List Ty)(j:Nat):(a++b).getD j B6=if j<a.length then a.getD j B6 else b.getD (j-a.length) B6:=by
 rw[List.getD_eq_getElem?_getD,List.getElem?_append];split<;>rw[List.getD_eq_getElem?_getD]
theorem a5x(a:List Ty)(n j:Nat):(a.take n).getD j B6=if j<n then a.getD j B6 else B6:=by
 rw[List.getD_eq_getElem?_getD,List.getElem?_take];split
 ·rw[List.getD_eq_getElem?_getD]
 ·rfl
def E4(l:List Cl)(m:Me)(a h:Nat):Nat:=m.locals+h-G5 l m (A8 m a)
variable {m:Me}
variable {s:List Ty}
variable {a h ht:Nat}
theorem a7E{d:Hd}(hs:s.length=m.locals+h)(j:Nat)(hj:j≤m.locals):(hdF m d s).getD j B6=if j<m.locals then s.getD j B6 else C9 d.cls:=by
 unfold hdF;rw[a7m,a5x];have:(s.take m.locals).length=m.locals:=by simp;omega
 rw[this];by_cases h1:j<m.locals
 ·simp[h1]
 ·obtain rfl:j=m.locals:=by omega
  simp
variable {l:List Cl}
theorem a7F(hs:s.length=m.locals+h)(ht:G5 l m (A8 m a)≤h)(j:Nat):
 (goF l m (A8 m a) s).getD j B6=if j<m.locals then(if(A8 m a).op=3∧(A8 m a).a.toNat=j then s.getD (E4 l m a h) B6 else s.getD j B6)else if j<E4 l m a h then s.getD j B6 else(l6 l (A8 m a) s (E4 l m a h)).getD (j-E4 l m a h) B6:=by
 unfold goF E4;rw[hs];generalize hlow:m.locals+h-G5 l m (A8 m a)=low;have hlo:m.locals≤low:=by omega
 have h1:(if(A8 m a).op=3 then(s.take m.locals).set (A8 m a).a.toNat (s.getD low B6)else s.take m.locals).length=m.locals:=by
  split<;>simp<;>omega
 have h2:((s.take low).drop m.locals).length=low-m.locals:=by simp;omega
 rw[a7m,h1];by_cases g1:j<m.locals
 ·rw[if_pos g1,if_pos g1];by_cases e3:(A8 m a).op=3
  ·rw[if_pos e3,b7y,a5x,if_pos g1];have:(s.take m.locals).length=m.locals:=by simp;omega
   rw[this];by_cases e:(A8 m a).a.toNat=j
   ·simp[e,g1,e3]
   ·simp[e]
  ·rw[if_neg e3,if_neg (by simp[e3]),a5x,if_pos g1]
 ·rw[if_neg g1,if_neg g1,a7m,h2];by_cases g2:j<low
  ·rw[if_pos g2,if_pos (by omega),b5Y,a5x,if_pos (by omega)];congr 1;omega
  ·rw[if_neg g2,if_neg (by omega)];congr 1;omega
def N0(l:List Cl)(m:Me)(a low j:Nat)(t:Ty):List (Nat×Nat×Ty):=
 (if j<m.locals then(m.handlers.filter fun d=>O8 d a).map fun d=>(d.at_,j,t)else [])++
 (G6 (A8 m a) a).flatMap fun x=>
   if(A8 m a).op=3∧j=(A8 m a).a.toNat then []
   else if(A8 m a).op=2∧j=(A8 m a).a.toNat then [(x,j,t),(x,low,t)]
   else if j<low then [(x,j,t)]
   else if(A8 m a).op=3 then [(x,(A8 m a).a.toNat,t)]
   else if(A8 m a).op=5 then [(x,low,t),(x,low+1,t)]
   else if(A8 m a).op=6 then [(x,2*low+1-j,t)]
   else if(A8 m a).op=26∧j=low then [(x,low,P6 t)]
   else []
def N9(l:List Cl)(m:Me)(a low:Nat):List (Nat×Nat×Ty):=
 ((m.handlers.filter fun d=>O8 d a).map fun d=>(d.at_,m.locals,C9 d.cls))++
 (List.range (C4 l (A8 m a)).length).flatMap fun k=>if((C4 l (A8 m a)).getD k B6).kind=0 then []else(G6 (A8 m a) a).map fun x=>(x,low+k,(C4 l (A8 m a)).getD k B6)
abbrev T3:=List (List (Option Ty))
def tq(ts:T3)(a j:Nat):Option (Option Ty):=(ts.getD a [])[j]?
structure a1b(l:List Cl)(c:ByteArray)(m:Me)(ts:T3):Prop where
 len:ts.length=m.code.length
 shape:∀a h,G3 l m a h→(ts.getD a []).length=m.locals+h
 unre:∀a,(∀h,¬G3 l m a h)→ts.getD a []=[]
 snd:∀a j t,tq ts a j=some (some t)→E3 l t∧∀S,Sol l c m S→D0 l t ((S a).getD j B6)=true
def U6(l:List Cl)(ts:T3)(p:Nat×Nat×Ty):Prop:=∃u,tq ts p.1 p.2.1=some (some u)∧D0 l p.2.2 u=true
structure y4(l:List Cl)(c:ByteArray)(m:Me)(p:Nat×Nat×Ty):Prop where
 shape:∃h,G3 l m p.1 h∧p.2.1<m.locals+h
 ok:E3 l p.2.2
 least:∀S,Sol l c m S→D0 l p.2.2 ((S p.1).getD p.2.1 B6)=true
variable {i:In}
theorem a4r(hn:L7 l m i=true)(ho:T5 i)(h:i.op=2∨i.op=3):i.a.toNat<m.locals:=by
 unfold L7 at hn;rw[if_pos h]at hn;have:=of_decide_eq_true hn;have:=ho.2 (by omega);omega
theorem a9n(h:a<m.code.length):A8 m a∈m.code:=by unfold A8;simp[h]
theorem b0c(s:List Ty)(low:Nat)(h:i.op=2):l6 l i s low=[s.getD i.a.toNat B6]:=by unfold l6;rw[if_pos h]
theorem a7e(s:List Ty)(low:Nat)(h:i.op=5):l6 l i s low=[s.getD low B6,s.getD low B6]:=by unfold l6;rw[if_neg (by omega),if_pos h]
theorem a6R(s:List Ty)(low:Nat)(h:i.op=6):l6 l i s low=[s.getD (low+1) B6,s.getD low B6]:=by unfold l6;rw[if_neg (by omega),if_neg (by omega),if_pos h]
theorem a9x(s:List Ty)(low:Nat)(h:i.op=26):l6 l i s low=[P6 (s.getD low B6)]:=by unfold l6;rw[if_neg (by omega),if_neg (by omega),if_neg (by omega),if_pos h]
theorem b0d(s:List Ty)(low:Nat)(h:¬(i.op=2∨i.op=5∨i.op=6∨i.op=26)):l6 l i s low=C4 l i:=by unfold l6;rw[if_neg (by omega),if_neg (by omega),if_neg (by omega),if_neg (by omega)]
variable {c:ByteArray}
theorem C2.fixed_comes(h:C2 l)(hw:m9 l)(hc:T2 l m)(hi:∀i∈m.code,T5 i)(hh:a0d l m)(hr:G3 l m a ht):∀p∈N9 l m a (E4 l m a ht),y4 l c m p:=by
 intro p hp;have ho:=a6T hh hr;have hroom:=hh.room a ht hr;unfold Y5 at hroom;simp only[Bool.and_eq_true,decide_eq_true_eq]at hroom;have hin:=a1O hc hi hr;unfold N9 at hp;rcases List.mem_append.1 hp with hp|hp
 ·obtain⟨d,hd,rfl⟩:=List.mem_map.1 hp;obtain⟨h1,h2⟩:=List.mem_filter.1 hd;have hb:=(hc.hds d h1).2.2.2
  have hk:∃i,C5 l d.cls=some i:=by
   cases hf:C5 l d.cls with
   |none=>rw[h.below_none hf]at hb;cases hb
   |some i=>exact⟨i,rfl⟩
  refine⟨⟨1,ho.1 d h1 h2,by simp only;omega⟩,⟨by simp[C9],by simpa[C9]using hk⟩,fun S hS=> ?_⟩;have hf:=hS.flow a ht hr (d.at_,hdF m d) (List.mem_append_left _ (List.mem_map.2 ⟨d,hd,rfl⟩));have:=hf.2 m.locals (by rw[a4L (hS.shape a ht hr)];omega);rw[a7E (hS.shape a ht hr) _ (Nat.le_refl _),if_neg (by omega)]at this;exact this
 ·obtain⟨k,hk,hp⟩:=List.mem_flatMap.1 hp;have hk:=List.mem_range.1 hk;split at hp
  ·cases hp
  ·rename_i h0;obtain⟨x,hx,rfl⟩:=List.mem_map.1 hp;have hpl:(C4 l (A8 m a)).length=P1 l (A8 m a):=rfl;have hm:=b0x hk;refine⟨⟨_,ho.2 x hx,by simp only[E4,a0i];omega⟩,(h.puts_ok hw (hc.need a hin.1)).1 _ hm,fun S hS=> ?_⟩;have hf:=hS.flow a ht hr (x,goF l m (A8 m a)) (List.mem_append_right _ (List.mem_map.2 ⟨x,hx,rfl⟩));have hlen:=a4M (hS.shape a ht hr) (hh.room a ht hr);have:=hf.2 (E4 l m a ht+k) (by rw[hlen];simp only[E4,a0i];omega);rw[a7F (hS.shape a ht hr) hroom.1,if_neg (by simp only[E4];omega),if_neg (by omega),Nat.add_sub_cancel_left]at this
   have hnop:¬((A8 m a).op=2∨(A8 m a).op=5∨(A8 m a).op=6∨(A8 m a).op=26):=fun e=>by
    apply h0
    have:∀t∈C4 l (A8 m a),t=B6:=by
     rcases e with e|e|e|e<;>simp[C4,e]
    rw[this _ hm];rfl
   rw[b0d _ _ hnop]at this;exact this
theorem C2.flow_comes(h:C2 l)(hw:m9 l)(hc:T2 l m)(hi:∀i∈m.code,T5 i)(hh:a0d l m)(hr:G3 l m a ht){j:Nat}(hj:j<m.locals+ht){t:Ty}(htk:E3 l t)
 (hle:∀S,Sol l c m S→D0 l t ((S a).getD j B6)=true):∀p∈N0 l m a (E4 l m a ht) j t,y4 l c m p:=by
 intro p hp;have ho:=a6T hh hr;have hroom:=hh.room a ht hr;unfold Y5 at hroom;simp only[Bool.and_eq_true,decide_eq_true_eq]at hroom;have hin:=a1O hc hi hr;have hok:=hi _ (a9n hin.1);have hnd:=hc.need a hin.1;unfold N0 at hp;rcases List.mem_append.1 hp with hp|hp
 ·split at hp
  ·rename_i hjl;obtain⟨d,hd,rfl⟩:=List.mem_map.1 hp;obtain⟨h1,h2⟩:=List.mem_filter.1 hd;refine⟨⟨1,ho.1 d h1 h2,by simp only;omega⟩,htk,fun S hS=> ?_⟩;have hf:=hS.flow a ht hr (d.at_,hdF m d) (List.mem_append_left _ (List.mem_map.2 ⟨d,hd,rfl⟩));have h3:=hf.2 j (by rw[a4L (hS.shape a ht hr)];omega);rw[a7E (hS.shape a ht hr) _ (by omega),if_pos hjl]at h3;exact h.under_trans htk (o5 (hS.ok a ht hr) j) (o5 (hS.ok d.at_ 1 (ho.1 d h1 h2)) j) (hle S hS) h3
  ·cases hp
 ·obtain⟨x,hx,hp⟩:=List.mem_flatMap.1 hp;have hrx:=ho.2 x hx
  have key:∀(j2:Nat) (v:Ty),j2<m.locals+a0i l m a ht→E3 l v→(∀S,Sol l c m S→D0 l v ((goF l m (A8 m a) (S a)).getD j2 B6)=true)→y4 l c m (x,j2,v):=fun j2 v h1 h2 h3=>by
   refine⟨⟨_,hrx,h1⟩,h2,fun S hS=> ?_⟩;have hf:=hS.flow a ht hr (x,goF l m (A8 m a)) (List.mem_append_right _ (List.mem_map.2 ⟨x,hx,rfl⟩));have hlen:=a4M (hS.shape a ht hr) (hh.room a ht hr);have hT:=o5 (h.out_ok hw hc hin.1 (hS.ok a ht hr) (q:=(x,goF l m (A8 m a))) (List.mem_append_right _ (List.mem_map.2 ⟨x,hx,rfl⟩))) j2;exact h.under_trans h2 hT (o5 (hS.ok x _ hrx) j2) (h3 S hS) (hf.2 j2 (by rw[hlen];exact h1))
  have hlow:E4 l m a ht=m.locals+ht-G5 l m (A8 m a):=rfl;have hbeh:a0i l m a ht=ht-G5 l m (A8 m a)+P1 l (A8 m a):=rfl;have hget:=fun S (hS:Sol l c m S) (j2:Nat)=>a7F (l:=l) (a:=a) (hS.shape a ht hr) hroom.1 j2
  have hputn:P1 l (A8 m a)=(C4 l (A8 m a)).length:=rfl;split at hp
  ·cases hp
  ·rename_i n3;split at hp
   ·rename_i e2;have hal:=a4r hnd hok (.inl e2.1);have hp1:P1 l (A8 m a)=1:=by rw[hputn];simp[C4,e2.1]
    simp only[List.mem_cons,List.not_mem_nil,or_false]at hp;rcases hp with rfl|rfl
    ·exact key j t (by omega) htk (fun S hS=>by rw[hget S hS,if_pos (by omega),if_neg (by omega)];exact hle S hS)
    ·exact key _ t (by omega) htk (fun S hS=>by rw[hget S hS,if_neg (by omega),if_neg (by omega),b0c _ _ e2.1,Nat.sub_self,←e2.2];exact hle S hS)
   ·rename_i n2;split at hp
    ·rename_i hlt;rw[List.mem_singleton.1 hp];refine key j t (by omega) htk (fun S hS=> ?_);rw[hget S hS];split
     ·rw[if_neg (fun e=>n3 ⟨e.1,e.2.symm⟩)];exact hle S hS
     ·first|exact hle S hS|(rw[if_pos hlt];exact hle S hS)
    ·rename_i hge;have htake:0<G5 l m (A8 m a):=by omega
     split at hp
     ·rename_i e3;have hal:=a4r hnd hok (.inr e3);have ht1:G5 l m (A8 m a)=1:=by simp[G5,F3,e3]
      have hj0:j=E4 l m a ht:=by omega
      rw[List.mem_singleton.1 hp];exact key _ t (by omega) htk (fun S hS=>by rw[hget S hS,if_pos hal,if_pos ⟨e3,rfl⟩,←hj0];exact hle S hS)
     ·split at hp
      ·rename_i e5;have ht1:G5 l m (A8 m a)=1:=by simp[G5,F3,e5]
       have hp2:P1 l (A8 m a)=2:=by rw[hputn];simp[C4,e5]
       have hj0:j=E4 l m a ht:=by omega
       simp only[List.mem_cons,List.not_mem_nil,or_false]at hp;rcases hp with rfl|rfl
       ·exact key _ t (by omega) htk (fun S hS=>by rw[hget S hS,if_neg (by omega),if_neg (by omega),a7e _ _ e5,Nat.sub_self,←hj0];exact hle S hS)
       ·exact key _ t (by omega) htk (fun S hS=>by rw[hget S hS,if_neg (by omega),if_neg (by omega),a7e _ _ e5,Nat.add_sub_cancel_left,←hj0];exact hle S hS)
      ·split at hp
       ·rename_i e6;have ht1:G5 l m (A8 m a)=2:=by simp[G5,F3,e6]
        have hp2:P1 l (A8 m a)=2:=by rw[hputn];simp[C4,e6]
        rw[List.mem_singleton.1 hp];have hj0:j=E4 l m a ht∨j=E4 l m a ht+1:=by omega
        rcases hj0 with hj0|hj0
        ·have e:2*E4 l m a ht+1-j=E4 l m a ht+1:=by omega
         rw[e];exact key _ t (by omega) htk (fun S hS=>by rw[hget S hS,if_neg (by omega),if_neg (by omega),a6R _ _ e6,Nat.add_sub_cancel_left,←hj0];exact hle S hS)
        ·have e:2*E4 l m a ht+1-j=E4 l m a ht:=by omega
         rw[e];exact key _ t (by omega) htk (fun S hS=>by rw[hget S hS,if_neg (by omega),if_neg (by omega),a6R _ _ e6,Nat.sub_self,←hj0];exact hle S hS)
       ·split at hp
        ·rename_i e26;have hp2:P1 l (A8 m a)=1:=by rw[hputn];simp[C4,e26.1]
         rw[List.mem_singleton.1 hp];exact key _ _ (by omega) (b0D htk) (fun S hS=>by rw[hget S hS,if_neg (by omega),if_neg (by omega),a9x _ _ e26.1,Nat.sub_self,←e26.2];exact b4Q htk (o5 (hS.ok a ht hr) j) (hle S hS))
        ·cases hp
end Cf
namespace Cf
def U5(ts:T3)(a j:Nat)(t:Ty):T3:=ts.set a ((ts.getD a []).set j (some t))
variable {ts:T3}
variable {a j:Nat}
variable {o:Option Ty}
theorem a1v(h:tq ts a j=some o):a<ts.length∧j<(ts.getD a []).length:=by
 unfold tq at h;have h1:=(List.getElem?_eq_some_iff.1 h).1;refine⟨?_,h1⟩;by_cases ha:a<ts.length
 ·exact ha
 ·have:ts.getD a []=[]:=by simp[Nat.le_of_not_lt ha]
  rw[this]at h1;simp at h1
theorem a3B(ts:T3)(a j b:Nat)(t:Ty)(h:a<ts.length):(U5 ts a j t).getD b []=if a=b then(ts.getD a []).set j (some t)else ts.getD b []:=by
 unfold U5;rw[List.getD_eq_getElem?_getD,List.getElem?_set];by_cases e:a=b
 ·rw[if_pos e,if_pos e,if_pos h];rfl
 ·rw[if_neg e,if_neg e,List.getD_eq_getElem?_getD]
theorem a4I(h:tq ts a j=some o)(t:Ty)(b k:Nat):tq (U5 ts a j t) b k=if a=b∧j=k then some (some t)else tq ts b k:=by
 obtain⟨h1,h2⟩:=a1v h;unfold tq;rw[a3B _ _ _ _ _ h1];by_cases e:a=b
 ·subst e;rw[if_pos rfl,List.getElem?_set];by_cases e2:j=k
  ·rw[if_pos e2,if_pos h2,if_pos ⟨rfl,e2⟩]
  ·rw[if_neg e2,if_neg (fun c=>e2 c.2)]
 ·rw[if_neg e,if_neg (fun c=>e c.1)]
def V4(l:List Cl)(o:Option Ty)(t:Ty):Ty:=match o with|none=>t|some x=>a0U l x t
def a0x(l:List Cl)(ts ts':T3):Prop:=∀(a j:Nat) (t:Ty),tq ts a j=some (some t)→∃u,tq ts' a j=some (some u)∧D0 l t u=true
variable {l:List Cl}
variable {c:ByteArray}
variable {m:Me}
variable {p:Nat×Nat×Ty}
theorem C2.raise_ok(h:C2 l)(hp:a1b l c m ts)(hv:y4 l c m p)(ho:tq ts p.1 p.2.1=some o):
 a1b l c m (U5 ts p.1 p.2.1 (V4 l o p.2.2))∧a0x l ts (U5 ts p.1 p.2.1 (V4 l o p.2.2))∧U6 l (U5 ts p.1 p.2.1 (V4 l o p.2.2)) p∧(o=some (V4 l o p.2.2)→U5 ts p.1 p.2.1 (V4 l o p.2.2)=ts):=by
 obtain⟨h1,h2⟩:=a1v ho
 have key:E3 l (V4 l o p.2.2)∧D0 l p.2.2 (V4 l o p.2.2)=true∧(∀S,Sol l c m S→D0 l (V4 l o p.2.2) ((S p.1).getD p.2.1 B6)=true)∧∀x,o=some x→D0 l x (V4 l o p.2.2)=true:=by
  cases o with
  |none=>exact⟨hv.ok,a1K _ _,hv.least,fun x e=>by cases e⟩
  |some x=>
   obtain⟨x1,x2⟩:=hp.snd _ _ _ ho;have lub:=h.joinP_lub x1 hv.ok;obtain⟨k,hk,_⟩:=hv.shape;exact⟨lub.ok,lub.right,fun S hS=>lub.least _ (o5 (hS.ok _ _ hk) _) (x2 S hS) (hv.least S hS),fun y e=>by cases e;exact lub.left⟩
 obtain⟨k1,k2,k3,k4⟩:=key;refine⟨⟨by unfold U5;simpa using hp.len,fun a ht hr=> ?_,fun a hno=> ?_,fun a j t ht=> ?_⟩,fun a j t ht=> ?_,⟨_,by rw[a4I ho,if_pos ⟨rfl,rfl⟩],k2⟩,fun e=> ?_⟩
 ·rw[a3B _ _ _ _ _ h1];split
  ·rename_i e;subst e;rw[List.length_set];exact hp.shape _ ht hr
  ·exact hp.shape a ht hr
 ·rw[a3B _ _ _ _ _ h1];split
  ·rename_i e;subst e;rw[hp.unre _ hno]at h2;simp at h2
  ·exact hp.unre a hno
 ·rw[a4I ho]at ht;split at ht
  ·rename_i e;obtain⟨rfl,rfl⟩:=e;injection ht with ht;injection ht with ht;subst ht
   exact⟨k1,k3⟩
  ·exact hp.snd a j t ht
 ·rw[a4I ho];by_cases e:p.1=a∧p.2.1=j
  ·obtain⟨rfl,rfl⟩:=e;rw[ho]at ht;injection ht with ht
   exact⟨_,if_pos ⟨rfl,rfl⟩,k4 t ht⟩
  ·exact⟨t,by rw[if_neg e];exact ht,a1K _ _⟩
 ·unfold U5;refine List.ext_getElem? fun b=> ?_
  rw[List.getElem?_set];by_cases eb:p.1=b
  ·subst eb;rw[if_pos rfl,if_pos h1]
   have:(ts.getD p.1 []).set p.2.1 (some (V4 l o p.2.2))=ts.getD p.1 []:=by
    refine List.ext_getElem? fun k=> ?_
    rw[List.getElem?_set];by_cases ek:p.2.1=k
    ·subst ek;rw[if_pos rfl,if_pos h2,←e];exact ho.symm
    ·rw[if_neg ek]
   rw[this];simp[h1]
  ·rw[if_neg eb]
theorem C2.satS_rises(h:C2 l){ts':T3}(h1:a1b l c m ts)(h2:a1b l c m ts')(hr:a0x l ts ts')(hp:E3 l p.2.2)(hs:U6 l ts p):U6 l ts' p:=by
 obtain⟨u,hu,hle⟩:=hs;obtain⟨v,hv,hle2⟩:=hr _ _ _ hu;exact⟨v,hv,h.under_trans hp (h1.snd _ _ _ hu).1 (h2.snd _ _ _ hv).1 hle hle2⟩
def rkO(l:List Cl)(o:Option Ty):Nat:=match o with|none=>l.length+2|some t=>rk l t
def a3j(l:List Cl)(ts:T3):Nat:=(ts.map fun r=>(r.map (rkO l)).sum).sum
theorem a7u{α:Type}(f:α→Nat):∀(r:List α) (j:Nat) (x o:α),r[j]? =some o→((r.set j x).map f).sum+f o=(r.map f).sum+f x
 | [],j,_,_,h=>by simp at h
 |y::r,0,x,o,h=>by
  simp at h;subst h;simp only[List.set_cons_zero,List.map_cons,List.sum_cons];omega
 |y::r,j+1,x,o,h=>by
  have:=a7u f r j x o (by simpa using h);simp only[List.set_cons_succ,List.map_cons,List.sum_cons];omega
theorem b6U(l:List Cl)(h:tq ts a j=some o)(t:Ty):a3j l (U5 ts a j t)+rkO l o=a3j l ts+rk l t:=by
 obtain⟨h1,h2⟩:=a1v h;unfold a3j U5;have hget:ts[a]? =some (ts.getD a []):=by simp[h1]
 have e1:=a7u (fun r:List (Option Ty)=>(r.map (rkO l)).sum) ts a ((ts.getD a []).set j (some t)) (ts.getD a []) hget;have e2:=a7u (rkO l) (ts.getD a []) j (some t) o h;have e3:rkO l (some t)=rk l t:=rfl;have e4:rkO l (some t)=rk l t:=rfl;omega
variable {t:Ty}
theorem C2.raise_rk(h:C2 l)(ho:∀x,o=some x→E3 l x)(ht:E3 l t)(hne:o≠some (V4 l o t)):rk l (V4 l o t)<rkO l o:=by
 cases o with
 |none=>have:=h.rk_le t;simp only[V4,rkO];omega
 |some x=>
  have lub:=h.joinP_lub (ho x rfl) ht;exact h.rk_lt (ho x rfl) lub.ok lub.left (fun e=>hne (congrArg some e))
def N5(ts:T3)(a:Nat):List Ty:=(ts.getD a []).map fun o=>o.getD B6
theorem a0c(h:tq ts a j=some (some t)):(N5 ts a).getD j B6=t:=by
 unfold N5 tq at*
 rw[List.getD_eq_getElem?_getD,List.getElem?_map,h];rfl
theorem a2r{low x:Nat}(hx:x∈G6 (A8 m a) a)
 (hp:p∈(if(A8 m a).op=3∧j=(A8 m a).a.toNat then []
 else if(A8 m a).op=2∧j=(A8 m a).a.toNat then [(x,j,t),(x,low,t)]
 else if j<low then [(x,j,t)]
 else if(A8 m a).op=3 then [(x,(A8 m a).a.toNat,t)]
 else if(A8 m a).op=5 then [(x,low,t),(x,low+1,t)]
 else if(A8 m a).op=6 then [(x,2*low+1-j,t)]
 else if(A8 m a).op=26∧j=low then [(x,low,P6 t)]
 else [])):p∈N0 l m a low j t:=by
 unfold N0;exact List.mem_append_right _ (List.mem_flatMap.2 ⟨x,hx,hp⟩)
theorem C2.cover(h:C2 l)(hw:m9 l)(hc:T2 l m)(hi:∀i∈m.code,T5 i)(hh:a0d l m)(hp:a1b l c m ts){ht:Nat}(hr:G3 l m a ht)
 (hfix:∀p∈N9 l m a (E4 l m a ht),U6 l ts p) (hflow:∀j t,tq ts a j=some (some t)→∀p∈N0 l m a (E4 l m a ht) j t,U6 l ts p) (htold:∀j,j<m.locals+ht→∃t,tq ts a j=some (some t)):
 ∀q∈a1A l m a,∀j,j<(q.2 (N5 ts a)).length→U6 l ts (q.1,j,(q.2 (N5 ts a)).getD j B6):=by
 intro q hq j hj;have hlen:(N5 ts a).length=m.locals+ht:=by unfold N5;rw[List.length_map];exact hp.shape a ht hr
 have hroom:=hh.room a ht hr;have hroom2:=hroom;unfold Y5 at hroom;simp only[Bool.and_eq_true,decide_eq_true_eq]at hroom;have hin:=a1O hc hi hr;have hok:=hi _ (a9n hin.1);have hnd:=hc.need a hin.1;have hlow:E4 l m a ht=m.locals+ht-G5 l m (A8 m a):=rfl;have hbeh:a0i l m a ht=ht-G5 l m (A8 m a)+P1 l (A8 m a):=rfl;have hputn:P1 l (A8 m a)=(C4 l (A8 m a)).length:=rfl;unfold a1A at hq;rcases List.mem_append.1 hq with hq|hq
 ·obtain⟨d,hd,rfl⟩:=List.mem_map.1 hq;rw[a4L hlen]at hj;rw[a7E hlen _ (by omega)];split
  ·rename_i hjl;obtain⟨t,ht2⟩:=htold j (by omega);rw[a0c ht2];refine hflow j t ht2 _ ?_;unfold N0;rw[if_pos hjl];exact List.mem_append_left _ (List.mem_map.2 ⟨d,hd,rfl⟩)
  ·have:j=m.locals:=by omega
   subst this;refine hfix _ ?_;unfold N9;exact List.mem_append_left _ (List.mem_map.2 ⟨d,hd,rfl⟩)
 ·obtain⟨x,hx,rfl⟩:=List.mem_map.1 hq;rw[a4M hlen hroom2]at hj;rw[a7F hlen hroom.1];by_cases hjl:j<m.locals
  ·rw[if_pos hjl];by_cases e3:(A8 m a).op=3∧(A8 m a).a.toNat=j
   ·rw[if_pos e3];have ht1:G5 l m (A8 m a)=1:=by simp[G5,F3,e3.1]
    obtain⟨t,ht2⟩:=htold (E4 l m a ht) (by omega);rw[a0c ht2];refine hflow _ t ht2 _ (a2r hx ?_);rw[if_neg (by omega),if_neg (by omega),if_neg (by omega),if_pos e3.1,e3.2];simp
   ·rw[if_neg e3];obtain⟨t,ht2⟩:=htold j (by omega);rw[a0c ht2];refine hflow _ t ht2 _ (a2r hx ?_);rw[if_neg (fun e=>e3 ⟨e.1,e.2.symm⟩)];split
    ·simp
    ·rw[if_pos (by omega)];simp
  ·rw[if_neg hjl];by_cases hjw:j<E4 l m a ht
   ·rw[if_pos hjw];obtain⟨t,ht2⟩:=htold j (by omega);rw[a0c ht2];refine hflow _ t ht2 _ (a2r hx ?_)
    have hnl:∀o,(o=2∨o=3)→¬((A8 m a).op=o∧j=(A8 m a).a.toNat):=fun o ho e=>by
     have:=a4r hnd hok (by rcases ho with rfl|rfl<;>simp[e.1]);omega
    rw[if_neg (hnl 3 (.inr rfl)),if_neg (hnl 2 (.inl rfl)),if_pos hjw];simp
   ·rw[if_neg hjw];obtain⟨k,rfl⟩:∃k,j=E4 l m a ht+k:=⟨j-E4 l m a ht,by omega⟩
    rw[Nat.add_sub_cancel_left];have hk:k<P1 l (A8 m a):=by omega
    by_cases e2:(A8 m a).op=2
    ·have hp1:P1 l (A8 m a)=1:=by rw[hputn];simp[C4,e2]
     have hal:=a4r hnd hok (.inl e2);obtain rfl:k=0:=by omega
     rw[b0c _ _ e2];obtain⟨t,ht2⟩:=htold (A8 m a).a.toNat (by omega);show U6 l ts (x,E4 l m a ht+0,(N5 ts a).getD (A8 m a).a.toNat B6);rw[a0c ht2];refine hflow _ t ht2 _ (a2r hx ?_);rw[if_neg (by omega),if_pos ⟨e2,rfl⟩];simp
    ·by_cases e5:(A8 m a).op=5
     ·have hp1:P1 l (A8 m a)=2:=by rw[hputn];simp[C4,e5]
      have ht1:G5 l m (A8 m a)=1:=by simp[G5,F3,e5]
      obtain⟨t,ht2⟩:=htold (E4 l m a ht) (by omega);rw[a7e _ _ e5,a0c ht2]
      have hv:([t,t]:List Ty).getD k B6=t:=by
       have:k=0∨k=1:=by omega
       rcases this with rfl|rfl<;>rfl
      rw[hv];refine hflow _ t ht2 _ (a2r hx ?_);rw[if_neg (by omega),if_neg (by omega),if_neg (by omega),if_neg (by omega),if_pos e5];have:k=0∨k=1:=by omega
      rcases this with rfl|rfl<;>simp
     ·by_cases e6:(A8 m a).op=6
      ·have hp1:P1 l (A8 m a)=2:=by rw[hputn];simp[C4,e6]
       have ht1:G5 l m (A8 m a)=2:=by simp[G5,F3,e6]
       rw[a6R _ _ e6];have:k=0∨k=1:=by omega
       rcases this with rfl|rfl
       ·obtain⟨t,ht2⟩:=htold (E4 l m a ht+1) (by omega);show U6 l ts (x,E4 l m a ht+0,(N5 ts a).getD (E4 l m a ht+1) B6);rw[a0c ht2];refine hflow _ t ht2 _ (a2r hx ?_);rw[if_neg (by omega),if_neg (by omega),if_neg (by omega),if_neg (by omega),if_neg e5,if_pos e6];have:2*E4 l m a ht+1-(E4 l m a ht+1)=E4 l m a ht:=by omega
        rw[this];simp
       ·obtain⟨t,ht2⟩:=htold (E4 l m a ht) (by omega);show U6 l ts (x,E4 l m a ht+1,(N5 ts a).getD (E4 l m a ht) B6);rw[a0c ht2];refine hflow _ t ht2 _ (a2r hx ?_);rw[if_neg (by omega),if_neg (by omega),if_neg (by omega),if_neg (by omega),if_neg e5,if_pos e6];have:2*E4 l m a ht+1-E4 l m a ht=E4 l m a ht+1:=by omega
        rw[this];simp
      ·by_cases e26:(A8 m a).op=26
       ·have hp1:P1 l (A8 m a)=1:=by rw[hputn];simp[C4,e26]
        have ht1:G5 l m (A8 m a)=2:=by simp[G5,F3,e26]
        obtain rfl:k=0:=by omega
        obtain⟨t,ht2⟩:=htold (E4 l m a ht) (by omega);rw[a9x _ _ e26,a0c ht2];refine hflow _ t ht2 _ (a2r hx ?_);rw[if_neg (by omega),if_neg (by omega),if_neg (by omega),if_neg (by omega),if_neg e5,if_neg e6,if_pos ⟨e26,rfl⟩];simp
       ·rw[b0d _ _ (by omega)];refine hfix _ ?_;unfold N9;refine List.mem_append_right _ (List.mem_flatMap.2 ⟨k,List.mem_range.2 (by omega),?_⟩)
        have hne:((C4 l (A8 m a)).getD k B6).kind≠0:=fun e=>by
         have:=(h.puts_ok hw hnd).2 ⟨_,b0x (by omega),e⟩;omega
        rw[if_neg hne];exact List.mem_map.2 ⟨x,hx,rfl⟩
theorem C2.typing_ofS(h:C2 l)(hw:m9 l)(hc:T2 l m)(hi:∀i∈m.code,T5 i)(hh:a0d l m)(hp:a1b l c m ts)
 (hent:∀j,j<m.locals→U6 l ts (0,j,(a0A c m).getD j B6)) (hfix:∀a ht,G3 l m a ht→∀p∈N9 l m a (E4 l m a ht),U6 l ts p)
 (hflow:∀a ht,G3 l m a ht→∀j t,tq ts a j=some (some t)→∀p∈N0 l m a (E4 l m a ht) j t,U6 l ts p):
 a2Z l c m (N5 ts)∧∀a ht,G3 l m a ht→∀j,j<m.locals+ht→∃t,tq ts a j=some (some t):=by
 have hlen:∀a ht,G3 l m a ht→(N5 ts a).length=m.locals+ht:=fun a ht hr=>by unfold N5;rw[List.length_map];exact hp.shape a ht hr
 have told:∀a ht,G3 l m a ht→∀j,j<m.locals+ht→∃t,tq ts a j=some (some t):=by
  intro a ht hr;refine a5s (S:=fun a ht=>G3 l m a ht∧∀j,j<m.locals+ht→∃t,tq ts a j=some (some t)) ⟨⟨(a1J l m).1,fun j hj=> ?_⟩,?_⟩ hr|>.2
  ·obtain⟨u,hu,_⟩:=hent j (by omega);exact⟨u,hu⟩
  ·rintro a ht ⟨hra,htold⟩ p hpm;have hrp:=(a1J l m).2 a ht hra p hpm;refine⟨hrp,fun j hj=> ?_⟩
   have hq:∃q∈a1A l m a,q.1=p.1∧(q.2 (N5 ts a)).length=m.locals+p.2:=by
    unfold a0m at hpm;rcases List.mem_append.1 hpm with hpm|hpm
    ·split at hpm
     ·cases hpm
     ·obtain⟨d,hd,rfl⟩:=List.mem_map.1 hpm;exact⟨(d.at_,hdF m d),List.mem_append_left _ (List.mem_map.2 ⟨d,hd,rfl⟩),rfl,a4L (hlen a ht hra)⟩
    ·split at hpm
     ·rename_i hroom;obtain⟨x,hx,rfl⟩:=List.mem_map.1 hpm;exact⟨(x,goF l m (A8 m a)),List.mem_append_right _ (List.mem_map.2 ⟨x,hx,rfl⟩),rfl,a4M (hlen a ht hra) hroom⟩
     ·cases hpm
   obtain⟨q,hq,e1,e2⟩:=hq;obtain⟨u,hu,_⟩:=h.cover hw hc hi hh hp hra (hfix a ht hra) (hflow a ht hra) htold q hq j (by omega);rw[e1]at hu;exact⟨u,hu⟩
 have okT:∀a ht,G3 l m a ht→b9 l (N5 ts a):=fun a ht hr t ht2=>by
  obtain⟨j,hj,rfl⟩:=b7g ht2;obtain⟨u,hu⟩:=told a ht hr j (by rw[hlen a ht hr]at hj;exact hj);rw[a0c hu];exact(hp.snd a j u hu).1
 refine⟨⟨⟨hlen,okT,⟨?_,fun j hj=> ?_⟩,fun a ht hr q hq=> ?_⟩,fun S hS a ht hr=>⟨?_,fun j hj=> ?_⟩⟩,told⟩
 ·rw[a7a hc,hlen 0 0 (a1J l m).1];rfl
 ·rw[a7a hc]at hj;obtain⟨u,hu,hle⟩:=hent j hj;rw[a0c hu];exact hle
 ·obtain⟨k,hk,hkl⟩:=b5F hh hr (hlen a ht hr) hq;refine⟨by rw[hkl,hlen _ _ hk],fun j hj=> ?_⟩;obtain⟨u,hu,hle⟩:=h.cover hw hc hi hh hp hr (hfix a ht hr) (hflow a ht hr) (told a ht hr) q hq j hj;rw[a0c hu];exact hle
 ·rw[hlen a ht hr,hS.shape a ht hr]
 ·obtain⟨u,hu⟩:=told a ht hr j (by rw[hlen a ht hr]at hj;exact hj);rw[a0c hu];exact(hp.snd a j u hu).2 S hS
end Cf
namespace Cf
structure Ps where
 ts:T3
 ris:List (Nat×Nat)
def a2A(o:Option Ty)(t:Ty):Bool:=match o with|none=>false|some x=>I4 x t
theorem a4w(o:Option Ty)(t:Ty):a2A o t=true↔o=some t:=by
 cases o with
 |none=>simp[a2A]
 |some x=>simp[a2A,a1m]
def N4(l:List Cl)(s:Ps)(p:Nat×Nat×Ty):Ps:=
 match tq s.ts p.1 p.2.1 with
 |none=>s
 |some o=>if a2A o (V4 l o p.2.2)=true then s else{ts:=U5 s.ts p.1 p.2.1 (V4 l o p.2.2),ris:=s.ris++ [(p.1,p.2.1)]}
def T4(l:List Cl)(s:Ps):Nat:=2*a3j l s.ts+s.ris.length
def o9(l:List Cl)(m:Me)(s:Ps)(cur:Option (Nat×Nat×Ty)):Prop:=
 ∀a ht,G3 l m a ht→∀j t,tq s.ts a j=some (some t)→(a,j)∈s.ris∨cur=some (a,j,t)∨∀p∈N0 l m a (E4 l m a ht) j t,U6 l s.ts p
def c0L(s:Ps):Prop:=∀p∈s.ris,∃t,tq s.ts p.1 p.2=some (some t)
structure N2(l:List Cl)(c:ByteArray)(m:Me)(s:Ps):Prop where
 snd:a1b l c m s.ts
 told:c0L s
structure a1a(l:List Cl)(s s':Ps):Prop where
 up:a0x l s.ts s'.ts
 mu:T4 l s'≤T4 l s
 same:∀a j,tq s'.ts a j=tq s.ts a j∨(a,j)∈s'.ris
 ris:∀p∈s.ris,p∈s'.ris
 len:∀a,(s'.ts.getD a []).length=(s.ts.getD a []).length
theorem a6v(l:List Cl)(ts:T3):a0x l ts ts:=fun _ _ t h=>⟨t,h,a1K _ _⟩
theorem a1a.refl(l:List Cl)(s:Ps):a1a l s s:=⟨a6v l _,Nat.le_refl _,fun _ _=> .inl rfl,fun _ h=>h,fun _=>rfl⟩
variable {l:List Cl}
variable {c:ByteArray}
variable {m:Me}
theorem C2.risesS_trans(h:C2 l){x y z:T3}(hx:a1b l c m x)(hy:a1b l c m y)(hz:a1b l c m z)(h1:a0x l x y)(h2:a0x l y z):a0x l x z:=fun a j t ht=>by
 obtain⟨u,hu,e1⟩:=h1 a j t ht;obtain⟨v,hv,e2⟩:=h2 a j u hu;exact⟨v,hv,h.under_trans (hx.snd _ _ _ ht).1 (hy.snd _ _ _ hu).1 (hz.snd _ _ _ hv).1 e1 e2⟩
theorem C2.psUp_trans(h:C2 l){x y z:Ps}(hx:N2 l c m x)(hy:N2 l c m y)(hz:N2 l c m z)(h1:a1a l x y)(h2:a1a l y z):a1a l x z:=
 ⟨h.risesS_trans hx.snd hy.snd hz.snd h1.up h2.up,Nat.le_trans h2.mu h1.mu,fun a j=>by
  rcases h2.same a j with e|e
  ·rcases h1.same a j with e2|e2
   ·exact .inl (e.trans e2)
   ·exact .inr (h2.ris _ e2)
  ·exact .inr e,fun p hp=>h2.ris p (h1.ris p hp),fun a=>(h2.len a).trans (h1.len a)⟩
variable {p:Nat×Nat×Ty}
theorem a9l{ts:T3}(hp:a1b l c m ts)(hv:y4 l c m p):∃o,tq ts p.1 p.2.1=some o:=by
 obtain⟨h,hr,hj⟩:=hv.shape;have:=hp.shape _ h hr;unfold tq;exact⟨_,List.getElem?_eq_getElem (by omega)⟩
variable {s:Ps}
theorem C2.psRaise_ok(h:C2 l)(hs:N2 l c m s)(hv:y4 l c m p):
 N2 l c m (N4 l s p)∧a1a l s (N4 l s p)∧U6 l (N4 l s p).ts p:=by
 obtain⟨o,ho⟩:=a9l hs.snd hv;obtain⟨r1,r2,r3,r4⟩:=h.raise_ok hs.snd hv ho;unfold N4;rw[ho];dsimp only;by_cases e:o=some (V4 l o p.2.2)
 ·rw[if_pos ((a4w _ _).2 e)];rw[r4 e]at r3;exact⟨hs,a1a.refl l s,r3⟩
 ·rw[if_neg (fun e2=>e ((a4w _ _).1 e2))];refine⟨⟨r1,fun q hq=> ?_⟩,⟨r2,?_,fun a j=> ?_,fun q hq=>List.mem_append_left _ hq,fun a=> ?_⟩,r3⟩
  ·rcases List.mem_append.1 hq with hq|hq
   ·obtain⟨t,ht⟩:=hs.told q hq;obtain⟨u,hu,-⟩:=r2 _ _ _ ht;exact⟨u,hu⟩
   ·rw[List.mem_singleton.1 hq];exact⟨_,by rw[a4I ho,if_pos ⟨rfl,rfl⟩]⟩
  ·unfold T4;have h1:=b6U l ho (V4 l o p.2.2);have h2:=h.raise_rk (o:=o) (t:=p.2.2) (fun x e=>by subst e;exact(hs.snd.snd _ _ _ ho).1) hv.ok e;simp only[List.length_append,List.length_cons,List.length_nil];omega
  ·rw[a4I ho];by_cases e2:p.1=a∧p.2.1=j
   ·exact .inr (List.mem_append_right _ (by rw[←e2.1,←e2.2];simp))
   ·rw[if_neg e2];exact .inl rfl
  ·rw[a3B _ _ _ _ _ (a1v ho).1];split
   ·rename_i e3;subst e3;simp
   ·rfl
theorem C2.psGone_up(h:C2 l)(hw:m9 l)(hc:T2 l m)(hi:∀i∈m.code,T5 i)(hh:a0d l m){s':Ps}(hs:N2 l c m s)(hs':N2 l c m s')(hu:a1a l s s'){cur:Option (Nat×Nat×Ty)}(hg:o9 l m s cur):o9 l m s' cur:=by
 intro a ht hr j t ht2;rcases hu.same a j with e|e
 ·rw[e]at ht2;rcases hg a ht hr j t ht2 with h1|h1|h1
  ·exact .inl (hu.ris _ h1)
  ·exact .inr (.inl h1)
  ·refine .inr (.inr fun p hp=>h.satS_rises hs.snd hs'.snd hu.up ?_ (h1 p hp))
   have hj:j<m.locals+ht:=by
    have:=(a1v ht2).2;rw[hs.snd.shape a ht hr]at this;exact this
   exact(h.flow_comes hw hc hi hh hr hj (hs.snd.snd _ _ _ ht2).1 (hs.snd.snd _ _ _ ht2).2 p hp).ok
 ·exact .inl e
theorem C2.psRaises_ok(h:C2 l):∀(ps:List (Nat×Nat×Ty)) {s:Ps},N2 l c m s→(∀p∈ps,y4 l c m p)→
 N2 l c m (ps.foldl (N4 l) s)∧a1a l s (ps.foldl (N4 l) s)∧∀p∈ps,U6 l (ps.foldl (N4 l) s).ts p
 | [],s,hs,_=>⟨hs,a1a.refl l s,fun _ hp=>by cases hp⟩
 |p::ps,s,hs,hv=>by
  obtain⟨h1,h2,h3⟩:=h.psRaise_ok hs (hv p List.mem_cons_self);obtain⟨k1,k2,k3⟩:=h.psRaises_ok ps h1 (fun q hq=>hv q (List.mem_cons_of_mem _ hq));refine⟨k1,h.psUp_trans hs h1 k1 h2 k2,fun q hq=> ?_⟩;rcases List.mem_cons.1 hq with e|e
  ·rw[e];exact h.satS_rises h1.snd k1.snd k2.up (hv p List.mem_cons_self).ok h3
  ·exact k3 q e
def b8(s:Ps):Ps:={s with ris:=s.ris.dropLast}
theorem b0e(hs:N2 l c m s):N2 l c m (b8 s):=⟨hs.snd,fun p hp=>hs.told p (List.dropLast_subset _ hp)⟩
theorem a7f(l:List Cl)(h:s.ris≠ []):T4 l (b8 s)<T4 l s:=by
 unfold T4 b8;have:=List.length_pos_iff.2 h;simp only[List.length_dropLast];omega
variable {a:Nat}
theorem C2.psFlow(h:C2 l)(hw:m9 l)(hc:T2 l m)(hi:∀i∈m.code,T5 i)(hh:a0d l m)(hs:N2 l c m s)(hg:o9 l m s none){xs:List (Nat×Nat)}{j:Nat}(hw2:s.ris=xs++ [(a,j)]){ht:Nat}(hr:G3 l m a ht){t:Ty}(htq:tq s.ts a j=some (some t)):
 N2 l c m ((N0 l m a (E4 l m a ht) j t).foldl (N4 l) (b8 s))∧a1a l (b8 s) ((N0 l m a (E4 l m a ht) j t).foldl (N4 l) (b8 s))∧o9 l m ((N0 l m a (E4 l m a ht) j t).foldl (N4 l) (b8 s)) none∧T4 l ((N0 l m a (E4 l m a ht) j t).foldl (N4 l) (b8 s))<T4 l s:=by
 have hj:j<m.locals+ht:=by
  have:=(a1v htq).2;rw[hs.snd.shape a ht hr]at this;exact this
 have hp:=b0e hs;have hcm:=h.flow_comes hw hc hi hh hr hj (hs.snd.snd _ _ _ htq).1 (hs.snd.snd _ _ _ htq).2;obtain⟨k1,k2,k3⟩:=h.psRaises_ok (N0 l m a (E4 l m a ht) j t) hp hcm
 have hg0:o9 l m (b8 s) (some (a,j,t)):=by
  intro b hb hrb k u hu;rcases hg b hb hrb k u hu with e|e|e
  ·rw[hw2]at e;rcases List.mem_append.1 e with e|e
   ·refine .inl ?_;unfold b8;rw[hw2];simpa using e
   ·have e:=List.mem_singleton.1 e;injection e with e1 e2
    subst e1 e2;have hu2:tq s.ts b k=some (some u):=hu;rw[htq]at hu2;injection hu2 with hu2;injection hu2 with hu2
    exact .inr (.inl (by rw[hu2]))
  ·cases e
  ·exact .inr (.inr e)
 have hg1:=h.psGone_up hw hc hi hh hp k1 k2 hg0;refine⟨k1,k2,fun b hb hrb k u hu=> ?_,Nat.lt_of_le_of_lt k2.mu (a7f l (by rw[hw2];simp))⟩;rcases hg1 b hb hrb k u hu with e|e|e
 ·exact .inl e
 ·injection e with e;injection e with e1 e;injection e with e2 e3
  subst e1 e2 e3;refine .inr (.inr fun p hp2=>k3 p ?_);have hhh:=hh.one _ _ _ hrb hr;subst hhh;exact hp2
 ·exact .inr (.inr e)
def K7(m:Me)(ht:Nat→Option Nat):Ps:={ts:=(List.range m.code.length).map fun a=>match ht a with|none=> []|some h=>List.replicate (m.locals+h) none,ris:=[]}
theorem a3a(m:Me)(ht:Nat→Option Nat)(ha:a<m.code.length):(K7 m ht).ts.getD a []=match ht a with|none=> []|some h=>List.replicate (m.locals+h) none:=by
 unfold K7;simp[ha]
theorem b1l(m:Me)(ht:Nat→Option Nat)(a j:Nat)(t:Ty):tq (K7 m ht).ts a j≠some (some t):=by
 intro e;unfold tq at e;by_cases ha:a<m.code.length
 ·rw[a3a m ht ha]at e;cases hh:ht a with
  |none=>rw[hh]at e;simp at e
  |some h=>
   rw[hh]at e;simp[List.getElem?_replicate]at e
 ·have:(K7 m ht).ts.getD a []=[]:=by unfold K7;simp[Nat.le_of_not_lt ha]
  rw[this]at e;simp at e
variable {ht:Nat→Option Nat}
theorem b8W(hc:T2 l m)(hi:∀i∈m.code,T5 i)(hht:∀a h,a<m.code.length→(ht a=some h↔G3 l m a h)):N2 l c m (K7 m ht):=by
 refine⟨⟨by simp[K7],fun a h hr=> ?_,fun a hn=> ?_,fun a j t e=>absurd e (b1l m ht a j t)⟩,fun p hp=>by cases hp⟩
 ·have hin:=a1O hc hi hr;rw[a3a m ht hin.1,(hht a h hin.1).2 hr];simp
 ·by_cases ha:a<m.code.length
  ·rw[a3a m ht ha];cases e:ht a with
   |none=>rfl
   |some h=>exact absurd ((hht a h ha).1 e) (hn h)
  ·unfold K7;simp[Nat.le_of_not_lt ha]
theorem b6T(l:List Cl)(m:Me)(ht:Nat→Option Nat):o9 l m (K7 m ht) none:=fun a _ _ j t e=>absurd e (b1l m ht a j t)
theorem b8X(l:List Cl)(m:Me)(hb:∀a h,ht a=some h→h≤m.stack):T4 l (K7 m ht)≤2*(m.code.length*((m.locals+m.stack)*(l.length+2))):=by
 have key:∀rs:T3,(∀r∈rs,(r.map (rkO l)).sum≤(m.locals+m.stack)*(l.length+2))→a3j l rs≤rs.length*((m.locals+m.stack)*(l.length+2)):=by
  intro rs;induction rs with
  |nil=>intro _;simp[a3j]
  |cons r rs ih=>
   intro h;have h1:=h r List.mem_cons_self;have h2:=ih fun x hx=>h x (List.mem_cons_of_mem _ hx)
   unfold a3j at h2⊢;rw[List.map_cons,List.sum_cons,List.length_cons,Nat.succ_mul];omega
 have h2:=key (K7 m ht).ts (fun r hr=>by
  unfold K7 at hr;obtain⟨a,ha,rfl⟩:=List.mem_map.1 hr;cases e:ht a with
  |none=>simp
  |some h=>
   dsimp only;rw[List.map_replicate,List.sum_replicate_nat];exact Nat.mul_le_mul (by have:=hb a h e;omega) (Nat.le_refl _))
 have h3:(K7 m ht).ts.length=m.code.length:=by simp[K7]
 rw[h3]at h2;unfold T4;have:(K7 m ht).ris.length=0:=rfl;omega
theorem C2.psGone_all(h:C2 l)(hw:m9 l)(hc:T2 l m)(hi:∀i∈m.code,T5 i)(hh:a0d l m)(hs:N2 l c m s)(hg:o9 l m s none)(ps:List (Nat×Nat×Ty))(hv:∀p∈ps,y4 l c m p):o9 l m (ps.foldl (N4 l) s) none:=by
 obtain⟨k1,k2,-⟩:=h.psRaises_ok ps hs hv;exact h.psGone_up hw hc hi hh hs k1 k2 hg
def P8(c:ByteArray)(m:Me):List (Nat×Nat×Ty):=(List.range m.locals).map fun j=>(0,j,(a0A c m).getD j B6)
theorem C2.ent_comes(h:C2 l)(hc:T2 l m)(hcl:E2 l c=true)(hp:∀p∈m.params,E3 l p):∀p∈P8 c m,y4 l c m p:=by
 intro p hp2;obtain⟨j,hj,rfl⟩:=List.mem_map.1 hp2;have hj:=List.mem_range.1 hj;refine⟨⟨0,(a1J l m).1,by simpa using hj⟩,o5 (h.entry_ok hcl hp) j,fun S hS=> ?_⟩;exact hS.entry.2 j (by rw[a7a hc];exact hj)
theorem C2.ps_end(h:C2 l)(hw:m9 l)(hc:T2 l m)(hi:∀i∈m.code,T5 i)(hh:a0d l m)(hs:N2 l c m s)(hg:o9 l m s none)(hr0:s.ris=[])
 (hent:∀p∈P8 c m,U6 l s.ts p) (hfix:∀a ht,G3 l m a ht→∀p∈N9 l m a (E4 l m a ht),U6 l s.ts p):
 a2Z l c m (N5 s.ts)∧∀a ht,G3 l m a ht→∀j,j<m.locals+ht→∃t,tq s.ts a j=some (some t):=by
 refine h.typing_ofS hw hc hi hh hs.snd (fun j hj=>hent _ (List.mem_map.2 ⟨j,List.mem_range.2 hj,rfl⟩)) hfix fun a ht hr j t ht2 p hp=> ?_
 rcases hg a ht hr j t ht2 with e|e|e
 ·rw[hr0]at e;cases e
 ·cases e
 ·exact e p hp
def V9(l:List Cl)(c:ByteArray)(m:Me)(e at_:Nat):Prop:=
 match f8 l m with
 |some a=>e=13∧at_=a
 |none=>∃f,a5L l m f∧match f with
  |some a=>e=14∧at_=a
  |none=>∃T,a2Z l c m T∧((∃h,e=15∧at_<m.code.length∧G3 l m at_ h∧j9 l m (A8 m at_) ((T at_).drop m.locals) ((T at_).take m.locals)=false∧∀b k,b<at_→G3 l m b k→j9 l m (A8 m b) ((T b).drop m.locals) ((T b).take m.locals)=true)∨
   (e=0∧at_=0∧∀b k,G3 l m b k→j9 l m (A8 m b) ((T b).drop m.locals) ((T b).take m.locals)=true))
end Cf
open Go.RowKit Go.Shelf Cf
namespace Kx
def a0E(o:Option Ty):List Value:=match o with|none=> [.int .i64 (-1), .string ⟨#[]⟩]|some t=>C1 t
theorem c1t(o:Option Ty):(a0E o).length=2:=by cases o<;>rfl
def slK(o:Option Ty):Int:=match o with|none=> -1|some t=>t.kind
def slN(o:Option Ty):ByteArray:=match o with|none=>⟨#[]⟩|some t=>t.name
theorem a4G(o:Option Ty):a0E o=[.int .i64 (slK o), .string (slN o)]:=by cases o<;>rfl
def a0o(g:Nat→Nat)(ts:T3)(a:Nat):Value:=if(ts.getD a []).length=0 then .slice none 0 0 else .slice (some ⟨g a,0,none⟩) (ts.getD a []).length (ts.getD a []).length
structure G7(w:World)(base t bw b tg:Nat)(g:Nat→Nat)(n:Nat)(s:Ps)(ra:Option Addr)(rk:Nat):Prop where
 blk:A3 w t #[.pointer (some ⟨bw,0,none⟩), .pointer (some ⟨b,0,none⟩), .slice (some ⟨tg,0,none⟩) n n, .slice ra s.ris.length rk] 311
 types:A3 w tg ((List.range n).map (a0o g s.ts)).toArray 96
 rows:∀a,a<n→(s.ts.getD a []).length≠0→A3 w (g a) ((s.ts.getD a []).flatMap a0E).toArray 98
 ris:w.ownsRow base 366 2 (.slice ra s.ris.length rk) s.ris.length (s.ris.flatMap P5)
 d2:∀a c,a<n→c<n→(s.ts.getD a []).length≠0→(s.ts.getD c []).length≠0→g a=g c→a=c
 low:base≤t∧base≤tg∧∀a,a<n→base≤g a∧g a<w.heap.size
abbrev TFx(t:Nat)(g:Nat→Nat)(n:Nat)(ra ra':Option Addr)(w w':World):Prop:=Fx t t t g n ra ra' w w'
theorem b6L(l:List (Option Ty))(j:Nat)(o:Option Ty)(hj:j<l.length):(((l.flatMap a0E).toArray.setIfInBounds (j*2) (.int .i64 (slK o))).setIfInBounds (j*2+1) (.string (slN o)))=((l.set j o).flatMap a0E).toArray:=by
 induction l generalizing j with
 |nil=>simp at hj
 |cons x l ih=>
  obtain⟨v,w,hx⟩:∃v w,a0E x=[v,w]:=⟨_,_,a4G x⟩
  cases j with
  |zero=>simp[List.flatMap_cons,hx,a4G o]
  |succ j=>
   have:=ih j (by simpa using hj);have e1:(j+1)*2=j*2+2:=by omega
   have e2:(j+1)*2+1=j*2+1+2:=by omega
   rw[e1];simp only[List.flatMap_cons,hx,List.setIfInBounds_toArray,List.set_cons_succ,List.cons_append,List.nil_append]at this⊢;have:=congrArg Array.toList this;simp only[List.setIfInBounds_toArray]at this;rw[←this]
theorem b0z(l:List (Option Ty))(j:Nat)(o:Option Ty)(h:l[j]? =some o):(l.flatMap a0E)[j*2]? =some (.int .i64 (slK o))∧(l.flatMap a0E)[j*2+1]? =some (.string (slN o)):=by
 induction l generalizing j with
 |nil=>simp at h
 |cons x l ih=>
  cases j with
  |zero=>
   simp at h;subst h;simp[List.flatMap_cons,a4G x]
  |succ j=>
   obtain⟨h1,h2⟩:=ih j (by simpa using h);have e1:(j+1)*2=j*2+2:=by omega
   rw[e1];refine⟨?_,?_⟩
   ·rw[List.flatMap_cons,a4G x];simpa using h1
   ·rw[List.flatMap_cons,a4G x];simpa using h2
structure Lc(k t:Nat)(g:Nat→Nat)(n:Nat)(ra:Option Addr):Prop where
 a:k≠t
 b:∀a,a<n→k≠g a
 c:∀p,ra=some p→k≠p.block
theorem Lc.fx{k t:Nat}{g:Nat→Nat}{n:Nat}{ra ra':Option Addr}{w w':World}(h:Lc k t g n ra)(hf:TFx t g n ra ra' w w')(hk:k<w.heap.size):Lc k t g n ra':=
 ⟨h.a,h.b,fun p e=>by
  rcases hf.own p e with⟨q,e1,e2⟩|e2
  ·rw[←e2];exact h.c q e1
  ·omega⟩
section
variable{w:World}{base t bw b tg:Nat}{g:Nat→Nat}{n:Nat}{s:Ps}{ra:Option Addr}{rk:Nat}
theorem G7.keep{w':World}(h:G7 w base t bw b tg g n s ra rk)(hg:w.grownBy w' none):G7 w' base t bw b tg g n s ra rk:=
 ⟨A3.grow h.blk hg,A3.grow h.types hg,fun a ha hne=>A3.grow (h.rows a ha hne) hg,h.ris.kept hg (by cases hv:(Value.slice ra s.ris.length rk).ownBlock<;>simp),h.d2,⟨h.low.1,h.low.2.1,fun a ha=>⟨(h.low.2.2 a ha).1,Nat.lt_of_lt_of_le (h.low.2.2 a ha).2 hg.size⟩⟩⟩
theorem G7.rblock(h:G7 w base t bw b tg g n s ra rk){p:Addr}(hp:ra=some p):base≤p.block∧p.block<w.heap.size:=by
 rcases h.ris.2 with⟨hv,_⟩|⟨q,cap,cur,hv,hq,hg,-⟩
 ·injection hv with h1 _ _;rw[h1]at hp;cases hp
 ·injection hv with h1 _ _
  rw[h1]at hp;cases hp;exact⟨hq,a5v hg⟩
theorem G7.lc(h:G7 w base t bw b tg g n s ra rk){k:Nat}(hk:w.heap.size≤k):Lc k t g n ra:=
 ⟨by have:=h.blk.lt;omega,fun a ha=>by have:=(h.low.2.2 a ha).2;omega,fun p e=>by have:=(h.rblock e).2;omega⟩
theorem G7.lcLow(h:G7 w base t bw b tg g n s ra rk){k:Nat}(hk:k<base):Lc k t g n ra:=
 ⟨by have:=h.low.1;omega,fun a ha=>by have:=(h.low.2.2 a ha).1;omega,fun p e=>by have:=(h.rblock e).1;omega⟩
theorem G7.below(h:G7 w base t bw b tg g n s ra rk){w':World}{ra':Option Addr}(hf:TFx t g n ra ra' w w')(hb:base≤w.heap.size):Below base w w':=
 ⟨hf.os,hf.tape,hf.output,hf.size,fun k hk=>by
  have hl:=h.lcLow hk;exact hf.block k (Nat.lt_of_lt_of_le hk hb) hl.a hl.a hl.a hl.b hl.c⟩
theorem a5B(ts:T3)(a j:Nat)(t:Ty)(c:Nat):((U5 ts a j t).getD c []).length=(ts.getD c []).length:=by
 by_cases ha:a<ts.length
 ·rw[a3B _ _ _ _ _ ha];by_cases e:a=c
  ·subst e;rw[if_pos rfl];simp
  ·rw[if_neg e]
 ·unfold U5;rw[List.set_eq_of_length_le (Nat.le_of_not_lt ha)]
theorem b6O(g:Nat→Nat)(ts:T3)(a j:Nat)(t:Ty):a0o g (U5 ts a j t)=a0o g ts:=by
 funext c
 unfold a0o;rw[a5B]
theorem G7.set(h:G7 w base t bw b tg g n s ra rk){a j:Nat}{o:Option Ty}(hq:tq s.ts a j=some o)(ha:a<n)(hb:base≤w.heap.size)(u:Ty):
 G7 ((w.setCell ⟨g a,j*2,none⟩ (.int .i64 u.kind)).setCell ⟨g a,j*2+1,none⟩ (.string u.name)) base t bw b tg g n {s with ts:=U5 s.ts a j u} ra rk∧TFx t g n ra ra w ((w.setCell ⟨g a,j*2,none⟩ (.int .i64 u.kind)).setCell ⟨g a,j*2+1,none⟩ (.string u.name)):=by
 obtain⟨q1,q2⟩:=a1v hq;have hne:(s.ts.getD a []).length≠0:=by omega
 have hr:=h.rows a ha hne;have hs:w.grownBy ((w.setCell ⟨g a,j*2,none⟩ (.int .i64 u.kind)).setCell ⟨g a,j*2+1,none⟩ (.string u.name)) (some (g a)):=A1 (A6 _ ⟨g a,j*2,none⟩ _) (A6 _ ⟨g a,j*2+1,none⟩ _);have hB:=(hr.set (j*2) (.int .i64 u.kind)).set (j*2+1) (.string u.name);have e:=b6L (s.ts.getD a []) j (some u) q2;simp only[slK,slN]at e;rw[e]at hB;refine⟨⟨h.blk.keep hs (fun e=>I7 h.blk hr (by decide) (Option.some.inj e)),?_,fun c hc hcn=> ?_,h.ris.kept hs (.inr (M7 h.ris hr (by decide))),fun c d hc hd=> ?_,⟨h.low.1,h.low.2.1,fun c hc=>⟨(h.low.2.2 c hc).1,Nat.lt_of_lt_of_le (h.low.2.2 c hc).2 hs.size⟩⟩⟩,Fx.at hs (.inr (.inr (.inr ⟨a,ha,rfl⟩)))⟩
 ·dsimp only;rw[b6O];exact h.types.keep hs (fun e=>I7 h.types hr (by decide) (Option.some.inj e))
 ·dsimp only at hcn⊢;rw[a5B]at hcn;rw[a3B _ _ _ _ _ q1];by_cases e:a=c
  ·subst e;rw[if_pos rfl];exact hB
  ·rw[if_neg e];exact(h.rows c hc hcn).keep hs (fun e2=>e (h.d2 c a hc ha hcn hne (Option.some.inj e2)).symm)
 ·dsimp only;rw[a5B,a5B];exact h.d2 c d hc hd
theorem G7.push{w7:World}{a7:Option Addr}{k7:Nat}(h:G7 w base t bw b tg g n s ra rk){p:Nat×Nat}(hb:base≤w.heap.size)
 (hown:w7.ownsRow base 366 2 (.slice a7 (s.ris.length+1) k7) (s.ris.length+1) (s.ris.flatMap P5++P5 p)) (hgA:w.grownBy w7 (Value.slice ra s.ris.length rk).ownBlock) (hat:∀p,a7=some p→(∃q,ra=some q∧q.block=p.block)∨w.heap.size≤p.block):
 G7 (w7.setCell ⟨t,3,none⟩ (.slice a7 (s.ris.length+1) k7)) base t bw b tg g n {s with ris:=s.ris++ [p]} a7 k7∧TFx t g n ra a7 w (w7.setCell ⟨t,3,none⟩ (.slice a7 (s.ris.length+1) k7)):=by
 have hb7:A3 w7 t _ _:=h.blk.keep hgA (fun e=>M7 h.ris h.blk (by decide) e.symm);have k2:=h.types.keep hgA (fun e=>M7 h.ris h.types (by decide) e.symm);have k4:=fun c (hc:c<n) (hcn:(s.ts.getD c []).length≠0)=>(h.rows c hc hcn).keep hgA (fun e=>M7 h.ris (h.rows c hc hcn) (by decide) e.symm)
 have hs:=A6 w7 ⟨t,3,none⟩ (.slice a7 (s.ris.length+1) k7)
 have hF1:TFx t g n ra a7 w w7:=⟨hgA.os,hgA.tape,hgA.output,hgA.size,fun k hk _ _ _ _ n5=>hgA.block k hk (by
  intro e;cases ra with
  |none=>simp[Value.ownBlock]at e
  |some q=>simp only[Value.ownBlock,Option.some.injEq]at e;exact n5 q rfl e),hat⟩
 refine⟨⟨?_,k2.keep hs (fun e=>I7 k2 hb7 (by decide) (Option.some.inj e)),fun c hc hcn=>(k4 c hc hcn).keep hs (fun e=>I7 (k4 c hc hcn) hb7 (by decide) (Option.some.inj e)),?_,h.d2,⟨h.low.1,h.low.2.1,fun c hc=>⟨(h.low.2.2 c hc).1,Nat.lt_of_lt_of_le (h.low.2.2 c hc).2 (Nat.le_trans hgA.size hs.size)⟩⟩⟩,hF1.trans (Fx.at hs (.inl rfl))⟩
 ·have:=hb7.set 3 (.slice a7 (s.ris.length+1) k7);simp only[List.length_append,List.length_cons,List.length_nil,Nat.zero_add];exact this
 ·have:=hown.kept hs (.inr (M7 hown hb7 (by decide)));simp only[List.length_append,List.length_cons,List.length_nil,Nat.zero_add,List.flatMap_append,List.flatMap_cons,List.flatMap_nil,List.append_nil];exact this
theorem b6J(xs:List (Nat×Nat))(p:Nat×Nat):((xs++ [p]).flatMap P5).take (xs.length*2)=xs.flatMap P5:=by
 have hl:(xs.flatMap P5).length=xs.length*2:=by
  induction xs with
  |nil=>rfl
  |cons x l ih=>rw[List.flatMap_cons,List.length_append,ih,List.length_cons];simp only[P5,List.length_cons,List.length_nil];omega
 rw[List.flatMap_append,←hl,List.take_left'];rfl
theorem G7.pop{xs:List (Nat×Nat)}{p:Nat×Nat}(h:G7 w base t bw b tg g n s ra rk)(hw:s.ris=xs++ [p])(hb:base≤w.heap.size):
 G7 (w.setCell ⟨t,3,none⟩ (.slice ra xs.length rk)) base t bw b tg g n (b8 s) ra rk∧TFx t g n ra ra w (w.setCell ⟨t,3,none⟩ (.slice ra xs.length rk)):=by
 have hs:=A6 w ⟨t,3,none⟩ (.slice ra xs.length rk);have hwp:(b8 s).ris=xs:=by unfold b8;dsimp only;rw[hw];simp
 refine⟨⟨?_,h.types.keep hs (fun e=>I7 h.types h.blk (by decide) (Option.some.inj e)),fun c hc hcn=>(h.rows c hc hcn).keep hs (fun e=>I7 (h.rows c hc hcn) h.blk (by decide) (Option.some.inj e)),?_,h.d2,⟨h.low.1,h.low.2.1,fun c hc=>⟨(h.low.2.2 c hc).1,Nat.lt_of_lt_of_le (h.low.2.2 c hc).2 hs.size⟩⟩⟩,Fx.at hs (.inl rfl)⟩
 ·have:=h.blk.set 3 (.slice ra xs.length rk);rw[hwp];exact this
 ·have h1:=h.ris;rw[hw]at h1;simp only[List.length_append,List.length_cons,List.length_nil,Nat.zero_add]at h1;have h2:=a9A h1;rw[b6J]at h2;rw[hwp];exact h2.kept hs (.inr (M7 h2 h.blk (by decide)))
end
theorem a7D:(Tryz.prog.info? 366).map (fun i=>(i.zero,i.size,i.bytes))=some (some (.agg #[.int .i64 0, .int .i64 0]),2,16):=by kernel_rfl
variable {L:List Cl}
theorem Lk.tySize{w:World}{lim b:Nat}{p:Addr}{cap m1 m2 m3:Nat}{q:Nat→Qs}(h:Lk w lim b L p cap m1 m2 m3 q){t:Ty}(ht:E3 L t):t.name.size≤maxLen:=by
 have h2:=ht.2;split at h2
 ·obtain⟨i,hi⟩:=h2;have:=L4 hi;have h3:=(h.kls.names i this.1).1;rw[this.2.1]at h3;exact h3
 ·rw[h2];exact Nat.zero_le _
variable {s:Ps}
variable {a j:Nat}
variable {o:Option Ty}
variable {u:Ty}
theorem b2G(hq:tq s.ts a j=some o)(h:a2A o (V4 L o u)=true):N4 L s (a,j,u)=s:=by
 unfold N4;rw[hq];dsimp only;rw[if_pos h]
theorem a6w(hq:tq s.ts a j=some o)(h:a2A o (V4 L o u)=false):N4 L s (a,j,u)={ts:=U5 s.ts a j (V4 L o u),ris:=s.ris++ [(a,j)]}:=by
 unfold N4;rw[hq];dsimp only;rw[if_neg (by simp[h])]
set_option maxRecDepth 100000 in
set_option maxHeartbeats 40000000 in
theorem b5y(w:World)(lim b:Nat)(L:List Cl)(p:Addr)(cap m1 m2 m3:Nat)(q:Nat→Qs)(h:Hid (Lk w lim b L p cap m1 m2 m3 q))(hW':C2 L)(base t bw tg:Nat)(g:Nat→Nat)(n:Nat)(s:Ps)(ra:Option Addr)(rk:Nat)(hT:Hid (G7 w base t bw b tg g n s ra rk))(hb:base≤w.heap.size)(hlb:lim≤base)
 (a j:Nat) (u:Ty) (o:Option Ty) (hq:tq s.ts a j=some o) (ho:∀x,o=some x→E3 L x) (hu:E3 L u) (ha:a<n) (hn:n≤65535) (hris:s.ris.length≤8000000000000) (hlen:(s.ts.getD a []).length≤70000):
 Calls Tryz.prog 266 #[.pointer (some ⟨t,0,none⟩), .int .i64 a, .int .i64 j, .agg #[.int .i64 u.kind, .string u.name]] w fun e w'=>e= .returned (.tuple #[])∧∃ra' rk',G7 w' base t bw b tg g n (N4 L s (a,j,u)) ra' rk'∧TFx t g n ra ra' w w':=by
 obtain⟨q1,q2⟩:=a1v hq;have hne:(s.ts.getD a []).length≠0:=by omega
 have haI:(a:Int)<(n:Int):=by omega
 obtain⟨lr,hlr⟩:∃lr,lr=(s.ts.getD a []).length:=⟨_,rfl⟩
 have hjI:(j:Int)<(lr:Int):=by omega
 have c1:=hT.out.blk.c1;have c2:=hT.out.blk.c2;have ca:w.cell? ⟨tg,a,none⟩=some (.slice (some ⟨g a,0,none⟩) lr lr):=U9 hT.out.types a _ (by rw[List.getElem?_map,List.getElem?_range ha,Option.map_some];unfold a0o;rw[if_neg hne,←hlr]);have hrow:=hT.out.rows a ha hne;obtain⟨f1,f2⟩:=b0z _ _ _ (show(s.ts.getD a [])[j]? =some o from hq);have r0:=U9 hrow _ _ f1;have r1:=U9 hrow _ _ f2;have HRC:Hid (∀W,w.grownBy W none→W.cell? ⟨t,2,none⟩=some (.slice (some ⟨tg,0,none⟩) n n)∧W.cell? ⟨tg,a,none⟩=some (.slice (some ⟨g a,0,none⟩) lr lr)∧W.frozen? ⟨g a,j*2,none⟩=false∧W.frozen? ⟨g a,j*2+1,none⟩=false∧W.cell? ⟨g a,j*2,none⟩=some (.int .i64 (slK o))∧W.cell? ⟨g a,j*2+1,none⟩=some (.string (slN o))):=fun W hW=>⟨hW.cell c2 (by simp),hW.cell ca (by simp),(A3.grow hrow hW).frozen _,(A3.grow hrow hW).frozen _,hW.cell r0 (by simp),hW.cell r1 (by simp)⟩
 have HNE:Hid (t≠g a∧tg≠g a∧w.heap.size≠g a):=⟨I7 hT.out.blk hrow (by decide),I7 hT.out.types hrow (by decide),fun e=>by have:=hrow.lt;omega⟩
 have lt1:=hT.out.blk.lt;have lt2:=hT.out.types.lt;have lt3:=hrow.lt;have HLT:Hid (t<w.heap.size∧tg<w.heap.size∧g a<w.heap.size):=⟨hT.out.blk.lt,hT.out.types.lt,hrow.lt⟩
 have HB7:Hid (A3 ((w.alloc (.cells #[.int .i64 u.kind, .string u.name] 98)).alloc (.cells #[.int .i64 (slK o), .string (slN o)] 98)) w.heap.size #[.int .i64 u.kind, .string u.name] 98):=(A3.new w _ _).keep (A2 _ _ none) A7;have HG2:Hid (w.grownBy ((w.alloc (.cells #[.int .i64 u.kind, .string u.name] 98)).alloc (.cells #[.int .i64 (slK o), .string (slN o)] 98)) none):=A1 (A2 _ _ _) (A2 _ _ _);clear q1 q2 hne hlr hrow f1 f2;cases o with
 |none=>
  obtain⟨U,rfl⟩:∃U,U=u:=⟨_,rfl⟩
  have HPS:Hid (N4 L s (a,j,U)={ts:=U5 s.ts a j U,ris:=s.ris++ [(a,j)]}):=a6w hq rfl;have hk1:¬(U.kind:Int)= -1:=by omega
  have HB8:Hid (A3 ((w.alloc (.cells #[.int .i64 U.kind, .string U.name] 98)).alloc (.cells #[.int .i64 (-1), .string ⟨#[]⟩] 98)) (w.heap.size+1) #[.int .i64 (-1), .string ⟨#[]⟩] 98):=by
   have:=A3.new (w.alloc (.cells #[.int .i64 U.kind, .string U.name] 98)) #[.int .i64 (-1), .string ⟨#[]⟩] 98;rw[World.size_alloc]at this;exact this
  dsimp only[slK,slN]at HB7 HG2 r0 r1;go_enter Tryz.func266,Tryz.ntmps266;go_upto_region 4 with fail
  generalize ((w.alloc (.cells #[.int .i64 U.kind, .string U.name] 98)).alloc (.cells #[.int .i64 (-1), .string ⟨#[]⟩] 98))=W4 at HB7 HB8 HG2⊢;have HT4:=A0 (hT.out.keep HG2.out);have HG4:=A0 HG2.out;have y0:=HB7.out.cell 0 _ rfl;have y1:=HB7.out.cell 1 _ rfl;have x0:=HB8.out.cell 0 _ rfl;have x1:=HB8.out.cell 1 _ rfl;clear r0 r1 c1 c2 ca;have HS5:Hid (W4.cell? ⟨t,2,none⟩=some (.slice (some ⟨tg,0,none⟩) n n)∧W4.cell? ⟨tg,a,none⟩=some (.slice (some ⟨g a,0,none⟩) lr lr)∧W4.cell? ⟨w.heap.size,0,none⟩=some (.int .i64 U.kind)∧W4.cell? ⟨w.heap.size,1,none⟩=some (.string U.name)):=⟨(HRC.out _ HG4.out).1,(HRC.out _ HG4.out).2.1,y0,y1⟩
  go_upto_region 5 with fail
  refine wp_region_held_drew (S:=(fun w'=>w'.cell? ⟨t,2,none⟩=some (.slice (some ⟨tg,0,none⟩) n n)∧w'.cell? ⟨tg,a,none⟩=some (.slice (some ⟨g a,0,none⟩) lr lr)∧w'.cell? ⟨w.heap.size,0,none⟩=some (.int .i64 U.kind)∧w'.cell? ⟨w.heap.size,1,none⟩=some (.string U.name))) (by kernel_rfl) HS5.out (fun hHeld=> ?_);refine A4 0 ?_;refine A4 1 ?_;refine A4 2 ?_;refine A4 3 ?_;refine A4 4 ?_;refine A4 5 ?_;refine A4 6 ?_;refine A4 7 ?_;refine A4 8 ?_;refine A4 9 ?_;refine wpAnyH_ready (rs:=[10]) (by kernel_rfl) (by simp) ?_;refine AllReadyH.cons rfl (fun K hK=> ?_) AllReadyH.nil;obtain⟨-,-,g3,g4,g5,g6⟩:=HRC.out W4.drew (A1 HG4.out (B8 _ _));obtain⟨-,-,g3',g4',g5',g6'⟩:=HRC.out W4 HG4.out;go_simp
  refine hK.out _ _ ?_ (fun hHeld=> ?_)
  case refine_1=>
   have hgs:W4.grownBy ((W4.setCell ⟨g a,j*2,none⟩ (.int .i64 U.kind)).setCell ⟨g a,j*2+1,none⟩ (.string U.name)) (some (g a)):=A1 (A6 _ ⟨g a,j*2,none⟩ _) (A6 _ ⟨g a,j*2+1,none⟩ _);exact⟨hgs.cell HS5.out.1 (fun e=>HNE.out.1 (Option.some.inj e)),hgs.cell HS5.out.2.1 (fun e=>HNE.out.2.1 (Option.some.inj e)),hgs.cell HS5.out.2.2.1 (fun e=>HNE.out.2.2 (Option.some.inj e)),hgs.cell HS5.out.2.2.2 (fun e=>HNE.out.2.2 (Option.some.inj e))⟩
  try clear hK K
  try simp only[Act.put,lz]
  refine wpAnyH_done (by kernel_rfl) ?_ _;have hM5:=HT4.out.set hq ha (Nat.le_trans hb (HG4.out.size)) U;obtain⟨hM5,hF5⟩:=hM5;generalize (W4.setCell ⟨g a,j*2,none⟩ (.int .i64 U.kind)).setCell ⟨g a,j*2+1,none⟩ (.string U.name)=W6 at hM5 hF5⊢;obtain⟨W5,hW5⟩:∃W5,W5=W6.drew:=⟨_,rfl⟩
  have HM5:Hid (G7 W5 base t bw b tg g n {s with ts:=U5 s.ts a j U} ra rk):=by rw[hW5];exact hM5.keep (B8 _ none)
  have HF5:Hid (TFx t g n ra ra w W5):=by rw[hW5];exact((Fx.grown HG4.out).trans hF5).trans (Fx.grown (B8 _ none))
  rw[←hW5];clear hW5;have hs5:=Nat.le_trans hb HF5.out.size;clear hM5 hF5;obtain⟨rl,hrl0⟩:∃rl,rl=s.ris.length:=⟨_,rfl⟩
  have HRL:=A0 hrl0;have hrlb:rl≤8000000000000:=by omega
  have d3:W5.cell? ⟨t,3,none⟩=some (.slice ra rl rk):=by rw[hrl0];exact HM5.out.blk.cell 3 _ rfl
  clear hrl0
  have HOW:Hid ((W5.alloc (.cells #[.int .i64 a, .int .i64 j] 366)).ownsRow base 366 2 (.slice ra rl rk) rl (s.ris.flatMap P5)):=by
   have h5:W5.ownsRow base 366 2 (.slice ra rl rk) rl (s.ris.flatMap P5):=by rw[HRL.out];exact HM5.out.ris
   exact h5.kept (A2 _ _ none) (by cases hv:(Value.slice ra rl rk).ownBlock<;>simp)
  have hfb:=(HM5.out.blk).frozen 3;obtain⟨inf,ii0,iz0,iz1,iz2⟩:=info_parts a7D;go_wp2_with (at_builtin;go_loud (refine a5c rfl _ _ 309 rfl base 366 inf _ 2 16 Tryz.underlying309 ii0 iz0 iz1 iz2 rfl (by decide) ra rl rk (s.ris.flatMap P5) rfl HOW.out (some ⟨W5.heap.size,0,none⟩) 1 1 [.int .i64 a, .int .i64 j] rfl rfl (fun jj u hu=>⟨_,rfl,O5 W5 _ _ jj u hu⟩) (by simp[Value.oneCell']) (by unfold maxLen;omega) (by omega) (Nat.le_trans hs5 (A2 W5 _ none).size) ?_;intro a7 k7 w7 hown7 hg7 hat7;have hf7:=(HM5.out.blk.keep (C7 (A2 W5 (.cells #[.int .i64 a, .int .i64 j] 366) _) hg7 (fun k e=> .inr e.symm)) (M7 (by rw[HRL.out];exact HM5.out.ris) HM5.out.blk (by decide)).symm).frozen 3;have hc7:=(C7 (A2 W5 (.cells #[.int .i64 a, .int .i64 j] 366) _) hg7 (fun k e=> .inr e.symm)).cell d3 (M7 (by rw[HRL.out];exact HM5.out.ris) HM5.out.blk (by decide)).symm))
  have hP:=HM5.out.push (p:=(a,j)) hs5 (by rw[←HRL.out];exact hown7) (by rw[←HRL.out];exact C7 (A2 W5 (.cells #[.int .i64 a, .int .i64 j] 366) _) hg7 (fun k e=> .inr e.symm)) (fun p e=>by
   rcases hat7 p e with h1|h1
   ·exact .inl h1
   ·exact .inr (Nat.le_trans (A2 W5 (.cells #[.int .i64 a, .int .i64 j] 366) none).size h1))
  rw[←HRL.out]at hP;go_end0;exact⟨rfl,a7,k7,by rw[HPS.out];exact hP.1,HF5.out.trans hP.2⟩
 |some x=>
  have hx:=ho x rfl;have HJ:=A0 (fun W hW=>b7q W lim b L p cap m1 m2 m3 q (h.out.keep hW (Nat.le_trans hlb hb)) (Nat.le_trans (Nat.le_trans hlb hb) hW.size) hW' x u hx hu (h.out.tySize hx) (h.out.tySize hu));obtain⟨U,hU⟩:∃U,U=a0U L x u:=⟨_,rfl⟩
  have HRU:Hid (V4 L (some x) u=U):=hU.symm;rw[←hU]at HJ;have hk1:¬(x.kind:Int)= -1:=by omega
  dsimp only[slK,slN]at HB7 HG2 r0 r1
  have HB8:Hid (A3 ((w.alloc (.cells #[.int .i64 u.kind, .string u.name] 98)).alloc (.cells #[.int .i64 x.kind, .string x.name] 98)) (w.heap.size+1) #[.int .i64 x.kind, .string x.name] 98):=by
   have:=A3.new (w.alloc (.cells #[.int .i64 u.kind, .string u.name] 98)) #[.int .i64 x.kind, .string x.name] 98;rw[World.size_alloc]at this;exact this
  clear hU h hx;go_enter Tryz.func266,Tryz.ntmps266;go_upto_region 3 with fail
  have lt0:t≠w.heap.size:=by omega
  refine a7R (fun a' W=>(∃tt:Nat→Value,a'={tmps:= #[.pointer (some ⟨t,0,none⟩), .int .i64 a, .int .i64 j,tt 3,tt 4,tt 5,tt 6, .pointer (some ⟨w.heap.size,0,none⟩), .pointer (some ⟨w.heap.size+1,0,none⟩),tt 9,tt 10,tt 11,tt 12,tt 13,tt 14,tt 15,tt 16,tt 17,tt 18,tt 19,tt 20,tt 21,tt 22,tt 23,tt 24,tt 25,tt 26,tt 27,tt 28,tt 29,tt 30,tt 31,tt 32,tt 33,tt 34,tt 35,tt 36,tt 37,tt 38,tt 39,tt 40,tt 41,tt 42,tt 43,tt 44,tt 45,tt 46,tt 47,tt 48,tt 49,tt 50,tt 51,tt 52,tt 53],defers:=[]})∧w.grownBy W none∧A3 W w.heap.size #[.int .i64 U.kind, .string U.name] 98∧A3 W (w.heap.size+1) #[.int .i64 x.kind, .string x.name] 98) ?_ ?_
  ·go_region_with (go_at_call 319;refine(HJ.out _ (A1 HG2.out (B8 _ _))).mono ?_;rintro e w1 ⟨rfl,hg1⟩;have hb1:=HB7.out.keep (A1 (B8 _ none) hg1) A7;have hb2:=HB8.out.keep (A1 (B8 _ none) hg1) A7;have ct1:=(A1 (A1 HG2.out (B8 _ none)) hg1).cell c1 (by simp);have y0:=hb1.cell 0 _ rfl;have y1:=hb1.cell 1 _ rfl;have x0:=hb2.cell 0 _ rfl;have x1:=hb2.cell 1 _ rfl;have z0:=hb1.frozen 0;have z1:=hb1.frozen 1)
   all_goals
    have hgS:w1.grownBy ((w1.setCell ⟨w.heap.size,0,none⟩ (.int .i64 U.kind)).setCell ⟨w.heap.size,1,none⟩ (.string U.name)) (some w.heap.size):=A1 (A6 _ ⟨w.heap.size,0,none⟩ _) (A6 _ ⟨w.heap.size,1,none⟩ _);have hb7:=(hb1.set 0 (.int .i64 U.kind)).set 1 (.string U.name);have hb8:=hb2.keep hgS (by simp);have HG4:=C7 (A1 (A1 HG2.out (B8 _ _)) hg1) hgS (fun k e=>by cases e;exact .inl (Nat.le_refl _));exact⟨a1y (Fr:=fun tt=>{tmps:= #[.pointer (some ⟨t,0,none⟩), .int .i64 a, .int .i64 j,tt 3,tt 4,tt 5,tt 6, .pointer (some ⟨w.heap.size,0,none⟩), .pointer (some ⟨w.heap.size+1,0,none⟩),tt 9,tt 10,tt 11,tt 12,tt 13,tt 14,tt 15,tt 16,tt 17,tt 18,tt 19,tt 20,tt 21,tt 22,tt 23,tt 24,tt 25,tt 26,tt 27,tt 28,tt 29,tt 30,tt 31,tt 32,tt 33,tt 34,tt 35,tt 36,tt 37,tt 38,tt 39,tt 40,tt 41,tt 42,tt 43,tt 44,tt 45,tt 46,tt 47,tt 48,tt 49,tt 50,tt 51,tt 52,tt 53],defers:=[]}) rfl,HG4,hb7,hb8⟩
  rintro a' W4 ⟨⟨tt,rfl⟩,hG4,hb7,hb8⟩;have HG4:=A0 hG4;clear hG4;have HT4:=A0 (hT.out.keep HG4.out);clear c1 c2 ca r0 r1;have y0:=hb7.c0;have y1:=hb7.c1;have x0:=hb8.cell 0 _ rfl;have x1:=hb8.cell 1 _ rfl;clear hb7 hb8;by_cases hK:x.kind=U.kind
  ·by_cases hN:x.name=U.name
   ·have HPS:=A0 (b2G hq (by rw[HRU.out,a4w];cases x;cases U;simp only at hK hN;rw[hK,hN]));rw[←hK]at y0;rw[←hN]at y1;clear hK hN;go_wp2_with fail
    go_end0;exact⟨rfl,ra,rk,by rw[HPS.out];exact HT4.out,Fx.grown HG4.out⟩
   ·have HPS:Hid (N4 L s (a,j,u)={ts:=U5 s.ts a j U,ris:=s.ris++ [(a,j)]}):=by
     have:=a6w (L:=L) (u:=u) hq (by rw[HRU.out];cases hs:a2A (some x) U with|false=>rfl|true=>exact absurd (congrArg Ty.name (Option.some.inj ((a4w _ _).1 hs))) hN);rw[HRU.out]at this;exact this
    have hNb:=j4 (fun e:U.name=x.name=>hN e.symm);have hN':¬U.name=x.name:=fun e=>hN e.symm
    have HS5:Hid (W4.cell? ⟨t,2,none⟩=some (.slice (some ⟨tg,0,none⟩) n n)∧W4.cell? ⟨tg,a,none⟩=some (.slice (some ⟨g a,0,none⟩) lr lr)∧W4.cell? ⟨w.heap.size,0,none⟩=some (.int .i64 U.kind)∧W4.cell? ⟨w.heap.size,1,none⟩=some (.string U.name)):=⟨(HRC.out _ HG4.out).1,(HRC.out _ HG4.out).2.1,y0,y1⟩
    rw[hK]at x0;clear hK;go_upto_region 5 with fail
    refine wp_region_held_drew (S:=(fun w'=>w'.cell? ⟨t,2,none⟩=some (.slice (some ⟨tg,0,none⟩) n n)∧w'.cell? ⟨tg,a,none⟩=some (.slice (some ⟨g a,0,none⟩) lr lr)∧w'.cell? ⟨w.heap.size,0,none⟩=some (.int .i64 U.kind)∧w'.cell? ⟨w.heap.size,1,none⟩=some (.string U.name))) (by kernel_rfl) HS5.out (fun hHeld=> ?_);refine A4 0 ?_;refine A4 1 ?_;refine A4 2 ?_;refine A4 3 ?_;refine A4 4 ?_;refine A4 5 ?_;refine A4 6 ?_;refine A4 7 ?_;refine A4 8 ?_;refine A4 9 ?_;refine wpAnyH_ready (rs:=[10]) (by kernel_rfl) (by simp) ?_;refine AllReadyH.cons rfl (fun K hK=> ?_) AllReadyH.nil;obtain⟨-,-,g3,g4,g5,g6⟩:=HRC.out W4.drew (A1 HG4.out (B8 _ _));obtain⟨-,-,g3',g4',g5',g6'⟩:=HRC.out W4 HG4.out;go_simp
    refine hK.out _ _ ?_ (fun hHeld=> ?_)
    case refine_1=>
     have hgs:W4.grownBy ((W4.setCell ⟨g a,j*2,none⟩ (.int .i64 U.kind)).setCell ⟨g a,j*2+1,none⟩ (.string U.name)) (some (g a)):=A1 (A6 _ ⟨g a,j*2,none⟩ _) (A6 _ ⟨g a,j*2+1,none⟩ _);exact⟨hgs.cell HS5.out.1 (fun e=>HNE.out.1 (Option.some.inj e)),hgs.cell HS5.out.2.1 (fun e=>HNE.out.2.1 (Option.some.inj e)),hgs.cell HS5.out.2.2.1 (fun e=>HNE.out.2.2 (Option.some.inj e)),hgs.cell HS5.out.2.2.2 (fun e=>HNE.out.2.2 (Option.some.inj e))⟩
    try clear hK K
    try simp only[Act.put,lz]
    refine wpAnyH_done (by kernel_rfl) ?_ _;have hM5:=HT4.out.set hq ha (Nat.le_trans hb (HG4.out.size)) U;obtain⟨hM5,hF5⟩:=hM5;generalize (W4.setCell ⟨g a,j*2,none⟩ (.int .i64 U.kind)).setCell ⟨g a,j*2+1,none⟩ (.string U.name)=W6 at hM5 hF5⊢;obtain⟨W5,hW5⟩:∃W5,W5=W6.drew:=⟨_,rfl⟩
    have HM5:Hid (G7 W5 base t bw b tg g n {s with ts:=U5 s.ts a j U} ra rk):=by rw[hW5];exact hM5.keep (B8 _ none)
    have HF5:Hid (TFx t g n ra ra w W5):=by rw[hW5];exact((Fx.grown HG4.out).trans hF5).trans (Fx.grown (B8 _ none))
    rw[←hW5];clear hW5;have hs5:=Nat.le_trans hb HF5.out.size;clear hM5 hF5;obtain⟨rl,hrl0⟩:∃rl,rl=s.ris.length:=⟨_,rfl⟩
    have HRL:=A0 hrl0;have hrlb:rl≤8000000000000:=by omega
    have d3:W5.cell? ⟨t,3,none⟩=some (.slice ra rl rk):=by rw[hrl0];exact HM5.out.blk.cell 3 _ rfl
    clear hrl0
    have HOW:Hid ((W5.alloc (.cells #[.int .i64 a, .int .i64 j] 366)).ownsRow base 366 2 (.slice ra rl rk) rl (s.ris.flatMap P5)):=by
     have h5:W5.ownsRow base 366 2 (.slice ra rl rk) rl (s.ris.flatMap P5):=by rw[HRL.out];exact HM5.out.ris
     exact h5.kept (A2 _ _ none) (by cases hv:(Value.slice ra rl rk).ownBlock<;>simp)
    have hfb:=(HM5.out.blk).frozen 3;obtain⟨inf,ii0,iz0,iz1,iz2⟩:=info_parts a7D;go_wp2_with (at_builtin;go_loud (refine a5c rfl _ _ 309 rfl base 366 inf _ 2 16 Tryz.underlying309 ii0 iz0 iz1 iz2 rfl (by decide) ra rl rk (s.ris.flatMap P5) rfl HOW.out (some ⟨W5.heap.size,0,none⟩) 1 1 [.int .i64 a, .int .i64 j] rfl rfl (fun jj u hu=>⟨_,rfl,O5 W5 _ _ jj u hu⟩) (by simp[Value.oneCell']) (by unfold maxLen;omega) (by omega) (Nat.le_trans hs5 (A2 W5 _ none).size) ?_;intro a7 k7 w7 hown7 hg7 hat7;have hf7:=(HM5.out.blk.keep (C7 (A2 W5 (.cells #[.int .i64 a, .int .i64 j] 366) _) hg7 (fun k e=> .inr e.symm)) (M7 (by rw[HRL.out];exact HM5.out.ris) HM5.out.blk (by decide)).symm).frozen 3;have hc7:=(C7 (A2 W5 (.cells #[.int .i64 a, .int .i64 j] 366) _) hg7 (fun k e=> .inr e.symm)).cell d3 (M7 (by rw[HRL.out];exact HM5.out.ris) HM5.out.blk (by decide)).symm))
    have hP:=HM5.out.push (p:=(a,j)) hs5 (by rw[←HRL.out];exact hown7) (by rw[←HRL.out];exact C7 (A2 W5 (.cells #[.int .i64 a, .int .i64 j] 366) _) hg7 (fun k e=> .inr e.symm)) (fun p e=>by
     rcases hat7 p e with h1|h1
     ·exact .inl h1
     ·exact .inr (Nat.le_trans (A2 W5 (.cells #[.int .i64 a, .int .i64 j] 366) none).size h1))
    rw[←HRL.out]at hP;go_end0;exact⟨rfl,a7,k7,by rw[HPS.out];exact hP.1,HF5.out.trans hP.2⟩
  ·have HPS:Hid (N4 L s (a,j,u)={ts:=U5 s.ts a j U,ris:=s.ris++ [(a,j)]}):=by
    have:=a6w (L:=L) (u:=u) hq (by rw[HRU.out];cases hs:a2A (some x) U with|false=>rfl|true=>exact absurd (congrArg Ty.kind (Option.some.inj ((a4w _ _).1 hs))) hK);rw[HRU.out]at this;exact this
   have hKI:¬(U.kind:Int)=(x.kind:Int):=by omega
   have HS5:Hid (W4.cell? ⟨t,2,none⟩=some (.slice (some ⟨tg,0,none⟩) n n)∧W4.cell? ⟨tg,a,none⟩=some (.slice (some ⟨g a,0,none⟩) lr lr)∧W4.cell? ⟨w.heap.size,0,none⟩=some (.int .i64 U.kind)∧W4.cell? ⟨w.heap.size,1,none⟩=some (.string U.name)):=⟨(HRC.out _ HG4.out).1,(HRC.out _ HG4.out).2.1,y0,y1⟩
   clear hK;go_upto_region 5 with fail
   refine wp_region_held_drew (S:=(fun w'=>w'.cell? ⟨t,2,none⟩=some (.slice (some ⟨tg,0,none⟩) n n)∧w'.cell? ⟨tg,a,none⟩=some (.slice (some ⟨g a,0,none⟩) lr lr)∧w'.cell? ⟨w.heap.size,0,none⟩=some (.int .i64 U.kind)∧w'.cell? ⟨w.heap.size,1,none⟩=some (.string U.name))) (by kernel_rfl) HS5.out (fun hHeld=> ?_);refine A4 0 ?_;refine A4 1 ?_;refine A4 2 ?_;refine A4 3 ?_;refine A4 4 ?_;refine A4 5 ?_;refine A4 6 ?_;refine A4 7 ?_;refine A4 8 ?_;refine A4 9 ?_;refine wpAnyH_ready (rs:=[10]) (by kernel_rfl) (by simp) ?_;refine AllReadyH.cons rfl (fun K hK=> ?_) AllReadyH.nil;obtain⟨-,-,g3,g4,g5,g6⟩:=HRC.out W4.drew (A1 HG4.out (B8 _ _));obtain⟨-,-,g3',g4',g5',g6'⟩:=HRC.out W4 HG4.out;go_simp
   refine hK.out _ _ ?_ (fun hHeld=> ?_)
   case refine_1=>
    have hgs:W4.grownBy ((W4.setCell ⟨g a,j*2,none⟩ (.int .i64 U.kind)).setCell ⟨g a,j*2+1,none⟩ (.string U.name)) (some (g a)):=A1 (A6 _ ⟨g a,j*2,none⟩ _) (A6 _ ⟨g a,j*2+1,none⟩ _);exact⟨hgs.cell HS5.out.1 (fun e=>HNE.out.1 (Option.some.inj e)),hgs.cell HS5.out.2.1 (fun e=>HNE.out.2.1 (Option.some.inj e)),hgs.cell HS5.out.2.2.1 (fun e=>HNE.out.2.2 (Option.some.inj e)),hgs.cell HS5.out.2.2.2 (fun e=>HNE.out.2.2 (Option.some.inj e))⟩
   try clear hK K
   try simp only[Act.put,lz]
   refine wpAnyH_done (by kernel_rfl) ?_ _;have hM5:=HT4.out.set hq ha (Nat.le_trans hb (HG4.out.size)) U;obtain⟨hM5,hF5⟩:=hM5;generalize (W4.setCell ⟨g a,j*2,none⟩ (.int .i64 U.kind)).setCell ⟨g a,j*2+1,none⟩ (.string U.name)=W6 at hM5 hF5⊢;obtain⟨W5,hW5⟩:∃W5,W5=W6.drew:=⟨_,rfl⟩
   have HM5:Hid (G7 W5 base t bw b tg g n {s with ts:=U5 s.ts a j U} ra rk):=by rw[hW5];exact hM5.keep (B8 _ none)
   have HF5:Hid (TFx t g n ra ra w W5):=by rw[hW5];exact((Fx.grown HG4.out).trans hF5).trans (Fx.grown (B8 _ none))
   rw[←hW5];clear hW5;have hs5:=Nat.le_trans hb HF5.out.size;clear hM5 hF5;obtain⟨rl,hrl0⟩:∃rl,rl=s.ris.length:=⟨_,rfl⟩
   have HRL:=A0 hrl0;have hrlb:rl≤8000000000000:=by omega
   have d3:W5.cell? ⟨t,3,none⟩=some (.slice ra rl rk):=by rw[hrl0];exact HM5.out.blk.cell 3 _ rfl
   clear hrl0
   have HOW:Hid ((W5.alloc (.cells #[.int .i64 a, .int .i64 j] 366)).ownsRow base 366 2 (.slice ra rl rk) rl (s.ris.flatMap P5)):=by
    have h5:W5.ownsRow base 366 2 (.slice ra rl rk) rl (s.ris.flatMap P5):=by rw[HRL.out];exact HM5.out.ris
    exact h5.kept (A2 _ _ none) (by cases hv:(Value.slice ra rl rk).ownBlock<;>simp)
   have hfb:=(HM5.out.blk).frozen 3;obtain⟨inf,ii0,iz0,iz1,iz2⟩:=info_parts a7D;go_wp2_with (at_builtin;go_loud (refine a5c rfl _ _ 309 rfl base 366 inf _ 2 16 Tryz.underlying309 ii0 iz0 iz1 iz2 rfl (by decide) ra rl rk (s.ris.flatMap P5) rfl HOW.out (some ⟨W5.heap.size,0,none⟩) 1 1 [.int .i64 a, .int .i64 j] rfl rfl (fun jj u hu=>⟨_,rfl,O5 W5 _ _ jj u hu⟩) (by simp[Value.oneCell']) (by unfold maxLen;omega) (by omega) (Nat.le_trans hs5 (A2 W5 _ none).size) ?_;intro a7 k7 w7 hown7 hg7 hat7;have hf7:=(HM5.out.blk.keep (C7 (A2 W5 (.cells #[.int .i64 a, .int .i64 j] 366) _) hg7 (fun k e=> .inr e.symm)) (M7 (by rw[HRL.out];exact HM5.out.ris) HM5.out.blk (by decide)).symm).frozen 3;have hc7:=(C7 (A2 W5 (.cells #[.int .i64 a, .int .i64 j] 366) _) hg7 (fun k e=> .inr e.symm)).cell d3 (M7 (by rw[HRL.out];exact HM5.out.ris) HM5.out.blk (by decide)).symm))
   have hP:=HM5.out.push (p:=(a,j)) hs5 (by rw[←HRL.out];exact hown7) (by rw[←HRL.out];exact C7 (A2 W5 (.cells #[.int .i64 a, .int .i64 j] 366) _) hg7 (fun k e=> .inr e.symm)) (fun p e=>by
    rcases hat7 p e with h1|h1
    ·exact .inl h1
    ·exact .inr (Nat.le_trans (A2 W5 (.cells #[.int .i64 a, .int .i64 j] 366) none).size h1))
   rw[←HRL.out]at hP;go_end0;exact⟨rfl,a7,k7,by rw[HPS.out];exact hP.1,HF5.out.trans hP.2⟩
end Kx
end Go.Proofs.YtdhophglnhcjbaaGreatDoor
