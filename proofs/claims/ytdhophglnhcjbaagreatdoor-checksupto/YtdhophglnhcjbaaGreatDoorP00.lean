/- P00: a part of the proof that the last text tells. -/
import Derived.Test.YtdhophglnhcjbaaGreatDoorProg
import Derived.Maps.OwnSet
import Derived.StringKeys
import Derived.DeepKeys5
import Derived.WalkKit
import Derived.WalkSpells
import Derived.WalkLawsBesides
import Derived.Deep.QuietTactic
import Derived.BigQuiet
import Derived.Below
import Derived.RangeFuncNested
import Derived.RangeFuncBound
import Derived.RangeFuncCalls
import Derived.RangeFuncLeaves
import Derived.Shelf.Abstract
import Derived.Shelf.RegionOpen
import Derived.OwnWalkIn
import Derived.TacticsInMore
import Derived.LoopNIn
import Derived.LoopIn
import Derived.Maps.OwnIn
import Derived.Sort.QuietIn
import Derived.Deep.RegionHeld2
import Derived.Deep.AppendLies
set_option linter.all false
set_option maxRecDepth 100000
set_option maxHeartbeats 40000000
open Go.Proofs.Tryz
open Go renaming Value->la,World->ld,Calls->le,Addr->lg,maxLen->lh,plainElem->lr,results->ls,wpList_lookup_own_ok_int->nb,grownBy_putObj'->nc,bodyPost_ret->nd,info_parts->nf,wpList_append_own->ng,plainElem_int->nt,wpList_mapUpdate_own->uz,run_takeDeferred->vi
open List renaming toArray->lf,range->lm,any_eq_true->ln,mem_range->lu,mem_cons->lv,length_cons->lx,getD_eq_getElem?_getD->ly,getElem_mem->na,any_cons->nj,getElem?_eq_getElem->nn,any_eq_false->no,flatMap_append->np,size_toArray->nu,length_nil->nv,push_toArray->ua,append_toArray->ub,nil_append->uc,cons_append->ud,findIdx?_eq_some_iff_getElem->uf,findIdx?_eq_none_iff->ug,getElem?_append_left->uh,getElem?_append_right->ui,find?_cons->uj,getElem_of_mem->uk,not_all_eq_any_not->um,foldl_append->uu,length_append->uv,length_singleton->uw,append_nil->vb,nodup_nil->vf
open Nat renaming le_refl->li,lt_trichotomy->nh,lt_of_lt_of_le->nl,le_trans->nr,reduceAdd->nw,reduceSub->nx,pow_le_pow_right->ue,le_of_ble_eq_true->ux,add_right_comm->ve,add_sub_cancel'->vg,mul_comm->vj,succ_mul->vk
open ByteArray renaming empty->lj,ext->us
open Go.RowKit renaming intOf->lk,wrap64->lp,Below->lw
open Go.World renaming ownsRow->ll
open Bool renaming eq_iff_iff->lq,or_eq_true->ni,not_eq_true'->nk,or_eq_false_iff->uo,and_eq_true->uq,and_eq_false_iff->ur,false_or->vh
open Array renaming replicate_succ->ny,replicate_zero->nz,toList_inj->ut,getElem?_eq_some_iff->uy
open Option renaming isSome_iff_exists->ul,isSome_map->un,getD_some->vd
open Option renaming none→N,some→O
open Go.IntKind renaming i64→I
open Go.Value renaming int→J,string→Z,slice→V,pointer→U,bool→G,agg→Q
open Go.Ending renaming returned→Y
open Go.RowKit renaming Hid→X
open Go.Obj renaming cells→H
open Go.Addr renaming mk→A
namespace Go.Proofs.YtdhophglnhcjbaaGreatDoor
theorem Oe{α:Sort _}(a:α):∃x,x=a:=⟨a,rfl⟩
theorem Oo{P:Prop}(h:P:=by omega):P:=h
theorem Os{P:Prop}(h:P:=by simp):P:=h
theorem Od{P:Prop}(h:P:=by decide):P:=h
theorem Ok0{P:Prop}(h:P:=by kernel_rfl):P:=h
theorem Oi{P:Prop}(h:P:=by simp;omega):P:=h
theorem Om{P:Prop}(h:P:=by unfold maxLen;omega):P:=h
theorem _root_.Go.RowKit.Hid.o{p:Prop}(h:Go.RowKit.Hid p):p:=h
section
theorem a2e{P:Prop}(h:P:=by
 go_wp2
 go_ret;have hk':k=n:=by have:=HM.o.1;omega
 subst hk';exact .ok (a:=xs) (by rw[D8,HH.o];exact HM.o.done) hg2 HROW.o HR2.o):P:=h
theorem a4p{P:Prop}(h:P:=by
 have:=(T4 HH.o).2;have:256^d<=256^2:=Nat.pow_le_pow_right Oo hd;omega):P:=h
theorem c5j{P:Prop}(h:P:=by
 rw[List.length_append,<-a3P];exact hown):P:=h
theorem c5l{P:Prop}(h:P:=by
 exact⟨k+1,xs++ [x],st3,by go_num,HM4.o,HO4.o,hR4,hg4⟩):P:=h
theorem c5t{P:Prop}(h:P:=by
 exact⟨0,[],st1,rfl, .start _ _ _,World.ownsRow_nil _ _ _ _,hR.o,hg⟩):P:=h
theorem c5w{P:Prop}(h:P:=by
 rw[h.up_some h.find_object];have:(cl l 0).s=D4:=by obtain⟨fs,rfl⟩:=h.base;rfl
 rw[this,h.up_none];cases hf:C8 l D4 with
 |none=>rfl
 |some j=>exact absurd (M8 hf).2.1 (h.names j (M8 hf).1)):P:=h
theorem c6i{P:Prop}(h:P:=by
 intro k hk;obtain⟨k',hk',rfl⟩:=List.mem_map.1 hk;simpa using hne k' hk'):P:=h
end
section
theorem B9{α:Type}{a:α}:O a≠N:=Option.some_ne_none _
namespace Cf
structure St where
 t:Nat
 u:Nat
 p:List ByteArray
abbrev Er:=Nat×Nat
abbrev R(α:Type):=Except Er (α×St)
def beL(l:List UInt8):Nat:=l.foldl (λn c=>n*256+c.toNat) 0
def C3(f:ByteArray)(k:Nat)(st:St):R Nat:=
 if st.t+k<=f.size then .ok (beL ((f.data.toList.drop st.t).take k),{st with t:=st.t+k})else .error (2,f.size)
def name(f:ByteArray)(st:St):R ByteArray:=
 match C3 f 1 st with
 | .error e=> .error e
 | .ok (n,st1)=>if n<=st.u/\n<st.p.length then .ok (st.p.getD n lj,{st1 with u:=max st.u (n+1)})else .error (5,st.t)
structure Ty where
 k:Nat
 n:ByteArray
structure V3 where
 n:ByteArray
 ty:Ty
structure In where
 o:Nat
 a:Int
 c:ByteArray
 m:ByteArray
structure Hd where
 f:Nat
 to:Nat
 t:Nat
 c:ByteArray
structure Me where
 n:ByteArray
 p:List Ty
 r:Ty
 s:Nat
 l:Nat
 c:List In
 h:List Hd
structure Cl where
 n:ByteArray
 s:ByteArray
 f:List V3
 m:List Me
def a1T(k:Nat):Bool:=k==2||k==4
def Y8(f:ByteArray)(b:Bool)(st:St):R ByteArray:=if b then name f st else .ok (lj,st)
def kind(f:ByteArray)(st:St):R Ty:=
 match C3 f 1 st with
 | .error e=> .error e
 | .ok (k,st1)=>
   if 4<k then .error (3,st.t)else
   match Y8 f (a1T k) st1 with
   | .error e=> .error e
   | .ok (n,st2)=> .ok (⟨k,n⟩,st2)
def P0(op:Nat):Nat:=if op=0 then 4 else if op=2\/op=3 then 1 else if 12<=op/\op<=15 then 2 else 0
def a0I(op:Nat):Bool:=(16<=op&&op<=19)||op==22||op==28||op==29
def a0V(op:Nat):Bool:=17<=op&&op<=19
def Y7(w n:Nat):Int:=if w=4/\2147483648<=n then(n:Int)-4294967296 else n
def ins(f:ByteArray)(st:St):R In:=
 match C3 f 1 st with
 | .error e=> .error e
 | .ok (op,st1)=>
   if 32<=op then .error (3,st.t)else
   match C3 f (P0 op) st1 with
   | .error e=> .error e
   | .ok (n,st2)=>
     match Y8 f (a0I op) st2 with
     | .error e=> .error e
     | .ok (c,st3)=>
       match Y8 f (a0V op) st3 with
       | .error e=> .error e
       | .ok (m,st4)=> .ok (⟨op,Y7 (P0 op) n,c,m⟩,st4)
def m8(f:ByteArray)(st:St):R Hd:=
 match C3 f 2 st with
 | .error e=> .error e
 | .ok (a,st1)=>
   match C3 f 2 st1 with
   | .error e=> .error e
   | .ok (b,st2)=>
     match C3 f 2 st2 with
     | .error e=> .error e
     | .ok (c,st3)=>
       match name f st3 with
       | .error e=> .error e
       | .ok (n,st4)=> .ok (⟨a,b,c,n⟩,st4)
def a0c(f:ByteArray)(st:St):R V3:=
 match name f st with
 | .error e=> .error e
 | .ok (n,st1)=>
   match kind f st1 with
   | .error e=> .error e
   | .ok (t,st2)=> .ok (⟨n,t⟩,st2)
def E4{α:Type}(p:St->R α):Nat->St->R (List α)
 |0,st=> .ok ([],st)
 |k+1,st=>
  match p st with
  | .error e=> .error e
  | .ok (x,st1)=>
    match E4 p k st1 with
    | .error e=> .error e
    | .ok (l,st2)=> .ok (x::l,st2)
def D8{α:Type}(f:ByteArray)(w:Nat)(p:St->R α)(st:St):R (List α):=
 match C3 f w st with
 | .error e=> .error e
 | .ok (n,st1)=>E4 p n st1
def meth(f:ByteArray)(st:St):R Me:=
 match name f st with
 | .error e=> .error e
 | .ok (n,st1)=>
   match D8 f 1 (kind f) st1 with
   | .error e=> .error e
   | .ok (ps,st2)=>
     match kind f st2 with
     | .error e=> .error e
     | .ok (r,st3)=>
       match C3 f 1 st3 with
       | .error e=> .error e
       | .ok (s,st4)=>
         match C3 f 1 st4 with
         | .error e=> .error e
         | .ok (l,st5)=>
           match D8 f 2 (ins f) st5 with
           | .error e=> .error e
           | .ok (c,st6)=>
             match D8 f 1 (m8 f) st6 with
             | .error e=> .error e
             | .ok (h,st7)=> .ok (⟨n,ps,r,s,l,c,h⟩,st7)
def cls(f:ByteArray)(st:St):R Cl:=
 match name f st with
 | .error e=> .error e
 | .ok (n,st1)=>
   match name f st1 with
   | .error e=> .error e
   | .ok (s,st2)=>
     match D8 f 1 (a0c f) st2 with
     | .error e=> .error e
     | .ok (fs,st3)=>
       match D8 f 1 (meth f) st3 with
       | .error e=> .error e
       | .ok (ms,st4)=> .ok (⟨n,s,fs,ms⟩,st4)
def a1y(c:UInt8):Bool:=(97<=c&&c<=122)||(65<=c&&c<=90)||(48<=c&&c<=57)
def L7(s:ByteArray):Bool:=decide (1<=s.size)&&decide (s.size<=12)&&s.data.toList.all a1y
def l7(f:ByteArray)(st:St):R ByteArray:=
 match C3 f 1 st with
 | .error e=> .error e
 | .ok (k,st1)=>
   if st1.t+k<=f.size then
    let s:=f.extract st1.t (st1.t+k)
    if L7 s&& !st.p.contains s then .ok (s,{st1 with t:=st1.t+k})else .error (4,st.t)
   else .error (2,f.size)
def L5(f:ByteArray)(st:St):R Unit:=
 match l7 f st with
 | .error e=> .error e
 | .ok (s,st1)=> .ok ((),{st1 with p:=st1.p++ [s]})
def K9(f:ByteArray)(c:Nat)(i:Nat)(st:St):R Unit:=
 match C3 f 1 st with
 | .error e=> .error e
 | .ok (n,st1)=>if n=c then .ok ((),st1)else .error (3,i)
def I9(f:ByteArray):Except Er Cl:=
 if 2048<f.size then .error (1,0)else
 match K9 f 87 0 ⟨0,0,[]⟩with
 | .error e=> .error e
 | .ok (_,st1)=>
   match K9 f 49 1 st1 with
   | .error e=> .error e
   | .ok (_,st2)=>
     match D8 f 1 (L5 f) st2 with
     | .error e=> .error e
     | .ok (_,st3)=>
       match cls f st3 with
       | .error e=> .error e
       | .ok (c,st4)=>
         if st4.u<st4.p.length then .error (5,f.size)else
         if st4.t<f.size then .error (6,st4.t)else .ok c
structure Inv(f:ByteArray)(st:St):Prop where
 fits:f.size<=2048
 t:st.t<=f.size
 u:st.u<=st.p.length
 p:st.p.length<=255
end Cf
abbrev mV(m:Cf.Me)(pa:Option lg)(pk:Nat)(ca:Option lg)(ck:Nat)(ha:Option lg)(hk:Nat):Array la:= #[Z m.n, V pa m.p.length pk, J I m.r.k, Z m.r.n, J I m.s, J I m.l, V ca m.c.length ck, V ha m.h.length hk]
abbrev mZ:Array la:= #[Z ⟨#[]⟩, V N 0 0, J I 0, Z ⟨#[]⟩, J I 0, J I 0, V N 0 0, V N 0 0]
namespace Cf
def D5:ByteArray:=⟨#[79,98,106,101,99,116]⟩
def G6:ByteArray:=⟨#[84,104,114,111,119]⟩
def a9V:ByteArray:=⟨#[78,105,108]⟩
def a9F:ByteArray:=⟨#[73,110,100,101,120]⟩
def a9P:ByteArray:=⟨#[83,105,122,101]⟩
def a9Q:ByteArray:=⟨#[67,97,115,116]⟩
def a9O:ByteArray:=⟨#[90,101,114,111]⟩
def a9o:ByteArray:=⟨#[77,101,109,111,114,121]⟩
def a9G:ByteArray:=⟨#[68,101,112,116,104]⟩
def D4:ByteArray:=⟨#[]⟩
def a3m(n s:ByteArray):Cl:=⟨n,s,[],[]⟩
def B6:List Cl:=[a3m D5 D4,a3m G6 D5,a3m a9V G6,a3m a9F G6,a3m a9P G6,a3m a9Q G6,a3m a9O G6,a3m a9o G6,a3m a9G G6]
def b4f:Cl:=⟨D4,D4,[],[]⟩
def cl(l:List Cl)(i:Nat):Cl:=l.getD i b4f
def C8(l:List Cl)(n:ByteArray):Option Nat:=l.findIdx? λc=>decide (c.n=n)
def F1(l:List Cl):Nat->ByteArray->List Nat
 |0,_=> []
 |k+1,n=>match C8 l n with
  |none=> []
  |some i=>i::F1 l k (cl l i).s
def up(l:List Cl)(n:ByteArray):List Nat:=F1 l l.length n
def I4(a b:Ty):Bool:=decide (a.k=b.k)&&decide (a.n=b.n)
theorem a2M(a b:Ty):I4 a b=true↔a=b:=by
 cases a;cases b;simp[I4]
theorem a5W(a:Ty):I4 a a=true:=(a2M a a).2 rfl
def Z4:List Ty->List Ty->Bool
 | [],[]=>true
 |a::l,b::m=>I4 a b&&Z4 l m
 |_,_=>false
theorem a4v:∀(l m:List Ty),Z4 l m=true↔l=m
 | [],[]=>by simp[Z4]
 | [],_::_=>by simp[Z4]
 |_::_,[]=>by simp[Z4]
 |a::l,b::m=>by simp[Z4,a2M,a4v l m]
variable {l m:List Cl}{n:ByteArray}{i:Nat}
theorem M8(h:C8 l n=O i):i<l.length/\(cl l i).n=n/\∀j,j<i->(cl l j).n≠n:=by
 unfold C8 at h;obtain⟨hi,C,B⟩:=uf.1 h;refine⟨hi,?_,λj d=> ?_⟩
 ·unfold cl;rw[ly,nn hi];simpa using C
 ·have:=B j d;unfold cl;rw[ly,nn Oo];simpa using this
theorem a6P(h:C8 l n=N):∀j,j<l.length->(cl l j).n≠n:=by
 intro j d;unfold C8 at h;have:=ug.1 h l[j] (na d);unfold cl;rw[ly,nn d];simpa using this
theorem a7n(hi:i<l.length)(B:(cl l i).n=n)(E:∀j,j<i->(cl l j).n≠n):C8 l n=O i:=by
 cases h:C8 l n with
 |none=>exact absurd B (a6P h i hi)
 |some k=>
  obtain⟨F,C,D⟩:=M8 h;rcases nh k i with d|d|d
  ·exact absurd C (E k d)
  ·rw[d]
  ·exact absurd B (D i d)
theorem U0(h:i<l.length):cl (l++m) i=cl l i:=by
 unfold cl;simp[uh h]
theorem a6A:cl (l++m) (l.length+i)=cl m i:=by
 unfold cl;simp[ui]
theorem V8(h:i<l.length):cl l i=l[i]:=by
 unfold cl;simp[h]
def a1z(l:List Cl):Prop:=∀i j,i<l.length->j<l.length->(cl l i).n=(cl l j).n->i=j
theorem a6Q(h:a1z l)(hi:i<l.length):C8 l (cl l i).n=O i:=
 a7n hi rfl (λj d e=>by have:=h j i Oo hi e;omega)
def a0T(p:Nat->Bool)(n:Nat):Option Nat:=(lm n).find? p
variable {p q:Nat->Bool}
theorem a6C{n:Nat}(h:a0T p n=N):∀i,i<n->p i=false:=by
 intro i hi;have:=List.find?_eq_none.1 h i (lu.2 hi);simpa using this
theorem b5h{n:Nat}(h:∀i,i<n->p i=q i):a0T p n=a0T q n:=by
 unfold a0T
 have:∀l:List Nat,(∀i∈l,i<n)->l.find? p=l.find? q:=by
  intro l;induction l with
  |nil=>intro _;rfl
  |cons a l ih=>
   intro d;simp only[uj,h a (d a Os)];rw[ih (λi hi=>d i (by simp[hi]))]
 exact this _ (λi hi=>lu.1 hi)
def b9:List (Nat->Bool)->Nat->Nat->Except Er Unit
 | [],_,_=> .ok ()
 |p::ps,n,e=>match a0T p n with
  |some i=> .error (e,i)
  |none=>b9 ps n (e+1)
theorem a4Q{d B:List (Nat->Bool)}{n e:Nat}(h:∀i,i<n->p i=q i)(C:(∀i,i<n->q i=false)->b9 d n (e+1)=b9 B n (e+1)):b9 (p::d) n e=b9 (q::B) n e:=by
 simp only[b9,b5h h];cases hq:a0T q n with
 |some i=>rfl
 |none=>exact C (a6C hq)
def E9(l:List Cl)(n:ByteArray):Bool:=(C8 l n).isSome
def twP(l:List Cl)(i:Nat):Bool:=decide (C8 l (cl l i).n≠O i)
def nsP(l:List Cl)(i:Nat):Bool:= !E9 l (cl l i).s
def loP(l:List Cl)(i:Nat):Bool:=(F1 l l.length (cl l i).s).any λk=>decide ((cl l k).n=(cl l i).n)
def U7(l:List Cl)(t:Ty):Bool:=if t.k=2\/t.k=4 then E9 l t.n else decide (t.k≠0)
def a0D(l:List Cl)(m:Me):Bool:=m.p.any (λp=> !U7 l p)||m.h.any (λh=> !E9 l h.c)||(decide (m.r.k≠0)&& !U7 l m.r)
def tyP(l:List Cl)(i:Nat):Bool:=(cl l i).f.any (λf=> !U7 l f.ty)||(cl l i).m.any (a0D l)
def a9(c:Cl)(n:ByteArray):Option Nat:=c.f.findIdx? λf=>decide (f.n=n)
def L2(c:Cl)(n:ByteArray):Option Nat:=c.m.findIdx? λm=>decide (m.n=n)
def O0(l:List Cl)(c n:ByteArray):Option (Nat×Nat):=(up l c).findSome? λk=>(a9 (cl l k) n).map λi=>(k,i)
def mbP(l:List Cl)(i:Nat):Bool:=
 (lm (cl l i).f.length).any (λj=>(O0 l (cl l i).s ((cl l i).f.getD j ⟨D4,0,D4⟩).n).isSome||decide (a9 (cl l i) ((cl l i).f.getD j ⟨D4,0,D4⟩).n≠O j))||
 (lm (cl l i).m.length).any (λj=>decide (L2 (cl l i) (((cl l i).m.map (·.n)).getD j D4)≠O j))
def a1V(m o:Me):Bool:=I4 m.r o.r&&Z4 m.p o.p
def a2V(c:Cl)(n:ByteArray):Option Me:=c.m.find? λm=>decide (m.n=n)
def ovP(l:List Cl)(i:Nat):Bool:=
 (up l (cl l i).s).any λk=>(cl l i).m.any λm=>match a2V (cl l k) m.n with
   |none=>false
   |some o=> !a1V m o
def twR(fs:List Cl)(i:Nat):Bool:=(C8 (B6++fs.take i) (cl fs i).n).isSome
def V6(l:List Cl)(t:Ty):Bool:=decide (t.n=D4)||E9 l t.n
def a4a(l:List Cl)(m:Me):Bool:= !(V6 l m.r&&m.p.all (λp=>V6 l p&&decide (p.k≠0))&&m.h.all (λh=>E9 l h.c))
def tyR(l:List Cl)(c:Cl):Bool:=c.f.any (λf=> !V6 l f.ty||decide (f.ty.k=0))||c.m.any (a4a l)
def O9(l:List Cl)(n:ByteArray):List V3:=(up l n).reverse.flatMap λk=>(cl l k).f
variable {α:Type}
def a0a(f:α->ByteArray):List α->Bool
 | []=>false
 |x::xs=>xs.any (λy=>decide (f y=f x))||a0a f xs
def mbR(l:List Cl)(c:Cl):Bool:=a0a (·.n) c.m||a0a (·.n) c.f||c.f.any (λf=>(O9 l c.s).any λg=>decide (f.n=g.n))
def ovR(l:List Cl)(c:Cl):Bool:=
 c.m.any λm=>(up l c.s).any λk=>(cl l k).m.any λo=>decide (o.n=m.n)&&(!Z4 m.p o.p|| !I4 o.r m.r)
def a1m(t:Ty):Prop:=t.k<=4/\(t.n=D4↔¬(t.k=2\/t.k=4))/\(t.n≠D4->L7 t.n=true)
structure a2z(c:Cl):Prop where
 n:L7 c.n=true
 s:L7 c.s=true
 f:∀f∈c.f,L7 f.n=true/\a1m f.ty
 m:∀m∈c.m,L7 m.n=true/\a1m m.r/\(∀p∈m.p,a1m p)/\∀h∈m.h,L7 h.c=true
theorem a5X(f:α->ByteArray)(d:α):∀l:List α,a0a f l=true↔∃i j,i<j/\j<l.length/\f (l.getD i d)=f (l.getD j d)
 | []=>by simp[a0a]
 |x::xs=>by
  simp only[a0a,ni,ln,decide_eq_true_eq,a5X f d xs];constructor
  ·rintro(⟨y,hy,e⟩|⟨i,j,F,C,B⟩)
   ·obtain⟨q,E,rfl⟩:=uk hy;exact⟨0,q+1,by omega,by simpa using E,by simp[e,E]⟩
   ·exact⟨i+1,j+1,by omega,by simpa using C,by simpa using B⟩
  ·rintro⟨i,j,F,C,B⟩;obtain⟨j,rfl⟩:∃q,j=q+1:=⟨j-1,by omega⟩
   have D:j<xs.length:=by simpa using C
   cases i with
   |zero=>
    left;refine⟨xs[j],na D,?_⟩;simpa[D]using B.symm
   |succ i=>right;exact⟨i,j,by omega,D,by simpa using B⟩
theorem a9L(B:List Cl)(i:Nat)(hi:i<B.length):twP (B6++B) (B6.length+i)=twR B i:=by
 have hb:B6.length=9:=rfl;have K:cl (B6++B) (B6.length+i)=cl B i:=a6A;have S:B6.length+i<(B6++B).length:=by simp;omega
 rw[lq];unfold twP twR;rw[K];simp only[decide_eq_true_eq,ne_eq,ul]
 have d:∀j,j<B6.length+i->cl (B6++B.take i) j=cl (B6++B) j:=by
  intro j M;unfold cl;have:B6++B.take i=(B6++B).take (B6.length+i):=(List.take_length_add_append i).symm;rw[this,ly,ly,List.getElem?_take,if_pos M]
 have C:(B6++B.take i).length=B6.length+i:=by simp;omega
 constructor
 ·intro T;cases hf:C8 (B6++B) (cl B i).n with
  |none=>exact absurd (by rw[K]) (a6P hf _ S)
  |some k=>
   obtain⟨D,E,F⟩:=M8 hf
   have hk:k<B6.length+i:=by
    rcases nh k (B6.length+i)with h|h|h
    ·exact h
    ·subst h;exact absurd hf T
    ·exact absurd (by rw[K]) (F _ h)
   exact⟨k,a7n Oo (by rw[d k hk];exact E) (λj M=>by rw[d j Oo];exact F j M)⟩
 ·rintro⟨k,hk⟩ he;obtain⟨D,E,F⟩:=M8 hk;obtain⟨g1,g2,W⟩:=M8 he;rw[C]at D;exact W k D (by rw[<-d k D];exact E)
theorem a8u{t:Ty}(h:a1m t):U7 l t=(V6 l t&&decide (t.k≠0)):=by
 obtain⟨D,B,E⟩:=h;unfold U7 V6;by_cases hk:t.k=2\/t.k=4
 ·have d:t.n≠D4:=λe=>(B.1 e) hk
  have C:t.k≠0:=by omega
  simp[hk,d,C]
 ·have d:=B.2 hk;rw[if_neg hk,d];simp
theorem c1J{m:Me}(B:a1m m.r)(d:∀p∈m.p,a1m p):a0D l m=a4a l m:=by
 have C:(decide (m.r.k≠0)&& !U7 l m.r)= !V6 l m.r:=by
  rw[a8u B];by_cases h0:m.r.k=0
  ·have:=B.2.1.2 Oo;simp[h0,V6,this]
  ·simp[h0]
 have D:m.p.any (λp=> !U7 l p)= !m.p.all (λp=>V6 l p&&decide (p.k≠0)):=by
  rw[um]
  have:∀q:List Ty,(∀p∈q,a1m p)->q.any (λp=> !U7 l p)=q.any (λp=> !(V6 l p&&decide (p.k≠0))):=by
   intro q;induction q with
   |nil=>intro _;rfl
   |cons a q ih=>intro h;simp only[nj,a8u (h a Os)];rw[ih (λp d=>h p (by simp[d]))]
  exact this _ d
 have E:m.h.any (λh=> !E9 l h.c)= !m.h.all (λh=>E9 l h.c):=by rw[um]
 unfold a0D a4a;rw[C,D,E];cases V6 l m.r<;>cases m.p.all (λp=>V6 l p&&decide (p.k≠0))<;>cases m.h.all (λh=>E9 l h.c)<;>rfl
theorem a5f{p q:α->Bool}:∀{l:List α},(∀x∈l,p x=q x)->l.any p=l.any q
 | [],_=>rfl
 |a::l,h=>by simp only[nj,h a Os];rw[a5f (λx d=>h x (by simp[d]))]
theorem c3D(h:a2z (cl l i)):tyP l i=tyR l (cl l i):=by
 unfold tyP tyR;congr 1
 ·exact a5f λf B=>by
   rw[a8u (h.f f B).2];cases V6 l f.ty<;>by_cases h0:f.ty.k=0<;>simp[h0]
 ·exact a5f λm d=>c1J (h.m m d).2.1 (h.m m d).2.2.1
theorem b0u(f:α->ByteArray)(d:α)(l:List α)(j:Nat)(C:j<l.length):(l.findIdx? λx=>decide (f x=f (l.getD j d)))=O j↔∀i,i<j->f (l.getD i d)≠f (l.getD j d):=by
 rw[uf];have B:∀i (h:i<l.length),l.getD i d=l[i]:=λi h=>by simp[h]
 constructor
 ·rintro⟨_,_,h⟩ i hi;have:=h i hi;rw[B i Oo];simpa using this
 ·intro h;refine⟨C,by rw[B j C];simp,λi hi=> ?_⟩;have:=h i hi;rw[B i Oo]at this;simpa using this
theorem b1K(f:α->ByteArray)(d:α)(l:List α):a0a f l=(lm l.length).any (λj=>decide ((l.findIdx? λx=>decide (f x=f (l.getD j d)))≠O j)):=by
 rw[lq,a5X f d];simp only[ln,lu,decide_eq_true_eq,ne_eq];constructor
 ·rintro⟨i,j,C,B,E⟩;exact⟨j,B,λe=>(b0u f d l j B).1 e i C E⟩
 ·rintro⟨j,D,h⟩;rw[b0u f d l j D]at h;simp only[Classical.not_forall,Decidable.not_not]at h;obtain⟨i,C,B⟩:=h;exact⟨i,j,C,D,B⟩
theorem c3y(p q:α->Bool)(l:List α):l.any (λx=>p x||q x)=(l.any p||l.any q):=by
 induction l with
 |nil=>rfl
 |cons a l ih=>simp only[nj,ih];cases p a<;>cases q a<;>simp
theorem b2t(p:α->Bool)(d:α)(l:List α):(lm l.length).any (λj=>p (l.getD j d))=l.any p:=by
 rw[lq];simp only[ln,lu];constructor
 ·rintro⟨j,B,h⟩;exact⟨l[j],na B,by simpa[B]using h⟩
 ·rintro⟨x,C,h⟩;obtain⟨j,B,rfl⟩:=uk C;exact⟨j,B,by simpa[B]using h⟩
theorem b0p(p:α->Bool)(l:List α):(l.findIdx? p).isSome=l.any p:=by
 rw[lq,Option.isSome_iff_ne_none,ne_eq,ug,ln];simp
theorem b5N(l:List Cl)(c n:ByteArray):(O0 l c n).isSome=(O9 l c).any λg=>decide (n=g.n):=by
 rw[lq];unfold O0 O9;simp only[ln,List.mem_flatMap,List.mem_reverse,decide_eq_true_eq,List.isSome_findSome?];constructor
 ·rintro⟨k,hk,h⟩;simp only[un,a9,b0p,ln,decide_eq_true_eq]at h;obtain⟨f,d,e⟩:=h;exact⟨f,⟨k,hk,d⟩,e.symm⟩
 ·rintro⟨f,⟨k,hk,d⟩,e⟩;refine⟨k,hk,?_⟩;simp only[un,a9,b0p,ln,decide_eq_true_eq];exact⟨f,d,e.symm⟩
theorem c3K:mbP l i=mbR l (cl l i):=by
 unfold mbP mbR;rw[c3y]
 have B:(lm (cl l i).f.length).any (λj=>(O0 l (cl l i).s ((cl l i).f.getD j ⟨D4,0,D4⟩).n).isSome)=(cl l i).f.any (λf=>(O9 l (cl l i).s).any λg=>decide (f.n=g.n)):=by
  rw[b2t (λf:V3=>(O0 l (cl l i).s f.n).isSome) ⟨D4,0,D4⟩];exact a5f λf _=>b5N l _ _
 have C:=b1K (λf:V3=>f.n) ⟨D4,0,D4⟩ (cl l i).f
 have D:a0a (λm:Me=>m.n) (cl l i).m=(lm (cl l i).m.length).any (λj=>decide (L2 (cl l i) (((cl l i).m.map (·.n)).getD j D4)≠O j)):=by
  rw[b1K (λm:Me=>m.n) ⟨D4,[],⟨0,D4⟩,0,0,[],[]⟩];refine a5f λj d=> ?_
  have d:=lu.1 d;unfold L2;simp[d]
 rw[B,<-D];have E:(lm (cl l i).f.length).any (λj=>decide (a9 (cl l i) ((cl l i).f.getD j ⟨D4,0,D4⟩).n≠O j))=a0a (λf:V3=>f.n) (cl l i).f:=by rw[C];rfl
 rw[E];cases a0a (λm:Me=>m.n) (cl l i).m<;>cases a0a (λf:V3=>f.n) (cl l i).f<;>cases (cl l i).f.any (λf=>(O9 l (cl l i).s).any λg=>decide (f.n=g.n))<;>rfl
theorem b6Q(f:α->ByteArray){l:List α}(h:a0a f l=false){x:α}(d:x∈l):l.find? (λy=>decide (f y=f x))=O x:=by
 induction l with
 |nil=>cases d
 |cons a l ih=>
  simp only[a0a,uo,no,decide_eq_true_eq]at h;rcases lv.1 d with rfl|d
  ·simp
  ·have:f a≠f x:=λe=>h.1 x d e.symm
   simp only[uj,this,decide_false];exact ih h.2 d
theorem c3H(h:∀k∈up l (cl l i).s,a0a (λm:Me=>m.n) (cl l k).m=false):ovP l i=ovR l (cl l i):=by
 rw[lq];unfold ovP ovR;simp only[ln];constructor
 ·rintro⟨k,hk,m,E,d⟩;refine⟨m,E,k,hk,?_⟩;cases B:a2V (cl l k) m.n with
  |none=>rw[B]at d;cases d
  |some o=>
   rw[B]at d;have C:=List.mem_of_find?_eq_some B;have K:=List.find?_some B;refine⟨o,C,?_⟩;simp only[uq];refine⟨K,?_⟩;simp only[a1V,nk,ur]at d;simp only[ni,nk];rcases d with d|d
   ·right;cases hq:I4 o.r m.r with
    |false=>rfl
    |true=>rw[(a2M _ _).1 hq,a5W]at d;cases d
   ·left;exact d
 ·rintro⟨m,E,k,hk,o,B,d⟩;refine⟨k,hk,m,E,?_⟩;simp only[uq,decide_eq_true_eq,ni,nk]at d;have F:=b6Q (λm:Me=>m.n) (h k hk) B;rw[d.1]at F;unfold a2V;rw[F];simp only[a1V,nk,ur];rcases d.2 with D|D
  ·right;exact D
  ·left;cases hq:I4 m.r o.r with
   |false=>rfl
   |true=>rw[(a2M _ _).1 hq,a5W]at D;cases D
theorem a2s:∀(k:Nat) (n:ByteArray),∀i∈F1 l k n,i<l.length
 |0,_,i,h=>by cases h
 |k+1,n,i,h=>by
  simp only[F1]at h;cases hf:C8 l n with
  |none=>rw[hf]at h;cases h
  |some j=>
   rw[hf]at h;rcases lv.1 h with rfl|h
   ·exact(M8 hf).1
   ·exact a2s k _ i h
def a8(fs:List Cl):Except Er Unit:=
 b9 [λi=>twP (B6++fs) (9+i),λi=>nsP (B6++fs) (9+i),λi=>loP (B6++fs) (9+i),λi=>tyP (B6++fs) (9+i),λi=>mbP (B6++fs) (9+i),λi=>ovP (B6++fs) (9+i)] fs.length 7
def y6(fs:List Cl):Except Er Unit:=
 b9 [twR fs,λi=> !E9 (B6++fs) (cl fs i).s,λi=>(up (B6++fs) (cl fs i).s).any λk=>decide ((cl (B6++fs) k).n=(cl fs i).n),λi=>tyR (B6++fs) (cl fs i),λi=>mbR (B6++fs) (cl fs i),λi=>ovR (B6++fs) (cl fs i)] fs.length 7
theorem Y6(d:List Cl)(i:Nat):cl (B6++d) (9+i)=cl d i:=a6A (l:=B6)
theorem a9I(d:List Cl)(hok:∀c∈d,a2z c):a8 d=y6 d:=by
 have B:∀i,i<d.length->a2z (cl d i):=λi hi=>by rw[V8 hi];exact hok _ (na hi)
 unfold a8 y6;refine a4Q (λi hi=>a9L d i hi) λE=> ?_
 refine a4Q (λi hi=>by simp only[nsP,Y6]) λF=> ?_
 refine a4Q (λi hi=>by simp only[loP,Y6,up]) λK=> ?_
 refine a4Q (λi hi=>by rw[c3D (by rw[Y6];exact B i hi),Y6]) λM=> ?_
 refine a4Q (λi hi=>by rw[c3K,Y6]) λC=> ?_
 refine a4Q (λi hi=> ?_) λ_=>rfl
 rw[c3H,Y6];intro k hk;have hk:=a2s _ _ k hk;by_cases h9:k<9
 ·have:(cl (B6++d) k).m=[]:=by
   rw[U0 (by exact h9)];have:k=0\/k=1\/k=2\/k=3\/k=4\/k=5\/k=6\/k=7\/k=8:=by omega
   rcases this with rfl|rfl|rfl|rfl|rfl|rfl|rfl|rfl|rfl<;>rfl
  rw[this];rfl
 ·obtain⟨j,rfl⟩:∃j,k=9+j:=⟨k-9,by omega⟩
  rw[Y6];have D:j<d.length:=by simp at hk;have:B6.length=9:=rfl;omega
  have:=C j D;unfold mbR at this;simp only[uo]at this;exact this.1.1
end Cf
open Go.RowKit Cf
namespace Kx
abbrev DK:=DataW Unit
abbrev Ky:=List UInt8
def U3(s:ByteArray):Ky:=s.data.toList
theorem b8N{s t:ByteArray}(h:U3 s=U3 t):s=t:=us (ut.1 h)
def P3(c n:ByteArray):Ky:=keyBytes [.string c.data.toList, .string n.data.toList]
theorem b3W{a b:Ky}(h:a≠b):Lit.string a≠Lit.string b:=λe=>h (by injection e)
def I6(D:DK)(p:Ky×Nat):DK:=if Maps.has D (.string p.1)then D else D.put (.string p.1) (.lit (.int I p.2))
def T7(l:List (Ky×Nat)):DK:=l.foldl I6 (.map [])
def O1(l:List (Ky×Nat))(k:Ky):Option Nat:=(l.find? λp=>decide (p.1=k)).map (·.2)
structure a5l(l:List (Ky×Nat))(D:DK):Prop where
 tidy:Maps.Tidy D
 has:∀k,Maps.has D (.string k)=(O1 l k).isSome
 t:∀k,D.atKey (.string k) (.lit (.int .i64 0))= .lit (.int .i64 ((O1 l k).getD 0))
theorem a3F(l m:List (Ky×Nat))(k:Ky):O1 (l++m) k=(O1 l k).or (O1 m k):=by
 unfold O1;rw[List.find?_append];cases l.find? (λp=>decide (p.1=k))<;>simp
theorem a5T(p:Ky×Nat)(k:Ky):O1 [p] k=if p.1=k then O p.2 else N:=by
 unfold O1;by_cases h:p.1=k<;>simp[h]
theorem a5l.step{l:List (Ky×Nat)}{D:DK}(h:a5l l D)(p:Ky×Nat):a5l (l++ [p]) (I6 D p):=by
 have hk:WideAt.IsKeyLit (.string p.1):=trivial;unfold I6;by_cases hh:Maps.has D (.string p.1)=true
 ·rw[if_pos hh];have C:(O1 l p.1).isSome=true:=by rw[<-h.has];exact hh
  have e:∀k,O1 (l++ [p]) k=O1 l k:=by
   intro k;rw[a3F,a5T];by_cases e:p.1=k
   ·rw[<-e];cases hq:O1 l p.1 with
    |none=>rw[hq]at C;cases C
    |some a=>rfl
   ·rw[if_neg e];cases O1 l k<;>rfl
  exact⟨h.tidy,λk=>by rw[e,h.has],λk=>by rw[e,h.t]⟩
 ·rw[if_neg hh]
  have B:O1 l p.1=N:=by
   cases hq:O1 l p.1 with
   |none=>rfl
   |some a=>exact absurd (by rw[h.has,hq];rfl) hh
  refine⟨h.tidy.put hk _,λk=> ?_,λk=> ?_⟩
  ·rw[a3F,a5T];by_cases e:k=p.1
   ·subst e;rw[Maps.has_put_same h.tidy.isMap hk,B];simp
   ·rw[Maps.has_put_other (b3W e),h.has,if_neg (λd=>e d.symm)];cases O1 l k<;>rfl
  ·rw[a3F,a5T];by_cases e:k=p.1
   ·subst e;rw[Maps.atKey_put_same h.tidy.isMap hk,B];simp
   ·rw[Maps.atKey_put_other (b3W e),h.t,if_neg (λd=>e d.symm)];cases O1 l k<;>rfl
theorem b0W:∀(m l:List (Ky×Nat)) (D:DK),a5l l D->a5l (l++m) (m.foldl I6 D)
 | [],l,D,h=>by simpa using h
 |p::m,l,D,h=>by
  have:=b0W m (l++ [p]) (I6 D p) (h.step p);simpa using this
theorem a5j(l:List (Ky×Nat)):a5l l (T7 l):=
 b0W l [] (.map []) ⟨Maps.tidy_empty,λk=>rfl,λk=>rfl⟩
theorem b9k(l:List (Ky×Nat))(p:Ky×Nat):T7 (l++ [p])=I6 (T7 l) p:=by
 unfold T7;rw[uu];rfl
def x9(L:List Cl):List (Ky×Nat):=(lm L.length).map λi=>(U3 (cl L i).n,i)
theorem b1j(L:List Cl)(c:Cl):x9 (L++ [c])=x9 L++ [(U3 c.n,L.length)]:=by
 unfold x9;rw[uv,uw,List.range_succ,List.map_append];congr 1
 ·refine List.map_congr_left (λi hi=> ?_);rw[U0 (lu.1 hi)]
 ·simp only[List.map_cons,List.map_nil];rw[show cl (L++ [c]) L.length=c from by have:=a6A (l:=L) (m:=[c]) (i:=0);simpa[cl]using this]
theorem b7I(L:List Cl)(c:Cl)(n:ByteArray):C8 (L++ [c]) n=(C8 L n).or (if c.n=n then O L.length else N):=by
 unfold C8;rw[List.findIdx?_append];congr 1
 by_cases h:c.n=n<;>simp[List.findIdx?_cons,h]
theorem b3E(n:ByteArray):∀(m L:List Cl),O1 (x9 L) (U3 n)=C8 L n->O1 (x9 (L++m)) (U3 n)=C8 (L++m) n
 | [],L,h=>by simpa using h
 |c::m,L,h=>by
  have:=b3E n m (L++ [c]) (by
   rw[b1j,a3F,a5T,b7I,h];by_cases e:c.n=n
   ·rw[if_pos e,if_pos (by rw[e])]
   ·rw[if_neg (λd=>e (b8N d)),if_neg e])
  simpa using this
theorem a8z(L:List Cl)(n:ByteArray):O1 (x9 L) (U3 n)=C8 L n:=b3E n L [] rfl
def K6(c:Cl)(ns:List ByteArray):List (Ky×Nat):=(lm ns.length).map λi=>(P3 c.n (ns.getD i D4),i)
def S7(f:Cl->List ByteArray)(L:List Cl):List (Ky×Nat):=L.flatMap λc=>K6 c (f c)
theorem b2d(f:Cl->List ByteArray)(L:List Cl)(c:Cl):S7 f (L++ [c])=S7 f L++K6 c (f c):=by
 unfold S7;simp[np]
def N1(c:Cl):List ByteArray:=c.f.map (·.n)
def I8(c:Cl):List ByteArray:=c.m.map (·.n)
theorem c4M:laidOutB prog=true:=by kernel_rfl
theorem Nat.lt_of_ble_eq_true'{a b:Nat}(h:Nat.ble (a+1) b=true):a<b:=ux h
theorem c4L:WideMaps.KeyLaw prog 255:=deep_law_gate c4M (ux Ok0) (Nat.lt_of_ble_eq_true' Ok0) Ok0 Ok0
theorem a5y:Maps.Keyed prog 255:=Maps.Keyed.of_law c4L
theorem a5x:Maps.Keyed prog 9:=Maps.Keyed.of_law (WideMaps.string_law underlying9)
theorem c0x:prog.keyType 255=true:=by kernel_rfl
theorem b4n:prog.cellsOf 255=2:=by kernel_rfl
theorem c3w:prog.cellsOf 9=1:=by kernel_rfl
theorem c2K:prog.types.size=(prog.types.size-1)+1:=by kernel_rfl
theorem c3E:∃d,prog.types.size+1=d+1+1:=⟨prog.types.size-1,congrArg (·+1) c2K⟩
theorem a4w(c n:ByteArray)(B:c.size<=lh)(C:n.size<=lh):keyOf prog 255 (Q #[.string c, .string n])=O (.string (P3 c n)):=by
 obtain⟨d,hd⟩:=c3E;unfold keyOf;rw[underlying255,c0x];simp only[Value.formed,underlying255,b4n,hd];simp[Program.keyLits,underlying255,underlying9,b4n,c3w,Value.cells,B,C,P3]
theorem b3b{c n d B:ByteArray}(K:c.size<=lh)(M:n.size<=lh)(C:d.size<=lh)(D:B.size<=lh)(h:P3 c n=P3 d B):c=d/\n=B:=by
 have F:=a4w c n K M;have E:=a4w d B C D;rw[<-h]at E;have:=a5y.inj F E;simp only[Value.agg.injEq,Array.mk.injEq,List.cons.injEq,Value.string.injEq,and_true]at this;exact this
end Kx
theorem lz{α:Type}:(∀{xs:List α} {i:Nat} (h:i<xs.toArray.size),xs.toArray[i]=xs[i]'(by simpa using h))/\(∀(a:α) (l:List α) (h:0<(a::l).length),(a::l)[0]=a)/\(∀(a:α) (l:List α) (i:Nat) (h:i+1<(a::l).length),(a::l)[i+1]=l[i]'(by simpa using h))/\(∀(l:List α) (i:Nat) (a:α),l.toArray.setIfInBounds i a=(l.set i a).toArray)/\(∀{x:α} {xs:List α} {a:α},(x::xs).set 0 a=a::xs)/\(∀{x:α} {xs:List α} {i:Nat} {a:α},(x::xs).set (i+1) a=x::xs.set i a):=
 ⟨λ_=>by simp,λ_ _ _=>rfl,λ_ _ _ _=>rfl,λ_ _ _=>by simp,rfl,rfl⟩
variable {w w1 w2:World}{row:Option Nat}
theorem C6{D:Option Nat}(h:w.grownBy w1 row)(d:w1.grownBy w2 D)(E:∀k,D=O k->w.heap.size<=k\/O k=row):w.grownBy w2 row:=
 ⟨d.os.trans h.os,d.tape.trans h.tape,d.output.trans h.output,nr h.size d.size,λk hk B=>
  (d.block k (nl hk h.size) (λe=>by rcases E k e.symm with C|C;omega;exact B C)).trans (h.block k hk B)⟩
theorem A0(h:w.grownBy w1 row)(d:w1.grownBy w2 row):w.grownBy w2 row:=
 C6 h d (λ_ e=> .inr e.symm)
theorem L8(h:w.grownBy w1 row)(d:w1.grownBy w2 N):w.grownBy w2 row:=
 C6 h d (λ_ e=>by cases e)
theorem b3O(h:w.grownBy w1 N):w.grownBy w1 row:=
 ⟨h.os,h.tape,h.output,h.size,λk hk _=>h.block k hk Os⟩
theorem C9(w:ld)(row:Option Nat):w.grownBy w row:=⟨rfl,rfl,rfl,li _,λ_ _ _=>rfl⟩
theorem F4(w:ld)(n:Nat)(row:Option Nat):w.grownBy (w.drewN n) row:=⟨rfl,rfl,rfl,li _,λ_ _ _=>rfl⟩
theorem A7(w:ld)(row:Option Nat):w.grownBy w.drew row:=⟨rfl,rfl,rfl,li _,λ_ _ _=>rfl⟩
theorem A6(w:ld)(a:lg)(v:la):w.grownBy (w.setCell a v) (O a.block):=
 ⟨rfl,rfl,rfl,by simp[World.setCell],λk _ hk=>heap_setCell_other w a k v (λe=>hk (by simp[e]))⟩
theorem A2(w:ld)(o:Obj)(row:Option Nat):w.grownBy (w.alloc o) row:=World.grownBy_alloc w o row
def A4(w:ld)(g:Nat)(cs:Array la)(t:TypeId):Prop:=w.heap[g]? =O (H cs t (0,0))
variable {g:Nat}{cs:Array Value}{t:TypeId}
theorem A4.lt(h:A4 w g cs t):g<w.heap.size:=(uy.1 h).1
theorem A4.keep(h:A4 w g cs t)(d:w.grownBy w1 row)(B:O g≠row):A4 w1 g cs t:=
 (d.block g h.lt B).trans h
theorem A4.new(w:ld)(cs:Array la)(t:TypeId):A4 (w.alloc (H cs t)) w.heap.size cs t:=heap_alloc_new w _
theorem A4.cell(h:A4 w g cs t)(j:Nat)(v:la)(hv:cs[j]? =O v):w.cell? (A g j N)=O v:=by
 rw[cell_of_row w g j _ _ _ h];exact hv
theorem A4.frozen(h:A4 w g cs t)(j:Nat):w.frozen? (A g j N)=false:=frozen_of_row w g j _ _ h
theorem A4.set(h:A4 w g cs t)(j:Nat)(v:la):A4 (w.setCell (A g j N) v) g (cs.setIfInBounds j v) t:=
 heap_setCell_same w g j _ _ _ h
structure Rd(w:World)(b:Nat)(f:ByteArray)(pv:Value)(st:St):Prop where
 inv:Inv f st
 blk:A4 w b #[.string f, .int .i64 st.t,pv, .int .i64 st.u] 199
 own:w.ownsRow (b+1) 9 1 pv st.p.length (st.p.map Value.string)
section
variable{w w':World}{b k:Nat}{f:ByteArray}{pv:Value}{st:St}
theorem Rd.poolNe(h:Rd w b f pv st):pv.ownBlock≠O b:=by
 cases hv:pv.ownBlock with
 |none=>simp
 |some g=>have:=(h.own.lt g hv).1;simp;omega
theorem Rd.poolLt(h:Rd w b f pv st)(hk:w.heap.size<=k):pv.ownBlock≠O k:=by
 cases hv:pv.ownBlock with
 |none=>simp
 |some g=>have:=(h.own.lt g hv).2;simp;omega
theorem Rd.lt(h:Rd w b f pv st):b<w.heap.size:=h.blk.lt
theorem Rd.keep(h:Rd w b f pv st)(d:w.grownBy w' N):Rd w' b f pv st:=
 ⟨h.inv,h.blk.keep d Os,h.own.kept d (by cases hv:pv.ownBlock<;>simp)⟩
theorem Rd.keepAt(h:Rd w b f pv st)(d:w.grownBy w' (O k))(hk:b≠k)(B:pv.ownBlock≠O k):Rd w' b f pv st:=
 ⟨h.inv,h.blk.keep d (by simpa using hk),h.own.kept d (.inr B)⟩
theorem Rd.grow{w w1 w2:ld}{row:Option Nat}(h:Rd w b f pv st)(d:w.grownBy w1 N)(B:w1.grownBy w2 row)(C:row≠O b)(D:∀g,row=O g->pv.ownBlock≠O g):Rd w2 b f pv st:=by
 cases row with
 |none=>exact(h.keep d).keep B
 |some g=>exact(h.keep d).keepAt B (λe=>C (by rw[e])) (D g rfl)
theorem Rd.setAt(h:Rd w b f pv st)(n:Nat)(d:n<=f.size):Rd (w.setCell (A b 1 N) (J I n)) b f pv {st with t:=n}:=
 ⟨⟨h.inv.fits,d,h.inv.u,h.inv.p⟩,h.blk.set 1 _,h.own.kept (A6 w (A b 1 N) _) (.inr h.poolNe)⟩
theorem Rd.setUsed(h:Rd w b f pv st)(n:Nat)(d:n<=st.p.length):Rd (w.setCell (A b 3 N) (J I n)) b f pv {st with u:=n}:=
 ⟨⟨h.inv.fits,h.inv.t,d,h.inv.p⟩,h.blk.set 3 _,h.own.kept (A6 w (A b 3 N) _) (.inr h.poolNe)⟩
end
variable {w w1:World}{row:Option Nat}{g i j k:Nat}
theorem Y4(h:w.grownBy w1 row)(d:w.heap.size<=g)(j:Nat)(x:la):w.grownBy (w1.setCell (A g j N) x) row:=
 C6 h (A6 w1 (A g j N) x) (λk e=> .inl (by cases e;exact d))
variable {x y z:Value}
theorem a0l(h:w.grownBy w1 row)(d:w.heap.size<=g):
 w.grownBy ((w1.setCell (A g i N) x).setCell (A g j N) y) row:=Y4 (Y4 h d i x) d j y
theorem a2o(h:w.grownBy w1 row)(d:w.heap.size<=g):
 w.grownBy (((w1.setCell (A g i N) x).setCell (A g j N) y).setCell (A g k N) z) row:=Y4 (a0l h d) d k z
theorem a1i(h:w.grownBy w1 row)(d:w.heap.size<=g){l:Nat}{u:la}:
 w.grownBy ((((w1.setCell (A g i N) x).setCell (A g j N) y).setCell (A g k N) z).setCell (A g l N) u) row:=Y4 (a2o h d) d l u
section
variable{w:World}{b g:Nat}{f:ByteArray}{pv:Value}{st:St}
theorem Rd.newSet(h:Rd w b f pv st)(hk:b≠g)(d:pv.ownBlock≠O g)(j:Nat)(x:la):Rd (w.setCell (A g j N) x) b f pv st:=
 h.keepAt (A6 w (A g j N) x) hk d
variable {i j k:Nat}{x y z:Value}
theorem Rd.new2(h:Rd w b f pv st)(hk:b≠g)(d:pv.ownBlock≠O g):Rd ((w.setCell (A g i N) x).setCell (A g j N) y) b f pv st:=
 (h.newSet hk d i x).newSet hk d j y
theorem Rd.new3(h:Rd w b f pv st)(hk:b≠g)(d:pv.ownBlock≠O g):Rd (((w.setCell (A g i N) x).setCell (A g j N) y).setCell (A g k N) z) b f pv st:=
 (h.new2 hk d).newSet hk d k z
theorem Rd.new4(h:Rd w b f pv st)(hk:b≠g)(d:pv.ownBlock≠O g){l:Nat}{u:la}:Rd ((((w.setCell (A g i N) x).setCell (A g j N) y).setCell (A g k N) z).setCell (A g l N) u) b f pv st:=
 (h.new3 hk d).newSet hk d l u
end
def a7x(e:Er):Ending:= .panicked [{v:= .iface 125 (Q #[J I e.1, J I e.2]),recovered:=false}]
variable {α:Type}
def F6(w:ld)(b:Nat)(f:ByteArray)(pv:la)(r:R α)(val:ld->la->α->Prop)(e:Ending)(w':ld):Prop:=
 w.grownBy w' (O b)/\match r with
  | .ok (a,st)=>∃v,e= Y v/\val w' v a/\Rd w' b f pv st
  | .error er=>e=a7x er
variable {w w':World}{b:Nat}{f:ByteArray}{pv:Value}
theorem F6.cases{r:R α}{d:ld->la->α->Prop}{e:Ending}(h:F6 w b f pv r d e w'):
 (∃a st v,r= .ok (a,st)/\e= Y v/\d w' v a/\X (Rd w' b f pv st)/\w.grownBy w' (O b))\/
 (∃er,r= .error er/\e= .panicked [{v:= .iface 125 (Q #[J I er.1, J I er.2]),recovered:=false}]/\w.grownBy w' (O b)):=by
 obtain⟨B,h⟩:=h;cases r with
 |ok p=>obtain⟨v,C,D,E⟩:=h;exact .inl ⟨p.1,p.2,v,rfl,C,D,E,B⟩
 |error er=>exact .inr ⟨er,rfl,h,B⟩
theorem F6.bind{P:Program}{E:FuncId}{args:Array la}{r:R α}{B:ld->la->α->Prop}{K:Ending->ld->Prop}
 (M:le P E args w (F6 w b f pv r B))
 (d:∀er w',r= .error er->w.grownBy w' (O b)->K (.panicked [{v:= .iface 125 (Q #[J I er.1, J I er.2]),recovered:=false}]) w')
 (hok:∀a st v w',X (r= .ok (a,st))->B w' v a->X (Rd w' b f pv st)->w.grownBy w' (O b)->K (Y v) w'):le P E args w K:=
 M.mono λe w' S=>by
  rcases S.cases with⟨a,st,v,D,rfl,T,F,C⟩|⟨er,D,rfl,C⟩
  ·exact hok a st v w' D T F C
  ·exact d er w' D C
theorem F6.ok{r:R α}{d:ld->la->α->Prop}{v:la}{a:α}{st:St}
 (C:r= .ok (a,st)) (B:w.grownBy w' (O b)) (hv:d w' v a) (h:Rd w' b f pv st):F6 w b f pv r d (Y v) w':=by
 subst C;exact⟨B,v,rfl,hv,h⟩
theorem F6.err{r:R α}{d:ld->la->α->Prop}{x y:Int}{er:Er}
 (C:r= .error er) (D:x=er.1) (E:y=er.2) (B:w.grownBy w' (O b)):F6 w b f pv r d (.panicked [{v:= .iface 125 (Q #[J I x, J I y]),recovered:=false}]) w':=by
 subst C D E;exact⟨B,rfl⟩
def b4t(_:ld)(v:la)(n:Nat):Prop:=v= J I n
def a5E(_:ld)(v:la)(s:ByteArray):Prop:=v= Z s
theorem A1{p:Prop}(h:p):X p:=h
section
variable{w:World}{g:Nat}{t:TypeId}{cs:Array Value}{v0 v1 v2 v3 v4 v5 v6 v7 v8 v9 v10 v11:Value}{l:List Value}
theorem A4.c0(h:A4 w g (lf (v0::l)) t):w.cell? (A g 0 N)=O v0:=h.cell 0 _ rfl
theorem A4.c1(h:A4 w g (lf (v0::v1::l)) t):w.cell? (A g 1 N)=O v1:=h.cell 1 _ rfl
theorem A4.c2(h:A4 w g (lf (v0::v1::v2::l)) t):w.cell? (A g 2 N)=O v2:=h.cell 2 _ rfl
theorem A4.c3(h:A4 w g (lf (v0::v1::v2::v3::l)) t):w.cell? (A g 3 N)=O v3:=h.cell 3 _ rfl
theorem A4.c4(h:A4 w g (lf (v0::v1::v2::v3::v4::l)) t):w.cell? (A g 4 N)=O v4:=h.cell 4 _ rfl
theorem A4.c5(h:A4 w g (lf (v0::v1::v2::v3::v4::v5::l)) t):w.cell? (A g 5 N)=O v5:=h.cell 5 _ rfl
theorem A4.c6(h:A4 w g (lf (v0::v1::v2::v3::v4::v5::v6::l)) t):w.cell? (A g 6 N)=O v6:=h.cell 6 _ rfl
theorem A4.c7(h:A4 w g (lf (v0::v1::v2::v3::v4::v5::v6::v7::l)) t):w.cell? (A g 7 N)=O v7:=h.cell 7 _ rfl
theorem A4.c8(h:A4 w g (lf (v0::v1::v2::v3::v4::v5::v6::v7::v8::l)) t):w.cell? (A g 8 N)=O v8:=h.cell 8 _ rfl
theorem A4.c9(h:A4 w g (lf (v0::v1::v2::v3::v4::v5::v6::v7::v8::v9::l)) t):w.cell? (A g 9 N)=O v9:=h.cell 9 _ rfl
theorem A4.c10(h:A4 w g (lf (v0::v1::v2::v3::v4::v5::v6::v7::v8::v9::v10::l)) t):w.cell? (A g 10 N)=O v10:=h.cell 10 _ rfl
theorem A4.c11(h:A4 w g (lf (v0::v1::v2::v3::v4::v5::v6::v7::v8::v9::v10::v11::l)) t):w.cell? (A g 11 N)=O v11:=h.cell 11 _ rfl
theorem A4.q2(h:A4 w g (lf (v0::v1::l)) t):w.cell? (A g 0 N)=O v0/\w.cell? (A g 1 N)=O v1:=⟨h.c0,h.c1⟩
theorem A4.z2(h:A4 w g cs t):w.frozen? (A g 0 N)=false/\w.frozen? (A g 1 N)=false:=⟨h.frozen 0,h.frozen 1⟩
theorem A4.q3(h:A4 w g (lf (v0::v1::v2::l)) t):w.cell? (A g 0 N)=O v0/\w.cell? (A g 1 N)=O v1/\w.cell? (A g 2 N)=O v2:=⟨h.c0,h.c1,h.c2⟩
theorem A4.z3(h:A4 w g cs t):w.frozen? (A g 0 N)=false/\w.frozen? (A g 1 N)=false/\w.frozen? (A g 2 N)=false:=⟨h.frozen 0,h.frozen 1,h.frozen 2⟩
theorem A4.q4(h:A4 w g (lf (v0::v1::v2::v3::l)) t):w.cell? (A g 0 N)=O v0/\w.cell? (A g 1 N)=O v1/\w.cell? (A g 2 N)=O v2/\w.cell? (A g 3 N)=O v3:=⟨h.c0,h.c1,h.c2,h.c3⟩
theorem A4.z4(h:A4 w g cs t):w.frozen? (A g 0 N)=false/\w.frozen? (A g 1 N)=false/\w.frozen? (A g 2 N)=false/\w.frozen? (A g 3 N)=false:=⟨h.frozen 0,h.frozen 1,h.frozen 2,h.frozen 3⟩
theorem A4.q5(h:A4 w g (lf (v0::v1::v2::v3::v4::l)) t):w.cell? (A g 0 N)=O v0/\w.cell? (A g 1 N)=O v1/\w.cell? (A g 2 N)=O v2/\w.cell? (A g 3 N)=O v3/\w.cell? (A g 4 N)=O v4:=⟨h.c0,h.c1,h.c2,h.c3,h.c4⟩
theorem A4.z5(h:A4 w g cs t):w.frozen? (A g 0 N)=false/\w.frozen? (A g 1 N)=false/\w.frozen? (A g 2 N)=false/\w.frozen? (A g 3 N)=false/\w.frozen? (A g 4 N)=false:=⟨h.frozen 0,h.frozen 1,h.frozen 2,h.frozen 3,h.frozen 4⟩
theorem A4.q6(h:A4 w g (lf (v0::v1::v2::v3::v4::v5::l)) t):w.cell? (A g 0 N)=O v0/\w.cell? (A g 1 N)=O v1/\w.cell? (A g 2 N)=O v2/\w.cell? (A g 3 N)=O v3/\w.cell? (A g 4 N)=O v4/\w.cell? (A g 5 N)=O v5:=⟨h.c0,h.c1,h.c2,h.c3,h.c4,h.c5⟩
theorem A4.z6(h:A4 w g cs t):w.frozen? (A g 0 N)=false/\w.frozen? (A g 1 N)=false/\w.frozen? (A g 2 N)=false/\w.frozen? (A g 3 N)=false/\w.frozen? (A g 4 N)=false/\w.frozen? (A g 5 N)=false:=⟨h.frozen 0,h.frozen 1,h.frozen 2,h.frozen 3,h.frozen 4,h.frozen 5⟩
theorem A4.q7(h:A4 w g (lf (v0::v1::v2::v3::v4::v5::v6::l)) t):w.cell? (A g 0 N)=O v0/\w.cell? (A g 1 N)=O v1/\w.cell? (A g 2 N)=O v2/\w.cell? (A g 3 N)=O v3/\w.cell? (A g 4 N)=O v4/\w.cell? (A g 5 N)=O v5/\w.cell? (A g 6 N)=O v6:=⟨h.c0,h.c1,h.c2,h.c3,h.c4,h.c5,h.c6⟩
theorem A4.z7(h:A4 w g cs t):w.frozen? (A g 0 N)=false/\w.frozen? (A g 1 N)=false/\w.frozen? (A g 2 N)=false/\w.frozen? (A g 3 N)=false/\w.frozen? (A g 4 N)=false/\w.frozen? (A g 5 N)=false/\w.frozen? (A g 6 N)=false:=⟨h.frozen 0,h.frozen 1,h.frozen 2,h.frozen 3,h.frozen 4,h.frozen 5,h.frozen 6⟩
theorem A4.q8(h:A4 w g (lf (v0::v1::v2::v3::v4::v5::v6::v7::l)) t):w.cell? (A g 0 N)=O v0/\w.cell? (A g 1 N)=O v1/\w.cell? (A g 2 N)=O v2/\w.cell? (A g 3 N)=O v3/\w.cell? (A g 4 N)=O v4/\w.cell? (A g 5 N)=O v5/\w.cell? (A g 6 N)=O v6/\w.cell? (A g 7 N)=O v7:=⟨h.c0,h.c1,h.c2,h.c3,h.c4,h.c5,h.c6,h.c7⟩
theorem A4.z8(h:A4 w g cs t):w.frozen? (A g 0 N)=false/\w.frozen? (A g 1 N)=false/\w.frozen? (A g 2 N)=false/\w.frozen? (A g 3 N)=false/\w.frozen? (A g 4 N)=false/\w.frozen? (A g 5 N)=false/\w.frozen? (A g 6 N)=false/\w.frozen? (A g 7 N)=false:=⟨h.frozen 0,h.frozen 1,h.frozen 2,h.frozen 3,h.frozen 4,h.frozen 5,h.frozen 6,h.frozen 7⟩
theorem A4.q9(h:A4 w g (lf (v0::v1::v2::v3::v4::v5::v6::v7::v8::l)) t):w.cell? (A g 0 N)=O v0/\w.cell? (A g 1 N)=O v1/\w.cell? (A g 2 N)=O v2/\w.cell? (A g 3 N)=O v3/\w.cell? (A g 4 N)=O v4/\w.cell? (A g 5 N)=O v5/\w.cell? (A g 6 N)=O v6/\w.cell? (A g 7 N)=O v7/\w.cell? (A g 8 N)=O v8:=⟨h.c0,h.c1,h.c2,h.c3,h.c4,h.c5,h.c6,h.c7,h.c8⟩
theorem A4.q10(h:A4 w g (lf (v0::v1::v2::v3::v4::v5::v6::v7::v8::v9::l)) t):w.cell? (A g 0 N)=O v0/\w.cell? (A g 1 N)=O v1/\w.cell? (A g 2 N)=O v2/\w.cell? (A g 3 N)=O v3/\w.cell? (A g 4 N)=O v4/\w.cell? (A g 5 N)=O v5/\w.cell? (A g 6 N)=O v6/\w.cell? (A g 7 N)=O v7/\w.cell? (A g 8 N)=O v8/\w.cell? (A g 9 N)=O v9:=⟨h.c0,h.c1,h.c2,h.c3,h.c4,h.c5,h.c6,h.c7,h.c8,h.c9⟩
theorem A4.q11(h:A4 w g (lf (v0::v1::v2::v3::v4::v5::v6::v7::v8::v9::v10::l)) t):w.cell? (A g 0 N)=O v0/\w.cell? (A g 1 N)=O v1/\w.cell? (A g 2 N)=O v2/\w.cell? (A g 3 N)=O v3/\w.cell? (A g 4 N)=O v4/\w.cell? (A g 5 N)=O v5/\w.cell? (A g 6 N)=O v6/\w.cell? (A g 7 N)=O v7/\w.cell? (A g 8 N)=O v8/\w.cell? (A g 9 N)=O v9/\w.cell? (A g 10 N)=O v10:=⟨h.c0,h.c1,h.c2,h.c3,h.c4,h.c5,h.c6,h.c7,h.c8,h.c9,h.c10⟩
theorem A4.q12(h:A4 w g (lf (v0::v1::v2::v3::v4::v5::v6::v7::v8::v9::v10::v11::l)) t):w.cell? (A g 0 N)=O v0/\w.cell? (A g 1 N)=O v1/\w.cell? (A g 2 N)=O v2/\w.cell? (A g 3 N)=O v3/\w.cell? (A g 4 N)=O v4/\w.cell? (A g 5 N)=O v5/\w.cell? (A g 6 N)=O v6/\w.cell? (A g 7 N)=O v7/\w.cell? (A g 8 N)=O v8/\w.cell? (A g 9 N)=O v9/\w.cell? (A g 10 N)=O v10/\w.cell? (A g 11 N)=O v11:=⟨h.c0,h.c1,h.c2,h.c3,h.c4,h.c5,h.c6,h.c7,h.c8,h.c9,h.c10,h.c11⟩
end
namespace Kx
theorem a3k(w:ld):(zeroValue 3).run prog w= .ok (J I 0) w:=by kernel_rfl
theorem b8v(w:ld)(E m n:Nat)(D:DK)(s:ByteArray)(S:X (s.size<=lh))(hn:n<4611686018427387904)(hm:m<lh)(F:X (w.ownsMap (H:=Unit) prog 9 (lr prog 3) E m D)):
 le prog 242 #[.map (O E), .string s, .int I n] w λe w'=>e= Y (.tuple #[])/\w'.ownsMap (H:=Unit) prog 9 (lr prog 3) E (m+1) (I6 D (U3 s,n))/\w.grownBy w' (O E):=by
 have C:(Lit.int I (n:Int)).wf=true:=WalkArith.wf_i64 Oo;cases hh:Maps.has D (.string (U3 s))with
 |true=>
  have M:X (I6 D (U3 s,n)=D):=by unfold X I6;rw[if_pos hh]
  have K:=A1 hh;clear hh C;go_enter func242,ntmps242;go_wp2_with (at_lookup;go_loud (refine nb _ rfl _ _ 148 rfl 9 3 I a5x underlying148 underlying3 (a3k _) E m D rfl F.o _ (.string (U3 s)) rfl (WideMaps.keyOf_string_mk underlying9 S.o) ?_);intro x hx T;rw[K.o])
  go_end0;exact⟨rfl,by rw[M.o];exact F.o.mono (Nat.le_succ _),C9 _ _⟩
 |false=>
  have M:X (I6 D (U3 s,n)=D.put (.string (U3 s)) (.lit (.int I n))):=by unfold X I6;rw[if_neg (by rw[hh];simp)]
  have K:=A1 hh;have W:=A1 C;clear hh C;go_enter func242,ntmps242
  go_wp2_with (first
   |(at_lookup;go_loud (refine nb _ rfl _ _ 148 rfl 9 3 I a5x underlying148 underlying3 (a3k _) E m D rfl F.o _ (.string (U3 s)) rfl (WideMaps.keyOf_string_mk underlying9 S.o) ?_);intro x hx T;rw[K.o])
   |(at_mapUpdate;go_loud (refine uz _ rfl _ _ _ 148 rfl 9 3 a5x underlying148 _ E m D rfl F.o hm _ _ _ rfl rfl (WideMaps.keyOf_string_mk underlying9 S.o) _ [] (nt underlying3 W.o) ?_);intro w1 B d))
  go_end0;exact⟨rfl,by rw[M.o];exact B,d⟩
theorem b1X(w:ld)(E m n:Nat)(D:DK)(c s:ByteArray)(S:X (c.size<=lh))(T:X (s.size<=lh))(hn:n<4611686018427387904)(hm:m<lh)(F:X (w.ownsMap (H:=Unit) prog 255 (lr prog 3) E m D)):
 le prog 243 #[.map (O E), Q #[.string c, .string s], .int I n] w λe w'=>e= Y (.tuple #[])/\w'.ownsMap (H:=Unit) prog 255 (lr prog 3) E (m+1) (I6 D (P3 c s,n))/\w.grownBy w' (O E):=by
 have C:(Lit.int I (n:Int)).wf=true:=WalkArith.wf_i64 Oo;cases hh:Maps.has D (.string (P3 c s))with
 |true=>
  have M:X (I6 D (P3 c s,n)=D):=by unfold X I6;rw[if_pos hh]
  have K:=A1 hh;clear hh C;go_enter func243,ntmps243;go_wp2_with (at_lookup;go_loud (refine nb _ rfl _ _ 149 rfl 255 3 I a5y underlying149 underlying3 (a3k _) E m D rfl (F.o.alloc _) _ (.string (P3 c s)) rfl (a4w c s S.o T.o) ?_);intro x hx W;rw[K.o])
  go_end0;exact⟨rfl,by rw[M.o];exact(F.o.alloc _).mono (Nat.le_succ _),A2 _ _ _⟩
 |false=>
  have M:X (I6 D (P3 c s,n)=D.put (.string (P3 c s)) (.lit (.int I n))):=by unfold X I6;rw[if_neg (by rw[hh];simp)]
  have K:=A1 hh;have HW:=A1 C;clear hh C;go_enter func243,ntmps243
  go_wp2_with (first
   |(at_lookup;go_loud (refine nb _ rfl _ _ 149 rfl 255 3 I a5y underlying149 underlying3 (a3k _) E m D rfl (F.o.alloc _) _ (.string (P3 c s)) rfl (a4w c s S.o T.o) ?_);intro x hx W;rw[K.o])
   |(at_mapUpdate;go_loud (refine uz _ rfl _ _ _ 149 rfl 255 3 a5y underlying149 _ E m D rfl (F.o.alloc _) hm _ _ _ rfl rfl (a4w c s S.o T.o) _ [] (nt underlying3 HW.o) ?_);intro w1 B d))
  go_end0;exact⟨rfl,by rw[M.o];exact B,A0 (A2 _ _ _) d⟩
open Go.RowKit Go.Shelf Cf
structure Qs where
 fa:Option Addr
 fk:Nat
 ma:Option Addr
 mc:Nat
def G9(c:Cl)(q:Qs):List la:=[Z c.n, Z c.s, V q.fa c.f.length q.fk, V q.ma c.m.length q.mc]
structure L4(w:World)(lim b:Nat)(L:List Cl)(p:Addr)(cap m1 m2 m3:Nat)(q:Nat->Qs):Prop where
 b_lt:b<lim
 p_lt:p.block<lim
 m1_lt:m1<lim
 m2_lt:m2<lim
 m3_lt:m3<lim
 c0:w.cell? ⟨b,0,none⟩=some (.slice (some p) L.length cap)
 c1:w.cell? ⟨b,1,none⟩=some (.map (some m1))
 c2:w.cell? ⟨b,2,none⟩=some (.map (some m2))
 c3:w.cell? ⟨b,3,none⟩=some (.map (some m3))
 row:∀i,i<L.length->∀r u,(G9 (cl L i) (q i))[r]? =some u->w.cell? (p.add (i*4+r))=some u
 n1:w.ownsMap (H:=Unit) prog 9 (plainElem prog 3) m1 L.length (T7 (x9 L))
 n2:w.ownsMap (H:=Unit) prog 255 (plainElem prog 3) m2 (S7 N1 L).length (T7 (S7 N1 L))
 n3:w.ownsMap (H:=Unit) prog 255 (plainElem prog 3) m3 (S7 I8 L).length (T7 (S7 I8 L))
 names:∀i,i<L.length->(cl L i).n.size<=maxLen/\(cl L i).s.size<=maxLen
 small:L.length<=65536
variable {w w':World}{b cap lim m1 m2 m3:Nat}{L:List Cl}{p:Addr}{q:Nat->Qs}
theorem L4.below{B:Nat}(h:L4 w lim b L p cap m1 m2 m3 q)(K:lw B w w')(hl:lim<=B):L4 w' lim b L p cap m1 m2 m3 q:=by
 have C:∀(a:lg) (v:la),a.block<lim->w.cell? a=O v->w'.cell? a=O v:=λa v ha hv=>by rw[K.cell Oo];exact hv
 have F:∀(k m n:Nat) (D:DK),m<lim->w.ownsMap (H:=Unit) prog k (lr prog 3) m n D->w'.ownsMap (H:=Unit) prog k (lr prog 3) m n D:=by
  rintro k m n D W ⟨M,d,S,T⟩;exact⟨M,d,(K.block m Oo).trans S,T⟩
 have E:∀(p:lg) (k:Nat),(p.add k).block=p.block:=λp k=>by unfold Addr.add;split<;>rfl
 exact⟨h.b_lt,h.p_lt,h.m1_lt,h.m2_lt,h.m3_lt,C _ _ h.b_lt h.c0,C _ _ h.b_lt h.c1,C _ _ h.b_lt h.c2,C _ _ h.b_lt h.c3,
  λi hi r u hu=>C _ _ (by rw[E];exact h.p_lt) (h.row i hi r u hu),F _ _ _ _ h.m1_lt h.n1,F _ _ _ _ h.m2_lt h.n2,F _ _ _ _ h.m3_lt h.n3,h.names,h.small⟩
theorem L4.keep(h:L4 w lim b L p cap m1 m2 m3 q)(d:w.grownBy w' N)(B:lim<=w.heap.size):L4 w' lim b L p cap m1 m2 m3 q:=
 h.below ((Below.refl lim w).grown d B (λk e=>by cases e)) (li _)
theorem L4.drewN(h:L4 w lim b L p cap m1 m2 m3 q)(k:Nat):L4 (w.drewN k) lim b L p cap m1 m2 m3 q:=
 ⟨h.b_lt,h.p_lt,h.m1_lt,h.m2_lt,h.m3_lt,h.c0,h.c1,h.c2,h.c3,h.row,h.n1,h.n2,h.n3,h.names,h.small⟩
theorem L4.has(n:ByteArray)(d:L4 w lim b L p cap m1 m2 m3 q):Maps.has (T7 (x9 L)) (.string (U3 n))=E9 L n:=by
 rw[(a5j (x9 L)).has,a8z];rfl
theorem b1i(L:List Cl)(n:ByteArray):(T7 (x9 L)).atKey (.string (U3 n)) (.lit (.int I 0))= .lit (.int I ((C8 L n).getD 0)):=by
 rw[(a5j (x9 L)).t,a8z]
theorem a5q(w:ld)(lim b:Nat)(L:List Cl)(p:lg)(cap m1 m2 m3:Nat)(q:Nat->Qs)(h:X (L4 w lim b L p cap m1 m2 m3 q))(s:ByteArray)(F:X (s.size<=lh)):
 le prog 244 #[U (O (A b 0 N)), .string s] w λe w'=>e= Y (.bool (E9 L s))/\w'=w:=by
 have c1:=h.o.c1;have C:=A1 h.o.n1;obtain⟨D,d⟩:=Oe (T7 (x9 L))
 obtain⟨v,B⟩:=Oe (E9 L s)
 have E:X (Maps.has D (.string (U3 s))=v):=by rw[B,d];exact h.o.has s
 rw[<-d]at C;rw[<-B];clear d B;go_enter func244,ntmps244;go_wp2_with (at_lookup;go_loud (refine nb _ rfl _ _ 148 rfl 9 3 I a5x underlying148 underlying3 (a3k _) m1 _ D rfl C.o _ (.string (U3 s)) rfl (WideMaps.keyOf_string_mk underlying9 F.o) ?_);intro x M K;rw[E.o])
 go_ret;exact⟨rfl,rfl⟩
theorem a7k{m n:Nat}(h:w.ownsMap (H:=Unit) prog 9 (lr prog 3) m n (T7 (x9 L)))(s:ByteArray)(D:s.size<=lh):
 (Instr.lookup 148 (.map (O m)) (.string s) true).run prog w= .ok (.tuple #[.int I ((C8 L s).getD 0:Nat), .bool (E9 L s)]) w:=by
 obtain⟨v,E,B,C⟩:=h.look_ok a5x underlying148 (a3k w) (zd:= .lit (.int I 0)) (zp:=[]) (nt underlying3 Od) (WideMaps.keyOf_string_mk underlying9 D);obtain⟨c,rfl,d,-⟩:=plainElem_int_inv underlying3 C;have hh:Maps.has (T7 (x9 L)) (.string s.data.toList)=E9 L s:=by rw[(a5j (x9 L)).has];exact congrArg Option.isSome (a8z L s)
 have ha:(T7 (x9 L)).atKey (.string s.data.toList) (.lit (.int I 0))= .lit (.int I ((C8 L s).getD 0:Nat)):=b1i L s;rw[ha,Prod.mk.injEq]at d;obtain⟨d,-⟩:=d;simp only[DataW.lit.injEq,Lit.int.injEq,true_and]at d;subst d;rw[hh]at B;exact B
def KpU(n₀ b1:Nat)(W W':ld):Prop:=lw n₀ W W'/\W'.heap[b1]? =W.heap[b1]?
def UpL(L:List Cl):Prop:=∀n,up L n=match C8 L n with|none=> []|some i=>i::up L (cl L i).s
def a3w(L:List Cl)(q:Nat->Qs)(i:Nat):la:= Q (G9 (cl L i) (q i)).toArray
def a6q(L:List Cl):la->la->Nat
 |v, G true=>(up L (cl L (lk v).toNat).s).length+1
 |_,_=>0
theorem b2Z(d:UpL L)(n:ByteArray):a6q L (J I ((C8 L n).getD 0)) (G (E9 L n))=(up L n).length:=by
 have h:=d n;unfold E9;cases hf:C8 L n with
 |none=>rw[hf]at h;rw[h];rfl
 |some i=>rw[hf]at h;rw[h];simp[a6q,lk]
theorem C2(p:lg)(a b:Nat):((A ((p.add a).block) ((p.add a).off+(b+1)) N):lg)=p.add (a+(b+1)):=by
 unfold Addr.add;by_cases h:a=0
 ·subst h;simp
 ·simp[h];omega
attribute [local go_sem] Oper.semAt_some
theorem c2G(F:Fence)(n:Nat)(hF:F.fn 254)(a3:F.round=N)(hn:1<=n)(l n₀ b1 b2 lim b:Nat)(L:List Cl)(p:lg)(cap m1 m2 m3:Nat)(q:Nat->Qs)(nm:ByteArray)(ar:nm.size<=lh)(hU:X (UpL L))
 (J Jx:List Nat->ld->Prop)
 (an:∀A9 A B,J A9 A->A.grownBy B N->J A9 B) (a6:∀A9 A B,Jx A9 A->A.grownBy B N->Jx A9 B)
 (hY:∀A9 x W,x<L.length->J A9 W->A9.length<(up L nm).length->YieldAt F (n-1) prog l #[a3w L q x] W λe W'=>
   (e= Y (G true)/\J (A9++ [x]) W'/\KpU n₀ b1 W W')\/(e= Y (G false)/\Jx (A9++ [x]) W'))
 (W:ld) (S:W.cell? ⟨b1,0,N⟩=O (U (O ⟨b,0,N⟩))) (a0:W.cell? ⟨b2,0,N⟩=O (Z nm)) (hK:X (L4 W lim b L p cap m1 m2 m3 q)) (aq:lim<=n₀) (h0:J [] W):
 CallsIn F n prog 254 #[.func (.yield l) #[] #[], U (O ⟨b1,0,N⟩), U (O ⟨b2,0,N⟩)] W λe W'=>(∃v,e= Y v)/\
  ((∃ys,ys=up L nm/\J ys W')\/(∃A9,A9<+:up L nm/\Jx A9 W')):=by
 have c1:=hK.o.c1;obtain⟨v5,C⟩:∃v,v=E9 L nm:=⟨_,rfl⟩
 obtain⟨v4,ai⟩:∃v,v=(C8 L nm).getD 0:=⟨_,rfl⟩
 have D:=λk:Nat=>a7k (w:=W.drewN k) hK.o.n1 nm ar
 rw[<-C,<-ai]at D;have P:=A1 C;have M:=A1 ai;clear C ai;obtain⟨Ffn,Fd,Fa,Fr⟩:=F;obtain rfl:Fr=N:=a3;refine callsIn_of_wp func254 rfl hF ?_ rfl;simp only[ntmps254,nu,lx,nv,nw,nx,ny,nz,ua,ub,uc,ud];gi_wp2
 gi_quiet (fail)
 gi_wp2
 have am:=an [] W _ h0 (F4 W nq N);have aj:=A1 (hK.o.drewN nq);have ag:(W.drewN nq).cell? ⟨b1,0,N⟩=O (U (O ⟨b,0,N⟩)):=S;clear S a0 h0 hK c1 D
 gi_loopw [4,5] (λu4 u5 wr=>∃(A9:List Nat) (d:ByteArray),J A9 wr/\up L nm=A9++up L d/\d.size<=lh/\u4= .int I ((C8 L d).getD 0:Nat)/\u5= G (E9 L d)/\L4 wr lim b L p cap m1 m2 m3 q/\wr.cell? ⟨b1,0,N⟩=O (U (O ⟨b,0,N⟩)))
  (λu4 u5 _=>a6q L u4 u5)
 case atStart=>exact⟨[],nm,am,rfl,ar,by rw[M.o],by rw[P.o],aj.o,ag⟩
 case round=>
  clear am aj ag M P;obtain⟨A9,d,ao,au,a7,rfl,rfl,ap,S⟩:=hrel;have HK:=A1 ap;have ad:=A1 au;have E:=hU.o d;have af:=b2Z hU.o d;clear ap au;cases hf:C8 L d with
  |none=>
   have C:E9 L d=false:=by unfold E9;rw[hf];rfl
   rw[hf]at E;have HS:X (up L d=[]):=E;rw[C];clear E af;gi_wp2
   refine⟨λ_ h=>(by cases h),?_⟩;gi_wp2
   go_end0;exact⟨⟨_,rfl⟩, .inl ⟨A9,by rw[ad.o,HS.o,vb],ao⟩⟩
  |some i=>
   have C:E9 L d=true:=by unfold E9;rw[hf];rfl
   have hi:=(M8 hf).1;rw[hf]at E af;have HS:X (up L d=i::up L (cl L i).s):=E;have ay:=A1 af;have a2:A9.length<(up L nm).length:=by rw[ad.o,HS.o];simp
   obtain⟨fn,av,ae,al,hy,hR⟩:=hY A9 i wr hi ao a2;have T:=(HK.o.names i hi).2;have aa:=HK.o.row i hi;have f0:wr.cell? (p.add (i*4))=O (Z (cl L i).n):=aa 0 _ rfl;have f1:wr.cell? ⟨(p.add (i*4)).block,(p.add (i*4)).off+1,N⟩=O (Z (cl L i).s):=by rw[C2 p (i*4) 0];exact aa 1 _ rfl
   have f2:wr.cell? ⟨(p.add (i*4)).block,(p.add (i*4)).off+2,N⟩=O (V (q i).fa (cl L i).f.length (q i).fk):=by rw[C2 p (i*4) 1];exact aa 2 _ rfl
   have f3:wr.cell? ⟨(p.add (i*4)).block,(p.add (i*4)).off+3,N⟩=O (V (q i).ma (cl L i).m.length (q i).mc):=by rw[C2 p (i*4) 2];exact aa 3 _ rfl
   have c0:=HK.o.c0;rw[C];simp only[vd];clear aa E af;have a':(Instr.yield l #[Q #[Z (cl L i).n, Z (cl L i).s, V (q i).fa (cl L i).f.length (q i).fk, V (q i).ma (cl L i).m.length (q i).mc]]).run prog wr= .ok (.round l fn av ae al) wr:=hy;clear hy;gi_wp2
   refine hR.mono ?_;rintro e W3 (⟨rfl,hJ3,hk3,hk4⟩|⟨rfl,hJx3⟩)
   ·have K:=A1 (HK.o.below hk3 aq);have a1:W3.cell? ⟨b1,0,N⟩=O (U (O ⟨b,0,N⟩)):=by rw[World.cell?_of_block (w:=wr) hk4];exact S
    have a4:=K.o.c0;have a5:=K.o.c1;have az:W3.cell? ⟨(p.add (i*4)).block,(p.add (i*4)).off+1,N⟩=O (Z (cl L i).s):=by rw[C2 p (i*4) 0];exact K.o.row i hi 1 _ rfl
    obtain⟨sp,ah⟩:=Oe ((cl L i).s)
    rw[<-ah]at az T;obtain⟨ax,ac⟩:∃v,v=E9 L sp:=⟨_,rfl⟩
    obtain⟨aw,ab⟩:∃v,v=(C8 L sp).getD 0:=⟨_,rfl⟩
    have D:=λk:Nat=>a7k (w:=W3.drewN k) K.o.n1 sp T
    rw[<-ac,<-ab]at D;have P:=A1 ac;have M:=A1 ab;have ak:=A1 ah;clear ac ab ah f0 f1 f2 f3 c0 hk3 hk4 S;gi_wp2
    gi_quiet (fail)
    go_roundw
    case rel=>
     exact⟨.int I aw, G ax,_,_,_,_,_,_,_,_,_,_,_,_,_,_,_,_,_,_,_,_,_,_,_,_,_,_,_,_,⟨A9++ [i],sp,an _ _ _ hJ3 (F4 _ _ _),by rw[ad.o,HS.o,ak.o];simp,T,by rw[M.o],by rw[P.o],K.o.drewN _,a1⟩,rfl⟩
    case measure=>
     show a6q L (.int I aw) (G ax)<a6q L (.int I i) (G true);rw[M.o,P.o,b2Z hU.o sp];have:=ay.o;rw[C]at this;simp only[vd]at this;rw[this,HS.o,ak.o];simp
   ·gi_wp2
    go_end0;exact⟨⟨_,rfl⟩, .inr ⟨A9++ [i],⟨up L (cl L i).s,by rw[ad.o,HS.o];simp⟩,hJx3⟩⟩
end Kx
namespace Cf
structure C1(l:List Cl):Prop where
 base:∃fs,l=B6++fs
 dist:a1z l
 names:∀i,i<l.length->(cl l i).n≠D4
 s:∀i,i<l.length->i≠0->∃k,C8 l (cl l i).s=some k
 loop:∀i,i<l.length->∀k∈up l (cl l i).s,k≠i
theorem a7l:∀{B:List (Nat->Bool)} {n e:Nat},b9 B n e= .ok ()->∀p∈B,∀i,i<n->p i=false
 | [],_,_,_,p,d=>by cases d
 |q::B,n,e,h,p,d=>by
  simp only[b9]at h;cases hq:a0T q n with
  |some i=>rw[hq]at h;cases h
  |none=>
   rw[hq]at h;rcases lv.1 d with rfl|d
   ·exact a6C hq
   ·exact a7l h p d
theorem b0N:∀(n:Nat) (l:List Nat),l.Nodup->(∀x∈l,x<n)->l.length<=n
 |0,l,_,hl=>by
  cases l with
  |nil=>simp
  |cons a l=>exact absurd (hl a Os) Oo
 |n+1,l,hd,hl=>by
  have d:(l.erase n).length<=n:=b0N n _ (hd.erase n) (λx B=>by
   have C:=hl x (List.mem_of_mem_erase B);have D:x≠n:=λe=>by subst e;exact(List.Nodup.mem_erase_iff hd).1 B|>.1 rfl
   omega)
  by_cases hn:n∈l
  ·rw[List.length_erase_of_mem hn]at d;omega
  ·rw[List.erase_of_not_mem hn]at d;omega
variable {l:List Cl}
theorem b1E:∀(k j:Nat) (n:ByteArray),∀i∈F1 l k n,i∈F1 l (k+j) n
 |0,_,_,i,h=>by cases h
 |k+1,j,n,i,h=>by
  rw[ve];simp only[F1]at h⊢;cases hf:C8 l n with
  |none=>rw[hf]at h;cases h
  |some q=>
   rw[hf]at h;rcases lv.1 h with rfl|h
   ·simp
   ·exact lv.2 (.inr (b1E k j _ i h))
theorem b0X(d:∀i,i<l.length->∀k∈up l (cl l i).s,k≠i):∀(k:Nat) (n:ByteArray),k<=l.length+1->(F1 l k n).Nodup
 |0,_,_=>vf
 |k+1,n,hk=>by
  simp only[F1];cases hf:C8 l n with
  |none=>exact vf
  |some q=>
   refine List.nodup_cons.2 ⟨λB=> ?_,b0X d k _ Oo⟩;have:=b1E k (l.length-k) _ q B;rw[vg Oo]at this;exact d q (M8 hf).1 q this rfl
theorem a8i(d:∀i,i<l.length->∀k∈up l (cl l i).s,k≠i)(k:Nat)(hk:k<=l.length+1)(n:ByteArray):(F1 l k n).length<=l.length:=
 b0N _ _ (b0X d k n hk) (λx B=>a2s k n x B)
theorem a8t:∀(k:Nat) (n:ByteArray),(F1 l k n).length<k->∀j,F1 l (k+j) n=F1 l k n
 |0,_,h,_=>by omega
 |k+1,n,h,j=>by
  rw[ve];simp only[F1]at h⊢;cases hf:C8 l n with
  |none=>rfl
  |some q=>
   rw[hf]at h;simp only;rw[a8t k _ (by simpa using h) j]
theorem C1.chain_up(h:C1 l)(k:Nat)(hk:l.length<=k)(n:ByteArray):F1 l k n=up l n:=by
 have d:=a8i h.loop (l.length+1) (li _) n;have B:∀j,F1 l (l.length+1+j) n=F1 l (l.length+1) n:=a8t _ n Oo
 have C:up l n=F1 l (l.length+1) n:=by
  by_cases h4:(F1 l l.length n).length<l.length
  ·exact(a8t _ n h4 1).symm
  ·
   have A9:∀(k:Nat) (n:ByteArray),(F1 l (k+1) n).length<=k->(F1 l k n).length=k->F1 l (k+1) n=F1 l k n:=by
    intro k;induction k with
    |zero=>intro n d B;cases hc:F1 l 1 n with|nil=>rfl|cons a b=>rw[hc]at d;simp at d
    |succ k ih=>
     intro n d B;simp only[F1]at d B⊢;cases hf:C8 l n with
     |none=>rfl
     |some q=>
      rw[hf]at d B;simp only[lx]at d B;simp only;have:=ih (cl l q).s (by simpa[F1]using d) Oo;simp only[F1]at this;rw[this]
   have D:(F1 l l.length n).length<=l.length:=a8i h.loop _ Oo n;exact(A9 l.length n d Oo).symm
 by_cases e:k=l.length
 ·subst e;rfl
 ·have:=B (k-(l.length+1));rw[vg Oo]at this;rw[this,C]
theorem C1.up_eq(h:C1 l)(n:ByteArray):up l n=match C8 l n with|none=> []|some i=>i::up l (cl l i).s:=by
 rw[<-h.chain_up (l.length+1) Oo n,F1];rfl
variable {a b n:ByteArray}{i k:Nat}
theorem C1.up_some(h:C1 l)(hi:C8 l n=O i):up l n=i::up l (cl l i).s:=by
 rw[h.up_eq,hi]
theorem C1.up_none(h:C1 l)(hi:C8 l n=N):up l n=[]:=by
 rw[h.up_eq,hi]
theorem C1.up_short(h:C1 l)(n:ByteArray):(up l n).length<=l.length:=a8i h.loop _ Oo n
theorem b5b{α:Type}(f:α->ByteArray)(d:α){l:List α}(h:a0a f l=false){j:Nat}(hi:i<l.length)(D:j<l.length)(e:f (l.getD i d)=f (l.getD j d)):i=j:=by
 have C:¬∃i j,i<j/\j<l.length/\f (l.getD i d)=f (l.getD j d):=by
  rw[<-a5X f d,h];simp
 rcases nh i j with B|B|B
 ·exact absurd ⟨i,j,B,D,e⟩ C
 ·exact B
 ·exact absurd ⟨j,i,B,hi,e.symm⟩ C
theorem b9r:a0a (λc:Cl=>c.n) B6=false:=by decide+kernel
theorem a3v(h:k<9):k=0\/k=1\/k=2\/k=3\/k=4\/k=5\/k=6\/k=7\/k=8:=by omega
theorem a6Z{d:List Cl}(h:C8 B6 n=O k):C8 (B6++d) n=O k:=by
 obtain⟨B,C,D⟩:=M8 h;exact a7n Oi (by rw[U0 B];exact C) (λj E=>by rw[U0 Oo];exact D j E)
theorem b1H(d:List Cl)(hok:∀c∈d,a2z c)(af:∀i,i<d.length->twR d i=false)(ae:∀i,i<d.length->(!E9 (B6++d) (cl d i).s)=false)
 (ac:∀i,i<d.length->((up (B6++d) (cl d i).s).any λk=>decide ((cl (B6++d) k).n=(cl d i).n))=false):C1 (B6++d):=by
 have hb:B6.length=9:=rfl;have aa:∀i,i<d.length->a2z (cl d i):=λi hi=>by rw[V8 hi];exact hok _ (na hi)
 have ad:∀c:ByteArray,L7 c=true->c≠D4:=λc hc e=>by subst e;revert hc;decide
 have B:∀k,k<(B6++d).length->k<9\/∃i,i<d.length/\k=9+i:=λk hk=>by
  by_cases E:k<9
  ·exact .inl E
  ·exact .inr ⟨k-9,by simp at hk;omega,by omega⟩
 have D:∀i,i<(B6++d).length->(cl (B6++d) i).n≠D4:=by
  intro i hi;rcases B i hi with E|⟨j,C,rfl⟩
  ·rw[U0 Oo];rcases a3v E with rfl|rfl|rfl|rfl|rfl|rfl|rfl|rfl|rfl<;>decide
  ·rw[Y6];exact ad _ (aa j C).n
 have F:a1z (B6++d):=by
  have T:∀i j,i<j->j<(B6++d).length->(cl (B6++d) i).n≠(cl (B6++d) j).n:=by
   intro i j ab C e;rcases B j C with E|⟨q,M,rfl⟩
   ·rw[U0 Oo,U0 Oo]at e
    exact absurd (b5b (λc:Cl=>c.n) b4f b9r (i:=i) (j:=j) Oo Oo e) Oo
   ·have:=af q M;rw[<-a9L d q M,hb]at this;simp only[twP,decide_eq_false_iff_not,ne_eq,Decidable.not_not]at this;exact(M8 this).2.2 i ab e
  intro i j hi C e;rcases nh i j with S|S|S
  ·exact absurd e (T i j S C)
  ·exact S
  ·exact absurd e.symm (T j i S hi)
 have W:∀i,i<(B6++d).length->i≠0->∃k,C8 (B6++d) (cl (B6++d) i).s=O k:=by
  intro i hi h0;rcases B i hi with E|⟨q,M,rfl⟩
  ·rw[U0 Oo]
   have:∃k,C8 B6 (cl B6 i).s=O k:=by
    rcases a3v E with rfl|rfl|rfl|rfl|rfl|rfl|rfl|rfl|rfl
    ·exact absurd rfl h0
    ·exact⟨0,by decide+kernel⟩
    all_goals exact⟨1,by decide+kernel⟩
   obtain⟨k,hk⟩:=this;exact⟨k,a6Z hk⟩
  ·have:=ae q M;rw[Y6];simp only[E9,Bool.not_eq_false']at this;exact ul.1 this
 refine⟨⟨d,rfl⟩,F,D,W,?_⟩;intro i hi k hk e;subst e;rcases B k hi with E|⟨q,M,rfl⟩
 ·rw[U0 Oo]at hk
  have hE:∀m,F1 (B6++d) m D4=[]:=λm=>by
   cases m with
   |zero=>rfl
   |succ m=>
    simp only[F1];cases K:C8 (B6++d) D4 with
    |none=>rfl
    |some j=>exact absurd (M8 K).2.1 (D j (M8 K).1)
  have hO:∀m,∀j∈F1 (B6++d) m D5,j=0:=λm j C=>by
   cases m with
   |zero=>cases C
   |succ m=>
    have K:C8 (B6++d) D5=O 0:=a6Z (by decide+kernel);simp only[F1,K]at C;have hs:(cl (B6++d) 0).s=D4:=by rw[U0 Oo];rfl
    rw[hs,hE]at C;simpa using C
  have hT:∀m,∀j∈F1 (B6++d) m G6,j<=1:=λm j C=>by
   cases m with
   |zero=>cases C
   |succ m=>
    have K:C8 (B6++d) G6=O 1:=a6Z (by decide+kernel);simp only[F1,K]at C;have hs:(cl (B6++d) 1).s=D5:=by rw[U0 Oo];rfl
    rw[hs]at C;rcases lv.1 C with rfl|C
    ·omega
    ·have:=hO m j C;omega
  unfold up at hk;rcases a3v E with rfl|rfl|rfl|rfl|rfl|rfl|rfl|rfl|rfl
  ·rw[show(cl B6 0).s=D4 from rfl,hE]at hk;cases hk
  ·have:=hO _ _ (show 1∈F1 (B6++d) _ D5 from hk);omega
  all_goals(have:=hT _ _ (show _∈F1 (B6++d) _ G6 from hk);omega)
 ·have:=ac q M;rw[no]at this;rw[Y6]at hk;exact this _ hk (by simp[Y6])
theorem b3S(d:List Cl)(hok:∀c∈d,a2z c)(h:y6 d= .ok ()):C1 (B6++d):=by
 have B:=a7l h;exact b1H d hok (B _ Os) (B (λi=> !E9 (B6++d) (cl d i).s) Os) (B (λi=>(up (B6++d) (cl d i).s).any λk=>decide ((cl (B6++d) k).n=(cl d i).n)) Os)
def G5(l:List Cl)(a b:ByteArray):Bool:=(up l a).any λk=>decide ((cl l k).n=b)
theorem C1.find_name(h:C1 l)(hi:i<l.length):C8 l (cl l i).n=O i:=a6Q h.dist hi
theorem C1.below_refl(h:C1 l)(ha:C8 l a=O i):G5 l a a=true:=by
 unfold G5;rw[h.up_some ha];simp[(M8 ha).2.1]
theorem C1.below_step(h:C1 l)(ha:C8 l a=O i):G5 l a b=(decide (a=b)||G5 l (cl l i).s b):=by
 unfold G5;rw[h.up_some ha,nj,(M8 ha).2.1]
theorem C1.below_none(h:C1 l)(ha:C8 l a=N):G5 l a b=false:=by
 unfold G5;rw[h.up_none ha];rfl
theorem C1.upInd(h:C1 l){P:ByteArray->Prop}(d:∀a,C8 l a=N->P a)(B:∀a i,C8 l a=O i->P (cl l i).s->P a)(a:ByteArray):P a:=by
 have:∀n a,(up l a).length<=n->P a:=by
  intro n;induction n with
  |zero=>
   intro a ha;cases hf:C8 l a with
   |none=>exact d a hf
   |some i=>rw[h.up_some hf]at ha;simp at ha
  |succ n ih=>
   intro a ha;cases hf:C8 l a with
   |none=>exact d a hf
   |some i=>rw[h.up_some hf]at ha;exact B a i hf (ih _ (by simpa using ha))
 exact this _ a (li _)
theorem C1.below_trans(h:C1 l){c:ByteArray}(d:G5 l a b=true)(B:G5 l b c=true):G5 l a c=true:=by
 refine h.upInd (P:=λa=>G5 l a b=true->G5 l a c=true) (λa ha d=> ?_) (λa i ha C d=> ?_) a d
 ·rw[h.below_none ha]at d;cases d
 ·rw[h.below_step ha]at d⊢;by_cases e:a=b
  ·subst e;rw[h.below_step ha]at B;exact B
  ·simp only[e,decide_false,vh]at d;simp[C d]
theorem C1.below_has(h:C1 l)(d:G5 l a b=true):∃i,C8 l b=O i:=by
 unfold G5 at d;obtain⟨k,hk,e⟩:=ln.1 d;have:=of_decide_eq_true e;subst this;exact⟨k,h.find_name (a2s _ _ k hk)⟩
theorem C1.below_len(h:C1 l)(d:G5 l a b=true):a=b\/(up l b).length<(up l a).length:=by
 refine h.upInd (P:=λa=>G5 l a b=true->a=b\/(up l b).length<(up l a).length) (λa ha d=> ?_) (λa i ha C d=> ?_) a d
 ·rw[h.below_none ha]at d;cases d
 ·rw[h.below_step ha]at d;by_cases e:a=b
  ·exact .inl e
  ·simp only[e,decide_false,vh]at d;right;rw[h.up_some ha,lx];rcases C d with B|B
   ·rw[<-B];omega
   ·omega
theorem C1.below_antisymm(h:C1 l)(B:G5 l a b=true)(C:G5 l b a=true):a=b:=by
 rcases h.below_len B with e|e
 ·exact e
 ·rcases h.below_len C with d|d
  ·exact d.symm
  ·omega
theorem C1.find_object(h:C1 l):C8 l D5=O 0:=by
 obtain⟨d,rfl⟩:=h.base;exact a6Z (by decide+kernel)
theorem C1.below_object(h:C1 l)(ha:C8 l a=O i):G5 l a D5=true:=by
 have:∀a i,C8 l a=O i->G5 l a D5=true:=by
  intro a;refine h.upInd (P:=λa=>∀i,C8 l a=O i->G5 l a D5=true) (λa ha i hi=> ?_) (λa i ha C j D=> ?_) a
  ·rw[ha]at hi;cases hi
  ·rw[h.below_step ha];by_cases e:i=0
   ·subst e;have d:=(M8 ha).2.1;have B:=(M8 h.find_object).2.1;rw[<-d,B];simp
   ·obtain⟨k,hk⟩:=h.s i (M8 ha).1 e;rw[C k hk];simp
 exact this a i ha
def C4(l:List Cl)(a b:Ty):Bool:=
 I4 a b||decide (b.k=0)||
 (if a.k=5 then decide (b.k=2\/b.k=3\/b.k=4)
  else if a.k=2 then decide (b.k=2)&&G5 l a.n b.n
  else if a.k=3\/a.k=4 then I4 b ⟨2,D5⟩else false)
def D9(l:List Cl)(t:Ty):Prop:=t.k<=5/\if t.k=2\/t.k=4 then∃i,C8 l t.n=O i else t.n=D4
def A8:Ty:=⟨0,D4⟩
def O4:Ty:=⟨1,D4⟩
def a0X:Ty:=⟨5,D4⟩
def C5(n:ByteArray):Ty:=⟨2,n⟩
theorem a3H(h:k<=5)(d:k≠2)(B:k≠4):D9 l ⟨k,D4⟩:=⟨h,by simp[d,B]⟩
theorem a1M(l:List Cl)(a:Ty):C4 l a A8=true:=by simp[C4,A8]
theorem a1v(l:List Cl)(a:Ty):C4 l a a=true:=by simp[C4,a5W]
theorem a1N{t:Ty}(B:D9 l t)(hk:t.k=k)(D:k≠2)(E:k≠4):t=⟨k,D4⟩:=by
 obtain⟨C,d⟩:=B;rw[if_neg Oo]at d;cases t;simp_all
theorem C1.tyOk_object(h:C1 l):D9 l (C5 D5):=⟨by simp[C5],by simp[C5,h.find_object]⟩
theorem y8{a b:Ty}(ha:D9 l a)(B:D9 l b):C4 l a b=true↔
 a=b\/b=A8\/(a.k=5/\(b.k=2\/b.k=3\/b.k=4))\/(a.k=2/\b.k=2/\G5 l a.n b.n=true)\/((a.k=3\/a.k=4)/\b=C5 D5):=by
 have d:b.k=0↔b=A8:=⟨λe=>a1N B e Oo Oo,λe=>by rw[e];rfl⟩
 unfold C4;simp only[ni,a2M,decide_eq_true_eq,d,C5];by_cases h5:a.k=5
 ·simp[h5,or_assoc]
 ·by_cases h2:a.k=2
  ·simp[h2,or_assoc]
  ·by_cases h3:a.k=3\/a.k=4
   ·simp[h5,h2,h3,a2M,or_assoc]
   ·simp[h5,h2,h3]
theorem C1.under_trans(h:C1 l){a b c:Ty}(ha:D9 l a)(T:D9 l b)(W:D9 l c)(F:C4 l a b=true)(D:C4 l b c=true):C4 l a c=true:=by
 rw[y8 ha T]at F;rw[y8 T W]at D;rw[y8 ha W];rcases F with rfl|rfl|⟨d,K⟩|⟨d,K,M⟩|⟨d,rfl⟩
 ·exact D
 ·rcases D with rfl|rfl|⟨d,_⟩|⟨d,_⟩|⟨d,_⟩
  ·exact .inr (.inl rfl)
  ·exact .inr (.inl rfl)
  all_goals(simp[A8]at d)
 ·rcases D with rfl|rfl|⟨B,C⟩|⟨B,C,E⟩|⟨B,rfl⟩
  ·exact .inr (.inr (.inl ⟨d,K⟩))
  ·exact .inr (.inl rfl)
  ·omega
  ·exact .inr (.inr (.inl ⟨d, .inl C⟩))
  ·exact .inr (.inr (.inl ⟨d, .inl rfl⟩))
 ·rcases D with rfl|rfl|⟨B,C⟩|⟨B,C,E⟩|⟨B,rfl⟩
  ·exact .inr (.inr (.inr (.inl ⟨d,K,M⟩)))
  ·exact .inr (.inl rfl)
  ·omega
  ·exact .inr (.inr (.inr (.inl ⟨d,C,h.below_trans M E⟩)))
  ·omega
 ·rcases D with rfl|rfl|⟨B,C⟩|⟨B,C,E⟩|⟨B,rfl⟩
  ·exact .inr (.inr (.inr (.inr ⟨d,rfl⟩)))
  ·exact .inr (.inl rfl)
  ·simp[C5]at B
  ·have:c=C5 D5:=by
    rcases h.below_len E with S|S
    ·cases c;simp_all [C5]
    ·have h0:up l D5=[0]:=by
      exact c5w
     have F:(up l c.n).length<1:=by simpa[C5,h0]using S
     have h3:=h.below_has E;obtain⟨i,hi⟩:=h3;rw[h.up_some hi]at F;simp at F
   exact .inr (.inr (.inr (.inr ⟨d,this⟩)))
  ·simp[C5]at B
theorem C1.under_antisymm(h:C1 l){a b:Ty}(ha:D9 l a)(K:D9 l b)(F:C4 l a b=true)(D:C4 l b a=true):a=b:=by
 rw[y8 ha K]at F;rw[y8 K ha]at D;rcases F with e|rfl|⟨B,M⟩|⟨B,M,P⟩|⟨B,rfl⟩
 ·exact e
 ·rcases D with e|rfl|⟨d,_⟩|⟨d,_⟩|⟨d,_⟩
  ·exact e.symm
  ·rfl
  all_goals(simp[A8]at d)
 ·rcases D with e|rfl|⟨d,C⟩|⟨d,C,E⟩|⟨d,rfl⟩
  ·exact e.symm
  ·simp[A8]at B
  ·omega
  ·omega
  ·simp[C5]at B
 ·rcases D with e|rfl|⟨d,C⟩|⟨d,C,E⟩|⟨d,rfl⟩
  ·exact e.symm
  ·simp[A8]at B
  ·omega
  ·have:=h.below_antisymm P E;cases a;cases b;simp_all
  ·omega
 ·rcases D with e|rfl|⟨d,C⟩|⟨d,C,E⟩|⟨d,e⟩
  ·exact e.symm
  ·simp[A8]at B
  ·simp[C5]at d
  ·omega
  ·simp[C5]at d
end Cf
namespace Kx
variable {a b n:ByteArray}
theorem a0U(h:a.toList=b.toList):a=b:=by
 rw[ByteArray.toList_eq,ByteArray.toList_eq]at h;exact us (ut.1 h)
attribute [local go_sem] Oper.semAt_some
variable {w w':World}
theorem a1e(h:lw w.heap.size w w'):w.grownBy w' N:=⟨h.os,h.tape,h.output,h.size,λk hk _=>h.block k hk⟩
variable {b1 i n₀:Nat}
theorem a6r{A B C:ld}(h:KpU n₀ b1 A B)(k:KpU n₀ b1 B C):KpU n₀ b1 A C:=⟨h.1.trans k.1,k.2.trans h.2⟩
theorem a6s(E:n₀<=w.heap.size)(F:b1<w.heap.size)(W:ld)(l:Nat)(o d:Obj)(D:w.heap.size<=l)(h:W.heap[l]? =O o)(B:o.isCells=false)(C:o.isWalk=false):KpU n₀ b1 W (W.putObj l d):=
 ⟨belowK_b E W l o d D h B C,(nc W l d).block b1 (by have:=(uy.1 h).1;omega) Oi⟩
theorem P6(B:Nat)(cs:Array la)(t:TypeId):Own (fun(_:Unit) W=>A4 W B cs t):=λ_ X Y row C E F=>
 C.keep E (λe=>by obtain⟨o,d,D⟩:=F B e.symm;rw[C]at d;cases d;cases D)
theorem a5V(F:Fence)(n:Nat)(B:F.fn 167)(d:F.round=N)(pv:Option lg)(s:ByteArray)(w:ld):
 CallsIn F n prog 167 #[U pv, Z s] w λe w'=>e= Y (.func (.func 254) #[] #[U (O (A w.heap.size 0 N)), U (O (A (w.heap.size+1) 0 N))])/\w'=(w.alloc (H #[U pv] 156)).alloc (H #[Z s] 9):=by
 refine callsIn_of_wp func167 rfl B ?_ d;simp only[ntmps167,nu,lx,nv,nw,nx,ny,nz,ua,ub,uc,ud];gi_wp2
 go_ret;exact⟨rfl,rfl⟩
abbrev Ci(L:List Cl):Type:={i:Nat//i<L.length}
variable {L:List Cl}
def o6(l:List (Ci L)):List Nat:=l.map (·.1)
theorem a7b(F:Fence)(n:Nat)(hF:F.fn 254)(ae:F.round=N)(hn:1<=n)(n₀ b1 E lim b:Nat)(L:List Cl)(p:lg)(cap m1 m2 m3:Nat)(q:Nat->Qs)(nm:ByteArray)(ad:nm.size<=lh)(hU:X (UpL L))(w:ld)
 (K:b1<w.heap.size) (M:E<w.heap.size) (T:w.cell? ⟨b1,0,N⟩=O (U (O ⟨b,0,N⟩))) (aa:w.cell? ⟨E,0,N⟩=O (Z nm)) (hK:X (L4 w lim b L p cap m1 m2 m3 q)) (D:lim<=n₀) (ac:n₀<=w.heap.size):
 SeqStopsK F n prog 254 #[U (O ⟨b1,0,N⟩), U (O ⟨E,0,N⟩)] (λi:Ci L=> #[a3w L q i.1]) (KpU n₀ b1) (λys=>o6 ys=up L nm) (λA9=>o6 A9<+:up L nm) (up L nm).length w:=λl J Jx W S hJ P hY h0=>by
 refine(c2G F n hF ae hn l n₀ b1 E lim b L p cap m1 m2 m3 q nm ad hU (λA9 W=>∃d:List (Ci L),o6 d=A9/\J d W) (λA9 W=>∃d:List (Ci L),o6 d=A9/\Jx d W)
  (λA9 A B C hg=>by obtain⟨d,e,C⟩:=C;exact⟨d,e,hJ d A B N C hg (λr e=>by cases e)⟩) (λA9 A B C hg=>by obtain⟨d,e,C⟩:=C;exact⟨d,e,P d A B N C hg (λr e=>by cases e)⟩)
  (λA9 x W1 hx C ab=>by
    obtain⟨d,rfl,C⟩:=C;refine(hY d ⟨x,hx⟩ W1 C (by simpa[o6]using ab)).mono (λe W' hr=> ?_);rcases hr with⟨K,M,h3⟩|⟨K,M⟩
    ·exact .inl ⟨K,⟨_,by simp[o6],M⟩,h3⟩
    ·exact .inr ⟨K,⟨_,by simp[o6],M⟩⟩) W
  ((S.cell (p:=⟨b1,0,N⟩) K).trans T) ((S.cell (p:=⟨E,0,N⟩) M).trans aa) (hK.o.below S (nr D ac)) D ⟨[],rfl,h0⟩).mono ?_
 rintro e W' ⟨hv,⟨ys,rfl,d,he,C⟩|⟨A9,hp,d,rfl,C⟩⟩
 ·exact⟨hv, .inl ⟨d,he,C⟩⟩
 ·exact⟨hv, .inr ⟨d,hp,C⟩⟩
theorem b9p(w:ld)(lim b:Nat)(L:List Cl)(p:lg)(cap m1 m2 m3:Nat)(q:Nat->Qs)(h:Hid (L4 w lim b L p cap m1 m2 m3 q))(hl:lim<=w.heap.size)(hU:Hid (UpL L))(c o:ByteArray)(hc:c.size<=lh):
 le prog 240 #[U (O (A b 0 N)), Z c, Z o] w λe w'=>e= .returned (G (G5 L c o))/\w.grownBy w' N:=by
 refine(callsIn_wide (n:=9)).1 ?_;refine callsIn_of_wp_marks func240 rfl trivial ?_ rfl;simp only[ntmps240,nu,lx,nv,nw,nx,ny,nz,ua,ub,uc,ud];gi_wp2_with (refine⟨trivial,?_⟩;gi_at_call 167;refine(a5V _ _ trivial rfl _ _ _).mono ?_;rintro e w' ⟨rfl,rfl⟩)
 have aa:lw w.heap.size w ((((w.alloc (H #[Z o] 9)).alloc (H #[G false] 4)).alloc (H #[U (O (A b 0 N))] 156)).alloc (H #[Z c] 9)):=
  ((((Below.refl _ w).alloc (li _) _).alloc Os _).alloc Oi _).alloc Oi _
 have aj:((((w.alloc (H #[Z o] 9)).alloc (H #[G false] 4)).alloc (H #[U (O (A b 0 N))] 156)).alloc (H #[Z c] 9)).heap.size=w.heap.size+4:=by simp
 have k0:=(((A4.new w #[Z o] 9).keep (A2 _ (H #[G false] 4) N) Os).keep (A2 _ (H #[U (O (A b 0 N))] 156) N) Os).keep (A2 _ (H #[Z c] 9) N) Os;have k1:=((A4.new (w.alloc (H #[Z o] 9)) #[G false] 4).keep (A2 _ (H #[U (O (A b 0 N))] 156) N) Os).keep (A2 _ (H #[Z c] 9) N) Os;have k2:=(A4.new ((w.alloc (H #[Z o] 9)).alloc (H #[G false] 4)) #[U (O (A b 0 N))] 156).keep (A2 _ (H #[Z c] 9) N) Os;have k3:=A4.new (((w.alloc (H #[Z o] 9)).alloc (H #[G false] 4)).alloc (H #[U (O (A b 0 N))] 156)) #[Z c] 9;simp only[World.size_alloc]at k1 k2 k3;obtain⟨W0,ad⟩:∃W0,(((w.alloc (H #[Z o] 9)).alloc (H #[G false] 4)).alloc (H #[U (O (A b 0 N))] 156)).alloc (H #[Z c] 9)=W0:=⟨_,rfl⟩
 rw[ad]at aa aj k0 k1 k2 k3⊢;clear ad;have af:=A1 (h.o.below aa hl)
 refine wpIn_rangeFunc_ownH rfl Oo (gf:=254) (lb:= #[U (O (A (w.heap.size+1+1) 0 N)), U (O (A (w.heap.size+1+1+1) 0 N))]) rfl trivial (enters_of func254 Ok0 rfl)
  (a7b _ _ trivial rfl Oo w.heap.size (w.heap.size+1+1) (w.heap.size+1+1+1) lim b L p cap m1 m2 m3 q c hc hU W0 Oo Oo (k2.cell 0 _ rfl) (k3.cell 0 _ rfl) af hl Oo) a6r (a6s Oo Oo) (Below.refl _ _) (λ_=>rfl)
  (λA9 W=>((∀k∈A9,(cl L k.1).n≠o)/\A4 W w.heap.size #[Z o] 9/\A4 W (w.heap.size+1) #[G false] 4/\A4 W (w.heap.size+1+1+1) #[Z c] 9)/\lw w.heap.size w W)
  (λd A9 W=>(d= .ret/\(∃k∈A9,(cl L k.1).n=o)/\A4 W (w.heap.size+1) #[G true] 4)/\lw w.heap.size w W)
  (OwnFrom.and (λs X Y row M hg hr=>⟨M.1,Own.from (P6 _ _ _) _ () X Y row M.2.1 hg hr,Own.from (P6 _ _ _) _ () X Y row M.2.2.1 hg hr,Own.from (P6 _ _ _) _ () X Y row M.2.2.2 hg hr⟩) (ownFrom_below (li _) Oo))
  (λd=>OwnFrom.and (λs X Y row M hg hr=>⟨M.1,M.2.1,Own.from (P6 _ _ _) _ () X Y row M.2.2 hg hr⟩) (ownFrom_below (li _) Oo))
  ⟨⟨by simp,k0,k1,k3⟩,aa⟩
  (λx a' W=>∃T,w.heap.size+4<=T/\A4 W T #[Z (cl L x.1).n, Z (cl L x.1).s, V (q x.1).fa (cl L x.1).f.length (q x.1).fk, V (q x.1).ma (cl L x.1).m.length (q x.1).mc] 44/\
    a'={tmps:= #[U (O (A b 0 N)), Z c, Z o,undef,undef, U (O (A w.heap.size 0 N)), U (O (A (w.heap.size+1) 0 N)), U (O (A T 0 N)), U (O (A b 0 N)), Z c, .func (.func 254) #[] #[U (O (A (w.heap.size+1+1) 0 N)), U (O (A (w.heap.size+1+1+1) 0 N))], Q #[Z (cl L x.1).n, Z (cl L x.1).s, V (q x.1).fa (cl L x.1).f.length (q x.1).fk, V (q x.1).ma (cl L x.1).m.length (q x.1).mc],undef,undef,undef,undef],defers:=[]})
  (λx a' _ X Y row M hg hr=>by obtain⟨T,h1,h2,h3⟩:=M;exact⟨T,h1,P6 T _ _ () X Y row h2 hg (λr e=>(hr r e).2),h3⟩)
  ?assign ?body ?done ?stop
 case assign=>
  rintro l A9 x W K ⟨⟨hne,E,B,F⟩,C⟩ hK;dsimp only[a3w,G9];gi_wp2
  have h3:=F.lt;exact hK _ _ ((KeepsOthers.alloc _ _).from _) ⟨(Below.refl _ W).alloc C.size _,Below.heap_alloc W _ _ Oo⟩ ⟨⟨hne,E.keep (A2 _ _ N) Os,B.keep (A2 _ _ N) Os,F.keep (A2 _ _ N) Os⟩,C.alloc C.size _⟩ ⟨W.heap.size,by omega,A4.new W _ _,rfl⟩
 case body=>
  rintro l A9 x a' W am _ ⟨⟨hne,E,B,F⟩,C⟩ ⟨T,al,ah,rfl⟩ an;have cx:=ah.c0;have co:=E.c0;have cr:=B.c0;have fr:=B.frozen 0;gi_wp2
  ·rename_i S;have S:=a0U (eq_of_beq S);exact⟨(KeepsOthers.setCell _ _ _).from _,⟨rfl,⟨x,by simp,S⟩,B.set 0 (G true)⟩,C.setCell (p:=(A (w.heap.size+1) 0 N)) Os _⟩
  ·rename_i S;have S:(cl L x.1).n≠o:=λe=>by rw[e,beq_self_eq_true]at S;cases S
   exact⟨KeepsFrom.refl _ _,⟨Below.refl _ _,rfl⟩,⟨λk hk=>(List.mem_append.1 hk).elim (hne k) (λe=>by simp at e;subst e;exact S),E,B,F⟩,C⟩
 case done=>
  rintro D ys W hD ak ⟨⟨hne,E,B,F⟩,C⟩ hK;have cr:=B.c0;have fr:=B.frozen 0;gi_wp2
  have ag:=(KeepsOthers.setCell W (A (w.heap.size+1) 0 N) (G false)).same D _ hK rfl;refine⟨by simp, .inl ⟨_,_,rfl,vi ag,?_⟩⟩;have ab:=(B.set 0 (G false)).keep (nc _ D (.deferred N)) Oi;have ac:=ab.c0
  have hf:G5 L c o=false:=by
   unfold G5;rw[no,<-ak];exact c6i
  rw[hf];exact⟨G false,by simp[ls,results240,go_sem,ac],rfl,a1e ((C.setCell (p:=(A (w.heap.size+1) 0 N)) Os _).grown (nc _ D _) (by simp;exact C.size) (λk e=>by cases e;omega))⟩
 case stop=>
  rintro D d A9 W hD ae ⟨⟨rfl,⟨k,hk,ai⟩,B⟩,C⟩ hK;have cr:=B.c0;gi_wp2
  refine⟨by simp, .inl ⟨_,_,rfl,vi hK,?_⟩⟩;have ab:=B.keep (nc _ D (.deferred N)) Oi;have ac:=ab.c0
  have hf:G5 L c o=true:=by
   unfold G5;rw[ln];exact⟨k.1,ae.subset (List.mem_map.2 ⟨k,hk,rfl⟩),by simpa using ai⟩
  rw[hf];exact⟨G true,by simp[ls,results240,go_sem,ac],rfl,a1e (C.grown (nc _ D _) C.size (λk e=>by cases e;omega))⟩
structure Wo(w:World)(lim wb:Nat)(L:List Cl)(p:Addr)(cap:Nat)(q:Nat->Qs):Prop where
 wb_lt:wb<lim
 p_lt:p.block<lim
 c0:w.cell? ⟨wb,0,none⟩=some (.slice (some p) L.length cap)
 row:∀i,i<L.length->∀r u,(G9 (cl L i) (q i))[r]? =some u->w.cell? (p.add (i*4+r))=some u
 names:∀i,i<L.length->(cl L i).n.size<=maxLen/\(cl L i).s.size<=maxLen
 small:L.length<=65536
theorem Wo.keep{lim B:Nat}{p:lg}{cap:Nat}{q:Nat->Qs}(h:Wo w lim B L p cap q)(d:w.grownBy w' N):Wo w' lim B L p cap q:=
 ⟨h.wb_lt,h.p_lt,d.cell h.c0 Os,λi hi r u C=>d.cell (h.row i hi r u C) Os,h.names,h.small⟩
def a0o(L:List Cl)(n:ByteArray):Int:=match C8 L n with|some i=>i|none=> -1
theorem b7H(h:∀j,j<L.length->(cl L j).n≠n):a0o L n= -1:=by
 unfold a0o;cases hf:C8 L n with
 |none=>rfl
 |some i=>exact absurd (M8 hf).2.1 (h i (M8 hf).1)
theorem b7G(hi:i<L.length)(d:(cl L i).n=n)(h:∀j,j<i->(cl L j).n≠n):a0o L n=i:=by
 unfold a0o;rw[a7n hi d h]
theorem b8Y(h:C8 L n=N):a0o L n= -1:=by unfold a0o;rw[h]
theorem b2m(h:C8 L n=O i):a0o L n=i:=by unfold a0o;rw[h]
theorem b3y{k:IntKind}{a b:Int}(h:a=b):Ending.returned (.int k a)= Y (.int k b):=by rw[h]
theorem l6(h:a≠b):(a.toList==b.toList)=false:=by
 rw[beq_eq_false_iff_ne];exact λe=>h (a0U e)
theorem a2i(w:ld)(lim P:Nat)(L:List Cl)(p:lg)(cap:Nat)(q:Nat->Qs)(h:X (Wo w lim P L p cap q))(s:ByteArray):
 le prog 121 #[U (O (A P 0 N)), Z s] w λe w'=>e= Y (J I (a0o L s))/\w=w':=by
 obtain⟨n,E⟩:=Oe L.length
 have F:=h.o.small;have c0:=h.o.c0;rw[<-E]at c0 F;have C:=A1 E;clear E;go_enter func121,ntmps121;go_wp2
 go_loop [5] (λi=>∃k:Nat,k<=n/\i= J I k/\X (∀j,j<k->(cl L j).n≠s)) (λi=>n-(lk i).toNat)
 case atStart=>exact⟨0,by omega,rfl,λj D=>by omega⟩
 case round=>
  obtain⟨k,hk,rfl,d⟩:=hrel;by_cases hlt:k<n
  ·have S:w.cell? (p.add (k*4))=O (Z (cl L k).n):=h.o.row k (by rw[<-C.o];exact hlt) 0 _ rfl;obtain⟨T,B⟩:=Oe ((cl L k).n)
   rw[<-B]at S;have K:=A1 B;clear B;by_cases hx:T=s
   ·subst hx;go_wp2
    go_ret;exact⟨b3y (by rw[b7G (by rw[<-C.o];exact hlt) K.o.symm d.o]),rfl⟩
   ·have W:=l6 hx;go_wp2
    go_round
    case rel=>exact⟨k+1,by omega,by go_num,λj D=>by
     rcases Nat.lt_or_ge j k with M|M
     ·exact d.o j M
     ·obtain rfl:j=k:=by omega
      rw[<-K.o];exact hx⟩
    case measure=>simp[lk];omega
  ·obtain rfl:k=n:=by omega
   go_wp2
   go_ret;exact⟨b3y (by rw[b7H (λj D=>d.o j (by rw[C.o];exact D))]),rfl⟩
end Kx
def a1E(f:ByteArray)(k:Nat)(st:St):R ByteArray:=
 if st.t+k<=f.size then .ok (f.extract st.t (st.t+k),{st with t:=st.t+k})else .error (2,f.size)
theorem b2A(w:ld)(b:Nat)(f:ByteArray)(pv:la)(st:St)(n:Nat)(h:Rd w b f pv st)(K:n<=255):
 le prog 221 #[U (O (A b 0 N)), J I n] w (F6 w b f pv (a1E f n st) a5E):=by
 have D:=A1 h;have c0:=h.blk.c0;have c1:=h.blk.c1;have F:=h.blk.frozen 1;obtain⟨d,E,C,B⟩:=h.inv;clear h;by_cases hc:st.t+n<=f.size
 ·go_enter func221,ntmps221;go_wp2
  go_quiet (fail)
  go_wp2
  go_quiet (fail)
  go_wp2
  go_ret;refine⟨A0 (F4 _ _ _) (A6 _ (A b 1 N) _),?_⟩;rw[a1E,if_pos hc];exact⟨_,rfl,rfl,(D.o.keep (F4 _ _ _)).setAt (st.t+n) hc⟩
 ·go_enter func221,ntmps221;go_wp2
  go_quiet (fail)
  go_wp2
  refine⟨rfl,F4 _ _ _,?_⟩;rw[a1E,if_neg hc];rfl
theorem b3r(l:List UInt8)(c:UInt8):beL (l++ [c])=beL l*256+c.toNat:=by
 simp[beL,uu]
theorem b7P(l:List UInt8):∀a:Nat,l.foldl (λn c=>n*256+c.toNat) a<(a+1)*256^l.length:=by
 induction l with
 |nil=>intro a;simp
 |cons c l ih=>
  intro a;have h:=ih (a*256+c.toNat);have d:=c.toNat_lt;simp only[List.foldl_cons,lx];refine nl h ?_;rw[Nat.pow_succ,vj (256^l.length) 256,<-Nat.mul_assoc];exact Nat.mul_le_mul_right _ Oo
theorem a7D(l:List UInt8):beL l<256^l.length:=by
 have:=b7P l 0;simpa[beL]using this
theorem b5y(s:ByteArray)(k:Nat)(h:k<s.size):s.data.toList.take (k+1)=s.data.toList.take k++ [s.data[k]]:=by
 rw[List.take_succ_eq_append_getElem (by simpa using h)];rfl
theorem c0U(s:ByteArray)(a b:Nat):(s.extract a b).data.toList=(s.data.toList.drop a).take (b-a):=by
 rw[ByteArray.data_extract,Array.toList_extract]
theorem c0c(x c:Nat)(E:x<2^40)(D:c<256):bits BinOp.or IntKind.i64 (lp ((x:Int)*256)) (lp (c:Int))=((x*256+c:Nat):Int):=by
 have d:lp ((x:Int)*256)=((x*256:Nat):Int):=by unfold lp;omega
 have B:lp (c:Int)=(c:Int):=by unfold lp;omega
 rw[d,B,(bits_nat I 62 Od (λn C d=>by rw[IntKind.wrap_i64];omega) (x*256) c Oo Oo).2];have:=Nat.two_pow_add_eq_or_of_lt (i:=8) (b:=c) Oo x;rw[vj (2^8) x]at this;exact congrArg _ this.symm
theorem a0j(w:ld)(b:Nat)(f:ByteArray)(pv:la)(st:St)(n:Nat)(h:X (Rd w b f pv st))(hn:n<=4):
 le prog 146 #[U (O (A b 0 N)), J I n] w (F6 w b f pv (C3 f n st) b4t):=by
 go_enter func146,ntmps146;go_wp2_with (go_at_call 221;refine(b2A w b f pv st n h Oo).mono ?_)
 intro e w1 T;rcases T.cases with⟨s,st1,v,d,rfl,rfl,hR,K⟩|⟨er,d,rfl,K⟩
 ·clear T;have S:=A1 d;clear d
  have ab:s.size<=4:=by
   have d:=S.o;rw[a1E]at d;split at d
   ·cases d;simp;omega
   ·cases d
  have F:=λwx=>run_bytes_of_string (P:=prog) wx 9 193 5 s underlying9 underlying193 underlying5
  go_wp2
  obtain⟨W,D⟩:=Oe ((w1.alloc (Obj.cells (bytesRow s (grownCap w1 s.size 0 5)) 5 ((bytesRow s (grownCap w1 s.size 0 5)).size,(bytesRow s (grownCap w1 s.size 0 5)).size+1))).drew)
  rw[<-D]
  have B:∀j (hj:j<s.size),W.cell? (A w1.heap.size j N)=O (.int .u8 (s.data[j].toNat:Int)):=by
   intro j hj;rw[D,World.cell?_drew,World.cell?_alloc_mark,bytesRow_at s _ j hj]
  have C:w1.grownBy W N:=by rw[D];exact C6 (A2 _ _ _) (A7 _ N) Os
  clear D F;go_loop [5,13] (λa i=>∃k:Nat,k<=s.size/\i= J I k/\a= J I (beL (s.data.toList.take k))) (λ_ i=>s.size-(lk i).toNat)
  case atStart=>exact⟨0,Nat.zero_le _,rfl,rfl⟩
  case round=>
   obtain⟨k,hk,rfl,rfl⟩:=hrel;by_cases hlt:k<s.size
   ·have aa:=B k hlt;clear B;go_wp2
    have hb:=a7D (s.data.toList.take k);have hl:(s.data.toList.take k).length=k:=by simp;omega
    have E:=s.data[k].toNat_lt;rw[hl]at hb;have hp:256^k<=256^4:=ue Oo Oo;refine⟨⟨k+1,hlt,by go_num,?_⟩,by simp[lk];omega⟩;rw[b5y s k hlt,b3r,c0c _ _ Oo E]
   ·go_wp2
    go_ret;have M:k=s.size:=by omega
    subst M;have d:=S.o;rw[a1E]at d;split at d
    ·rename_i hc;cases d;refine .ok (a:=beL (f.data.toList.drop st.t|>.take n)) ?_ (L8 K C) ?_ (hR.o.keep C)
     ·rw[C3,if_pos hc]
     ·show Value.int I (beL (List.take _ (f.extract st.t (st.t+n)).data.toList):Nat)=Value.int I _;rw[c0U,Nat.add_sub_cancel_left,List.take_take];have:(f.extract st.t (st.t+n)).size=n:=by simp;omega
      rw[this,Nat.min_self]
    ·cases d
 ·go_wp2
  refine⟨rfl, .err (er:=er) ?_ rfl rfl K⟩;rw[a1E]at d;split at d<;>rename_i hc
  ·cases d
  ·rw[C3,if_neg hc];cases d;rfl
variable {w w1:World}{b n:Nat}{f:ByteArray}{pv:Value}{st:St}
theorem Rd.cells(h:Rd w b f pv st):Inv f st/\w.ownsRow (b+1) 9 1 pv st.p.length (st.p.map Value.string)/\
 w.cell? (A b 0 N)=O (Z f)/\w.cell? (A b 1 N)=O (J I st.t)/\w.cell? (A b 2 N)=O pv/\w.cell? (A b 3 N)=O (J I st.u)/\
 w.frozen? (A b 1 N)=false/\w.frozen? (A b 2 N)=false/\w.frozen? (A b 3 N)=false:=
 ⟨h.inv,h.own,h.blk.cell 0 _ rfl,h.blk.cell 1 _ rfl,h.blk.cell 2 _ rfl,h.blk.cell 3 _ rfl,h.blk.frozen 1,h.blk.frozen 2,h.blk.frozen 3⟩
theorem a4z{base:Nat}{v:la}{l:List ByteArray}(h:w.ownsRow base 9 1 v l.length (l.map Value.string)):
 (v= V N 0 0/\l=[])\/∃g cap,v= V (O (A g 0 N)) l.length cap/\base<=g/\∀j,j<l.length->w.cell? (A g j N)=O (Z (l.getD j lj)):=by
 rcases h.2 with⟨rfl,D⟩|⟨g,cap,d,rfl,B,hh,_,_,_,E⟩
 ·exact .inl ⟨rfl,List.eq_nil_of_length_eq_zero D⟩
 ·refine .inr ⟨g,cap,rfl,B,λj C=> ?_⟩;have:=h.cells (g:=g) rfl j (Z (l.getD j lj)) (by simp[List.getD,C]);unfold Addr.add at this;split at this
  ·rename_i h0;subst h0;exact this
  ·simpa using this
theorem c0k(B:w.grownBy w1 (O b))(d:Rd w1 b f pv {st with t:=st.t+1})
 (D:C3 f 1 st= .ok (n,{st with t:=st.t+1})) (F:n<=st.u) (E:n<st.p.length) {m:Int} (C:m=(max st.u (n+1):Nat)) {v:la} (hv:v= Z (st.p[n])):
 F6 w b f pv (name f st) a5E (Y v) (w1.setCell (A b 3 N) (J I m)):=by
 subst C;have:=d.cells.1.u;refine .ok (a:=st.p[n]) (st:={st with t:=st.t+1,u:=max st.u (n+1)}) ?_ (A0 B (A6 _ (A b 3 N) _)) hv (d.setUsed _ ?_)
 ·rw[name,D];simp[F,E]
 ·simp at this⊢;omega
theorem a5g(w:ld)(b:Nat)(f:ByteArray)(pv:la)(st:St)(h:X (Rd w b f pv st)):
 le prog 148 #[U (O (A b 0 N))] w (F6 w b f pv (name f st) a5E):=by
 obtain⟨-,-,-,c1,-,-,-,-,-⟩:=h.o.cells;go_enter func148,ntmps148;go_wp2_with (go_at_call 146;refine(a0j w b f pv st 1 h Oo).mono ?_)
 intro e w1 S;rcases S.cases with⟨n,st1,v,C,rfl,rfl,M,D⟩|⟨er,C,rfl,D⟩
 ·clear S c1;have E:=A1 C
  have hst:st1={st with t:=st.t+1}/\n<256:=by
   rw[C3]at C;split at C
   ·cases C;refine⟨rfl,?_⟩;have:=a7D ((f.data.toList.drop st.t).take 1);have K:((f.data.toList.drop st.t).take 1).length<=1:=by simp;omega
    have:256^((f.data.toList.drop st.t).take 1).length<=256^1:=ue Oo K;omega
   ·cases C
  clear C;obtain⟨rfl,hn⟩:=hst;obtain⟨⟨h1,K,W,h4⟩,F,c0,c1,c2,c3,f1,f2,f3⟩:=M.o.cells;simp only at c1 c2 c3 K W h4 F;have aa:=M;rcases a4z F with⟨rfl,B⟩|⟨g,cap,rfl,ab,d⟩
  ·clear F;have T:=A1 B;clear B;by_cases hu:n<=st.u
   all_goals
    go_wp2
    refine⟨rfl, .err (er:=(5,st.t)) ?_ rfl rfl D⟩;rw[name,E.o];simp[T.o]
  ·clear F;by_cases hu:n<=st.u
   ·by_cases hp:n<st.p.length
    ·have hc:=d n hp;clear d;go_wp2
     all_goals
      go_ret;exact c0k D M.o E.o hu hp Oo rfl
    ·go_wp2
     refine⟨rfl, .err (er:=(5,st.t)) ?_ rfl rfl D⟩;rw[name,E.o];simp[hp]
   ·go_wp2
    refine⟨rfl, .err (er:=(5,st.t)) ?_ rfl rfl D⟩;rw[name,E.o];simp[hu]
 ·go_wp2
  refine⟨rfl, .err (er:=er) ?_ rfl rfl D⟩;rw[name,C]
def a9X(_:ld)(v:la)(t:Ty):Prop:=v= Q #[J I t.k, Z t.n]
def b4u(_:ld)(v:la)(t:V3):Prop:=v= Q #[Z t.n, J I t.ty.k, Z t.ty.n]
def a9Y(_:ld)(v:la)(t:In):Prop:=v= Q #[J I t.o, J I t.a, Z t.c, Z t.m]
def b4H(_:ld)(v:la)(t:Hd):Prop:=v= Q #[J I t.f, J I t.to, J I t.t, Z t.c]
theorem b6w(k:Nat)(w:ld):
 le prog 291 #[J I k] w λe w'=>e= Y (G (a1T k))/\w'=w:=by
 go_enter func291,ntmps291;go_wp2
 all_goals
  go_ret;refine⟨?_,rfl⟩;refine congrArg (λx=>Ending.returned (G x)) ?_;simp only[a1T];rw[lq];simp;omega
theorem a8q(w:ld)(b:Nat)(f:ByteArray)(pv:la)(st:St)(c:Bool)(h:X (Rd w b f pv st)):
 le prog 293 #[U (O (A b 0 N)), G c] w (F6 w b f pv (Y8 f c st) a5E):=by
 cases c
 ·go_enter func293,ntmps293;go_wp2
  go_ret;exact .ok (a:=lj) (by rw[Y8];rfl) (C9 _ _) rfl h.o
 ·go_enter func293,ntmps293;go_wp2_with (go_at_call 148;refine(a5g w b f pv st h).mono ?_)
  intro e w1 D;rcases D.cases with⟨n,st1,v,B,rfl,rfl,C,d⟩|⟨er,B,rfl,d⟩
  ·go_wp2
   go_ret;exact .ok (by rw[Y8];exact B) d rfl C.o
  ·go_wp2
   exact⟨rfl, .err (er:=er) (by rw[Y8];exact B) rfl rfl d⟩
theorem T4{k:Nat}{st1:St}(h:C3 f k st= .ok (n,st1)):st1={st with t:=st.t+k}/\n<256^k:=by
 rw[C3]at h;split at h
 ·cases h;refine⟨rfl,?_⟩;have:=a7D ((f.data.toList.drop st.t).take k);have d:((f.data.toList.drop st.t).take k).length<=k:=by simp;omega
  have:256^((f.data.toList.drop st.t).take k).length<=256^k:=ue Oo d;omega
 ·cases h
theorem a0x(w:ld)(b:Nat)(f:ByteArray)(pv:la)(st:St)(h:X (Rd w b f pv st)):
 le prog 223 #[U (O (A b 0 N))] w (F6 w b f pv (kind f st) a9X):=by
 obtain⟨-,-,-,c1,-,-,-,-,-⟩:=h.o.cells;have W:=h.o.lt;go_enter func223,ntmps223;go_wp2_with (go_at_call 146;refine(a0j _ b f pv st 1 (h.o.keep (A2 _ _ _)) Oo).mono ?_)
 intro e w1 D;rcases D.cases with⟨n,st1,v,d,rfl,rfl,T,C⟩|⟨er,d,rfl,C⟩
 ·have hq:=T4 d;have E:=A1 d;clear d D c1;obtain⟨rfl,hn⟩:=hq;by_cases h4:4<n
  ·go_wp2
   refine⟨rfl, .err (er:=(3,st.t)) ?_ rfl rfl (A0 (A2 _ _ _) C)⟩;rw[kind,E.o];simp[h4]
  ·go_wp2_with (first|(go_at_call 291;refine(b6w n _).mono ?_;rintro e w' ⟨rfl,rfl⟩)|(go_at_call 293;refine(a8q _ b f pv _ _ T).mono ?_))
   intro e w2 D;rcases D.cases with⟨s,st2,v,d,rfl,rfl,M,B⟩|⟨er,d,rfl,B⟩
   ·have F:=A1 d;clear d D;have K:A4 w2 w.heap.size _ _:=((A4.new w _ _).keep C Oi).keep B Oi;obtain⟨S,d1⟩:=K.q2;obtain⟨e0,e1⟩:=K.z2;clear K;go_wp2
    refine nd (v:= Q #[J I n, Z s]) (by simp[ls,results223,go_sem,S,d1]) rfl ?_;refine .ok (a:=⟨n,s⟩) (st:=st2) ?_ ?_ rfl ?_
    ·rw[kind,E.o];simp only[h4,if_false,F.o]
    ·exact a0l (A0 (A0 (A2 _ _ _) C) B) (li _)
    ·exact M.o.new2 Oo (h.o.poolLt (li _))
   ·go_wp2
    refine⟨rfl, .err (er:=er) ?_ rfl rfl (A0 (A0 (A2 _ _ _) C) B)⟩;rw[kind,E.o];simp only[h4,if_false,d]
 ·go_wp2
  refine⟨rfl, .err (er:=er) ?_ rfl rfl (A0 (A2 _ _ _) C)⟩;rw[kind,d]
theorem a6b(w:ld)(b:Nat)(f:ByteArray)(pv:la)(st:St)(h:X (Rd w b f pv st)):
 le prog 150 #[U (O (A b 0 N))] w (F6 w b f pv (a0c f st) b4u):=by
 have W:=h.o.lt;go_enter func150,ntmps150;go_wp2_with (go_at_call 148;refine(a5g _ b f pv st (h.o.keep (A2 _ _ _))).mono ?_)
 intro e w1 C;rcases C.cases with⟨n,st1,v,B,rfl,rfl,T,D⟩|⟨er,B,rfl,D⟩
 ·have M:=A1 B;clear B C;go_wp2_with (go_at_call 223;refine(a0x _ b f pv st1 T).mono ?_)
  intro e w2 C;rcases C.cases with⟨t,st2,v,B,rfl,rfl,K,d⟩|⟨er,B,rfl,d⟩
  ·have E:=A1 B;clear B C;have F:A4 w2 w.heap.size _ _:=((A4.new w _ _).keep D Oi).keep d Oi;obtain⟨S,d1,d2⟩:=F.q3;obtain⟨e0,e1,e2⟩:=F.z3;clear F;go_wp2
   refine nd (v:= Q #[Z n, J I t.k, Z t.n]) (by simp[ls,results150,go_sem,S,d1,d2]) rfl ?_;refine .ok (a:=⟨n,t⟩) (st:=st2) ?_ ?_ rfl ?_
   ·rw[a0c,M.o];simp only[E.o]
   ·exact a2o (A0 (A0 (A2 _ _ _) D) d) (li _)
   ·exact K.o.new3 Oo (h.o.poolLt (li _))
  ·go_wp2
   refine⟨rfl, .err (er:=er) ?_ rfl rfl (A0 (A0 (A2 _ _ _) D) d)⟩;rw[a0c,M.o];simp only[B]
 ·go_wp2
  refine⟨rfl, .err (er:=er) ?_ rfl rfl (A0 (A2 _ _ _) D)⟩;rw[a0c,B]
theorem b6x(w:ld)(b:Nat)(f:ByteArray)(pv:la)(st:St)(h:X (Rd w b f pv st)):
 le prog 228 #[U (O (A b 0 N))] w (F6 w b f pv (m8 f st) b4H):=by
 have ad:=h.o.lt;go_enter func228,ntmps228;go_wp2_with (go_at_call 146;refine(a0j _ b f pv st 2 (h.o.keep (A2 _ _ _)) Oo).mono ?_)
 intro e w1 C;rcases C.cases with⟨n1,st1,v,d,rfl,rfl,hR,K⟩|⟨er,d,rfl,K⟩
 ·have S:=A1 d;clear d C;go_wp2_with (go_at_call 146;refine(a0j w1 b f pv st1 2 hR Oo).mono ?_)
  intro e w2 C;rcases C.cases with⟨n2,st2,v,d,rfl,rfl,aa,B⟩|⟨er,d,rfl,B⟩
  ·have F:=A1 d;clear d C;go_wp2_with (go_at_call 146;refine(a0j w2 b f pv st2 2 aa Oo).mono ?_)
   intro e w3 C;rcases C.cases with⟨n3,st3,v,d,rfl,rfl,ab,D⟩|⟨er,d,rfl,D⟩
   ·have M:=A1 d;clear d C;go_wp2_with (go_at_call 148;refine(a5g w3 b f pv st3 ab).mono ?_)
    intro e w4 C;rcases C.cases with⟨n4,st4,v,d,rfl,rfl,ac,E⟩|⟨er,d,rfl,E⟩
    ·have T:=A1 d;clear d C;have W:A4 w4 w.heap.size _ _:=((((A4.new w _ _).keep K Oi).keep B Oi).keep D Oi).keep E Oi;obtain⟨d0,d1,d2,d3⟩:=W.q4;obtain⟨e0,e1,e2,e3⟩:=W.z4;clear W;go_wp2
     refine nd (v:= Q #[J I n1, J I n2, J I n3, Z n4]) (by simp[ls,results228,go_sem,d0,d1,d2,d3]) rfl ?_;refine .ok (a:=⟨n1,n2,n3,n4⟩) (st:=st4) ?_ ?_ rfl ?_
     ·rw[m8,S.o];simp only[F.o,M.o,T.o]
     ·exact a1i (A0 (A0 (A0 (A0 (A2 _ _ _) K) B) D) E) (li _)
     ·exact ac.o.new4 Oo (h.o.poolLt (li _))
    ·go_wp2
     refine⟨rfl, .err (er:=er) ?_ rfl rfl (A0 (A0 (A0 (A0 (A2 _ _ _) K) B) D) E)⟩;rw[m8,S.o];simp only[F.o,M.o,d]
   ·go_wp2
    refine⟨rfl, .err (er:=er) ?_ rfl rfl (A0 (A0 (A0 (A2 _ _ _) K) B) D)⟩;rw[m8,S.o];simp only[F.o,d]
  ·go_wp2
   refine⟨rfl, .err (er:=er) ?_ rfl rfl (A0 (A0 (A2 _ _ _) K) B)⟩;rw[m8,S.o];simp only[d]
 ·go_wp2
  refine⟨rfl, .err (er:=er) ?_ rfl rfl (A0 (A2 _ _ _) K)⟩;rw[m8,d]
def Shp(w:ld):Prop:=2<w.heap.size/\∀op,op<32->w.cell? (A 2 (op*3) N)=O (J I (P0 op))/\w.cell? (A 2 (op*3+1) N)=O (G (a0I op))/\w.cell? (A 2 (op*3+2) N)=O (G (a0V op))
theorem Shp.keep{row:Option Nat}(h:Shp w)(d:w.grownBy w1 row)(D:O 2≠row):Shp w1:=by
 have B:=d.block 2 h.1 D;refine⟨nl h.1 d.size,λop C=> ?_⟩;have:=h.2 op C;simp only[World.cell?,B]at this⊢;exact this
theorem b9x(op:Nat):P0 op<=4:=by unfold P0;split;omega;split;omega;split<;>omega
def a2x(f:ByteArray)(k:Nat)(st:St):R Int:=match C3 f k st with| .ok (n,st1)=> .ok (Y7 k n,st1)| .error er=> .error er
def c3c(_:ld)(v:la)(a:Int):Prop:=v= J I a
theorem b5U(n:Nat)(h:n<256^4):lp (wrap32 n)=Y7 4 n:=by
 unfold lp wrap32 Y7;split<;>omega
theorem b6h(w:ld)(b:Nat)(f:ByteArray)(pv:la)(st:St)(k:Nat)(h:X (Rd w b f pv st))(hk:k<=4):
 le prog 294 #[U (O (A b 0 N)), J I k] w
  (F6 w b f pv (a2x f k st) c3c):=by
 go_enter func294,ntmps294;go_wp2_with (go_at_call 146;refine(a0j _ b f pv st k h hk).mono ?_)
 intro e w1 E;rcases E.cases with⟨n,st1,v,d,rfl,rfl,D,B⟩|⟨er,d,rfl,B⟩
 ·have F:=(T4 d).2;have C:=A1 d;clear d E;by_cases h4:k=4
  ·subst h4;go_wp2
   go_ret;refine .ok (a:=Y7 4 n) ?_ B (congrArg _ (b5U n F)) D.o;rw[a2x,C.o]
  ·go_wp2
   go_ret;refine .ok (a:=(n:Int)) ?_ B rfl D.o;rw[a2x,C.o];simp[Y7,h4]
 ·go_wp2
  refine⟨rfl, .err (er:=er) ?_ rfl rfl B⟩;rw[a2x,d]
section
variable{f:ByteArray}{st st1 st2 st3 st4:St}{op:Nat}{va:Int}{vc vm:ByteArray}{er:Er}
theorem c3g(d:C3 f 1 st= .ok (op,st1))(B:¬32<=op)(h:a2x f (P0 op) st1= .error er):ins f st= .error er:=by
 rw[a2x]at h;rw[ins,d];simp only[B,if_false];split at h
 ·cases h
 ·rename_i h5;simp only[h5];cases h;rfl
theorem a9n(h:a2x f (P0 op) st1= .ok (va,st2)):∃n,C3 f (P0 op) st1= .ok (n,st2)/\va=Y7 (P0 op) n:=by
 rw[a2x]at h;split at h
 ·rename_i n s h5;cases h;exact⟨n,h5,rfl⟩
 ·cases h
theorem c3f(d:C3 f 1 st= .ok (op,st1))(C:¬32<=op)(B:a2x f (P0 op) st1= .ok (va,st2))(h:Y8 f (a0I op) st2= .error er):ins f st= .error er:=by
 obtain⟨n,D,rfl⟩:=a9n B;rw[ins,d];simp only[C,if_false,D,h]
theorem c3e(d:C3 f 1 st= .ok (op,st1))(D:¬32<=op)(B:a2x f (P0 op) st1= .ok (va,st2))(C:Y8 f (a0I op) st2= .ok (vc,st3))(h:Y8 f (a0V op) st3= .error er):ins f st= .error er:=by
 obtain⟨n,E,rfl⟩:=a9n B;rw[ins,d];simp only[D,if_false,E,C,h]
theorem c3d(d:C3 f 1 st= .ok (op,st1))(D:¬32<=op)(B:a2x f (P0 op) st1= .ok (va,st2))(C:Y8 f (a0I op) st2= .ok (vc,st3))(h:Y8 f (a0V op) st3= .ok (vm,st4)):
 ins f st= .ok (⟨op,va,vc,vm⟩,st4):=by
 obtain⟨n,E,rfl⟩:=a9n B;rw[ins,d];simp only[D,if_false,E,C,h]
end
theorem b5d(w:ld)(b:Nat)(f:ByteArray)(pv:la)(st:St)(h:X (Rd w b f pv st))(hS:X (Shp w))(ap:2<b):
 le prog 226 #[U (O (A b 0 N))] w (F6 w b f pv (ins f st) a9Y):=by
 obtain⟨-,-,-,c1,-,-,-,-,-⟩:=h.o.cells;have ar:=h.o.lt;go_enter func226,ntmps226;go_wp2_with (go_at_call 146;refine(a0j _ b f pv st 1 (h.o.keep (A2 _ _ _)) Oo).mono ?_)
 intro e w1 he;rcases he.cases with⟨op,st1,v,D,rfl,rfl,hR,hg⟩|⟨er,D,rfl,hg⟩
 ·have hq:=T4 D;have HH:=A1 D;clear D he c1;obtain⟨rfl,hn⟩:=hq;by_cases h4:32<=op
  ·go_wp2
   refine⟨rfl, .err (er:=(3,st.t)) ?_ rfl rfl (A0 (A2 _ _ _) hg)⟩;rw[ins,HH.o];simp[h4]
  ·have ai:=(hS.o.keep (A2 w _ N) Os).keep hg Oi;obtain⟨s0,s1,s2⟩:=ai.2 op Oo;go_wp2
   obtain⟨wa,E⟩:=Oe ((w1.alloc (Obj.cells #[Value.int IntKind.i64 (P0 op),Value.bool (a0I op),Value.bool (a0V op)] 382)).drew)
   have S:w1.grownBy wa N:=by rw[E];exact A0 (A2 _ _ _) (A7 _ _)
   have ab:=A1 (hR.o.keep S);have hB:A4 wa w.heap.size _ _:=((A4.new w _ _).keep hg Oi).keep S Os;have hA:A4 wa w1.heap.size #[Value.int IntKind.i64 (P0 op),Value.bool (a0I op),Value.bool (a0V op)] 382:=by rw[E];exact(A4.new w1 _ _).keep (A7 _ N) Os
   have an:w.heap.size<w1.heap.size:=by have:=hg.size;simp at this;omega
   have ao:w.heap.size≠w1.heap.size:=by omega
   have aq:=hR.o.lt;rw[E]at ab;have F:=L8 (A0 (A2 _ _ _) hg) S;rw[E]at F hB hA;clear S E s0 s1 s2 ai
   go_region_held2 (λw'=>w'.cell? (A w1.heap.size 0 N)=O (J I (P0 op))/\w'.cell? (A w1.heap.size 1 N)=O (G (a0I op))/\w'.cell? (A w1.heap.size 2 N)=O (G (a0V op))) (go_keep)
    (first
      |(go_at_call 294
        refine F6.bind (b6h _ b f pv _ _ ab (b9x op)) (λer w' D d=>⟨rfl, .err (er:=er) (c3g HH.o h4 D) rfl rfl (A0 F d)⟩) ?_;rintro va st2 v w2 T rfl ag d;have ad:A4 w2 w.heap.size _ _:=hB.keep d Oi;have W:A4 w2 w1.heap.size _ _:=hA.keep d Oi;obtain⟨d0,d1,d2⟩:=W.q3;have B:=A0 F d;clear hB hA ab F d)
      |(go_at_call_of 293 (a0I op)
        refine F6.bind (a8q w2 b f pv _ _ ag) (λer w' D d=>⟨rfl, .err (er:=er) (c3f HH.o h4 T.o D) rfl rfl (A0 B d)⟩) ?_;rintro vc st3 v w3 ac rfl ah K;have ae:A4 w3 w.heap.size _ _:=ad.keep K Oi;have aa:A4 w3 w1.heap.size _ _:=W.keep K Oi;clear d0 d1 d2;obtain⟨d0,d1,d2⟩:=aa.q3;have C:=A0 B K;clear ad W ag B K)
      |(go_at_call_of 293 (a0V op)
        refine F6.bind (a8q w3 b f pv _ _ ah) (λer w' D d=>⟨rfl, .err (er:=er) (c3e HH.o h4 T.o ac.o D) rfl rfl (A0 C d)⟩) ?_;rintro vm st4 v w4 ak rfl am M;have af:A4 w4 w.heap.size _ _:=ae.keep M Oi;have al:A4 w4 w1.heap.size _ _:=aa.keep M Oi;clear d0 d1 d2;obtain⟨d0,d1,d2⟩:=al.q3;obtain⟨g0,g1,g2,g3⟩:=af.q4;obtain⟨e0,e1,e2,e3⟩:=af.z4;have aj:=A0 C M;clear ae aa ah C M))
   go_wp2
   refine nd (v:= Q #[J I op, J I va, Z vc, Z vm]) (by simp[ls,results226,go_sem,g0,g1,g2,g3]) rfl ?_;exact .ok (a:=⟨op,va,vc,vm⟩) (st:=st4) (c3d HH.o h4 T.o ac.o ak.o) (a1i aj (li _)) rfl (am.o.new4 Oo (h.o.poolLt (li _)))
 ·go_wp2
  refine⟨rfl, .err (er:=er) ?_ rfl rfl (A0 (A2 _ _ _) hg)⟩;rw[ins,D]
def B8(t:Ty):List la:=[J I t.k, Z t.n]
def K3(t:V3):List la:=[Z t.n, J I t.ty.k, Z t.ty.n]
def M0(t:In):List la:=[J I t.o, J I t.a, Z t.c, Z t.m]
def O3(t:Hd):List la:=[J I t.f, J I t.to, J I t.t, Z t.c]
variable {α:Type}
def F2(base e size:Nat)(enc:α->List la)(w:ld)(v:la)(xs:List α):Prop:=w.ownsRow base e size v xs.length (xs.flatMap enc)
def Mid(p:St->R α)(n:Nat)(st0:St)(k:Nat)(xs:List α)(st:St):Prop:=
 k<=n/\xs.length=k/\E4 p n st0=match E4 p (n-k) st with| .ok (ys,st2)=> .ok (xs++ys,st2)| .error er=> .error er
theorem Mid.start(p:St->R α)(n:Nat)(st0:St):Mid p n st0 0 [] st0:=by
 refine⟨Nat.zero_le _,rfl,?_⟩;rw[Nat.sub_zero];cases h:E4 p n st0<;>simp
variable {base e k lim n size sz:Nat}{st st0:St}
theorem Mid.step{p:St->R α}{xs:List α}{st1:St}{a:α}(h:Mid p n st0 k xs st)(hk:k<n)(ha:p st= .ok (a,st1)):Mid p n st0 (k+1) (xs++ [a]) st1:=by
 obtain⟨C,d,B⟩:=h;refine⟨hk,by simp[d],?_⟩;rw[B,show n-k=(n-(k+1))+1 by omega,E4,ha];dsimp only;generalize E4 p (n-(k+1)) st1=r;cases r<;>simp
theorem Mid.fail{p:St->R α}{xs:List α}{er:Er}(h:Mid p n st0 k xs st)(hk:k<n)(ha:p st= .error er):E4 p n st0= .error er:=by
 obtain⟨B,C,d⟩:=h;rw[d,show n-k=(n-(k+1))+1 by omega,E4,ha]
theorem Mid.done{p:St->R α}{xs:List α}(h:Mid p n st0 n xs st):E4 p n st0= .ok (xs,st):=by
 obtain⟨B,C,d⟩:=h;rw[d,Nat.sub_self,E4];simp
variable {w:World}{v:Value}{cs:List Value}
theorem F9{b:Nat}(h:w.ownsRow base e size v n cs)(d:b<base):v.ownBlock≠O b:=by
 cases hv:v.ownBlock with
 |none=>simp
 |some g=>have:=(h.lt g hv).1;simp;omega
theorem K7(h:w.ownsRow base e size v n cs){g:Nat}(d:v.ownBlock=O g):base<=g/\g<w.heap.size:=h.lt g d
theorem O8(w:ld)(cs:List la)(t:TypeId):∀j u,cs[j]? =O u->(w.alloc (H cs.toArray t)).cell? (((A w.heap.size 0 N):lg).add j)=O u:=by
 intro j u B;have d:((A w.heap.size 0 N):lg).add j=(A w.heap.size j N):=by unfold Addr.add;split<;>simp_all
 rw[d,(A4.new w cs.toArray t).cell j u (by simpa using B)]
theorem a0S(h:n=k)(hk:k<65536):n+1<=lh:=by unfold lh;omega
theorem a3P(enc:α->List la)(xs:List α)(x:α):xs.flatMap enc++enc x=(xs++ [x]).flatMap enc:=by simp[np]
theorem a2n:(prog.info? 98).map (λi=>(i.zero,i.size,i.bytes))=O (O (Q #[J I 0, Z lj]),2,24):=by kernel_rfl
theorem a8T:(prog.info? 129).map (λi=>(i.zero,i.size,i.bytes))=O (O (Q #[Z lj, J I 0, Z lj]),3,40):=by kernel_rfl
theorem b3M:(prog.info? 120).map (λi=>(i.zero,i.size,i.bytes))=O (O (Q #[J I 0, J I 0, Z lj, Z lj]),4,48):=by kernel_rfl
theorem b3N:(prog.info? 202).map (λi=>(i.zero,i.size,i.bytes))=O (O (Q #[J I 0, J I 0, J I 0, Z lj]),4,40):=by kernel_rfl
theorem b3L:(prog.info? 102).map (λi=>(i.zero,i.size,i.bytes))=O (O (Q #[Z lj, V N 0 0, J I 0, Z lj, J I 0, J I 0, V N 0 0, V N 0 0]),8,128):=by kernel_rfl
theorem a7m:(prog.info? 9).map (λi=>(i.zero,i.size,i.bytes))=O (O (Z lj),1,16):=by kernel_rfl
theorem b5K(w:ld)(b:Nat)(f:ByteArray)(pv:la)(st:St)(d:Nat)(h:X (Rd w b f pv st))(hd:d<=2)
 (S:X (∀w1 st1,w.grownBy w1 (O b)->X (Rd w1 b f pv st1)->le prog 150 #[U (O (A b 0 N))] w1 (F6 w1 b f pv (a0c f st1) b4u))):
 le prog 149 #[U (O (A b 0 N)), J I d, .func (.func 150) #[U (O (A b 0 N))] #[]] w (F6 w b f pv (D8 f d (a0c f) st) (F2 w.heap.size 129 3 K3)):=by
 go_enter func149,ntmps149;go_wp2_with (go_at_call 146;refine F6.bind (a0j _ b f pv st d h Oo) (λer w' W hg=>⟨rfl, .err (er:=er) (by rw[D8,W]) rfl rfl hg⟩) ?_;rintro n st1 v w1 HH rfl hR hg)
 have hn:n<65536:=by
  exact a4p
 go_loopw [7,11] (λl i wr=>∃(k:Nat) (xs:List V3) (st2:St),i= J I k/\Mid (a0c f) n st1 k xs st2/\F2 w.heap.size 129 3 K3 wr l xs/\Rd wr b f pv st2/\w.grownBy wr (O b)) (λ_ i _=>n-(lk i).toNat)
 case atStart=>exact c5t
 case round=>
  obtain⟨k,xs,st2,rfl,D,E,F,hg2⟩:=hrel;have HM:=A1 D;have HR2:=A1 F;have HROW:X (F2 w.heap.size 129 3 K3 wr _ xs):=E;clear D F E;by_cases hk:k<n
  ·obtain⟨i,hi,aa,ab,ac⟩:=nf a8T;have M:=F9 HROW.o h.o.lt;have K:xs.length<65536:=by have:=HM.o.2.1;omega
   go_wp2_with (first
    |(go_at_call 150;refine F6.bind (S.o wr st2 hg2 HR2) (λer w' W C=>⟨rfl, .err (er:=er) (by rw[D8,HH.o];exact HM.o.fail hk W) rfl rfl (A0 hg2 C)⟩) ?_;rintro x st3 v w3 H3 rfl T C;dsimp only)
    |(at_builtin;go_loud (refine ng _ rfl _ _ 41 rfl w.heap.size 129 i _ 3 40 underlying41 hi aa ab ac rfl Od _ xs.length (xs.flatMap K3) rfl ((ll.kept HROW.o C (.inr M)).alloc _) (A w3.heap.size 0 N) 1 1 (K3 x) rfl rfl (O8 w3 (K3 x) _) (by simp[K3,Value.oneCell']) (a0S rfl K) Oo (by have:=hg2.size;have:=C.size;simp;omega) ?_)))
   intro v' w4 hown B _;have hR4:=T.o.grow (A2 _ _ _) B (by simpa using M) (λg hg=>by have:=(K7 HROW.o hg).1;have:=h.o.poolLt this;exact this);have hg4:=C6 (A0 (A0 hg2 C) (A2 _ _ _)) B (λg hg=> .inl (K7 HROW.o hg).1);have HM4:=A1 (HM.o.step hk H3.o)
   have HO4:X (F2 w.heap.size 129 3 K3 w4 v' (xs++ [x])):=by
    unfold F2;exact c5j
   clear hown B;go_wp2
   go_roundw
   case rel=>exact c5l
   case measure=>simp[lk];omega
  ·exact a2e
theorem b6o(w:ld)(b:Nat)(f:ByteArray)(pv:la)(st:St)(d:Nat)(h:X (Rd w b f pv st))(hd:d<=2)
 (S:X (∀w1 st1,w.grownBy w1 (O b)->X (Rd w1 b f pv st1)->le prog 223 #[U (O (A b 0 N))] w1 (F6 w1 b f pv (kind f st1) a9X))):
 le prog 224 #[U (O (A b 0 N)), J I d, .func (.func 223) #[U (O (A b 0 N))] #[]] w (F6 w b f pv (D8 f d (kind f) st) (F2 w.heap.size 98 2 B8)):=by
 go_enter func224,ntmps224;go_wp2_with (go_at_call 146;refine F6.bind (a0j _ b f pv st d h Oo) (λer w' W hg=>⟨rfl, .err (er:=er) (by rw[D8,W]) rfl rfl hg⟩) ?_;rintro n st1 v w1 HH rfl hR hg)
 have hn:n<65536:=by
  exact a4p
 go_loopw [7,11] (λl i wr=>∃(k:Nat) (xs:List Ty) (st2:St),i= J I k/\Mid (kind f) n st1 k xs st2/\F2 w.heap.size 98 2 B8 wr l xs/\Rd wr b f pv st2/\w.grownBy wr (O b)) (λ_ i _=>n-(lk i).toNat)
 case atStart=>exact c5t
 case round=>
  obtain⟨k,xs,st2,rfl,D,E,F,hg2⟩:=hrel;have HM:=A1 D;have HR2:=A1 F;have HROW:X (F2 w.heap.size 98 2 B8 wr _ xs):=E;clear D F E;by_cases hk:k<n
  ·obtain⟨i,hi,aa,ab,ac⟩:=nf a2n;have M:=F9 HROW.o h.o.lt;have K:xs.length<65536:=by have:=HM.o.2.1;omega
   go_wp2_with (first
    |(go_at_call 223;refine F6.bind (S.o wr st2 hg2 HR2) (λer w' W C=>⟨rfl, .err (er:=er) (by rw[D8,HH.o];exact HM.o.fail hk W) rfl rfl (A0 hg2 C)⟩) ?_;rintro x st3 v w3 H3 rfl T C;dsimp only)
    |(at_builtin;go_loud (refine ng _ rfl _ _ 96 rfl w.heap.size 98 i _ 2 24 underlying96 hi aa ab ac rfl Od _ xs.length (xs.flatMap B8) rfl ((ll.kept HROW.o C (.inr M)).alloc _) (A w3.heap.size 0 N) 1 1 (B8 x) rfl rfl (O8 w3 (B8 x) _) (by simp[B8,Value.oneCell']) (a0S rfl K) Oo (by have:=hg2.size;have:=C.size;simp;omega) ?_)))
   intro v' w4 hown B _;have hR4:=T.o.grow (A2 _ _ _) B (by simpa using M) (λg hg=>by have:=(K7 HROW.o hg).1;have:=h.o.poolLt this;exact this);have hg4:=C6 (A0 (A0 hg2 C) (A2 _ _ _)) B (λg hg=> .inl (K7 HROW.o hg).1);have HM4:=A1 (HM.o.step hk H3.o)
   have HO4:X (F2 w.heap.size 98 2 B8 w4 v' (xs++ [x])):=by
    unfold F2;exact c5j
   clear hown B;go_wp2
   go_roundw
   case rel=>exact c5l
   case measure=>simp[lk];omega
  ·exact a2e
theorem b6q(w:ld)(b:Nat)(f:ByteArray)(pv:la)(st:St)(d:Nat)(h:X (Rd w b f pv st))(hd:d<=2)
 (S:X (∀w1 st1,w.grownBy w1 (O b)->X (Rd w1 b f pv st1)->le prog 226 #[U (O (A b 0 N))] w1 (F6 w1 b f pv (ins f st1) a9Y))):
 le prog 225 #[U (O (A b 0 N)), J I d, .func (.func 226) #[U (O (A b 0 N))] #[]] w (F6 w b f pv (D8 f d (ins f) st) (F2 w.heap.size 120 4 M0)):=by
 go_enter func225,ntmps225;go_wp2_with (go_at_call 146;refine F6.bind (a0j _ b f pv st d h Oo) (λer w' W hg=>⟨rfl, .err (er:=er) (by rw[D8,W]) rfl rfl hg⟩) ?_;rintro n st1 v w1 HH rfl hR hg)
 have hn:n<65536:=by
  exact a4p
 go_loopw [7,11] (λl i wr=>∃(k:Nat) (xs:List In) (st2:St),i= J I k/\Mid (ins f) n st1 k xs st2/\F2 w.heap.size 120 4 M0 wr l xs/\Rd wr b f pv st2/\w.grownBy wr (O b)) (λ_ i _=>n-(lk i).toNat)
 case atStart=>exact c5t
 case round=>
  obtain⟨k,xs,st2,rfl,D,E,F,hg2⟩:=hrel;have HM:=A1 D;have HR2:=A1 F;have HROW:X (F2 w.heap.size 120 4 M0 wr _ xs):=E;clear D F E;by_cases hk:k<n
  ·obtain⟨i,hi,aa,ab,ac⟩:=nf b3M;have M:=F9 HROW.o h.o.lt;have K:xs.length<65536:=by have:=HM.o.2.1;omega
   go_wp2_with (first
    |(go_at_call 226;refine F6.bind (S.o wr st2 hg2 HR2) (λer w' W C=>⟨rfl, .err (er:=er) (by rw[D8,HH.o];exact HM.o.fail hk W) rfl rfl (A0 hg2 C)⟩) ?_;rintro x st3 v w3 H3 rfl T C;dsimp only)
    |(at_builtin;go_loud (refine ng _ rfl _ _ 99 rfl w.heap.size 120 i _ 4 48 underlying99 hi aa ab ac rfl Od _ xs.length (xs.flatMap M0) rfl ((ll.kept HROW.o C (.inr M)).alloc _) (A w3.heap.size 0 N) 1 1 (M0 x) rfl rfl (O8 w3 (M0 x) _) (by simp[M0,Value.oneCell']) (a0S rfl K) Oo (by have:=hg2.size;have:=C.size;simp;omega) ?_)))
   intro v' w4 hown B _;have hR4:=T.o.grow (A2 _ _ _) B (by simpa using M) (λg hg=>by have:=(K7 HROW.o hg).1;have:=h.o.poolLt this;exact this);have hg4:=C6 (A0 (A0 hg2 C) (A2 _ _ _)) B (λg hg=> .inl (K7 HROW.o hg).1);have HM4:=A1 (HM.o.step hk H3.o)
   have HO4:X (F2 w.heap.size 120 4 M0 w4 v' (xs++ [x])):=by
    unfold F2;exact c5j
   clear hown B;go_wp2
   go_roundw
   case rel=>exact c5l
   case measure=>simp[lk];omega
  ·exact a2e
theorem b6r(w:ld)(b:Nat)(f:ByteArray)(pv:la)(st:St)(d:Nat)(h:X (Rd w b f pv st))(hd:d<=2)
 (S:X (∀w1 st1,w.grownBy w1 (O b)->X (Rd w1 b f pv st1)->le prog 228 #[U (O (A b 0 N))] w1 (F6 w1 b f pv (m8 f st1) b4H))):
 le prog 227 #[U (O (A b 0 N)), J I d, .func (.func 228) #[U (O (A b 0 N))] #[]] w (F6 w b f pv (D8 f d (m8 f) st) (F2 w.heap.size 202 4 O3)):=by
 go_enter func227,ntmps227;go_wp2_with (go_at_call 146;refine F6.bind (a0j _ b f pv st d h Oo) (λer w' W hg=>⟨rfl, .err (er:=er) (by rw[D8,W]) rfl rfl hg⟩) ?_;rintro n st1 v w1 HH rfl hR hg)
 have hn:n<65536:=by
  exact a4p
 go_loopw [7,11] (λl i wr=>∃(k:Nat) (xs:List Hd) (st2:St),i= J I k/\Mid (m8 f) n st1 k xs st2/\F2 w.heap.size 202 4 O3 wr l xs/\Rd wr b f pv st2/\w.grownBy wr (O b)) (λ_ i _=>n-(lk i).toNat)
 case atStart=>exact c5t
 case round=>
  obtain⟨k,xs,st2,rfl,D,E,F,hg2⟩:=hrel;have HM:=A1 D;have HR2:=A1 F;have HROW:X (F2 w.heap.size 202 4 O3 wr _ xs):=E;clear D F E;by_cases hk:k<n
  ·obtain⟨i,hi,aa,ab,ac⟩:=nf b3N;have M:=F9 HROW.o h.o.lt;have K:xs.length<65536:=by have:=HM.o.2.1;omega
   go_wp2_with (first
    |(go_at_call 228;refine F6.bind (S.o wr st2 hg2 HR2) (λer w' W C=>⟨rfl, .err (er:=er) (by rw[D8,HH.o];exact HM.o.fail hk W) rfl rfl (A0 hg2 C)⟩) ?_;rintro x st3 v w3 H3 rfl T C;dsimp only)
    |(at_builtin;go_loud (refine ng _ rfl _ _ 100 rfl w.heap.size 202 i _ 4 40 underlying100 hi aa ab ac rfl Od _ xs.length (xs.flatMap O3) rfl ((ll.kept HROW.o C (.inr M)).alloc _) (A w3.heap.size 0 N) 1 1 (O3 x) rfl rfl (O8 w3 (O3 x) _) (by simp[O3,Value.oneCell']) (a0S rfl K) Oo (by have:=hg2.size;have:=C.size;simp;omega) ?_)))
   intro v' w4 hown B _;have hR4:=T.o.grow (A2 _ _ _) B (by simpa using M) (λg hg=>by have:=(K7 HROW.o hg).1;have:=h.o.poolLt this;exact this);have hg4:=C6 (A0 (A0 hg2 C) (A2 _ _ _)) B (λg hg=> .inl (K7 HROW.o hg).1);have HM4:=A1 (HM.o.step hk H3.o)
   have HO4:X (F2 w.heap.size 202 4 O3 w4 v' (xs++ [x])):=by
    unfold F2;exact c5j
   clear hown B;go_wp2
   go_roundw
   case rel=>exact c5l
   case measure=>simp[lk];omega
  ·exact a2e
theorem U6{d:Nat}(h:w.ownsRow base e size v n cs)(F:d<=base):w.ownsRow d e size v n cs:=
 ⟨h.1,h.2.imp id (fun⟨g,cap,B,C,D,E⟩=>⟨g,cap,B,C,nr F D,E⟩)⟩
theorem F7(h:w.ownsRow base e size v n cs):∃a c,v= V a n c:=by
 rcases h.2 with⟨rfl,rfl⟩|⟨g,cap,d,rfl,_⟩
 ·exact⟨_,_,rfl⟩
 ·exact⟨_,_,rfl⟩
theorem a2m{w:ld}{g:Nat}{i0 d B C D E F K:Nat}{M P S T W x5 x6 x7:la}:
 w.grownBy ((((((((w.setCell (A g i0 N) M).setCell (A g d N) P).setCell (A g B N) S).setCell (A g C N) T).setCell (A g D N) W).setCell (A g E N) x5).setCell (A g F N) x6).setCell (A g K N) x7) (O g):=
 A0 (A0 (A0 (A0 (A0 (A0 (A0 (A6 _ (A g i0 N) _) (A6 _ (A g d N) _)) (A6 _ (A g B N) _)) (A6 _ (A g C N) _)) (A6 _ (A g D N) _)) (A6 _ (A g E N) _)) (A6 _ (A g F N) _)) (A6 _ (A g K N) _)
def a1B(P:Nat->Prop)(base:Nat)(w:ld)(c:List la)(m:Me):Prop:=
 ∃pv cv hv,c=[Z m.n,pv, J I m.r.k, Z m.r.n, J I m.s, J I m.l,cv,hv]/\
  F2 base 98 2 B8 w pv m.p/\F2 base 120 4 M0 w cv m.c/\F2 base 202 4 O3 w hv m.h/\
  (∀g,pv.ownBlock=O g\/cv.ownBlock=O g\/hv.ownBlock=O g->P g)
def b4G(base:Nat)(w:ld)(v:la)(m:Me):Prop:=∃c,v= Q (lf c)/\a1B (λ_=>True) base w c m
theorem b7s(w:ld)(b:Nat)(f:ByteArray)(pv:la)(st:St)(h:X (Rd w b f pv st))(hS:X (Shp w))(bc:2<b):
 le prog 152 #[U (O (A b 0 N))] w (F6 w b f pv (meth f st) (b4G w.heap.size)):=by
 have bh:=h.o.lt;have bi:∀(fn:Fn) (first cap:Array la) (w:ld),(Instr.makeFunc fn first cap).run prog w= .ok (.func fn first cap) w:=λ_ _ _ _=>rfl
 go_enter func152,ntmps152
 go_wp2_with (first
  |(go_at_call 148
    refine F6.bind (a5g _ b f pv st (h.o.keep (A2 _ _ _))) (λer w' S M=>⟨rfl, .err (er:=er) (by simp only[meth,S]) rfl rfl (A0 (A2 _ _ _) M)⟩) ?_;rintro n st1 v w1 H1 rfl K W;have ay:=A0 (A2 w _ (O b)) W;have aa:=(A4.new w _ _).keep W Oi;have s1:w.heap.size<w1.heap.size:=by have:=aa.lt;omega
    clear W;dsimp only)
  |(go_at_call 224
    refine F6.bind (b6o w1 b f pv st1 1 K Oo (λwx sx aj hx=>a0x wx b f pv sx hx)) (λer w' S M=>⟨rfl, .err (er:=er) (by simp only[meth,H1.o,S]) rfl rfl (A0 ay M)⟩) ?_;rintro T st2 v2 w2 H2 ak a4 F;have az:=A0 ay F;have an:=aa.keep F Oi;have s2:=F.size;obtain⟨a2,k2,rfl⟩:=F7 ak;have ad:=A1 ak;clear ak F aa;dsimp only)
  |(go_at_call 223
    refine F6.bind (a0x w2 b f pv st2 a4) (λer w' S M=>⟨rfl, .err (er:=er) (by simp only[meth,H1.o,H2.o,S]) rfl rfl (A0 az M)⟩) ?_;rintro rt st3 v w3 H3 rfl a5 B;have a0:=A0 az B;have ao:=an.keep B Oi;have s3:=B.size;have ae:X (F2 w1.heap.size 98 2 B8 w3 (V a2 T.length k2) T):=ll.kept ad.o B (.inr (F9 ad.o K.o.lt));clear B an ad;dsimp only)
  |(go_at_call 146
    refine F6.bind (a0j w4 b f pv st4 1 a' Oo) (λer w' S M=>⟨rfl, .err (er:=er) (by simp only[meth,H1.o,H2.o,H3.o,H4.o,S]) rfl rfl (A0 a1 M)⟩) ?_;rintro lo be v w5 H5 rfl ax D;have ai:=A0 a1 D;have aq:=ap.keep D Oi;have s5:=D.size;have ag:X (F2 w1.heap.size 98 2 B8 w5 (V a2 T.length k2) T):=ll.kept af.o D (.inr (F9 af.o K.o.lt));clear D ap af;dsimp only)
  |(go_at_call 146
    refine F6.bind (a0j w3 b f pv st3 1 a5 Oo) (λer w' S M=>⟨rfl, .err (er:=er) (by simp only[meth,H1.o,H2.o,H3.o,S]) rfl rfl (A0 a0 M)⟩) ?_;rintro so st4 v w4 H4 rfl a' C;have a1:=A0 a0 C;have ap:=ao.keep C Oi;have s4:=C.size;have af:X (F2 w1.heap.size 98 2 B8 w4 (V a2 T.length k2) T):=ll.kept ae.o C (.inr (F9 ae.o K.o.lt));clear C ao ae;dsimp only)
  |(go_at_call 225
    refine F6.bind (b6q w5 b f pv be 2 ax Oo (λwx sx aj hx=>b5d wx b f pv sx hx (hS.o.keep (A0 ai aj) Oi) bc)) (λer w' S M=>⟨rfl, .err (er:=er) (by simp only[meth,H1.o,H2.o,H3.o,H4.o,H5.o,S]) rfl rfl (A0 ai M)⟩) ?_;rintro is bf v6 w6 H6 al ba E;have a3:=A0 ai E;have ar:=aq.keep E Oi;have s6:=E.size;obtain⟨a6,k6,rfl⟩:=F7 al;have ah:X (F2 w1.heap.size 98 2 B8 w6 (V a2 T.length k2) T):=ll.kept ag.o E (.inr (F9 ag.o K.o.lt));have ac:=A1 al;clear al E aq ag;dsimp only)
  |(go_at_call 227
    refine F6.bind (b6r w6 b f pv bf 1 ba Oo (λwx sx aj hx=>b6x wx b f pv sx hx)) (λer w' S M=>⟨rfl, .err (er:=er) (by simp only[meth,H1.o,H2.o,H3.o,H4.o,H5.o,H6.o,S]) rfl rfl (A0 a3 M)⟩) ?_;rintro hs bg v7 w7 H7 am bb d;have bd:=A0 a3 d;have ab:=ar.keep d Oi;have s7:=d.size;obtain⟨a7,k7,rfl⟩:=F7 am;have aw:X (F2 w1.heap.size 98 2 B8 w7 (V a2 T.length k2) T):=ll.kept ah.o d (.inr (F9 ah.o K.o.lt));have av:X (F2 w5.heap.size 120 4 M0 w7 (V a6 is.length k6) is):=ll.kept ac.o d (.inr (F9 ac.o ax.o.lt));have au:=A1 am;obtain⟨c0,c1,c2,c3,c4,c5,c6,c7⟩:=ab.q8;obtain⟨z0,z1,z2,z3,z4,z5,z6,z7⟩:=ab.z8;clear am d ar ah ac ab;dsimp only))
 refine nd (v:= Q #[Z n, V a2 T.length k2, J I rt.k, Z rt.n, J I so, J I lo, V a6 is.length k6, V a7 hs.length k7]) (by simp[ls,results152,go_sem,c0,c1,c2,c3,c4,c5,c6,c7]) rfl ?_;refine .ok (a:=⟨n,T,rt,so,lo,is,hs⟩) (st:=bg) ?_ ?_ ?_ ?_
 ·simp only[meth,H1.o,H2.o,H3.o,H4.o,H5.o,H6.o,H7.o]
 ·exact C6 bd (a2m (g:=w.heap.size)) (λk e=> .inl (by cases e;exact li _))
 ·refine⟨_,rfl,_,_,_,rfl,?_,?_,?_,λ_ _=>trivial⟩
  ·exact U6 (ll.kept aw.o (a2m (g:=w.heap.size)) (.inr (F9 aw.o Oo))) Oo
  ·exact U6 (ll.kept av.o (a2m (g:=w.heap.size)) (.inr (F9 av.o Oo))) Oo
  ·exact U6 (ll.kept au.o (a2m (g:=w.heap.size)) (.inr (F9 au.o Oo))) Oo
 ·exact bb.o.keepAt (a2m (g:=w.heap.size)) Oo (h.o.poolLt (li _))
def C0(w:ld)(lim sz:Nat)(enc:α->List la)(a:Option lg)(xs:List α):Prop:=
 ∀j (hj:j<xs.length),∃p:lg,a=O p/\p.block<lim/\∀r u,(enc xs[j])[r]? =O u->w.cell? (p.add (j*sz+r))=O u
theorem a4y(p:lg)(k:Nat):(p.add k).block=p.block:=by
 unfold Addr.add;split<;>rfl
variable {a:Option Addr}
theorem C0.keep{w':ld}{enc:α->List la}{xs:List α}(h:C0 w lim sz enc a xs)(D:w.grownBy w' N):C0 w' lim sz enc a xs:=by
 intro j E;obtain⟨p,d,B,C⟩:=h j E;exact⟨p,d,B,λr u F=>D.cell (C r u F) Os⟩
theorem a1U(enc:α->List la)(sz:Nat)(d:∀x,(enc x).length=sz)(xs:List α)(j:Nat)(B:j<xs.length)(r:Nat)(C:r<sz):(xs.flatMap enc)[j*sz+r]? =(enc xs[j])[r]? :=by
 induction xs generalizing j with
 |nil=>cases B
 |cons x l ih=>
  rw[List.flatMap_cons];cases j with
  |zero=>
   rw[Nat.zero_mul,Nat.zero_add,uh (by rw[d];exact C)];rfl
  |succ j=>
   rw[ui (by rw[d,vk];omega),d,show(j+1)*sz+r-sz=j*sz+r by rw[vk];omega];exact ih j (by simpa using B)
theorem V7{enc:α->List la}{xs:List α}(B:∀x,(enc x).length=sz)(h:w.ownsRow base e sz (V a n k) xs.length (xs.flatMap enc)):C0 w w.heap.size sz enc a xs:=by
 intro j E;obtain⟨g,cap,d,-,D⟩:=h.form Oo;injection d with d _ _
 subst d;refine⟨(A g 0 N),rfl,D,λr u C=> ?_⟩
 have F:r<sz:=by
  have:=(List.getElem?_eq_some_iff.1 C).1;rw[B]at this;exact this
 exact h.cells (g:=g) rfl _ u (by rw[a1U enc sz B xs j E r F];exact C)
theorem C0.upto{d:Nat}{enc:α->List la}{xs:List α}(h:C0 w lim sz enc a xs)(F:lim<=d):C0 w d sz enc a xs:=λj E=>by
 obtain⟨p,B,C,D⟩:=h j E;exact⟨p,B,nl C F,D⟩
theorem a5p:(prog.info? 44).map (λi=>(i.zero,i.size,i.bytes))=O (O (Q #[Z lj, Z lj, V N 0 0, V N 0 0]),4,80):=by kernel_rfl
namespace Kx
def M6(L:List Cl)(q:Nat->Qs)(i:Nat):List la:=G9 (cl L i) (q i)
theorem a6f(L:List Cl)(q:Nat->Qs)(i:Nat):(M6 L q i).length=4:=rfl
variable {L:List Cl}{k:Nat}{n:ByteArray}
theorem b7L{i:Nat}(h:C8 L n=O i):F1 L (k+1) n=i::F1 L k (cl L i).s:=by
 rw[F1,h]
theorem b9n(h:C8 L n=N):F1 L k n=[]:=by
 cases k with
 |zero=>rfl
 |succ k=>rw[F1,h]
theorem a8w{a:Option lg}{n m:Nat}(h:n=m):Ending.returned (V a n k)= Y (V a m k):=by rw[h]
theorem a6S(w:ld)(lim wb:Nat)(L:List Cl)(p:lg)(cap:Nat)(q:Nat->Qs)(h:X (Wo w lim wb L p cap q))(s:ByteArray):
 le prog 130 #[U (O (A wb 0 N)), Z s] w λe w'=>∃a k,e= Y (V a (up L s).length k)/\C0 w' w'.heap.size 4 (M6 L q) a (up L s)/\w.grownBy w' N:=by
 obtain⟨n,hn⟩:=Oe L.length
 have af:=h.o.small;have c0:=h.o.c0;rw[<-hn]at c0 af;have W:=A1 hn;clear hn;go_enter func130,ntmps130;go_wp2_with (go_at_call 121;refine(a2i _ lim wb L p cap q h s).mono ?_;rintro e w' ⟨rfl,rfl⟩)
 go_loopw [5,6] (λo f wr=>∃(A9:List Nat) (nm:ByteArray),A9.length<=n/\f= J I (a0o L nm)/\X (up L s=A9++F1 L (n-A9.length) nm)/\X (wr.ownsRow w.heap.size 44 4 o A9.length (A9.flatMap (M6 L q)))/\X (w.grownBy wr N)) (λo _ _=>n-(match o with| V _ k _=>k|_=>0))
 case atStart=>exact⟨[],s,by simp,rfl,by unfold X up;rw[W.o];simp,World.ownsRow_nil _ _ _ _,C9 _ _⟩
 case round=>
  obtain⟨A9,nm,an,rfl,F,d,S⟩:=hrel;obtain⟨a,k,rfl⟩:=F7 d.o;have al:=S.o.cell c0 Os;cases hf:C8 L nm with
  |none=>
   rw[b8Y hf];have T:X (up L s=A9):=by unfold X;rw[F.o,b9n hf,vb]
   clear hf;go_wp2
   go_ret;exact⟨a,k,a8w (by rw[T.o]),by rw[T.o];exact V7 (a6f L q) d.o,S.o⟩
  |some i=>
   rw[b2m hf];by_cases hlt:A9.length<n
   ·have hi:i<n:=by rw[W.o];exact(M8 hf).1
    have hc:F1 L (n-A9.length) nm=i::F1 L (n-(A9.length+1)) (cl L i).s:=by
     rw[show n-A9.length=(n-(A9.length+1))+1 from by omega];exact b7L hf
    have ab:X (up L s=(A9++ [i])++F1 L (n-(A9++ [i]).length) (cl L i).s):=by unfold X;rw[F.o,hc];simp
    have B:=(h.o.keep S.o).row i (by rw[<-W.o];exact hi);obtain⟨ci,M⟩:=Oe (cl L i)
    rw[<-M]at B;have g0:wr.cell? (p.add (i*4))=O (Z ci.n):=B 0 _ rfl;have g1:wr.cell? (A ((p.add (i*4)).block) ((p.add (i*4)).off+1) N)=O (Z ci.s):=by rw[C2 p (i*4) 0];exact B 1 _ rfl
    have g2:wr.cell? (A ((p.add (i*4)).block) ((p.add (i*4)).off+2) N)=O (V (q i).fa ci.f.length (q i).fk):=by rw[C2 p (i*4) 1];exact B 2 _ rfl
    have g3:wr.cell? (A ((p.add (i*4)).block) ((p.add (i*4)).off+3) N)=O (V (q i).ma ci.m.length (q i).mc):=by rw[C2 p (i*4) 2];exact B 3 _ rfl
    have K:=A1 M;clear M B hc hf F;obtain⟨aj,ad,ag,ah,ai⟩:=nf a5p;have ae:A9.length<65536:=by omega
    go_wp2_with (first
     |(at_builtin;go_loud (refine ng _ rfl _ _ 90 rfl w.heap.size 44 aj _ 4 80 underlying90 ad ag ah ai rfl Od _ A9.length (A9.flatMap (M6 L q)) rfl (ll.alloc d.o _) (A wr.heap.size 0 N) 1 1 (G9 ci (q i)) rfl rfl (O8 wr _ _) (by simp[G9,Value.oneCell']) (a0S rfl ae) Oo (by have:=S.o.size;simp;omega) ?_
                           intro v' w4 D C _;obtain⟨a',k',rfl⟩:=F7 D;have E:=A1 (C6 (A0 S.o (A2 _ (H (G9 ci (q i)).toArray 44) _)) C (λg e=> .inl (K7 d.o e).1));have aa:=A1 D;have ak:=E.o.cell c0 Os;have am:w4.cell? (A ((p.add (i*4)).block) ((p.add (i*4)).off+1) N)=O (Z ci.s):=by rw[C2 p (i*4) 0];exact(h.o.keep E.o).row i (by rw[<-W.o];exact hi) 1 _ (by rw[K.o];rfl)
                           have ac:=A1 (h.o.keep E.o);clear D C))
     |(go_at_call 121;refine(a2i _ lim wb L p cap q ac _).mono ?_;rintro e w' ⟨rfl,rfl⟩))
    go_roundw
    case rel=>exact⟨A9++ [i],(cl L i).s,by simp;omega,by rw[K.o],ab,by unfold X;rw[uv,uw,np];simp[M6,<-K.o];exact aa.o,E⟩
    case measure=>simp;omega
   ·have T:X (up L s=A9):=by unfold X;rw[F.o,show n-A9.length=0 from by omega];simp[F1]
    clear hf;go_wp2
    go_ret;exact⟨a,k,a8w (by rw[T.o]),by rw[T.o];exact V7 (a6f L q) d.o,S.o⟩
end Kx
end
end Go.Proofs.YtdhophglnhcjbaaGreatDoor
